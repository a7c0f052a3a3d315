/- Lines of a text as plain lists. Lists of the call's own, one cell an element; the document's Lines (17). -/
import Derived.Test.YtbjinmlelchmgaaGreatDoorTxtBase
import Derived.Lib.SplitLaws
import Derived.Test.YtbjinmlelchmgaaGreatDoorCol0ZBnd
import Derived.Test.YtbjinmlelchmgaaGreatDoorRf1RfE
namespace Go.Proofs.YtbjinmlelchmgaaGreatDoor
namespace T
open Go.Lib
/-- What newlines part. -/
def cutL : List UInt8 → List (List UInt8)
  | [] => [[]]
  | c :: t => if c = 10 then [] :: cutL t else match cutL t with
    | h :: r => (c :: h) :: r
    | [] => [[c]]
theorem cutL_ne (l : List UInt8) : cutL l ≠ [] := by
  cases l with
  | nil => simp [cutL]
  | cons c t =>
    simp only [cutL]
    split
    · simp
    · split <;> simp
theorem splitK_cut (l : List UInt8) : splitK [10] 0 (count l [10]) l = cutL l := by
  induction l with
  | nil => rw [count_miss (by simp [index])]; rfl
  | cons c t ih =>
    by_cases hc : c = 10
    · subst hc
      have hix : index (10 :: t) [10] = ((0 : Nat) : Int) := by rw [index]; simp [List.isPrefixOf]
      rw [count_cons_eq, Nat.add_comm 1, splitK, hix]
      simp only [cutL, if_true]
      rw [← ih]
      simp
    · have hp : ([10] : List UInt8).isPrefixOf (c :: t) = false := by simp [List.isPrefixOf, Ne.symm hc]
      have hix : index (c :: t) [10] = if index t [10] == -1 then -1 else index t [10] + 1 := by rw [index, hp]; simp
      rw [count_cons_ne c 10 t hc]
      simp only [cutL, if_neg hc]
      by_cases hm : index t [10] = -1
      · rw [count_miss hm] at ih ⊢
        rw [← ih]
        rfl
      · have hge := index_ge t [10]
        obtain ⟨j, hj⟩ : ∃ j : Nat, index t [10] = j := ⟨(index t [10]).toNat, by omega⟩
        have hix' : index (c :: t) [10] = ((j + 1 : Nat) : Int) := by rw [hix, if_neg (fun e => hm (beq_iff_eq.1 e)), hj]; omega
        have hcnt := count_hit (s := t) (sub := [10]) (by simp) hj
        obtain ⟨k, hk⟩ : ∃ k, count t [10] = k + 1 := ⟨count (t.drop (j + [10].length)) [10], by rw [hcnt]; omega⟩
        rw [hk] at ih ⊢
        rw [splitK, hj] at ih
        rw [splitK, hix']
        have n1 : ¬ ((j : Int) == -1) = true := by first | (simp; done) | (simp; omega)
        have n2 : ¬ (((j + 1 : Nat) : Int) == -1) = true := by first | (simp; done) | (simp; omega)
        rw [if_neg n1] at ih
        rw [if_neg n2, ← ih]
        simp
/-- The lines: the last one counts only if there is something in it. -/
def lines (l : List UInt8) : List (List UInt8) := if (cutL l).getLast (cutL_ne l) = [] then (cutL l).dropLast else cutL l
/-- Byte by byte: the line that is being read, and the lines ahead of it. -/
theorem cutL_append (l m : List UInt8) (h : ∀ c ∈ l, c ≠ 10) : cutL (l ++ m) = match cutL m with
    | x :: r => (l ++ x) :: r
    | [] => [l] := by
  induction l with
  | nil => cases hm : cutL m with
    | nil => exact absurd hm (cutL_ne m)
    | cons x r => simp [hm]
  | cons c t ih =>
    have ih' := ih (fun x hx => h x (by simp [hx]))
    simp only [List.cons_append, cutL, if_neg (h c (by simp)), ih']
    cases hm : cutL m with
    | nil => exact absurd hm (cutL_ne m)
    | cons x r => simp
theorem cutL_line (l m : List UInt8) (h : ∀ c ∈ l, c ≠ 10) : cutL (l ++ 10 :: m) = l :: cutL m := by
  rw [cutL_append l _ h]; simp [cutL]
theorem cutL_last (l : List UInt8) (h : ∀ c ∈ l, c ≠ 10) : cutL l = [l] := by
  have := cutL_append l [] h
  simpa [cutL] using this
end T
end Go.Proofs.YtbjinmlelchmgaaGreatDoor
namespace Go.Proofs.YtbjinmlelchmgaaGreatDoor
open Go.RowKit
theorem Tryz.info9 : (Tryz.prog.info? 9).map (fun i => (i.zero, i.size, i.bytes)) = some (some (.string ⟨#[]⟩), 1, 16) := by kernel_rfl
theorem wpList_append_one {P : Program} {W w : World} {ops : Array Oper} {rest : List Oper} {o : Oper} {a : Act} {Q : Exit → Act → World → Prop} (hgd : o.guard = none) (s x : Operand) (t e : TypeId)
    (ho : o.op = .call { callee := .builtin .append, args := #[s, x], argTypes := #[t, t] }) (i : TypeInfo) (z : Value) (by' : Nat) (ht : P.underlying t = some (.slice e)) (hi : P.info? e = some i) (hz : i.zero = some z) (hsize : i.size = 1) (hby : i.bytes = by') (hzs : z.cells.size = 1)
    (v : Value) (xs : List Value) (hs : a.eval s = v) (H : HV W w e v xs) (ad : Addr) (c : Nat) (m : Value) (hx : a.eval x = .slice (some ad) 1 c) (hc : w.cell? ad = some m) (hm : m.oneCell' = true) (h63 : xs.length ≤ 1000000000) (hb24 : by' ≤ 24)
    (h : ∀ v' w', HV W w' e v' (xs ++ [m]) → w.grownBy w' v.ownBlock → wpList P ops Q rest (a.put o.dst v') w') : wpList P ops Q (o :: rest) a w := by
  have hc' : ∀ j u, [m][j]? = some u → w.cell? (ad.add j) = some u := by
    intro j u hu
    match j, hu with
    | 0, hu => simp at hu; subst hu; rw [show ad.add 0 = ad from by simp [Addr.add]]; exact hc
  obtain ⟨v', w', hr, h1, h2, _⟩ := run_append_own (P := P) w W.heap.size t o.type e i z 1 by' ht hi hz hsize hby hzs (by decide) v xs.length xs H.own ad 1 c [m] rfl hc' (by intro u hu; simp at hu; subst hu; exact hm) (by unfold maxLen; omega) (by
    have : (xs.length + 1) * by' ≤ 1000000001 * 24 := Nat.mul_le_mul (by omega) hb24
    omega) H.below.size
  refine wpList_plain hgd fun K hK => ?_
  unfold Oper.wp execOp
  simp only [ho, resolve, invoke, builtin, Sem.run_bind, Sem.run_pure, Result.andThen_ok, List.map_toArray, List.map_cons, List.map_nil, hs, hx, hr]
  exact hK _ _ (h _ _ ⟨by simpa using h1, H.below.grown h2 H.below.size fun g hg => (H.own.lt g hg).1⟩ h2)
theorem cell_new (w : World) (u : Value) (e : TypeId) : (w.alloc (.cells #[u] e)).cell? ⟨w.heap.size, 0, none⟩ = some u := by
  rw [World.cell?_alloc_new]; rfl

def strsV (l : List (List UInt8)) : List Value := l.map fun x => .string ⟨x.toArray⟩
theorem strsV_length (l : List (List UInt8)) : (strsV l).length = l.length := by simp [strsV]
theorem strsV_snoc (l : List (List UInt8)) (x : List UInt8) : strsV (l ++ [x]) = strsV l ++ [.string ⟨x.toArray⟩] := by simp [strsV]
theorem cut_lines (l : List UInt8) (done : List (List UInt8)) (x : List UInt8) (h : T.cutL l = done ++ [x]) : T.lines l = if x = [] then done else done ++ [x] := by
  unfold T.lines
  have e : (T.cutL l).getLast (T.cutL_ne l) = x := by
    have g : ∀ (L : List (List UInt8)) (hL : L ≠ []), L = done ++ [x] → L.getLast hL = x := by intro L hL e; subst e; simp
    exact g _ _ h
  rw [e, h]
  simp
def LnPost (W : World) (s : ByteArray) (e : Ending) (W' : World) : Prop :=
  if 65536 < s.size then e = .returned (.tuple #[.slice none 0 0, .int .i64 2]) ∧ Below W.heap.size W W'
  else ∃ v, e = .returned (.tuple #[v, .int .i64 0]) ∧ HV W W' 9 v (strsV (T.lines s.data.toList))
set_option maxRecDepth 20000 in
set_option maxHeartbeats 2000000 in
theorem rlines_any (W : World) (s : ByteArray) (hs : s.size ≤ 1000000000) :
    Calls Tryz.prog 17 #[.string s] W fun e W' => LnPost W s e W' := by
  obtain ⟨i0, hi, hz0, hz1, hz2⟩ := info_parts Tryz.info9
  unfold LnPost
  by_cases hb : 65536 < s.size
  · have c1 : (65536 : Int) < (s.size : Int) := by omega
    simp only [if_pos hb]
    clear hb hs
    go_enter Tryz.func17, Tryz.ntmps17
    go_wp2_with fail
    go_ret2
    exact ⟨rfl, Below.refl _ _⟩
  · have c1 : (s.size : Int) ≤ 65536 := by omega
    simp only [if_neg hb]
    have HSZ : Hid (s.size ≤ 65536) := hid (by omega)
    clear hb hs
    go_enter Tryz.func17, Tryz.ntmps17
    go_wp2_with fail
    go_loopw [4, 5, 6] (fun v f i wr => ∃ (k p : Nat) (done : List (List UInt8)), p ≤ k ∧ k ≤ s.size ∧ i = .int .i64 k ∧ f = .int .i64 p ∧ done.length ≤ p ∧ HV W wr 9 v (strsV done) ∧ Hid (T.cutL s.data.toList = done ++ T.cutL (s.data.toList.drop p) ∧ ∀ c ∈ (s.data.toList.drop p).take (k - p), c ≠ 10)) (fun _ _ i _ => s.size - (intOf i).toNat)
    case atStart => exact ⟨0, 0, [], Nat.le_refl _, Nat.zero_le _, rfl, rfl, Nat.zero_le _, HV.nil 9 (Below.refl _ _), hid ⟨by simp, by simp⟩⟩
    case round =>
      obtain ⟨k, p, done, hpk, hk, rfl, rfl, hdn, F, R⟩ := hrel
      have HF : Hid (HV W wr 9 u4 (strsV done)) := F
      have HH : Hid (p ≤ k ∧ k ≤ s.size ∧ done.length ≤ p) := ⟨hpk, hk, hdn⟩
      have d1 : (p : Int) ≤ (k : Int) := by omega
      have d2 : (k : Int) ≤ (s.size : Int) := by omega
      have HDL : Hid ((strsV done).length ≤ 1000000000) := hid (by rw [strsV_length]; have := HSZ.out; omega)
      clear F hdn
      by_cases hlt : k < s.size
      · have c2 : (k : Int) < (s.size : Int) := by omega
        have hseg : (s.data.toList.drop p).take (k + 1 - p) = (s.data.toList.drop p).take (k - p) ++ [s[k]] := by
          have hk' : k - p < (s.data.toList.drop p).length := by rw [List.length_drop, size_list]; omega
          rw [show k + 1 - p = (k - p) + 1 by omega, List.take_succ_eq_append_getElem hk']
          congr 2
          rw [List.getElem_drop]
          have e : p + (k - p) = k := by omega
          simp only [e]
          rfl
        by_cases hten : s[k].toNat = 10
        · have e10 : ((s[k].toNat : Int) == 10) = true := by rw [hten]; rfl
          have hx := extract_eq s p k
          have H : Hid (T.cutL s.data.toList = (done ++ [(s.data.toList.drop p).take (k - p)]) ++ T.cutL (s.data.toList.drop (k + 1))) := hid (by
            have h1 := R.out.1
            have hsplit : s.data.toList.drop p = (s.data.toList.drop p).take (k - p) ++ 10 :: s.data.toList.drop (k + 1) := by
              have h2 := List.take_append_drop (k + 1 - p) (s.data.toList.drop p)
              rw [hseg, List.drop_drop, show p + (k + 1 - p) = k + 1 by omega, List.append_assoc] at h2
              have e : s[k] = 10 := UInt8.toNat_inj.1 hten
              rw [e] at h2
              exact h2.symm
            conv at h1 => rhs; rw [hsplit]
            rw [T.cutL_line _ _ R.out.2] at h1
            rw [h1, List.append_assoc]
            rfl)
          clear R hseg hten hpk hk
          go_wp2_with (first | (at_builtin; refine wpList_append_one rfl _ _ 24 9 rfl i0 (.string ⟨#[]⟩) 16 Tryz.underlying24 hi hz0 hz1 hz2 rfl _ _ rfl (HF.out.alloc _) _ _ (.string ⟨((s.data.toList.drop p).take (k - p)).toArray⟩) rfl (cell_new _ _ _) rfl HDL.out (by decide) ?_; intro v2 w2 F2 _))
          go_roundw
          case measure => simp [intOf]; omega
          case rel => exact ⟨k + 1, k + 1, done ++ [(s.data.toList.drop p).take (k - p)], Nat.le_refl _, by omega, by go_num, by go_num, by have := HH.out; simp; omega, by rw [strsV_snoc]; exact F2, hid ⟨H.out, by simp⟩⟩
        · have e10 : ((s[k].toNat : Int) == 10) = false := by simp; omega
          have H : Hid (T.cutL s.data.toList = done ++ T.cutL (s.data.toList.drop p) ∧ ∀ c ∈ (s.data.toList.drop p).take (k + 1 - p), c ≠ 10) := hid ⟨R.out.1, by
            rw [hseg]
            intro c hc
            rcases List.mem_append.1 hc with h | h
            · exact R.out.2 c h
            · rw [List.mem_singleton.1 h]
              intro e
              exact hten (by rw [e]; rfl)⟩
          clear R hseg hten hpk hk
          go_wp2_with fail
          go_roundw
          case measure => simp [intOf]; omega
          case rel => exact ⟨k + 1, p, done, by have := HH.out; omega, by omega, by go_num, rfl, HH.out.2.2, HF.out, H⟩
      · obtain rfl : k = s.size := by omega
        have hfull : (s.data.toList.drop p).take (s.size - p) = s.data.toList.drop p := List.take_of_length_le (by rw [List.length_drop, size_list]; exact Nat.le_refl _)
        have hcut := R.out.1
        have hno := R.out.2
        rw [hfull] at hno
        rw [T.cutL_last _ hno] at hcut
        have hln := cut_lines _ _ _ hcut
        by_cases hps : p < s.size
        · have c3 : (p : Int) < (s.size : Int) := by omega
          have hne : s.data.toList.drop p ≠ [] := by
            intro e
            have := congrArg List.length e
            rw [List.length_drop, size_list] at this
            simp at this
            omega
          rw [if_neg hne] at hln
          have HLN : Hid (T.lines s.data.toList = done ++ [s.data.toList.drop p]) := hln
          have hx : s.extract p s.size = ⟨(s.data.toList.drop p).toArray⟩ := by rw [extract_eq, hfull]
          clear R hfull hcut hno hln hne hpk hk hlt
          go_wp2_with (first | (at_builtin; refine wpList_append_one rfl _ _ 24 9 rfl i0 (.string ⟨#[]⟩) 16 Tryz.underlying24 hi hz0 hz1 hz2 rfl _ _ rfl (HF.out.alloc _) _ _ (.string ⟨(s.data.toList.drop p).toArray⟩) rfl (cell_new _ _ _) rfl HDL.out (by decide) ?_; intro v2 w2 F2 _))
          go_ret2
          exact ⟨v2, rfl, by rw [HLN.out, strsV_snoc]; exact F2⟩
        · obtain rfl : p = s.size := by omega
          rw [if_pos (List.drop_eq_nil_of_le (by rw [size_list]; exact Nat.le_refl _))] at hln
          have HLN : Hid (T.lines s.data.toList = done) := hln
          clear R hfull hcut hno hln hpk hk hlt hps
          go_wp2_with fail
          go_ret2
          exact ⟨_, rfl, by rw [HLN.out]; exact HF.out⟩
end Go.Proofs.YtbjinmlelchmgaaGreatDoor
