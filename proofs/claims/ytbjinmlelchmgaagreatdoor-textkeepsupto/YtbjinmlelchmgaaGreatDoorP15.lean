import Derived.Test.YtbjinmlelchmgaaGreatDoorP07
import Derived.Test.YtbjinmlelchmgaaGreatDoorP14
namespace Go.Proofs.YtbjinmlelchmgaaGreatDoor
open Go.RowKit
theorem Tryz.info9 : (Tryz.prog.info? 9).map (fun i => (i.zero, i.size, i.bytes)) = some (some (.string ⟨#[]⟩), 1, 16) := by kernel_rfl
theorem wpList_append_one {P : Program} {W w : World} {ops : Array Oper} {rest : List Oper} {o : Oper} {a : Act} {Q : Exit → Act → World → Prop} (hgd : o.guard = none) (s x : Operand) (t e : TypeId)
    (ho : o.op = .call { callee := .builtin .append, args := #[s, x], argTypes := #[t, t] }) (i : TypeInfo) (z : Value) (by' : Nat) (ht : P.underlying t = some (.slice e)) (hi : P.info? e = some i) (hz : i.zero = some z) (hsize : i.size = 1) (hby : i.bytes = by') (hzs : z.cells.size = 1)
    (v : Value) (xs : List Value) (hs : a.eval s = v) (H : HV W w e v xs) (ad : Addr) (c : Nat) (m : Value) (hx : a.eval x = .slice (some ad) 1 c) (hc : w.cell? ad = some m) (hm : m.oneCell' = true) (h63 : xs.length ≤ 1000000000) (hb24 : by' ≤ 24)
    (h : ∀ v' w', HV W w' e v' (xs ++ [m]) → w.grownBy w' v.ownBlock → wpList P ops Q rest (a.put o.dst v') w') : wpList P ops Q (o :: rest) a w := by
  have hc' : ∀ j u, [m][j]? = some u → w.cell? (ad.add j) = some u := by
    intro j u hu
    match j, hu with
    | 0, hu => simp at hu; subst hu; rw [show ad.add 0 = ad from by simp [Addr.add]]; exact hc
  obtain ⟨v', w', hr, h1, h2, _⟩ := run_append_own (P := P) w W.heap.size t o.type e i z 1 by' ht hi hz hsize hby hzs (by decide) v xs.length xs H.own ad 1 c [m] rfl hc' (by intro u hu; simp at hu; subst hu; exact hm) (by unfold maxLen; omega) (by
    have : (xs.length + 1) * by' ≤ 1000000001 * 24 := Nat.mul_le_mul (by omega) hb24
    omega) H.below.size
  refine wpList_plain hgd fun K hK => ?_
  unfold Oper.wp execOp
  simp only [ho, resolve, invoke, builtin, Sem.run_bind, Sem.run_pure, Result.andThen_ok, List.map_toArray, List.map_cons, List.map_nil, hs, hx, hr]
  exact hK _ _ (h _ _ ⟨by simpa using h1, H.below.grown h2 H.below.size fun g hg => (H.own.lt g hg).1⟩ h2)
theorem cell_new (w : World) (u : Value) (e : TypeId) : (w.alloc (.cells #[u] e)).cell? ⟨w.heap.size, 0, none⟩ = some u := by
  rw [World.cell?_alloc_new]; rfl

def strsV (l : List (List UInt8)) : List Value := l.map fun x => .string ⟨x.toArray⟩
theorem strsV_length (l : List (List UInt8)) : (strsV l).length = l.length := by simp [strsV]
theorem strsV_snoc (l : List (List UInt8)) (x : List UInt8) : strsV (l ++ [x]) = strsV l ++ [.string ⟨x.toArray⟩] := by simp [strsV]
theorem cut_lines (l : List UInt8) (done : List (List UInt8)) (x : List UInt8) (h : T.cutL l = done ++ [x]) : T.lines l = if x = [] then done else done ++ [x] := by
  unfold T.lines
  have e : (T.cutL l).getLast (T.cutL_ne l) = x := by
    have g : ∀ (L : List (List UInt8)) (hL : L ≠ []), L = done ++ [x] → L.getLast hL = x := by intro L hL e; subst e; simp
    exact g _ _ h
  rw [e, h]
  simp
def LnPost (W : World) (s : ByteArray) (e : Ending) (W' : World) : Prop :=
  if 65536 < s.size then e = .returned (.tuple #[.slice none 0 0, .int .i64 2]) ∧ Below W.heap.size W W'
  else ∃ v, e = .returned (.tuple #[v, .int .i64 0]) ∧ HV W W' 9 v (strsV (T.lines s.data.toList))
set_option maxRecDepth 20000 in
set_option maxHeartbeats 2000000 in
theorem rlines_any (W : World) (s : ByteArray) (hs : s.size ≤ 1000000000) :
    Calls Tryz.prog 17 #[.string s] W fun e W' => LnPost W s e W' := by
  obtain ⟨i0, hi, hz0, hz1, hz2⟩ := info_parts Tryz.info9
  unfold LnPost
  by_cases hb : 65536 < s.size
  · have c1 : (65536 : Int) < (s.size : Int) := by omega
    simp only [if_pos hb]
    clear hb hs
    go_enter Tryz.func17, Tryz.ntmps17
    go_wp2_with fail
    go_ret2
    exact ⟨rfl, Below.refl _ _⟩
  · have c1 : (s.size : Int) ≤ 65536 := by omega
    simp only [if_neg hb]
    have HSZ : Hid (s.size ≤ 65536) := hid (by omega)
    clear hb hs
    go_enter Tryz.func17, Tryz.ntmps17
    go_wp2_with fail
    go_loopw [4, 5, 6] (fun v f i wr => ∃ (k p : Nat) (done : List (List UInt8)), p ≤ k ∧ k ≤ s.size ∧ i = .int .i64 k ∧ f = .int .i64 p ∧ done.length ≤ p ∧ HV W wr 9 v (strsV done) ∧ Hid (T.cutL s.data.toList = done ++ T.cutL (s.data.toList.drop p) ∧ ∀ c ∈ (s.data.toList.drop p).take (k - p), c ≠ 10)) (fun _ _ i _ => s.size - (intOf i).toNat)
    case atStart => exact ⟨0, 0, [], Nat.le_refl _, Nat.zero_le _, rfl, rfl, Nat.zero_le _, HV.nil 9 (Below.refl _ _), hid ⟨by simp, by simp⟩⟩
    case round =>
      obtain ⟨k, p, done, hpk, hk, rfl, rfl, hdn, F, R⟩ := hrel
      have HF : Hid (HV W wr 9 u4 (strsV done)) := F
      have HH : Hid (p ≤ k ∧ k ≤ s.size ∧ done.length ≤ p) := ⟨hpk, hk, hdn⟩
      have d1 : (p : Int) ≤ (k : Int) := by omega
      have d2 : (k : Int) ≤ (s.size : Int) := by omega
      have HDL : Hid ((strsV done).length ≤ 1000000000) := hid (by rw [strsV_length]; have := HSZ.out; omega)
      clear F hdn
      by_cases hlt : k < s.size
      · have c2 : (k : Int) < (s.size : Int) := by omega
        have hseg : (s.data.toList.drop p).take (k + 1 - p) = (s.data.toList.drop p).take (k - p) ++ [s[k]] := by
          have hk' : k - p < (s.data.toList.drop p).length := by rw [List.length_drop, size_list]; omega
          rw [show k + 1 - p = (k - p) + 1 by omega, List.take_succ_eq_append_getElem hk']
          congr 2
          rw [List.getElem_drop]
          have e : p + (k - p) = k := by omega
          simp only [e]
          rfl
        by_cases hten : s[k].toNat = 10
        · have e10 : ((s[k].toNat : Int) == 10) = true := by rw [hten]; rfl
          have hx := extract_eq s p k
          have H : Hid (T.cutL s.data.toList = (done ++ [(s.data.toList.drop p).take (k - p)]) ++ T.cutL (s.data.toList.drop (k + 1))) := hid (by
            have h1 := R.out.1
            have hsplit : s.data.toList.drop p = (s.data.toList.drop p).take (k - p) ++ 10 :: s.data.toList.drop (k + 1) := by
              have h2 := List.take_append_drop (k + 1 - p) (s.data.toList.drop p)
              rw [hseg, List.drop_drop, show p + (k + 1 - p) = k + 1 by omega, List.append_assoc] at h2
              have e : s[k] = 10 := UInt8.toNat_inj.1 hten
              rw [e] at h2
              exact h2.symm
            conv at h1 => rhs; rw [hsplit]
            rw [T.cutL_line _ _ R.out.2] at h1
            rw [h1, List.append_assoc]
            rfl)
          clear R hseg hten hpk hk
          go_wp2_with (first | (at_builtin; refine wpList_append_one rfl _ _ 24 9 rfl i0 (.string ⟨#[]⟩) 16 Tryz.underlying24 hi hz0 hz1 hz2 rfl _ _ rfl (HF.out.alloc _) _ _ (.string ⟨((s.data.toList.drop p).take (k - p)).toArray⟩) rfl (cell_new _ _ _) rfl HDL.out (by decide) ?_; intro v2 w2 F2 _))
          go_roundw
          case measure => simp [intOf]; omega
          case rel => exact ⟨k + 1, k + 1, done ++ [(s.data.toList.drop p).take (k - p)], Nat.le_refl _, by omega, by go_num, by go_num, by have := HH.out; simp; omega, by rw [strsV_snoc]; exact F2, hid ⟨H.out, by simp⟩⟩
        · have e10 : ((s[k].toNat : Int) == 10) = false := by simp; omega
          have H : Hid (T.cutL s.data.toList = done ++ T.cutL (s.data.toList.drop p) ∧ ∀ c ∈ (s.data.toList.drop p).take (k + 1 - p), c ≠ 10) := hid ⟨R.out.1, by
            rw [hseg]
            intro c hc
            rcases List.mem_append.1 hc with h | h
            · exact R.out.2 c h
            · rw [List.mem_singleton.1 h]
              intro e
              exact hten (by rw [e]; rfl)⟩
          clear R hseg hten hpk hk
          go_wp2_with fail
          go_roundw
          case measure => simp [intOf]; omega
          case rel => exact ⟨k + 1, p, done, by have := HH.out; omega, by omega, by go_num, rfl, HH.out.2.2, HF.out, H⟩
      · obtain rfl : k = s.size := by omega
        have hfull : (s.data.toList.drop p).take (s.size - p) = s.data.toList.drop p := List.take_of_length_le (by rw [List.length_drop, size_list]; exact Nat.le_refl _)
        have hcut := R.out.1
        have hno := R.out.2
        rw [hfull] at hno
        rw [T.cutL_last _ hno] at hcut
        have hln := cut_lines _ _ _ hcut
        by_cases hps : p < s.size
        · have c3 : (p : Int) < (s.size : Int) := by omega
          have hne : s.data.toList.drop p ≠ [] := by
            intro e
            have := congrArg List.length e
            rw [List.length_drop, size_list] at this
            simp at this
            omega
          rw [if_neg hne] at hln
          have HLN : Hid (T.lines s.data.toList = done ++ [s.data.toList.drop p]) := hln
          have hx : s.extract p s.size = ⟨(s.data.toList.drop p).toArray⟩ := by rw [extract_eq, hfull]
          clear R hfull hcut hno hln hne hpk hk hlt
          go_wp2_with (first | (at_builtin; refine wpList_append_one rfl _ _ 24 9 rfl i0 (.string ⟨#[]⟩) 16 Tryz.underlying24 hi hz0 hz1 hz2 rfl _ _ rfl (HF.out.alloc _) _ _ (.string ⟨(s.data.toList.drop p).toArray⟩) rfl (cell_new _ _ _) rfl HDL.out (by decide) ?_; intro v2 w2 F2 _))
          go_ret2
          exact ⟨v2, rfl, by rw [HLN.out, strsV_snoc]; exact F2⟩
        · obtain rfl : p = s.size := by omega
          rw [if_pos (List.drop_eq_nil_of_le (by rw [size_list]; exact Nat.le_refl _))] at hln
          have HLN : Hid (T.lines s.data.toList = done) := hln
          clear R hfull hcut hno hln hpk hk hlt hps
          go_wp2_with fail
          go_ret2
          exact ⟨_, rfl, by rw [HLN.out]; exact HF.out⟩
end Go.Proofs.YtbjinmlelchmgaaGreatDoor
namespace Go.Proofs.YtbjinmlelchmgaaGreatDoor
open Go.RowKit

theorem Tryz.info3 : (Tryz.prog.info? 3).map (fun i => (i.zero, i.size, i.bytes)) = some (some (.int .i64 0), 1, 8) := by kernel_rfl
theorem without_any (l : List UInt8) (w : World) (hs : l.length ≤ 9223372036854775807) :
    Calls Tryz.prog 75 #[.string ⟨l.toArray⟩] w fun e w' => e = .returned (.string ⟨(T.trim l).toArray⟩) ∧ w' = w := by
  go_enter Tryz.func75, Tryz.ntmps75
  go_wp2_with (first | (go_at_call 88; refine (Tryz.strings_TrimRight_one ⟨l.toArray⟩ 32 (by decide) _ (by rw [arr_size]; exact hs)).mono ?_; rintro e w' ⟨rfl, rfl⟩))
  go_ret
  exact ⟨rfl, rfl⟩
def ints (ws : List Nat) : List Value := ws.map fun (k : Nat) => Value.int .i64 (k : Int)
theorem ints_length (ws : List Nat) : (ints ws).length = ws.length := by simp [ints]
theorem HV.anyN {W wr : World} {e : TypeId} {v : Value} {xs : List Value} (h : HV W wr e v xs) {n : Nat} (hn : xs.length = n) : ∃ ao cap, v = .slice ao n cap := by subst hn; exact h.any
theorem HV.formN {W wr : World} {e : TypeId} {v : Value} {xs : List Value} (h : HV W wr e v xs) {n : Nat} (hl : xs.length = n) (hn : 0 < n) : ∃ g cap, v = .slice (some ⟨g, 0, none⟩) n cap ∧ W.heap.size ≤ g ∧ g < wr.heap.size := by
  subst hl
  obtain ⟨g, cap, cur, h1, h2, h3, _⟩ := h.form hn
  exact ⟨g, cap, h1, h2, h3⟩
theorem ints_last (q : List Nat) (j y : Nat) (h : q.length = j) (u : Value) : (ints q ++ [u]).set j (.int .i64 (y : Int)) = ints (q ++ [y]) := by
  rw [List.set_append_right _ _ (by rw [ints_length]; omega), ints_length, h, Nat.sub_self]
  simp [ints]
theorem ints_set (q : List Nat) (j y : Nat) : (ints q).set j (.int .i64 (y : Int)) = ints (q.set j y) := by simp [ints]
theorem ints_get (q : List Nat) (j : Nat) (h : j < q.length) : (ints q)[j]? = some (.int .i64 (q[j] : Int)) := by simp [ints, h]
set_option maxHeartbeats 1000000 in
set_option maxRecDepth 20000 in
theorem widths_any (W : World) (ao : Option Addr) (n c : Nat) (rows : List (List (List UInt8))) (hl : rows.length = n) (hn : n ≤ 1000000000) (hr : ∀ r ∈ rows, r.length ≤ 1000000000 ∧ ∀ x ∈ r, x.length ≤ 1000000000) (hat : RowsAt W ao rows) :
    Calls Tryz.prog 53 #[.slice ao n c] W fun e w' => ∃ v, e = .returned v ∧ HV W w' 3 v (ints (T.widths rows)) := by
  obtain ⟨i0, hi, hz0, hz1, hz2⟩ := info_parts Tryz.info3
  have b1 : (n : Int) ≤ 1000000000 := by omega
  have HA : Hid (RowsAt W ao rows) := hat
  have HR : Hid (∀ r ∈ rows, r.length ≤ 1000000000 ∧ ∀ x ∈ r, x.length ≤ 1000000000) := hr
  clear hat hr
  go_enter Tryz.func53, Tryz.ntmps53
  go_wp2_with fail
  go_loopw [2, 4, 5, 6, 9] (fun v _ _ _ i wr => ∃ k : Nat, k ≤ n ∧ i = .int .i64 k ∧ HV W wr 3 v (ints (T.widths (rows.take k)))) (fun _ _ _ _ i _ => n - (intOf i).toNat)
  case atStart => exact ⟨0, Nat.zero_le _, rfl, HV.nil 3 (Below.refl _ _)⟩
  case round =>
    obtain ⟨k, hk, rfl, F⟩ := hrel
    by_cases hlt : k < n
    · have c1 : (k : Int) < (n : Int) := by omega
      rcases HA.out with h0 | ⟨b, off, rfl, hb, hc⟩
      · rw [h0] at hl; simp at hl; omega
      · obtain ⟨ai, ci, hck, hs⟩ := hc k (by omega)
        rw [← F.below.cell (p := ⟨b, off + k, none⟩) hb] at hck
        obtain ⟨hm, hx⟩ := HR.out rows[k] (List.getElem_mem _)
        have HX : Hid (T.widths (rows.take (k + 1)) = T.mrg (T.widths (rows.take k)) rows[k]) := hid (by rw [List.take_succ_eq_append_getElem (by omega), T.widths_snoc])
        have HS : Hid (StrsAt W ai rows[k]) := hs
        have HL : Hid (∀ x ∈ rows[k], x.length ≤ 1000000000) := hx
        clear hs hx hc
        generalize rows[k] = row at *
        generalize T.widths (rows.take k) = ws at *
        obtain ⟨m, hml⟩ : ∃ m, row.length = m := ⟨_, rfl⟩
        rw [hml] at hck hm
        have c2 : (m : Int) ≤ 1000000000 := by omega
        go_wp2_with fail
        go_loopw [2, 5, 6, 15] (fun v _ _ i wr => ∃ j : Nat, j ≤ m ∧ i = .int .i64 j ∧ HV W wr 3 v (ints (T.mrg ws (row.take j)))) (fun _ _ _ i _ => m - (intOf i).toNat)
        case atStart => exact ⟨0, Nat.zero_le _, rfl, by rw [List.take_zero, T.mrg_nil]; exact F⟩
        case round =>
          clear F hck
          obtain ⟨j, hj, rfl, F⟩ := hrel
          by_cases hjl : j < m
          · have c3 : (j : Int) < (m : Int) := by omega
            rcases HS.out with h0 | ⟨b2, off2, rfl, hb2, hc2⟩
            · rw [h0] at hml; simp at hml; omega
            · have hcj := hc2 j (by omega)
              rw [← F.below.cell (p := ⟨b2, off2 + j, none⟩) hb2] at hcj
              have hxl := HL.out row[j] (List.getElem_mem _)
              have HT : Hid (row.take (j + 1) = row.take j ++ [row[j]]) := hid (List.take_succ_eq_append_getElem (by omega))
              have htl : (row.take j).length = j := by simp; omega
              clear hc2
              generalize row[j] = x at *
              generalize row.take j = pr at *
              have hlen := T.mrg_length ws pr
              have hsz := arr_size x
              have c5 : (x.length : Int) ≤ 1000000000 := by omega
              have c6 : (j : Int) < 1000000000 := by omega
              by_cases hnew : (T.mrg ws pr).length = j
              · have HN : Hid (T.mrg ws (pr ++ [x]) = T.mrg ws pr ++ [x.length]) := hid (T.mrg_new ws pr x (by omega))
                obtain ⟨ao', cap', rfl⟩ := F.anyN (n := j) (by rw [ints_length]; exact hnew)
                have HQ : Hid ((T.mrg ws pr).length = j) := hnew
                generalize T.mrg ws pr = q at *
                clear hnew htl hlen hml hl hxl
                go_wp2_with (first | (at_builtin; refine wpList_append_one rfl _ _ 88 3 rfl i0 _ 8 Tryz.underlying88 hi hz0 hz1 hz2 rfl _ _ rfl (F.alloc _) _ _ (.int .i64 0) rfl (cell_new _ _ _) rfl (by rw [ints_length, HQ.out]; omega) (by decide) ?_))
                intro v2 w2 F2 _
                have HQ2 : (ints q ++ [Value.int .i64 0]).length = j + 1 := by rw [List.length_append, ints_length, HQ.out]; rfl
                obtain ⟨g, cap2, rfl, hWg, hg1⟩ := F2.formN HQ2 (by omega)
                have c7 := F2.cell j (.int .i64 0) (by rw [List.getElem?_append_right (by rw [ints_length, HQ.out]; exact Nat.le_refl _), ints_length, HQ.out]; simp)
                have c8 := F2.free j
                have F3 : Hid (∀ u, HV W (w2.setCell ⟨g, j, none⟩ u) 3 (.slice (some ⟨g, 0, none⟩) (j + 1) cap2) ((ints q ++ [Value.int .i64 0]).set j u)) := hid (fun u => F2.set j u)
                have c9 : (j : Int) < (j : Int) + 1 := by omega
                clear F F2 HQ2
                go_wp2_with fail
                exact ⟨⟨j + 1, by omega, by go_num, by rw [HT.out, HN.out, ← ints_last q j x.length HQ.out (.int .i64 0)]; exact F3.out _⟩, by simp [intOf]; omega⟩
              · have hq : j < (T.mrg ws pr).length := by omega
                have HN : Hid (T.mrg ws (pr ++ [x]) = (T.mrg ws pr).set j (max ((T.mrg ws pr)[j]'hq) x.length)) := hid (by have := T.mrg_old pr x ws (by omega); rw [this]; simp only [htl])
                obtain ⟨nq, hnq⟩ : ∃ nq, (T.mrg ws pr).length = nq := ⟨_, rfl⟩
                obtain ⟨g, cap2, rfl, hWg, hg1⟩ := F.formN (n := nq) (by rw [ints_length]; exact hnq) (by omega)
                have c7 := F.cell j _ (ints_get _ j hq)
                have c8 := F.free j
                have F3 : Hid (∀ u, HV W (wr.setCell ⟨g, j, none⟩ (.int .i64 ((u : Nat) : Int))) 3 (.slice (some ⟨g, 0, none⟩) nq cap2) (ints ((T.mrg ws pr).set j u))) := hid (fun u => by rw [← ints_set]; exact F.set j _)
                have c9 : (j : Int) < (nq : Int) := by omega
                have c10 : ((j : Int) == (nq : Int)) = false := by simp; omega
                generalize (T.mrg ws pr)[j] = y at *
                generalize T.mrg ws pr = q at *
                clear hnew htl hlen hml hl hxl F hnq hq
                go_wp2_with fail
                rw [show max (y : Int) (x.length : Int) = ((max y x.length : Nat) : Int) from by omega]
                exact ⟨⟨j + 1, by omega, by go_num, by rw [HT.out, HN.out]; exact F3.out _⟩, by simp [intOf]; omega⟩
          · obtain rfl : j = m := by omega
            rw [List.take_of_length_le (by omega)] at F
            have HF : Hid (HV W wr 3 u2 (ints (T.widths (rows.take (k + 1))))) := hid (by rw [HX.out]; exact F)
            clear hml hl F
            go_wp2_with fail
            exact ⟨⟨k + 1, by omega, by go_num, HF.out⟩, by simp [intOf]; omega⟩
    · obtain rfl : k = n := by omega
      rw [List.take_of_length_le (by omega)] at F
      clear hl
      go_wp2_with fail
      go_ret
      exact ⟨_, rfl, F⟩
end Go.Proofs.YtbjinmlelchmgaaGreatDoor
namespace Go.Proofs.YtbjinmlelchmgaaGreatDoor
open Go.RowKit

structure BL (V w : World) (b : Nat) (l : List UInt8) : Prop where
  bld : Lib.IsBuilderF 92 5 V.heap.size b (Lib.byteCells l) w
  below : Below V.heap.size V w
theorem builderAtF_on {B b : Nat} {p : Value} {bs : List Value} {w w' : World} (h : Lib.BuilderAtF 92 5 B b p bs w) (hb : Below w.heap.size w w') : Lib.BuilderAtF 92 5 B b p bs w' := by
  obtain ⟨hB, v, hbk, hown, hne⟩ := h
  refine ⟨hB, v, by rw [hb.block b (Array.getElem?_eq_some_iff.1 hbk).1]; exact hbk, ⟨hown.1, ?_⟩, hne⟩
  exact hown.2.imp id fun ⟨g, cap, cur, fz, hv, hbg, hg, r⟩ => ⟨g, cap, cur, fz, hv, hbg, by rw [hb.block g (Array.getElem?_eq_some_iff.1 hg).1]; exact hg, r⟩
theorem BL.on {V w w' : World} {b : Nat} {l : List UInt8} (h : BL V w b l) (hb : Below w.heap.size w w') : BL V w' b l :=
  ⟨h.bld.imp (fun x => builderAtF_on x hb) (fun x => builderAtF_on x hb), h.below.trans (hb.mono h.below.size)⟩
theorem BL.drew {V w : World} {b : Nat} {l : List UInt8} (h : BL V w b l) : BL V w.drew b l := h.on ((Below.refl _ _).drew)
theorem BL.fresh (w : World) : BL w (w.alloc (.cells #[.pointer none, .slice none 0 0] 92)) w.heap.size [] :=
  ⟨(Lib.fresh_isBuilder 92 5 w).imp (fun x => Lib.BuilderAtF.of x) (fun x => Lib.BuilderAtF.of x), (Below.refl _ w).alloc (Nat.le_refl _) _⟩
theorem write_any (V w : World) (b : Nat) (l s : List UInt8) (h : BL V w b l) (hlen : l.length + s.length ≤ 140737488355328) :
    Calls Tryz.prog 76 #[.pointer (some ⟨b, 0, none⟩), .string ⟨s.toArray⟩] w fun e w' => e = .returned (.tuple #[.int .i64 (s.length : Int), .nilIface]) ∧ BL V w' b (l ++ s) := by
  refine (Tryz.Builder_WriteString_k V.heap.size b _ ⟨s.toArray⟩ w h.bld (by rw [Lib.byteCells_length, arr_size]; exact hlen) h.below.size).mono ?_
  rintro e w' ⟨rfl, h1, h2, _⟩
  rw [arr_size]
  refine ⟨rfl, .inr ?_, h.below.trans h2⟩
  rw [Lib.byteCells_append]
  exact h1
theorem writeByte_any (V w : World) (b : Nat) (l : List UInt8) (h : BL V w b l) (hlen : l.length + 1 ≤ 140737488355328) :
    Calls Tryz.prog 55 #[.pointer (some ⟨b, 0, none⟩), .int .u8 10] w fun e w' => e = .returned .nilIface ∧ BL V w' b (l ++ [10]) := by
  refine (Tryz.Builder_WriteByte_k V.heap.size b _ 10 w h.bld (by rw [Lib.byteCells_length]; exact hlen) h.below.size).mono ?_
  rintro e w' ⟨rfl, h1, h2, _⟩
  refine ⟨rfl, .inr ?_, h.below.trans h2⟩
  rw [Lib.byteCells_append]
  exact h1
theorem string_any (V w : World) (b : Nat) (l : List UInt8) (h : BL V w b l) :
    Calls Tryz.prog 56 #[.pointer (some ⟨b, 0, none⟩)] w fun e w' => e = .returned (.string ⟨l.toArray⟩) ∧ Below V.heap.size V w' := by
  refine (Tryz.Builder_String_any_k V.heap.size b l w h.bld h.below.size).mono ?_
  rintro e w' ⟨rfl, _, h2, _⟩
  exact ⟨rfl, h.below.trans h2⟩
theorem blanks_any (c : Nat) (w : World) (hc : c ≤ 140737488355328) :
    Calls Tryz.prog 77 #[.string ⟨#[32]⟩, .int .i64 (c : Int)] w fun e w' => e = .returned (.string ⟨(List.replicate c 32).toArray⟩) ∧ Below w.heap.size w w' := by
  refine (Tryz.strings_Repeat ⟨#[32]⟩ c w (by omega) (by rw [show (⟨#[32]⟩ : ByteArray).size = 1 from rfl]; omega)).mono ?_
  rintro e w' ⟨rfl, hb⟩
  refine ⟨?_, hb⟩
  have := Lib.repeatL_replicate 32 1 c
  rw [Nat.mul_one] at this
  rw [← this]
  rfl
end Go.Proofs.YtbjinmlelchmgaaGreatDoor
