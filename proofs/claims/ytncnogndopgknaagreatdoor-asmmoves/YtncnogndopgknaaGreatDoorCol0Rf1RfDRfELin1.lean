/- Columns, as plain lists; lists of the call's own whose elements take one cell each. The document's leaves: plain (74), parts (51), worth (60). Lists of the call's own, one cell an element; the document's Lines (17). Rows of texts in a world; the document's cell (79), width (58). text.Lines (12). -/
import Derived.Test.YtncnogndopgknaaGreatDoorKeep
import Derived.Lib.TrimByte
import Derived.Test.YtncnogndopgknaaGreatDoorLeaf
import Derived.Test.YtncnogndopgknaaGreatDoorBase
import Derived.Test.YtncnogndopgknaaGreatDoorLin0
import Derived.Test.YtncnogndopgknaaGreatDoorShelf
import Derived.OwnWalk
namespace Go.Proofs.YtncnogndopgknaaGreatDoor
open Go.RowKit

/-! ### Widths -/
namespace T
/-- The widths behind one more row. -/
def mrg : List Nat → List (List UInt8) → List Nat
  | ws, [] => ws
  | [], c :: r => c.length :: mrg [] r
  | w :: ws, c :: r => max w c.length :: mrg ws r
def widths (rows : List (List (List UInt8))) : List Nat := rows.foldl mrg []
theorem mrg_nil (ws : List Nat) : mrg ws [] = ws := by cases ws <;> rfl
theorem mrg_length (ws : List Nat) (r : List (List UInt8)) : (mrg ws r).length = max ws.length r.length := by
  induction r generalizing ws with
  | nil => simp [mrg_nil]
  | cons c r ih =>
    cases ws with
    | nil => simp [mrg, ih]
    | cons w ws => simp [mrg, ih]
/-- The step at a new column, and at an old one. -/
theorem mrg_snoc_new (r : List (List UInt8)) (c : List UInt8) : ∀ ws : List Nat, (mrg ws r).length = r.length → mrg ws (r ++ [c]) = mrg ws r ++ [c.length] ∨ r.length < ws.length := by
  induction r with
  | nil =>
    intro ws h
    cases ws with
    | nil => left; rfl
    | cons w ws => right; simp
  | cons d r ih =>
    intro ws h
    cases ws with
    | nil =>
      left
      have := ih [] (by simpa [mrg] using h)
      rcases this with h1 | h1
      · simp [mrg, h1]
      · simp at h1
    | cons w ws =>
      have := ih ws (by simpa [mrg] using h)
      rcases this with h1 | h1
      · left; simp [mrg, h1]
      · right; simp; omega
theorem mrg_new (ws : List Nat) (r : List (List UInt8)) (c : List UInt8) (h : (mrg ws r).length = r.length) : mrg ws (r ++ [c]) = mrg ws r ++ [c.length] := by
  rcases mrg_snoc_new r c ws h with h1 | h1
  · exact h1
  · have := mrg_length ws r; omega
theorem mrg_old (r : List (List UInt8)) (c : List UInt8) : ∀ (ws : List Nat) (h : r.length < (mrg ws r).length), mrg ws (r ++ [c]) = (mrg ws r).set r.length (max ((mrg ws r)[r.length]) c.length) := by
  induction r with
  | nil =>
    intro ws h
    cases ws with
    | nil => simp [mrg] at h
    | cons w ws => simp [mrg]
  | cons d r ih =>
    intro ws h
    cases ws with
    | nil =>
      have h1 : r.length < (mrg [] r).length := by simpa [mrg] using h
      simp only [List.cons_append, mrg, ih [] h1, List.length_cons, List.set_cons_succ, List.getElem_cons_succ]
    | cons w ws =>
      have h1 : r.length < (mrg ws r).length := by simpa [mrg] using h
      simp only [List.cons_append, mrg, ih ws h1, List.length_cons, List.set_cons_succ, List.getElem_cons_succ]
theorem widths_snoc (a : List (List (List UInt8))) (r : List (List UInt8)) : widths (a ++ [r]) = mrg (widths a) r := by simp [widths]
/-! ### A row -/
def trim (l : List UInt8) : List UInt8 := Lib.trimRightB l 32
/-- How many cells a row has up to the last that is not blank. -/
def upTo (row : List (List UInt8)) : Nat := (row.reverse.dropWhile fun c => (trim c).isEmpty).length
def fillTo (ws : List Nat) (i : Nat) (c : List UInt8) : List UInt8 := c ++ List.replicate (ws.getD i 0 - c.length) 32 ++ [32, 32]
/-- The first k cells, each with what stands behind it. -/
def fills (ws : List Nat) (row : List (List UInt8)) (k : Nat) : List UInt8 := ((List.range k).map fun i => fillTo ws i (row.getD i [])).flatten
def line (ws : List Nat) (row : List (List UInt8)) : List UInt8 := if upTo row = 0 then [] else fills ws row (upTo row - 1) ++ trim (row.getD (upTo row - 1) [])
theorem fills_succ (ws : List Nat) (row : List (List UInt8)) (k : Nat) : fills ws row (k + 1) = fills ws row k ++ fillTo ws k (row.getD k []) := by simp [fills, List.range_succ]
theorem fills_zero (ws : List Nat) (row : List (List UInt8)) : fills ws row 0 = [] := rfl
def table (rows : List (List (List UInt8))) (ws : List Nat) : List UInt8 := (rows.map fun r => line ws r ++ [10]).flatten
def columns (rows : List (List (List UInt8))) : List UInt8 := table rows (widths rows)
theorem table_snoc (a : List (List (List UInt8))) (r : List (List UInt8)) (ws : List Nat) : table (a ++ [r]) ws = table a ws ++ line ws r ++ [10] := by simp [table]
theorem upTo_le (row : List (List UInt8)) : upTo row ≤ row.length := by
  unfold upTo
  have := (List.dropWhile_suffix (l := row.reverse) fun c => (trim c).isEmpty).length_le
  simpa using this
theorem upTo_take_blank (row : List (List UInt8)) (k : Nat) (h : k < row.length) (hb : (trim row[k]).isEmpty = true) : upTo (row.take (k + 1)) = upTo (row.take k) := by
  unfold upTo
  rw [List.take_succ_eq_append_getElem h, List.reverse_append]
  simp [hb]
theorem upTo_take_full (row : List (List UInt8)) (k : Nat) (h : k < row.length) (hb : (trim row[k]).isEmpty = false) : upTo (row.take (k + 1)) = k + 1 := by
  unfold upTo
  rw [List.take_succ_eq_append_getElem h, List.reverse_append]
  simp [hb]
  omega
end T
/-! ### Own lists of one-cell values -/
structure HV (W wr : World) (e : TypeId) (v : Value) (xs : List Value) : Prop where
  own : wr.ownsRow W.heap.size e 1 v xs.length xs
  below : Below W.heap.size W wr
theorem HV.nil {W w : World} (e : TypeId) (hb : Below W.heap.size W w) : HV W w e (.slice none 0 0) [] := ⟨World.ownsRow_nil w _ e 1, hb⟩
theorem HV.alloc {W wr : World} {e : TypeId} {v : Value} {l : List Value} (h : HV W wr e v l) (o : Obj) : HV W (wr.alloc o) e v l := ⟨h.own.alloc o, h.below.alloc h.below.size o⟩
theorem HV.drew {W wr : World} {e : TypeId} {v : Value} {l : List Value} (h : HV W wr e v l) : HV W wr.drew e v l := ⟨h.own, h.below.drew⟩
theorem HV.on {W wr w : World} {e : TypeId} {v : Value} {l : List Value} (h : HV W wr e v l) (hb : Below wr.heap.size wr w) : HV W w e v l := ⟨own_below h.own hb, h.below.trans (hb.mono h.below.size)⟩
theorem HV.form {W wr : World} {e : TypeId} {v : Value} {xs : List Value} (h : HV W wr e v xs) (hn : 0 < xs.length) : ∃ g cap cur, v = .slice (some ⟨g, 0, none⟩) xs.length cap ∧ W.heap.size ≤ g ∧ g < wr.heap.size ∧ wr.heap[g]? = some (.cells cur e (0, 0)) ∧ xs.length ≤ cap ∧ cap ≤ maxLen ∧ cur.size = cap ∧ cur.toList.take xs.length = xs := by
  rcases h.own.2 with ⟨_, h0⟩ | ⟨g, cap, cur, h1, h2, h3, h4, h5, h6, h7⟩
  · omega
  · exact ⟨g, cap, cur, h1, h2, (Array.getElem?_eq_some_iff.1 h3).1, h3, h4, h5, by omega, by rw [Nat.mul_one] at h7; exact h7⟩
theorem HV.any {W wr : World} {e : TypeId} {v : Value} {xs : List Value} (h : HV W wr e v xs) : ∃ ao cap, v = .slice ao xs.length cap := by
  obtain ⟨ao, cc, hv⟩ := own_form h.own
  exact ⟨ao, cc, hv⟩
theorem HV.cell {W wr : World} {e : TypeId} {g cap : Nat} {xs : List Value} {n : Nat} (h : HV W wr e (.slice (some ⟨g, 0, none⟩) n cap) xs) (j : Nat) (u : Value) (hj : xs[j]? = some u) : wr.cell? ⟨g, j, none⟩ = some u := by
  have := h.own.cells (g := g) rfl j u hj
  rw [Addr.add_mid, Nat.zero_add] at this
  exact this
theorem HV.free {W wr : World} {e : TypeId} {g cap : Nat} {xs : List Value} {n : Nat} (h : HV W wr e (.slice (some ⟨g, 0, none⟩) n cap) xs) (j : Nat) : wr.frozen? ⟨g, j, none⟩ = false := by
  rcases h.own.2 with ⟨h0, _⟩ | ⟨g', cap', cur, h1, h2, h3, _⟩
  · cases h0
  · cases h1
    exact Lib.frozen_of_heap h3 j
theorem HV.set {W wr : World} {e : TypeId} {g cap : Nat} {xs : List Value} {n : Nat} (h : HV W wr e (.slice (some ⟨g, 0, none⟩) n cap) xs) (j : Nat) (u : Value) : HV W (wr.setCell ⟨g, j, none⟩ u) e (.slice (some ⟨g, 0, none⟩) n cap) (xs.set j u) := by
  rcases h.own.2 with ⟨h0, _⟩ | ⟨g', cap', cur, h1, h2, h3, h4, h5, h6, h7⟩
  · cases h0
  · injection h1 with a1 a2 a3
    injection a1 with a1
    injection a1 with a1
    subst a1 a3
    refine ⟨⟨by simp, .inr ⟨g, cap, cur.setIfInBounds j u, ?_, h2, ?_, ?_, h5, by simpa using h6, ?_⟩⟩, h.below.setCell (p := ⟨g, j, none⟩) h2 u⟩
    · rw [List.length_set, a2]
    · exact heap_setCell_same wr g j _ e _ h3
    · rw [List.length_set]; exact h4
    · rw [List.length_set, Array.toList_setIfInBounds, List.take_set, h7]
end Go.Proofs.YtncnogndopgknaaGreatDoor
namespace Go.Proofs.YtncnogndopgknaaGreatDoor
open Go.RowKit

theorem rplain_any (c : UInt8) (w : World) : Calls Tryz.prog 131 #[.int .u8 (c.toNat : Int)] w fun e w' => e = .returned (.bool (T.itself c)) ∧ w = w' := by
  have hc := c.toNat_lt
  go_enter Tryz.func131, Tryz.ntmps131
  go_wp2
  all_goals go_ret
  all_goals exact ⟨ret_bool (by rw [Bool.eq_iff_iff]; simp [T.itself]; omega), rfl⟩
theorem rparts_any (c : UInt8) (w : World) : Calls Tryz.prog 101 #[.int .u8 (c.toNat : Int)] w fun e w' => e = .returned (.bool (T.isGap c)) ∧ w = w' := by
  have hc := c.toNat_lt
  go_enter Tryz.func101, Tryz.ntmps101
  go_wp2
  all_goals go_ret
  all_goals exact ⟨ret_bool (by rw [Bool.eq_iff_iff]; simp [T.isGap]; omega), rfl⟩
def wth (c : UInt8) : Int := match T.hexV c with
  | some d => (d : Int)
  | none => -1
theorem wth_at (c : UInt8) (k : Nat) (hk : k < 16) (h : T.hexD k = c) : wth c = (k : Int) := by
  unfold wth; rw [← h, T.hexD_inv k hk]
theorem wth_no (c : UInt8) (h : ∀ k < 16, T.hexD k ≠ c) : wth c = -1 := by
  unfold wth
  cases hv : T.hexV c with
  | none => rfl
  | some d => exact absurd (T.hexV_lt hv).2 (h d (T.hexV_lt hv).1)
def dig16 : ByteArray := ⟨#[48, 49, 50, 51, 52, 53, 54, 55, 56, 57, 97, 98, 99, 100, 101, 102]⟩
theorem dig16_get : ∀ k (h : k < dig16.size), dig16[k] = T.hexD k := by decide +kernel
theorem worth_any (c : UInt8) (w : World) : Calls Tryz.prog 132 #[.int .u8 (c.toNat : Int)] w fun e w' => e = .returned (.int .i64 (wth c)) ∧ w = w' := by
  have hc := c.toNat_lt
  go_enter Tryz.func132, Tryz.ntmps132
  go_wp2_with fail
  go_loopw [3] (fun i wr => ∃ k : Nat, k ≤ 16 ∧ i = .int .i64 k ∧ Hid (∀ j < k, T.hexD j ≠ c) ∧ w = wr) (fun i _ => 16 - (intOf i).toNat)
  case atStart => exact ⟨0, Nat.zero_le _, rfl, fun j hj => by omega, rfl⟩
  case round =>
    obtain ⟨k, hk, rfl, HN, rfl⟩ := hrel
    by_cases hk2 : k < 16
    · have c1 : (k : Int) < 16 := by omega
      have hz : k < (⟨#[48, 49, 50, 51, 52, 53, 54, 55, 56, 57, 97, 98, 99, 100, 101, 102]⟩ : ByteArray).size := hk2
      have he : (⟨#[48, 49, 50, 51, 52, 53, 54, 55, 56, 57, 97, 98, 99, 100, 101, 102]⟩ : ByteArray)[k].toNat = (T.hexD k).toNat := congrArg UInt8.toNat (dig16_get k hz)
      by_cases hd : T.hexD k = c
      · have HF : Hid ((k : Int) = wth c) := (wth_at c k hk2 hd).symm
        rw [hd] at he
        clear hd HN
        go_wp2_with fail
        go_ret
        exact ⟨ret_int HF.out, rfl⟩
      · have q : (((T.hexD k).toNat : Int) == (c.toNat : Int)) = false := by
          have : (T.hexD k).toNat ≠ c.toNat := fun e => hd (UInt8.toNat_inj.1 e)
          simp; omega
        have HN2 : Hid (∀ j < k + 1, T.hexD j ≠ c) := fun j hj => by
          rcases Nat.lt_or_ge j k with h | h
          · exact HN.out j h
          · obtain rfl : j = k := by omega
            exact hd
        clear hd HN
        go_wp2_with fail
        go_roundw
        case measure => simp [intOf]; omega
        case rel => exact ⟨k + 1, by omega, by go_num, HN2, trivial⟩
    · obtain rfl : k = 16 := by omega
      have HF : Hid ((-1 : Int) = wth c) := (wth_no c (fun j hj => HN.out j hj)).symm
      clear hk hk2 HN
      go_wp2_with fail
      go_ret
      exact ⟨ret_int HF.out, rfl⟩
end Go.Proofs.YtncnogndopgknaaGreatDoor
namespace Go.Proofs.YtncnogndopgknaaGreatDoor
open Go.RowKit
theorem Tryz.info9 : (Tryz.prog.info? 9).map (fun i => (i.zero, i.size, i.bytes)) = some (some (.string ⟨#[]⟩), 1, 16) := by kernel_rfl
theorem wpList_append_one {P : Program} {W w : World} {ops : Array Oper} {rest : List Oper} {o : Oper} {a : Act} {Q : Exit → Act → World → Prop} (hgd : o.guard = none) (s x : Operand) (t e : TypeId)
    (ho : o.op = .call { callee := .builtin .append, args := #[s, x], argTypes := #[t, t] }) (i : TypeInfo) (z : Value) (by' : Nat) (ht : P.underlying t = some (.slice e)) (hi : P.info? e = some i) (hz : i.zero = some z) (hsize : i.size = 1) (hby : i.bytes = by') (hzs : z.cells.size = 1)
    (v : Value) (xs : List Value) (hs : a.eval s = v) (H : HV W w e v xs) (ad : Addr) (c : Nat) (m : Value) (hx : a.eval x = .slice (some ad) 1 c) (hc : w.cell? ad = some m) (hm : m.oneCell' = true) (h63 : xs.length ≤ 1000000000) (hb24 : by' ≤ 24)
    (h : ∀ v' w', HV W w' e v' (xs ++ [m]) → w.grownBy w' v.ownBlock → wpList P ops Q rest (a.put o.dst v') w') : wpList P ops Q (o :: rest) a w := by
  have hc' : ∀ j u, [m][j]? = some u → w.cell? (ad.add j) = some u := by
    intro j u hu
    match j, hu with
    | 0, hu => simp at hu; subst hu; rw [show ad.add 0 = ad from by simp [Addr.add]]; exact hc
  obtain ⟨v', w', hr, h1, h2, _⟩ := run_append_own (P := P) w W.heap.size t o.type e i z 1 by' ht hi hz hsize hby hzs (by decide) v xs.length xs H.own ad 1 c [m] rfl hc' (by intro u hu; simp at hu; subst hu; exact hm) (by unfold maxLen; omega) (by
    have : (xs.length + 1) * by' ≤ 1000000001 * 24 := Nat.mul_le_mul (by omega) hb24
    omega) H.below.size
  refine wpList_plain hgd fun K hK => ?_
  unfold Oper.wp execOp
  simp only [ho, resolve, invoke, builtin, Sem.run_bind, Sem.run_pure, Result.andThen_ok, List.map_toArray, List.map_cons, List.map_nil, hs, hx, hr]
  exact hK _ _ (h _ _ ⟨by simpa using h1, H.below.grown h2 H.below.size fun g hg => (H.own.lt g hg).1⟩ h2)
theorem cell_new (w : World) (u : Value) (e : TypeId) : (w.alloc (.cells #[u] e)).cell? ⟨w.heap.size, 0, none⟩ = some u := by
  rw [World.cell?_alloc_new]; rfl

def strsV (l : List (List UInt8)) : List Value := l.map fun x => .string ⟨x.toArray⟩
theorem strsV_length (l : List (List UInt8)) : (strsV l).length = l.length := by simp [strsV]
theorem strsV_snoc (l : List (List UInt8)) (x : List UInt8) : strsV (l ++ [x]) = strsV l ++ [.string ⟨x.toArray⟩] := by simp [strsV]
theorem cut_lines (l : List UInt8) (done : List (List UInt8)) (x : List UInt8) (h : T.cutL l = done ++ [x]) : T.lines l = if x = [] then done else done ++ [x] := by
  unfold T.lines
  have e : (T.cutL l).getLast (T.cutL_ne l) = x := by
    have g : ∀ (L : List (List UInt8)) (hL : L ≠ []), L = done ++ [x] → L.getLast hL = x := by intro L hL e; subst e; simp
    exact g _ _ h
  rw [e, h]
  simp
def LnPost (W : World) (s : ByteArray) (e : Ending) (W' : World) : Prop :=
  if 65536 < s.size then e = .returned (.tuple #[.slice none 0 0, .int .i64 2]) ∧ Below W.heap.size W W'
  else ∃ v, e = .returned (.tuple #[v, .int .i64 0]) ∧ HV W W' 9 v (strsV (T.lines s.data.toList))
set_option maxRecDepth 20000 in
set_option maxHeartbeats 2000000 in
theorem rlines_any (W : World) (s : ByteArray) (hs : s.size ≤ 1000000000) :
    Calls Tryz.prog 54 #[.string s] W fun e W' => LnPost W s e W' := by
  obtain ⟨i0, hi, hz0, hz1, hz2⟩ := info_parts Tryz.info9
  unfold LnPost
  by_cases hb : 65536 < s.size
  · have c1 : (65536 : Int) < (s.size : Int) := by omega
    simp only [if_pos hb]
    clear hb hs
    go_enter Tryz.func54, Tryz.ntmps54
    go_wp2_with fail
    go_ret2
    exact ⟨rfl, Below.refl _ _⟩
  · have c1 : (s.size : Int) ≤ 65536 := by omega
    simp only [if_neg hb]
    have HSZ : Hid (s.size ≤ 65536) := hid (by omega)
    clear hb hs
    go_enter Tryz.func54, Tryz.ntmps54
    go_wp2_with fail
    go_loopw [4, 5, 6] (fun v f i wr => ∃ (k p : Nat) (done : List (List UInt8)), p ≤ k ∧ k ≤ s.size ∧ i = .int .i64 k ∧ f = .int .i64 p ∧ done.length ≤ p ∧ HV W wr 9 v (strsV done) ∧ Hid (T.cutL s.data.toList = done ++ T.cutL (s.data.toList.drop p) ∧ ∀ c ∈ (s.data.toList.drop p).take (k - p), c ≠ 10)) (fun _ _ i _ => s.size - (intOf i).toNat)
    case atStart => exact ⟨0, 0, [], Nat.le_refl _, Nat.zero_le _, rfl, rfl, Nat.zero_le _, HV.nil 9 (Below.refl _ _), hid ⟨by simp, by simp⟩⟩
    case round =>
      obtain ⟨k, p, done, hpk, hk, rfl, rfl, hdn, F, R⟩ := hrel
      have HF : Hid (HV W wr 9 u4 (strsV done)) := F
      have HH : Hid (p ≤ k ∧ k ≤ s.size ∧ done.length ≤ p) := ⟨hpk, hk, hdn⟩
      have d1 : (p : Int) ≤ (k : Int) := by omega
      have d2 : (k : Int) ≤ (s.size : Int) := by omega
      have HDL : Hid ((strsV done).length ≤ 1000000000) := hid (by rw [strsV_length]; have := HSZ.out; omega)
      clear F hdn
      by_cases hlt : k < s.size
      · have c2 : (k : Int) < (s.size : Int) := by omega
        have hseg : (s.data.toList.drop p).take (k + 1 - p) = (s.data.toList.drop p).take (k - p) ++ [s[k]] := by
          have hk' : k - p < (s.data.toList.drop p).length := by rw [List.length_drop, size_list]; omega
          rw [show k + 1 - p = (k - p) + 1 by omega, List.take_succ_eq_append_getElem hk']
          congr 2
          rw [List.getElem_drop]
          have e : p + (k - p) = k := by omega
          simp only [e]
          rfl
        by_cases hten : s[k].toNat = 10
        · have e10 : ((s[k].toNat : Int) == 10) = true := by rw [hten]; rfl
          have hx := extract_eq s p k
          have H : Hid (T.cutL s.data.toList = (done ++ [(s.data.toList.drop p).take (k - p)]) ++ T.cutL (s.data.toList.drop (k + 1))) := hid (by
            have h1 := R.out.1
            have hsplit : s.data.toList.drop p = (s.data.toList.drop p).take (k - p) ++ 10 :: s.data.toList.drop (k + 1) := by
              have h2 := List.take_append_drop (k + 1 - p) (s.data.toList.drop p)
              rw [hseg, List.drop_drop, show p + (k + 1 - p) = k + 1 by omega, List.append_assoc] at h2
              have e : s[k] = 10 := UInt8.toNat_inj.1 hten
              rw [e] at h2
              exact h2.symm
            conv at h1 => rhs; rw [hsplit]
            rw [T.cutL_line _ _ R.out.2] at h1
            rw [h1, List.append_assoc]
            rfl)
          clear R hseg hten hpk hk
          go_wp2_with (first | (at_builtin; refine wpList_append_one rfl _ _ 88 9 rfl i0 (.string ⟨#[]⟩) 16 Tryz.underlying88 hi hz0 hz1 hz2 rfl _ _ rfl (HF.out.alloc _) _ _ (.string ⟨((s.data.toList.drop p).take (k - p)).toArray⟩) rfl (cell_new _ _ _) rfl HDL.out (by decide) ?_; intro v2 w2 F2 _))
          go_roundw
          case measure => simp [intOf]; omega
          case rel => exact ⟨k + 1, k + 1, done ++ [(s.data.toList.drop p).take (k - p)], Nat.le_refl _, by omega, by go_num, by go_num, by have := HH.out; simp; omega, by rw [strsV_snoc]; exact F2, hid ⟨H.out, by simp⟩⟩
        · have e10 : ((s[k].toNat : Int) == 10) = false := by simp; omega
          have H : Hid (T.cutL s.data.toList = done ++ T.cutL (s.data.toList.drop p) ∧ ∀ c ∈ (s.data.toList.drop p).take (k + 1 - p), c ≠ 10) := hid ⟨R.out.1, by
            rw [hseg]
            intro c hc
            rcases List.mem_append.1 hc with h | h
            · exact R.out.2 c h
            · rw [List.mem_singleton.1 h]
              intro e
              exact hten (by rw [e]; rfl)⟩
          clear R hseg hten hpk hk
          go_wp2_with fail
          go_roundw
          case measure => simp [intOf]; omega
          case rel => exact ⟨k + 1, p, done, by have := HH.out; omega, by omega, by go_num, rfl, HH.out.2.2, HF.out, H⟩
      · obtain rfl : k = s.size := by omega
        have hfull : (s.data.toList.drop p).take (s.size - p) = s.data.toList.drop p := List.take_of_length_le (by rw [List.length_drop, size_list]; exact Nat.le_refl _)
        have hcut := R.out.1
        have hno := R.out.2
        rw [hfull] at hno
        rw [T.cutL_last _ hno] at hcut
        have hln := cut_lines _ _ _ hcut
        by_cases hps : p < s.size
        · have c3 : (p : Int) < (s.size : Int) := by omega
          have hne : s.data.toList.drop p ≠ [] := by
            intro e
            have := congrArg List.length e
            rw [List.length_drop, size_list] at this
            simp at this
            omega
          rw [if_neg hne] at hln
          have HLN : Hid (T.lines s.data.toList = done ++ [s.data.toList.drop p]) := hln
          have hx : s.extract p s.size = ⟨(s.data.toList.drop p).toArray⟩ := by rw [extract_eq, hfull]
          clear R hfull hcut hno hln hne hpk hk hlt
          go_wp2_with (first | (at_builtin; refine wpList_append_one rfl _ _ 88 9 rfl i0 (.string ⟨#[]⟩) 16 Tryz.underlying88 hi hz0 hz1 hz2 rfl _ _ rfl (HF.out.alloc _) _ _ (.string ⟨(s.data.toList.drop p).toArray⟩) rfl (cell_new _ _ _) rfl HDL.out (by decide) ?_; intro v2 w2 F2 _))
          go_ret2
          exact ⟨v2, rfl, by rw [HLN.out, strsV_snoc]; exact F2⟩
        · obtain rfl : p = s.size := by omega
          rw [if_pos (List.drop_eq_nil_of_le (by rw [size_list]; exact Nat.le_refl _))] at hln
          have HLN : Hid (T.lines s.data.toList = done) := hln
          clear R hfull hcut hno hln hpk hk hlt hps
          go_wp2_with fail
          go_ret2
          exact ⟨_, rfl, by rw [HLN.out]; exact HF.out⟩
end Go.Proofs.YtncnogndopgknaaGreatDoor
namespace Go.Proofs.YtncnogndopgknaaGreatDoor
open Go.RowKit
/-- Texts that stand one behind the other. -/
def StrsAt (w : World) (ao : Option Addr) (l : List (List UInt8)) : Prop := l = [] ∨ ∃ b o, ao = some ⟨b, o, none⟩ ∧ b < w.heap.size ∧ ∀ i (h : i < l.length), w.cell? ⟨b, o + i, none⟩ = some (.string ⟨l[i].toArray⟩)
theorem StrsAt.on {W w : World} {ao : Option Addr} {l : List (List UInt8)} (h : StrsAt W ao l) (hb : Below W.heap.size W w) : StrsAt w ao l := by
  rcases h with h0 | ⟨b, o, e, hlt, hc⟩
  · exact .inl h0
  · exact .inr ⟨b, o, e, Nat.lt_of_lt_of_le hlt hb.size, fun i hi => by rw [hb.cell (p := ⟨b, o + i, none⟩) hlt]; exact hc i hi⟩
theorem arr_size (l : List UInt8) : (⟨l.toArray⟩ : ByteArray).size = l.length := by simp [ByteArray.size]

end Go.Proofs.YtncnogndopgknaaGreatDoor
namespace Go.Proofs.YtncnogndopgknaaGreatDoor
open Go.RowKit
theorem split_cells (s : ByteArray) : (Lib.splitB ⟨#[10]⟩ 0 (Lib.countB s ⟨#[10]⟩) s).map Value.string = strsV (T.cutL s.data.toList) := by
  have h := Lib.splitB_data ⟨#[10]⟩ 0 (Lib.countB s ⟨#[10]⟩) s
  have e : Lib.countB s ⟨#[10]⟩ = Lib.count s.data.toList [10] := rfl
  rw [e] at h ⊢
  rw [show (⟨#[10]⟩ : ByteArray).data.toList = [10] from rfl, T.splitK_cut] at h
  unfold strsV
  rw [← h, List.map_map]
  rfl
theorem split_count (s : ByteArray) : Lib.countB s ⟨#[10]⟩ + 1 = (T.cutL s.data.toList).length := by
  have h := Lib.splitB_all ⟨#[10]⟩ (by decide) 0 _ s rfl
  have h2 := congrArg List.length (split_cells s)
  rw [List.length_map, strsV_length] at h2
  omega
theorem cutL_len (l : List UInt8) : (T.cutL l).length ≤ l.length + 1 := by
  induction l with
  | nil => simp [T.cutL]
  | cons c t ih =>
    simp only [T.cutL]
    split
    · simp; omega
    · split
      · rename_i h r e; rw [e] at ih; simp at ih ⊢; omega
      · simp
theorem cutL_each (l : List UInt8) : ∀ y ∈ T.cutL l, y.length ≤ l.length := by
  induction l with
  | nil => simp [T.cutL]
  | cons c t ih =>
    simp only [T.cutL]
    split
    · intro y hy
      rcases List.mem_cons.1 hy with rfl | hy
      · simp
      · have := ih y hy; simp; omega
    · split
      · rename_i h r e
        rw [e] at ih
        intro y hy
        rcases List.mem_cons.1 hy with rfl | hy
        · have := ih h (by simp); simp; omega
        · have := ih y (by simp [hy]); simp; omega
      · simp
theorem HV.made (W : World) (C : Array Value) (e : TypeId) (xs : List Value) (n : Nat) (hC : C = xs.toArray) (hl : xs.length = n) (hm : n ≤ maxLen) : HV W (W.alloc (.cells C e)) e (.slice (some ⟨W.heap.size, 0, none⟩) n n) xs := by
  subst hC hl
  refine ⟨⟨by simp, .inr ⟨W.heap.size, xs.length, _, rfl, Nat.le_refl _, heap_alloc_new W _, Nat.le_refl _, hm, by simp, by simp⟩⟩, (Below.refl _ _).alloc (Nat.le_refl _) _⟩
theorem split_any (s : ByteArray) (m : Int) (w : World) (hs : s.size ≤ 65536) (hm : w.cell? ⟨7, 0, none⟩ = some (.int .i64 m)) :
    Calls Tryz.prog 58 #[.string s, .string ⟨#[10]⟩] w fun e w' => e = .returned (.slice (some ⟨w.heap.size, 0, none⟩) (T.cutL s.data.toList).length (T.cutL s.data.toList).length) ∧ HV w w' 9 (.slice (some ⟨w.heap.size, 0, none⟩) (T.cutL s.data.toList).length (T.cutL s.data.toList).length) (strsV (T.cutL s.data.toList)) := by
  refine (Tryz.strings_Split s ⟨#[10]⟩ m w (by omega) hm (by decide)).mono ?_
  rintro e w' ⟨rfl, rfl⟩
  rw [split_count, split_cells]
  refine ⟨rfl, HV.made w _ 9 _ _ rfl (strsV_length _) ?_⟩
  have := cutL_len s.data.toList
  rw [size_list] at this
  unfold maxLen
  omega
theorem strs_at {W w : World} {g n c : Nat} {l m : List (List UInt8)} (h : HV W w 9 (.slice (some ⟨g, 0, none⟩) n c) (strsV (l ++ m))) : StrsAt w (some ⟨g, 0, none⟩) l := by
  cases hl : l with
  | nil => exact .inl rfl
  | cons a t =>
    rw [← hl]
    have hn : 0 < (strsV (l ++ m)).length := by rw [strsV_length, hl]; simp
    obtain ⟨g', _, _, h1, _, h2, _⟩ := h.form hn
    cases h1
    refine .inr ⟨g, 0, rfl, h2, fun i hi => ?_⟩
    rw [Nat.zero_add]
    refine h.cell i _ ?_
    unfold strsV
    rw [List.getElem?_map, List.getElem?_append_left hi, List.getElem?_eq_getElem hi]
    rfl
theorem set_same (l : List (List UInt8)) (k : Nat) (h : k < l.length) : (strsV l).set k (.string ⟨l[k].toArray⟩) = strsV l := by
  apply List.ext_getElem?
  intro i
  by_cases e : k = i
  · subst e
    rw [List.getElem?_set_self (by rw [strsV_length]; exact h)]
    simp [strsV, h]
  · rw [List.getElem?_set_ne e]
def LiPost (W : World) (l : List UInt8) (e : Ending) (W' : World) : Prop :=
  ∃ g c, e = .returned (.tuple #[.slice (some ⟨g, 0, none⟩) (T.lines l).length c, .int .i64 0]) ∧ StrsAt W' (some ⟨g, 0, none⟩) (T.lines l) ∧ Below W.heap.size W W'
set_option maxRecDepth 20000 in
theorem lines_long (W : World) (s : ByteArray) (hb : 65536 < s.size) (hs : s.size ≤ 1000000000) :
    Calls Tryz.prog 37 #[.string s] W fun e W' => e = .returned (.tuple #[.slice none 0 0, .int .i64 2]) ∧ W' = W := by
  have c1 : (65536 : Int) < (s.size : Int) := by omega
  clear hb hs
  go_enter Tryz.func37, Tryz.ntmps37
  go_wp2_with fail
  go_ret2
  exact ⟨rfl, rfl⟩
set_option maxRecDepth 20000 in
set_option maxHeartbeats 2000000 in
theorem lines_any (W : World) (s : ByteArray) (m : Int) (hs : s.size ≤ 65536) (hm : W.cell? ⟨7, 0, none⟩ = some (.int .i64 m)) :
    Calls Tryz.prog 37 #[.string s] W fun e W' => LiPost W s.data.toList e W' := by
  have c1 : (s.size : Int) ≤ 65536 := by omega
  have HSP := hid (split_any s m W hs hm)
  have hcl := cutL_len s.data.toList
  rw [size_list] at hcl
  obtain ⟨done, x, hcut⟩ : ∃ done x, T.cutL s.data.toList = done ++ [x] := ⟨_, _, (List.dropLast_concat_getLast (T.cutL_ne s.data.toList)).symm⟩
  have HLN := hid (cut_lines _ _ _ hcut)
  rw [hcut] at HSP hcl
  have HXL : Hid (∀ y ∈ done ++ [x], y.length ≤ 1000000000) := hid (fun y hy => by rw [← hcut] at hy; have := cutL_each _ y hy; rw [size_list] at this; omega)
  simp only [List.length_append, List.length_cons, List.length_nil, Nat.zero_add] at HSP hcl
  obtain ⟨n, hn⟩ : ∃ n, done.length = n := ⟨_, rfl⟩
  rw [hn] at HSP hcl
  have HN : Hid (done.length = n) := hn
  have c2 : (n : Int) ≤ 65536 := by omega
  clear hcut hn hm hcl
  rcases List.eq_nil_or_concat x with h0 | ⟨x0, x1, h0⟩
  · subst h0
    rw [if_pos rfl] at HLN
    go_enter Tryz.func37, Tryz.ntmps37
    go_wp2_with (first | (go_at_call 58; refine HSP.out.mono ?_; rintro e w1 ⟨rfl, F⟩; have hcx := F.cell n (.string ⟨([] : List UInt8).toArray⟩) (by rw [strsV_snoc, List.getElem?_append_right (by rw [strsV_length, HN.out]; exact Nat.le_refl _), strsV_length, HN.out]; simp); have HF1 : Hid (HV W w1 9 (.slice (some ⟨W.heap.size, 0, none⟩) (n + 1) (n + 1)) (strsV (done ++ [([] : List UInt8)]))) := F; clear F HSP))
    have HLT : Hid ((done ++ [([] : List UInt8)]).length = n + 1) := hid (by simp [HN.out])
    clear hcx
    generalize W.heap.size = g at *
    generalize hL : done ++ [([] : List UInt8)] = L at *
    have HL : Hid (done ++ [([] : List UInt8)] = L) := hL
    clear hL
    go_loopw [6, 7, 26] (fun _ _ i wr => ∃ k : Nat, k ≤ n ∧ i = .int .i64 k ∧ HV W wr 9 (.slice (some ⟨g, 0, none⟩) (n + 1) (n + 1)) (strsV L)) (fun _ _ i _ => n - (intOf i).toNat)
    case atStart => exact ⟨0, Nat.zero_le _, rfl, HF1.out⟩
    case round =>
      obtain ⟨k, hk, rfl, F⟩ := hrel
      by_cases hlt : k < n
      · have c3 : (k : Int) < ((n : Nat) : Int) := by omega
        have hkl : k < L.length := by rw [HLT.out]; omega
        have hck := F.cell k (.string ⟨L[k].toArray⟩) (by simp [strsV, hkl])
        have hxl := HXL.out L[k] (List.getElem_mem _)
        have HSS := hid (set_same L k hkl)
        have hfr := F.free k
        have HF2 : Hid (HV W wr 9 (.slice (some ⟨g, 0, none⟩) (n + 1) (n + 1)) (strsV L)) := F
        have HY : Hid ((strsV L)[k]? = some (.string ⟨L[k].toArray⟩)) := hid (by simp [strsV, hkl])
        have hsz := arr_size L[k]
        generalize L[k] = y at *
        have HSZ : Hid ((⟨y.toArray⟩ : ByteArray).size ≤ 1000000000) := hid (by omega)
        clear F hkl
        go_wp2_with (first | (go_at_call 59; refine (clone_any _ ⟨y.toArray⟩ HSZ.out).mono ?_; rintro e w2 ⟨rfl, hb2⟩; have F2 := HF2.out.on hb2; have hck2 := F2.cell k _ HY.out; have hfr2 := F2.free k; have HF3 : Hid (HV W (w2.setCell ⟨g, k, none⟩ (.string ⟨y.toArray⟩)) 9 (.slice (some ⟨g, 0, none⟩) (n + 1) (n + 1)) (strsV L)) := hid (by rw [← HSS.out]; have := F2.set k (.string ⟨y.toArray⟩); rw [HSS.out] at this ⊢; exact this); clear F2))
        go_roundw
        case measure => simp [intOf]; omega
        case rel => exact ⟨k + 1, by omega, by go_num, HF3.out⟩
      · obtain rfl : k = n := by omega
        go_wp2_with fail
        go_ret2
        exact ⟨g, k + 1, by rw [HLN.out, HN.out]; rfl, by rw [HLN.out]; exact strs_at (m := [[]]) (by rw [HL.out]; exact F), F.below⟩
  · have hne : x ≠ [] := by rw [h0]; simp
    rw [if_neg hne] at HLN
    have e1 : x.isEmpty = false := by simpa using hne
    clear h0 hne
    go_enter Tryz.func37, Tryz.ntmps37
    go_wp2_with (first | (go_at_call 58; refine HSP.out.mono ?_; rintro e w1 ⟨rfl, F⟩; have hcx := F.cell n (.string ⟨x.toArray⟩) (by rw [strsV_snoc, List.getElem?_append_right (by rw [strsV_length, HN.out]; exact Nat.le_refl _), strsV_length, HN.out]; simp); have HF1 : Hid (HV W w1 9 (.slice (some ⟨W.heap.size, 0, none⟩) (n + 1) (n + 1)) (strsV (done ++ [x]))) := F; clear F HSP))
    have HLT : Hid ((done ++ [x]).length = n + 1) := hid (by simp [HN.out])
    clear hcx
    generalize W.heap.size = g at *
    generalize hL : done ++ [x] = L at *
    have HL : Hid (done ++ [x] = L) := hL
    clear hL
    go_loopw [6, 7, 26] (fun _ _ i wr => ∃ k : Nat, k ≤ (n + 1) ∧ i = .int .i64 k ∧ HV W wr 9 (.slice (some ⟨g, 0, none⟩) (n + 1) (n + 1)) (strsV L)) (fun _ _ i _ => (n + 1) - (intOf i).toNat)
    case atStart => exact ⟨0, Nat.zero_le _, rfl, HF1.out⟩
    case round =>
      obtain ⟨k, hk, rfl, F⟩ := hrel
      by_cases hlt : k < (n + 1)
      · have c3 : (k : Int) < (((n + 1) : Nat) : Int) := by omega
        have hkl : k < L.length := by rw [HLT.out]; omega
        have hck := F.cell k (.string ⟨L[k].toArray⟩) (by simp [strsV, hkl])
        have hxl := HXL.out L[k] (List.getElem_mem _)
        have HSS := hid (set_same L k hkl)
        have hfr := F.free k
        have HF2 : Hid (HV W wr 9 (.slice (some ⟨g, 0, none⟩) (n + 1) (n + 1)) (strsV L)) := F
        have HY : Hid ((strsV L)[k]? = some (.string ⟨L[k].toArray⟩)) := hid (by simp [strsV, hkl])
        have hsz := arr_size L[k]
        generalize L[k] = y at *
        have HSZ : Hid ((⟨y.toArray⟩ : ByteArray).size ≤ 1000000000) := hid (by omega)
        clear F hkl
        go_wp2_with (first | (go_at_call 59; refine (clone_any _ ⟨y.toArray⟩ HSZ.out).mono ?_; rintro e w2 ⟨rfl, hb2⟩; have F2 := HF2.out.on hb2; have hck2 := F2.cell k _ HY.out; have hfr2 := F2.free k; have HF3 : Hid (HV W (w2.setCell ⟨g, k, none⟩ (.string ⟨y.toArray⟩)) 9 (.slice (some ⟨g, 0, none⟩) (n + 1) (n + 1)) (strsV L)) := hid (by rw [← HSS.out]; have := F2.set k (.string ⟨y.toArray⟩); rw [HSS.out] at this ⊢; exact this); clear F2))
        go_roundw
        case measure => simp [intOf]; omega
        case rel => exact ⟨k + 1, by omega, by go_num, HF3.out⟩
      · obtain rfl : k = (n + 1) := by omega
        go_wp2_with fail
        go_ret2
        exact ⟨g, n + 1, by rw [HLN.out, HLT.out]; rfl, by rw [HLN.out]; exact strs_at (m := []) (by rw [List.append_nil]; exact F), F.below⟩
end Go.Proofs.YtncnogndopgknaaGreatDoor
