import Derived.Test.YtbjinmlelchmgaaGreatDoorP06
import Derived.Lib.TrimByte
import Derived.Test.YtbjinmlelchmgaaGreatDoorP02
import Derived.Test.YtbjinmlelchmgaaGreatDoorP01
namespace Go.Proofs.YtbjinmlelchmgaaGreatDoor
open Go.RowKit
theorem keep_block {w w' : World} {B n g : Nat} {e e' : TypeId} {z : Nat} {v : Value} {xs : List Value} {cur : Array Value} {fr : Nat × Nat} (hown : w.ownsRow B e z v n xs) (h2 : w.grownBy w' v.ownBlock) (hg : w.heap[g]? = some (.cells cur e' fr)) (hne : e' ≠ e) : w'.heap[g]? = some (.cells cur e' fr) := by
  rw [h2.block g (Array.getElem?_eq_some_iff.1 hg).1 ?_]
  · exact hg
  · intro he
    rcases hown.2 with ⟨rfl, _⟩ | ⟨g', cap, cur', rfl, _, hg', _⟩
    · cases he
    · simp only [Value.ownBlock, Option.some.injEq] at he
      subst he
      rw [hg] at hg'
      injection hg' with hh
      injection hh with h1 h2 h3
      exact hne h2
theorem HW.grown {W w w' : World} {u : Value} {ws : List T.Wd} {v : Value} {n : Nat} {xs : List Value} {e : TypeId} {z : Nat} (h : HW W w u ws) (hown : w.ownsRow W.heap.size e z v n xs) (h2 : w.grownBy w' v.ownBlock) (hne : (61 : TypeId) ≠ e) : HW W w' u ws :=
  ⟨⟨h.own.1, h.own.2.imp id fun ⟨g, cap, cur, hv, hb, hg, r⟩ => ⟨g, cap, cur, hv, hb, keep_block hown h2 hg hne, r⟩⟩, h.below.grown h2 h.below.size fun g hg => (hown.lt g hg).1⟩
theorem HB.grown {W w w' : World} {u : Value} {l : List UInt8} {v : Value} {n : Nat} {xs : List Value} {e : TypeId} {z : Nat} (h : HB W w u l) (hown : w.ownsRow W.heap.size e z v n xs) (h2 : w.grownBy w' v.ownBlock) (hne : (5 : TypeId) ≠ e) : HB W w' u l :=
  ⟨⟨h.own.1, h.own.2.imp id fun ⟨g, cap, cur, hv, hb, hg, r⟩ => ⟨g, cap, cur, hv, hb, keep_block hown h2 hg hne, r⟩⟩, h.below.grown h2 h.below.size fun g hg => (hown.lt g hg).1⟩
end Go.Proofs.YtbjinmlelchmgaaGreatDoor
namespace Go.Proofs.YtbjinmlelchmgaaGreatDoor
open Go.RowKit

/-! ### Widths -/
namespace T
def mrg : List Nat → List (List UInt8) → List Nat
  | ws, [] => ws
  | [], c :: r => c.length :: mrg [] r
  | w :: ws, c :: r => max w c.length :: mrg ws r
def widths (rows : List (List (List UInt8))) : List Nat := rows.foldl mrg []
theorem mrg_nil (ws : List Nat) : mrg ws [] = ws := by cases ws <;> rfl
theorem mrg_length (ws : List Nat) (r : List (List UInt8)) : (mrg ws r).length = max ws.length r.length := by
  induction r generalizing ws with
  | nil => simp [mrg_nil]
  | cons c r ih =>
    cases ws with
    | nil => simp [mrg, ih]
    | cons w ws => simp [mrg, ih]
theorem mrg_snoc_new (r : List (List UInt8)) (c : List UInt8) : ∀ ws : List Nat, (mrg ws r).length = r.length → mrg ws (r ++ [c]) = mrg ws r ++ [c.length] ∨ r.length < ws.length := by
  induction r with
  | nil =>
    intro ws h
    cases ws with
    | nil => left; rfl
    | cons w ws => right; simp
  | cons d r ih =>
    intro ws h
    cases ws with
    | nil =>
      left
      have := ih [] (by simpa [mrg] using h)
      rcases this with h1 | h1
      · simp [mrg, h1]
      · simp at h1
    | cons w ws =>
      have := ih ws (by simpa [mrg] using h)
      rcases this with h1 | h1
      · left; simp [mrg, h1]
      · right; simp; omega
theorem mrg_new (ws : List Nat) (r : List (List UInt8)) (c : List UInt8) (h : (mrg ws r).length = r.length) : mrg ws (r ++ [c]) = mrg ws r ++ [c.length] := by
  rcases mrg_snoc_new r c ws h with h1 | h1
  · exact h1
  · have := mrg_length ws r; omega
theorem mrg_old (r : List (List UInt8)) (c : List UInt8) : ∀ (ws : List Nat) (h : r.length < (mrg ws r).length), mrg ws (r ++ [c]) = (mrg ws r).set r.length (max ((mrg ws r)[r.length]) c.length) := by
  induction r with
  | nil =>
    intro ws h
    cases ws with
    | nil => simp [mrg] at h
    | cons w ws => simp [mrg]
  | cons d r ih =>
    intro ws h
    cases ws with
    | nil =>
      have h1 : r.length < (mrg [] r).length := by simpa [mrg] using h
      simp only [List.cons_append, mrg, ih [] h1, List.length_cons, List.set_cons_succ, List.getElem_cons_succ]
    | cons w ws =>
      have h1 : r.length < (mrg ws r).length := by simpa [mrg] using h
      simp only [List.cons_append, mrg, ih ws h1, List.length_cons, List.set_cons_succ, List.getElem_cons_succ]
theorem widths_snoc (a : List (List (List UInt8))) (r : List (List UInt8)) : widths (a ++ [r]) = mrg (widths a) r := by simp [widths]
/-! ### A row -/
def trim (l : List UInt8) : List UInt8 := Lib.trimRightB l 32
def upTo (row : List (List UInt8)) : Nat := (row.reverse.dropWhile fun c => (trim c).isEmpty).length
def fillTo (ws : List Nat) (i : Nat) (c : List UInt8) : List UInt8 := c ++ List.replicate (ws.getD i 0 - c.length) 32 ++ [32, 32]
def fills (ws : List Nat) (row : List (List UInt8)) (k : Nat) : List UInt8 := ((List.range k).map fun i => fillTo ws i (row.getD i [])).flatten
def line (ws : List Nat) (row : List (List UInt8)) : List UInt8 := if upTo row = 0 then [] else fills ws row (upTo row - 1) ++ trim (row.getD (upTo row - 1) [])
theorem fills_succ (ws : List Nat) (row : List (List UInt8)) (k : Nat) : fills ws row (k + 1) = fills ws row k ++ fillTo ws k (row.getD k []) := by simp [fills, List.range_succ]
theorem fills_zero (ws : List Nat) (row : List (List UInt8)) : fills ws row 0 = [] := rfl
def table (rows : List (List (List UInt8))) (ws : List Nat) : List UInt8 := (rows.map fun r => line ws r ++ [10]).flatten
def columns (rows : List (List (List UInt8))) : List UInt8 := table rows (widths rows)
theorem table_snoc (a : List (List (List UInt8))) (r : List (List UInt8)) (ws : List Nat) : table (a ++ [r]) ws = table a ws ++ line ws r ++ [10] := by simp [table]
theorem upTo_le (row : List (List UInt8)) : upTo row ≤ row.length := by
  unfold upTo
  have := (List.dropWhile_suffix (l := row.reverse) fun c => (trim c).isEmpty).length_le
  simpa using this
theorem upTo_take_blank (row : List (List UInt8)) (k : Nat) (h : k < row.length) (hb : (trim row[k]).isEmpty = true) : upTo (row.take (k + 1)) = upTo (row.take k) := by
  unfold upTo
  rw [List.take_succ_eq_append_getElem h, List.reverse_append]
  simp [hb]
theorem upTo_take_full (row : List (List UInt8)) (k : Nat) (h : k < row.length) (hb : (trim row[k]).isEmpty = false) : upTo (row.take (k + 1)) = k + 1 := by
  unfold upTo
  rw [List.take_succ_eq_append_getElem h, List.reverse_append]
  simp [hb]
  omega
end T
/-! ### Own lists of one-cell values -/
structure HV (W wr : World) (e : TypeId) (v : Value) (xs : List Value) : Prop where
  own : wr.ownsRow W.heap.size e 1 v xs.length xs
  below : Below W.heap.size W wr
theorem HV.nil {W w : World} (e : TypeId) (hb : Below W.heap.size W w) : HV W w e (.slice none 0 0) [] := ⟨World.ownsRow_nil w _ e 1, hb⟩
theorem HV.alloc {W wr : World} {e : TypeId} {v : Value} {l : List Value} (h : HV W wr e v l) (o : Obj) : HV W (wr.alloc o) e v l := ⟨h.own.alloc o, h.below.alloc h.below.size o⟩
theorem HV.drew {W wr : World} {e : TypeId} {v : Value} {l : List Value} (h : HV W wr e v l) : HV W wr.drew e v l := ⟨h.own, h.below.drew⟩
theorem HV.on {W wr w : World} {e : TypeId} {v : Value} {l : List Value} (h : HV W wr e v l) (hb : Below wr.heap.size wr w) : HV W w e v l := ⟨own_below h.own hb, h.below.trans (hb.mono h.below.size)⟩
theorem HV.form {W wr : World} {e : TypeId} {v : Value} {xs : List Value} (h : HV W wr e v xs) (hn : 0 < xs.length) : ∃ g cap cur, v = .slice (some ⟨g, 0, none⟩) xs.length cap ∧ W.heap.size ≤ g ∧ g < wr.heap.size ∧ wr.heap[g]? = some (.cells cur e (0, 0)) ∧ xs.length ≤ cap ∧ cap ≤ maxLen ∧ cur.size = cap ∧ cur.toList.take xs.length = xs := by
  rcases h.own.2 with ⟨_, h0⟩ | ⟨g, cap, cur, h1, h2, h3, h4, h5, h6, h7⟩
  · omega
  · exact ⟨g, cap, cur, h1, h2, (Array.getElem?_eq_some_iff.1 h3).1, h3, h4, h5, by omega, by rw [Nat.mul_one] at h7; exact h7⟩
theorem HV.any {W wr : World} {e : TypeId} {v : Value} {xs : List Value} (h : HV W wr e v xs) : ∃ ao cap, v = .slice ao xs.length cap := by
  obtain ⟨ao, cc, hv⟩ := own_form h.own
  exact ⟨ao, cc, hv⟩
theorem HV.cell {W wr : World} {e : TypeId} {g cap : Nat} {xs : List Value} {n : Nat} (h : HV W wr e (.slice (some ⟨g, 0, none⟩) n cap) xs) (j : Nat) (u : Value) (hj : xs[j]? = some u) : wr.cell? ⟨g, j, none⟩ = some u := by
  have := h.own.cells (g := g) rfl j u hj
  rw [Addr.add_mid, Nat.zero_add] at this
  exact this
theorem HV.free {W wr : World} {e : TypeId} {g cap : Nat} {xs : List Value} {n : Nat} (h : HV W wr e (.slice (some ⟨g, 0, none⟩) n cap) xs) (j : Nat) : wr.frozen? ⟨g, j, none⟩ = false := by
  rcases h.own.2 with ⟨h0, _⟩ | ⟨g', cap', cur, h1, h2, h3, _⟩
  · cases h0
  · cases h1
    exact Lib.frozen_of_heap h3 j
theorem HV.set {W wr : World} {e : TypeId} {g cap : Nat} {xs : List Value} {n : Nat} (h : HV W wr e (.slice (some ⟨g, 0, none⟩) n cap) xs) (j : Nat) (u : Value) : HV W (wr.setCell ⟨g, j, none⟩ u) e (.slice (some ⟨g, 0, none⟩) n cap) (xs.set j u) := by
  rcases h.own.2 with ⟨h0, _⟩ | ⟨g', cap', cur, h1, h2, h3, h4, h5, h6, h7⟩
  · cases h0
  · injection h1 with a1 a2 a3
    injection a1 with a1
    injection a1 with a1
    subst a1 a3
    refine ⟨⟨by simp, .inr ⟨g, cap, cur.setIfInBounds j u, ?_, h2, ?_, ?_, h5, by simpa using h6, ?_⟩⟩, h.below.setCell (p := ⟨g, j, none⟩) h2 u⟩
    · rw [List.length_set, a2]
    · exact heap_setCell_same wr g j _ e _ h3
    · rw [List.length_set]; exact h4
    · rw [List.length_set, Array.toList_setIfInBounds, List.take_set, h7]
end Go.Proofs.YtbjinmlelchmgaaGreatDoor
namespace Go.Proofs.YtbjinmlelchmgaaGreatDoor
namespace T.Z
theorem trim_len (l : List UInt8) : (trim l).length ≤ l.length := by
  unfold trim Lib.trimRightB
  have := (List.dropWhile_suffix (l := l.reverse) fun b => b == 32).length_le
  simpa using this
theorem mrg_le (m : Nat) : ∀ (ws : List Nat) (r : List (List UInt8)), (∀ w ∈ ws, w ≤ m) → (∀ c ∈ r, c.length ≤ m) → ∀ w ∈ mrg ws r, w ≤ m
  | ws, [], h, _ => by rw [mrg_nil]; exact h
  | [], c :: r, h, hr => by
    intro w hw
    simp only [mrg, List.mem_cons] at hw
    rcases hw with rfl | hw
    · exact hr c (by simp)
    · exact mrg_le m [] r (fun _ h => by cases h) (fun d hd => hr d (by simp [hd])) w hw
  | x :: ws, c :: r, h, hr => by
    intro w hw
    simp only [mrg, List.mem_cons] at hw
    rcases hw with rfl | hw
    · have h1 := h x (by simp)
      have h2 := hr c (by simp)
      omega
    · exact mrg_le m ws r (fun d hd => h d (by simp [hd])) (fun d hd => hr d (by simp [hd])) w hw
theorem fold_le (m : Nat) : ∀ (rows : List (List (List UInt8))) (ws : List Nat), (∀ w ∈ ws, w ≤ m) → (∀ r ∈ rows, ∀ c ∈ r, c.length ≤ m) → ∀ w ∈ rows.foldl mrg ws, w ≤ m
  | [], ws, h, _ => h
  | r :: rows, ws, h, hr => by
    rw [List.foldl_cons]
    exact fold_le m rows _ (mrg_le m ws r h (hr r (by simp))) (fun x hx => hr x (by simp [hx]))
theorem widths_le (m : Nat) (rows : List (List (List UInt8))) (hr : ∀ r ∈ rows, ∀ c ∈ r, c.length ≤ m) (i : Nat) : (widths rows).getD i 0 ≤ m := by
  rw [List.getD_eq_getElem?_getD]
  rcases Nat.lt_or_ge i (widths rows).length with h | h
  · rw [List.getElem?_eq_getElem h, Option.getD_some]
    exact fold_le m rows [] (fun _ h => by cases h) hr _ (List.getElem_mem h)
  · rw [List.getElem?_eq_none h]; simp
theorem getD_le (m : Nat) (row : List (List UInt8)) (hr : ∀ c ∈ row, c.length ≤ m) (i : Nat) : (row.getD i []).length ≤ m := by
  rw [List.getD_eq_getElem?_getD]
  rcases Nat.lt_or_ge i row.length with h | h
  · rw [List.getElem?_eq_getElem h, Option.getD_some]
    exact hr _ (List.getElem_mem h)
  · rw [List.getElem?_eq_none h]; simp
theorem fills_bd (m : Nat) (ws : List Nat) (hw : ∀ i, ws.getD i 0 ≤ m) (row : List (List UInt8)) (hr : ∀ c ∈ row, c.length ≤ m) : ∀ k, (fills ws row k).length ≤ k * (m + 2)
  | 0 => by simp [fills_zero]
  | k + 1 => by
    have ih := fills_bd m ws hw row hr k
    have h1 := hw k
    have h2 := getD_le m row hr k
    rw [fills_succ, List.length_append, Nat.succ_mul]
    have : (fillTo ws k (row.getD k [])).length ≤ m + 2 := by
      simp only [fillTo, List.length_append, List.length_replicate, List.length_cons, List.length_nil]
      omega
    omega
theorem line_bd (m : Nat) (ws : List Nat) (hw : ∀ i, ws.getD i 0 ≤ m) (row : List (List UInt8)) (hr : ∀ c ∈ row, c.length ≤ m) : (line ws row).length ≤ row.length * (m + 2) := by
  unfold line
  split
  · simp
  · have h0 := upTo_le row
    have h1 := fills_bd m ws hw row hr (upTo row - 1)
    have h2 := trim_len (row.getD (upTo row - 1) [])
    have h3 := getD_le m row hr (upTo row - 1)
    have h4 : (upTo row - 1 + 1) * (m + 2) ≤ row.length * (m + 2) := Nat.mul_le_mul_right _ (by omega)
    rw [Nat.succ_mul] at h4
    rw [List.length_append]
    omega
theorem table_bd (m : Nat) (ws : List Nat) (hw : ∀ i, ws.getD i 0 ≤ m) : ∀ (rows : List (List (List UInt8))), (∀ r ∈ rows, ∀ c ∈ r, c.length ≤ m) → (table rows ws).length ≤ (rows.map List.length).sum * (m + 2) + rows.length
  | [], _ => by simp [table]
  | r :: rows, hr => by
    have ih := table_bd m ws hw rows (fun x hx => hr x (by simp [hx]))
    have h1 := line_bd m ws hw r (hr r (by simp))
    have e : table (r :: rows) ws = line ws r ++ [10] ++ table rows ws := by simp [table]
    rw [e]
    simp only [List.length_append, List.length_cons, List.length_nil, List.map_cons, List.sum_cons, Nat.add_mul]
    omega
def wr (r : List (List UInt8)) : Nat := (r.map fun c => c.length + 1).sum + 1
def wt (rows : List (List (List UInt8))) : Nat := (rows.map wr).sum
theorem row_in : ∀ (r : List (List UInt8)), r.length + 1 ≤ wr r
  | [] => by simp [wr]
  | c :: r => by
    have := row_in r
    simp only [wr, List.map_cons, List.sum_cons, List.length_cons] at this ⊢
    omega
theorem cell_in : ∀ (r : List (List UInt8)) (c : List UInt8), c ∈ r → c.length + r.length + 1 ≤ wr r
  | d :: r, c, h => by
    have h0 := row_in r
    simp only [wr, List.map_cons, List.sum_cons, List.length_cons] at h0 ⊢
    rcases List.mem_cons.1 h with rfl | h
    · omega
    · have := cell_in r c h
      simp only [wr] at this
      omega
theorem rows_in : ∀ (rows : List (List (List UInt8))), (rows.map List.length).sum + rows.length ≤ wt rows
  | [] => by simp [wt]
  | r :: rows => by
    have h0 := row_in r
    have := rows_in rows
    simp only [wt, List.map_cons, List.sum_cons, List.length_cons] at this ⊢
    omega
theorem all_in : ∀ (rows : List (List (List UInt8))) (r : List (List UInt8)) (c : List UInt8), r ∈ rows → c ∈ r → c.length + (rows.map List.length).sum + rows.length ≤ wt rows
  | x :: rows, r, c, h, hc => by
    have h0 := row_in x
    have h1 := rows_in rows
    simp only [wt, List.map_cons, List.sum_cons, List.length_cons] at h1 ⊢
    rcases List.mem_cons.1 h with rfl | h
    · have := cell_in r c hc
      omega
    · have := all_in rows r c h hc
      simp only [wt] at this
      omega
theorem len_in : ∀ (rows : List (List (List UInt8))) (r : List (List UInt8)), r ∈ rows → r.length ≤ (rows.map List.length).sum
  | x :: rows, r, h => by
    simp only [List.map_cons, List.sum_cons]
    rcases List.mem_cons.1 h with rfl | h
    · omega
    · have := len_in rows r h
      omega
theorem prod_bd (c m : Nat) (h : c + m ≤ 1048576) : c * (m + 2) ≤ 600000000000 := by
  rcases Nat.le_total c 524288 with h1 | h1
  · have : c * (m + 2) ≤ 524288 * 1048578 := Nat.mul_le_mul h1 (by omega)
    omega
  · have : c * (m + 2) ≤ 1048576 * 524290 := Nat.mul_le_mul (by omega) (by omega)
    omega
theorem bounds (rows : List (List (List UInt8))) (h : wt rows ≤ 1048576) :
    rows.length ≤ 1048576 ∧ (∀ r ∈ rows, r.length ≤ 1048576 ∧ ∀ x ∈ r, x.length ≤ 1048576) ∧ (∀ r ∈ rows, (fills (widths rows) r r.length).length ≤ 1000000000000) ∧ (columns rows).length ≤ 1000000000000 := by
  have h0 := rows_in rows
  have hm : ∀ r ∈ rows, ∀ c ∈ r, c.length ≤ 1048576 - (rows.map List.length).sum := fun r hr c hc => by
    have := all_in rows r c hr hc
    omega
  have hw := widths_le _ rows hm
  refine ⟨by omega, fun r hr => ⟨by have := len_in rows r hr; omega, fun x hx => by have := hm r hr x hx; omega⟩, fun r hr => ?_, ?_⟩
  · have h1 := fills_bd _ _ hw r (hm r hr) r.length
    have h2 := len_in rows r hr
    have h3 := prod_bd r.length (1048576 - (rows.map List.length).sum) (by omega)
    omega
  · have h1 := table_bd _ _ hw rows hm
    have h3 := prod_bd (rows.map List.length).sum (1048576 - (rows.map List.length).sum) (by omega)
    show (table rows (widths rows)).length ≤ _
    omega
end T.Z
end Go.Proofs.YtbjinmlelchmgaaGreatDoor
namespace Go.Proofs.YtbjinmlelchmgaaGreatDoor.T

theorem trim_app (a b : List UInt8) : trim (a ++ b) = if (trim b).isEmpty then trim a else a ++ trim b := by
  unfold trim Lib.trimRightB
  rw [List.reverse_append, List.dropWhile_append]
  simp only [List.isEmpty_reverse]
  split <;> simp
theorem trim_app_nil (a b : List UInt8) (h : trim b = []) : trim (a ++ b) = trim a := by rw [trim_app, h]; rfl
theorem trim_sp (m : Nat) : trim (List.replicate m 32) = [] := by
  unfold trim Lib.trimRightB
  rw [List.reverse_replicate, List.reverse_eq_nil_iff]
  induction m with
  | zero => rfl
  | succ m ih => rw [List.replicate_succ, List.dropWhile_cons]; simp [ih]
theorem trim_two : trim [32, 32] = [] := trim_sp 2
theorem fills_same (ws : List Nat) (row : List (List UInt8)) (k n : Nat) (h : k ≤ n) : fills ws (row.take n) k = fills ws row k := by
  unfold fills
  congr 1
  apply List.map_congr_left
  intro i hi
  have hi' : i < k := List.mem_range.1 hi
  congr 1
  rw [List.getD_eq_getElem?_getD, List.getD_eq_getElem?_getD, List.getElem?_take, if_pos (by omega)]
theorem trim_row (ws : List Nat) (row : List (List UInt8)) : ∀ (k : Nat) (h : k < row.length), trim (fills ws row k ++ row[k]) = line ws (row.take (k + 1))
  | 0, h => by
    rw [fills_zero, List.nil_append]
    cases hb : (trim row[0]).isEmpty with
    | true =>
      have := upTo_take_blank row 0 h hb
      rw [List.take_zero] at this
      unfold line
      rw [this, show upTo [] = 0 from rfl, if_pos rfl]
      simpa using hb
    | false =>
      have := upTo_take_full row 0 h hb
      unfold line
      rw [this, if_neg (by decide)]
      simp [fills_zero, h]
  | k + 1, h => by
    have ih := trim_row ws row k (by omega)
    rw [trim_app]
    cases hb : (trim row[k + 1]).isEmpty with
    | true =>
      rw [if_pos rfl, fills_succ, trim_app]
      have e1 : trim (fillTo ws k (row.getD k [])) = trim row[k] := by
        unfold fillTo
        rw [trim_app_nil _ _ trim_two, trim_app_nil _ _ (trim_sp _), List.getD_eq_getElem?_getD, List.getElem?_eq_getElem (by omega)]
        rfl
      have hu := upTo_take_blank row (k + 1) h hb
      have hl : line ws (row.take (k + 2)) = line ws (row.take (k + 1)) := by
        unfold line
        rw [hu]
        have hle := upTo_le (row.take (k + 1))
        rw [List.length_take] at hle
        by_cases h0 : upTo (row.take (k + 1)) = 0
        · rw [if_pos h0, if_pos h0]
        · rw [if_neg h0, if_neg h0, fills_same _ _ _ _ (by omega), fills_same _ _ _ _ (by omega), List.getD_eq_getElem?_getD, List.getD_eq_getElem?_getD, List.getElem?_take, List.getElem?_take, if_pos (by omega), if_pos (by omega)]
      rw [hl, ← ih, trim_app, e1]
    | false =>
      have hu := upTo_take_full row (k + 1) h hb
      unfold line
      rw [if_neg (by decide), hu, if_neg (by omega), fills_same _ _ _ _ (by omega), List.getD_eq_getElem?_getD, List.getElem?_take, if_pos (by omega), List.getElem?_eq_getElem (by omega)]
      simp

theorem mrg_getD (r : List (List UInt8)) : ∀ (ws : List Nat) (j : Nat), (mrg ws r).getD j 0 = max (ws.getD j 0) (r.getD j []).length := by
  induction r with
  | nil => intro ws j; rw [mrg_nil]; simp
  | cons c r ih =>
    intro ws j
    cases ws with
    | nil =>
      cases j with
      | zero => simp [mrg]
      | succ j => have := ih [] j; simp [mrg] at this ⊢; exact this
    | cons w ws =>
      cases j with
      | zero => simp [mrg]
      | succ j => have := ih ws j; simp [mrg] at this ⊢; exact this
def widthR (j : Nat) (rows : List (List (List UInt8))) : Nat := rows.foldl (fun w r => max w (r.getD j []).length) 0
theorem widths_fold (j : Nat) (rows : List (List (List UInt8))) : ∀ ws : List Nat, (rows.foldl mrg ws).getD j 0 = rows.foldl (fun w r => max w (r.getD j []).length) (ws.getD j 0) := by
  induction rows with
  | nil => intro ws; rfl
  | cons r rows ih => intro ws; rw [List.foldl_cons, List.foldl_cons, ih, mrg_getD]
theorem widths_getD (j : Nat) (rows : List (List (List UInt8))) : (widths rows).getD j 0 = widthR j rows := widths_fold j rows []
theorem widthR_snoc (j : Nat) (a : List (List (List UInt8))) (r : List (List UInt8)) : widthR j (a ++ [r]) = max (widthR j a) (r.getD j []).length := by simp [widthR, List.foldl_append]
end Go.Proofs.YtbjinmlelchmgaaGreatDoor.T
namespace Go.Proofs.YtbjinmlelchmgaaGreatDoor
open Go.RowKit

theorem rplain_any (c : UInt8) (w : World) : Calls Tryz.prog 74 #[.int .u8 (c.toNat : Int)] w fun e w' => e = .returned (.bool (T.itself c)) ∧ w = w' := by
  have hc := c.toNat_lt
  go_enter Tryz.func74, Tryz.ntmps74
  go_wp2
  all_goals go_ret
  all_goals exact ⟨ret_bool (by rw [Bool.eq_iff_iff]; simp [T.itself]; omega), rfl⟩
theorem rparts_any (c : UInt8) (w : World) : Calls Tryz.prog 51 #[.int .u8 (c.toNat : Int)] w fun e w' => e = .returned (.bool (T.isGap c)) ∧ w = w' := by
  have hc := c.toNat_lt
  go_enter Tryz.func51, Tryz.ntmps51
  go_wp2
  all_goals go_ret
  all_goals exact ⟨ret_bool (by rw [Bool.eq_iff_iff]; simp [T.isGap]; omega), rfl⟩
def wth (c : UInt8) : Int := match T.hexV c with
  | some d => (d : Int)
  | none => -1
theorem wth_at (c : UInt8) (k : Nat) (hk : k < 16) (h : T.hexD k = c) : wth c = (k : Int) := by
  unfold wth; rw [← h, T.hexD_inv k hk]
theorem wth_no (c : UInt8) (h : ∀ k < 16, T.hexD k ≠ c) : wth c = -1 := by
  unfold wth
  cases hv : T.hexV c with
  | none => rfl
  | some d => exact absurd (T.hexV_lt hv).2 (h d (T.hexV_lt hv).1)
def dig16 : ByteArray := ⟨#[48, 49, 50, 51, 52, 53, 54, 55, 56, 57, 97, 98, 99, 100, 101, 102]⟩
theorem dig16_get : ∀ k (h : k < dig16.size), dig16[k] = T.hexD k := by decide +kernel
theorem worth_any (c : UInt8) (w : World) : Calls Tryz.prog 60 #[.int .u8 (c.toNat : Int)] w fun e w' => e = .returned (.int .i64 (wth c)) ∧ w = w' := by
  have hc := c.toNat_lt
  go_enter Tryz.func60, Tryz.ntmps60
  go_wp2_with fail
  go_loopw [3] (fun i wr => ∃ k : Nat, k ≤ 16 ∧ i = .int .i64 k ∧ Hid (∀ j < k, T.hexD j ≠ c) ∧ w = wr) (fun i _ => 16 - (intOf i).toNat)
  case atStart => exact ⟨0, Nat.zero_le _, rfl, fun j hj => by omega, rfl⟩
  case round =>
    obtain ⟨k, hk, rfl, HN, rfl⟩ := hrel
    by_cases hk2 : k < 16
    · have c1 : (k : Int) < 16 := by omega
      have hz : k < (⟨#[48, 49, 50, 51, 52, 53, 54, 55, 56, 57, 97, 98, 99, 100, 101, 102]⟩ : ByteArray).size := hk2
      have he : (⟨#[48, 49, 50, 51, 52, 53, 54, 55, 56, 57, 97, 98, 99, 100, 101, 102]⟩ : ByteArray)[k].toNat = (T.hexD k).toNat := congrArg UInt8.toNat (dig16_get k hz)
      by_cases hd : T.hexD k = c
      · have HF : Hid ((k : Int) = wth c) := (wth_at c k hk2 hd).symm
        rw [hd] at he
        clear hd HN
        go_wp2_with fail
        go_ret
        exact ⟨ret_int HF.out, rfl⟩
      · have q : (((T.hexD k).toNat : Int) == (c.toNat : Int)) = false := by
          have : (T.hexD k).toNat ≠ c.toNat := fun e => hd (UInt8.toNat_inj.1 e)
          simp; omega
        have HN2 : Hid (∀ j < k + 1, T.hexD j ≠ c) := fun j hj => by
          rcases Nat.lt_or_ge j k with h | h
          · exact HN.out j h
          · obtain rfl : j = k := by omega
            exact hd
        clear hd HN
        go_wp2_with fail
        go_roundw
        case measure => simp [intOf]; omega
        case rel => exact ⟨k + 1, by omega, by go_num, HN2, trivial⟩
    · obtain rfl : k = 16 := by omega
      have HF : Hid ((-1 : Int) = wth c) := (wth_no c (fun j hj => HN.out j hj)).symm
      clear hk hk2 HN
      go_wp2_with fail
      go_ret
      exact ⟨ret_int HF.out, rfl⟩
end Go.Proofs.YtbjinmlelchmgaaGreatDoor
namespace Go.Proofs.YtbjinmlelchmgaaGreatDoor
open Go.RowKit
def StrsAt (w : World) (ao : Option Addr) (l : List (List UInt8)) : Prop := l = [] ∨ ∃ b o, ao = some ⟨b, o, none⟩ ∧ b < w.heap.size ∧ ∀ i (h : i < l.length), w.cell? ⟨b, o + i, none⟩ = some (.string ⟨l[i].toArray⟩)
def RowsAt (w : World) (ao : Option Addr) (l : List (List (List UInt8))) : Prop := l = [] ∨ ∃ b o, ao = some ⟨b, o, none⟩ ∧ b < w.heap.size ∧ ∀ i (h : i < l.length), ∃ ai ci, w.cell? ⟨b, o + i, none⟩ = some (.slice ai l[i].length ci) ∧ StrsAt w ai l[i]
theorem StrsAt.on {W w : World} {ao : Option Addr} {l : List (List UInt8)} (h : StrsAt W ao l) (hb : Below W.heap.size W w) : StrsAt w ao l := by
  rcases h with h0 | ⟨b, o, e, hlt, hc⟩
  · exact .inl h0
  · exact .inr ⟨b, o, e, Nat.lt_of_lt_of_le hlt hb.size, fun i hi => by rw [hb.cell (p := ⟨b, o + i, none⟩) hlt]; exact hc i hi⟩
theorem RowsAt.on {W w : World} {ao : Option Addr} {l : List (List (List UInt8))} (h : RowsAt W ao l) (hb : Below W.heap.size W w) : RowsAt w ao l := by
  rcases h with h0 | ⟨b, o, e, hlt, hc⟩
  · exact .inl h0
  · refine .inr ⟨b, o, e, Nat.lt_of_lt_of_le hlt hb.size, fun i hi => ?_⟩
    obtain ⟨ai, ci, h1, h2⟩ := hc i hi
    exact ⟨ai, ci, by rw [hb.cell (p := ⟨b, o + i, none⟩) hlt]; exact h1, h2.on hb⟩
theorem arr_size (l : List UInt8) : (⟨l.toArray⟩ : ByteArray).size = l.length := by simp [ByteArray.size]

set_option maxRecDepth 20000 in
theorem rcell_any (W : World) (ao : Option Addr) (n c : Nat) (row : List (List UInt8)) (j : Nat) (hl : row.length = n) (hj : j ≤ 1000000000) (hat : StrsAt W ao row) :
    Calls Tryz.prog 79 #[.slice ao n c, .int .i64 j] W fun e w' => e = .returned (.string ⟨(row.getD j []).toArray⟩) ∧ w' = W := by
  by_cases hlt : j < n
  · have c1 : (j : Int) < (n : Int) := by omega
    rcases hat with h0 | ⟨b, o, rfl, hb, hc⟩
    · rw [h0] at hl; simp at hl; omega
    · have hcj := hc j (by omega)
      rw [List.getD_eq_getElem?_getD, List.getElem?_eq_getElem (by omega), Option.getD_some]
      generalize row[j] = x at *
      clear hc hl
      go_enter Tryz.func79, Tryz.ntmps79
      go_wp2_with fail
      go_ret
      exact ⟨rfl, rfl⟩
  · have c1 : ¬ ((j : Int) < (n : Int)) := by omega
    rw [List.getD_eq_getElem?_getD, List.getElem?_eq_none (by omega), Option.getD_none]
    clear hl hat
    go_enter Tryz.func79, Tryz.ntmps79
    go_wp2_with fail
    go_ret
    exact ⟨rfl, rfl⟩
set_option maxRecDepth 20000 in
set_option maxHeartbeats 1000000 in
theorem rwidth_any (W : World) (ao : Option Addr) (n c : Nat) (rows : List (List (List UInt8))) (j : Nat) (hl : rows.length = n) (hn : n ≤ 1000000000) (hj : j ≤ 1000000000) (hr : ∀ r ∈ rows, r.length ≤ 1000000000 ∧ ∀ x ∈ r, x.length ≤ 1000000000) (hat : RowsAt W ao rows) :
    Calls Tryz.prog 58 #[.slice ao n c, .int .i64 j] W fun e w' => e = .returned (.int .i64 (T.widthR j rows : Nat)) ∧ w' = W := by
  have b1 : (n : Int) ≤ 1000000000 := by omega
  have HA : Hid (RowsAt W ao rows) := hat
  have HR : Hid (∀ r ∈ rows, r.length ≤ 1000000000 ∧ ∀ x ∈ r, x.length ≤ 1000000000) := hr
  clear hat hr
  go_enter Tryz.func58, Tryz.ntmps58
  go_wp2_with fail
  go_loopw [5, 6, 7] (fun w i _ wr => wr = W ∧ ∃ k : Nat, k ≤ n ∧ i = .int .i64 k ∧ w = .int .i64 (T.widthR j (rows.take k) : Nat)) (fun _ i _ _ => n - (intOf i).toNat)
  case atStart => exact ⟨rfl, 0, Nat.zero_le _, rfl, rfl⟩
  case round =>
    obtain ⟨rfl, k, hk, rfl, rfl⟩ := hrel
    by_cases hlt : k < n
    · have c1 : (k : Int) < (n : Int) := by omega
      rcases HA.out with h0 | ⟨b, off, rfl, hb, hc⟩
      · rw [h0] at hl; simp at hl; omega
      · obtain ⟨ai, ci, hck, hs⟩ := hc k (by omega)
        obtain ⟨hm, hx⟩ := HR.out rows[k] (List.getElem_mem _)
        have HX : Hid (T.widthR j (rows.take (k + 1)) = max (T.widthR j (rows.take k)) (rows[k].getD j []).length) := hid (by rw [List.take_succ_eq_append_getElem (by omega), T.widthR_snoc])
        have HS : Hid (StrsAt wr ai rows[k]) := hs
        clear hs hx hc
        generalize rows[k] = row at *
        generalize T.widthR j (rows.take k) = ws at *
        obtain ⟨m, hml⟩ : ∃ m, row.length = m := ⟨_, rfl⟩
        rw [hml] at hck hm
        have HM : Hid (row.length = m) := hml
        have hsz := arr_size (row.getD j [])
        generalize hg : row.getD j [] = x at *
        have HG : Hid (row.getD j [] = x) := hg
        clear hml hm hg
        by_cases hw : ws < x.length
        · have c2 : (ws : Int) < (x.length : Int) := by omega
          go_wp2_with (first | (go_at_call 79; refine (rcell_any wr ai m ci row j HM.out hj HS.out).mono ?_; rintro e w' ⟨rfl, rfl⟩; rw [HG.out]))
          go_roundw
          case measure => simp [intOf]; omega
          case rel => exact ⟨trivial, k + 1, by omega, by go_num, by rw [HX.out, Nat.max_eq_right (by omega)]⟩
        · have c2 : (x.length : Int) ≤ (ws : Int) := by omega
          go_wp2_with (first | (go_at_call 79; refine (rcell_any wr ai m ci row j HM.out hj HS.out).mono ?_; rintro e w' ⟨rfl, rfl⟩; rw [HG.out]))
          go_roundw
          case measure => simp [intOf]; omega
          case rel => exact ⟨trivial, k + 1, by omega, by go_num, by rw [HX.out, Nat.max_eq_left (by omega)]⟩
    · obtain rfl : k = n := by omega
      rw [List.take_of_length_le (by omega)]
      clear hl
      go_wp2_with fail
      go_ret
      exact ⟨rfl, rfl⟩
end Go.Proofs.YtbjinmlelchmgaaGreatDoor
