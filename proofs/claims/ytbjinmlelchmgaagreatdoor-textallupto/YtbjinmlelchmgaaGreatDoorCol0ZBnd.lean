/- Columns, as plain lists; lists of the call's own whose elements take one cell each. How long a table laid in columns can become. -/
import Derived.Test.YtbjinmlelchmgaaGreatDoorKeep
import Derived.Lib.TrimByte
namespace Go.Proofs.YtbjinmlelchmgaaGreatDoor
open Go.RowKit

/-! ### Widths -/
namespace T
/-- The widths behind one more row. -/
def mrg : List Nat → List (List UInt8) → List Nat
  | ws, [] => ws
  | [], c :: r => c.length :: mrg [] r
  | w :: ws, c :: r => max w c.length :: mrg ws r
def widths (rows : List (List (List UInt8))) : List Nat := rows.foldl mrg []
theorem mrg_nil (ws : List Nat) : mrg ws [] = ws := by cases ws <;> rfl
theorem mrg_length (ws : List Nat) (r : List (List UInt8)) : (mrg ws r).length = max ws.length r.length := by
  induction r generalizing ws with
  | nil => simp [mrg_nil]
  | cons c r ih =>
    cases ws with
    | nil => simp [mrg, ih]
    | cons w ws => simp [mrg, ih]
/-- The step at a new column, and at an old one. -/
theorem mrg_snoc_new (r : List (List UInt8)) (c : List UInt8) : ∀ ws : List Nat, (mrg ws r).length = r.length → mrg ws (r ++ [c]) = mrg ws r ++ [c.length] ∨ r.length < ws.length := by
  induction r with
  | nil =>
    intro ws h
    cases ws with
    | nil => left; rfl
    | cons w ws => right; simp
  | cons d r ih =>
    intro ws h
    cases ws with
    | nil =>
      left
      have := ih [] (by simpa [mrg] using h)
      rcases this with h1 | h1
      · simp [mrg, h1]
      · simp at h1
    | cons w ws =>
      have := ih ws (by simpa [mrg] using h)
      rcases this with h1 | h1
      · left; simp [mrg, h1]
      · right; simp; omega
theorem mrg_new (ws : List Nat) (r : List (List UInt8)) (c : List UInt8) (h : (mrg ws r).length = r.length) : mrg ws (r ++ [c]) = mrg ws r ++ [c.length] := by
  rcases mrg_snoc_new r c ws h with h1 | h1
  · exact h1
  · have := mrg_length ws r; omega
theorem mrg_old (r : List (List UInt8)) (c : List UInt8) : ∀ (ws : List Nat) (h : r.length < (mrg ws r).length), mrg ws (r ++ [c]) = (mrg ws r).set r.length (max ((mrg ws r)[r.length]) c.length) := by
  induction r with
  | nil =>
    intro ws h
    cases ws with
    | nil => simp [mrg] at h
    | cons w ws => simp [mrg]
  | cons d r ih =>
    intro ws h
    cases ws with
    | nil =>
      have h1 : r.length < (mrg [] r).length := by simpa [mrg] using h
      simp only [List.cons_append, mrg, ih [] h1, List.length_cons, List.set_cons_succ, List.getElem_cons_succ]
    | cons w ws =>
      have h1 : r.length < (mrg ws r).length := by simpa [mrg] using h
      simp only [List.cons_append, mrg, ih ws h1, List.length_cons, List.set_cons_succ, List.getElem_cons_succ]
theorem widths_snoc (a : List (List (List UInt8))) (r : List (List UInt8)) : widths (a ++ [r]) = mrg (widths a) r := by simp [widths]
/-! ### A row -/
def trim (l : List UInt8) : List UInt8 := Lib.trimRightB l 32
/-- How many cells a row has up to the last that is not blank. -/
def upTo (row : List (List UInt8)) : Nat := (row.reverse.dropWhile fun c => (trim c).isEmpty).length
def fillTo (ws : List Nat) (i : Nat) (c : List UInt8) : List UInt8 := c ++ List.replicate (ws.getD i 0 - c.length) 32 ++ [32, 32]
/-- The first k cells, each with what stands behind it. -/
def fills (ws : List Nat) (row : List (List UInt8)) (k : Nat) : List UInt8 := ((List.range k).map fun i => fillTo ws i (row.getD i [])).flatten
def line (ws : List Nat) (row : List (List UInt8)) : List UInt8 := if upTo row = 0 then [] else fills ws row (upTo row - 1) ++ trim (row.getD (upTo row - 1) [])
theorem fills_succ (ws : List Nat) (row : List (List UInt8)) (k : Nat) : fills ws row (k + 1) = fills ws row k ++ fillTo ws k (row.getD k []) := by simp [fills, List.range_succ]
theorem fills_zero (ws : List Nat) (row : List (List UInt8)) : fills ws row 0 = [] := rfl
def table (rows : List (List (List UInt8))) (ws : List Nat) : List UInt8 := (rows.map fun r => line ws r ++ [10]).flatten
def columns (rows : List (List (List UInt8))) : List UInt8 := table rows (widths rows)
theorem table_snoc (a : List (List (List UInt8))) (r : List (List UInt8)) (ws : List Nat) : table (a ++ [r]) ws = table a ws ++ line ws r ++ [10] := by simp [table]
theorem upTo_le (row : List (List UInt8)) : upTo row ≤ row.length := by
  unfold upTo
  have := (List.dropWhile_suffix (l := row.reverse) fun c => (trim c).isEmpty).length_le
  simpa using this
theorem upTo_take_blank (row : List (List UInt8)) (k : Nat) (h : k < row.length) (hb : (trim row[k]).isEmpty = true) : upTo (row.take (k + 1)) = upTo (row.take k) := by
  unfold upTo
  rw [List.take_succ_eq_append_getElem h, List.reverse_append]
  simp [hb]
theorem upTo_take_full (row : List (List UInt8)) (k : Nat) (h : k < row.length) (hb : (trim row[k]).isEmpty = false) : upTo (row.take (k + 1)) = k + 1 := by
  unfold upTo
  rw [List.take_succ_eq_append_getElem h, List.reverse_append]
  simp [hb]
  omega
end T
/-! ### Own lists of one-cell values -/
structure HV (W wr : World) (e : TypeId) (v : Value) (xs : List Value) : Prop where
  own : wr.ownsRow W.heap.size e 1 v xs.length xs
  below : Below W.heap.size W wr
theorem HV.nil {W w : World} (e : TypeId) (hb : Below W.heap.size W w) : HV W w e (.slice none 0 0) [] := ⟨World.ownsRow_nil w _ e 1, hb⟩
theorem HV.alloc {W wr : World} {e : TypeId} {v : Value} {l : List Value} (h : HV W wr e v l) (o : Obj) : HV W (wr.alloc o) e v l := ⟨h.own.alloc o, h.below.alloc h.below.size o⟩
theorem HV.drew {W wr : World} {e : TypeId} {v : Value} {l : List Value} (h : HV W wr e v l) : HV W wr.drew e v l := ⟨h.own, h.below.drew⟩
theorem HV.on {W wr w : World} {e : TypeId} {v : Value} {l : List Value} (h : HV W wr e v l) (hb : Below wr.heap.size wr w) : HV W w e v l := ⟨own_below h.own hb, h.below.trans (hb.mono h.below.size)⟩
theorem HV.form {W wr : World} {e : TypeId} {v : Value} {xs : List Value} (h : HV W wr e v xs) (hn : 0 < xs.length) : ∃ g cap cur, v = .slice (some ⟨g, 0, none⟩) xs.length cap ∧ W.heap.size ≤ g ∧ g < wr.heap.size ∧ wr.heap[g]? = some (.cells cur e (0, 0)) ∧ xs.length ≤ cap ∧ cap ≤ maxLen ∧ cur.size = cap ∧ cur.toList.take xs.length = xs := by
  rcases h.own.2 with ⟨_, h0⟩ | ⟨g, cap, cur, h1, h2, h3, h4, h5, h6, h7⟩
  · omega
  · exact ⟨g, cap, cur, h1, h2, (Array.getElem?_eq_some_iff.1 h3).1, h3, h4, h5, by omega, by rw [Nat.mul_one] at h7; exact h7⟩
theorem HV.any {W wr : World} {e : TypeId} {v : Value} {xs : List Value} (h : HV W wr e v xs) : ∃ ao cap, v = .slice ao xs.length cap := by
  obtain ⟨ao, cc, hv⟩ := own_form h.own
  exact ⟨ao, cc, hv⟩
theorem HV.cell {W wr : World} {e : TypeId} {g cap : Nat} {xs : List Value} {n : Nat} (h : HV W wr e (.slice (some ⟨g, 0, none⟩) n cap) xs) (j : Nat) (u : Value) (hj : xs[j]? = some u) : wr.cell? ⟨g, j, none⟩ = some u := by
  have := h.own.cells (g := g) rfl j u hj
  rw [Addr.add_mid, Nat.zero_add] at this
  exact this
theorem HV.free {W wr : World} {e : TypeId} {g cap : Nat} {xs : List Value} {n : Nat} (h : HV W wr e (.slice (some ⟨g, 0, none⟩) n cap) xs) (j : Nat) : wr.frozen? ⟨g, j, none⟩ = false := by
  rcases h.own.2 with ⟨h0, _⟩ | ⟨g', cap', cur, h1, h2, h3, _⟩
  · cases h0
  · cases h1
    exact Lib.frozen_of_heap h3 j
theorem HV.set {W wr : World} {e : TypeId} {g cap : Nat} {xs : List Value} {n : Nat} (h : HV W wr e (.slice (some ⟨g, 0, none⟩) n cap) xs) (j : Nat) (u : Value) : HV W (wr.setCell ⟨g, j, none⟩ u) e (.slice (some ⟨g, 0, none⟩) n cap) (xs.set j u) := by
  rcases h.own.2 with ⟨h0, _⟩ | ⟨g', cap', cur, h1, h2, h3, h4, h5, h6, h7⟩
  · cases h0
  · injection h1 with a1 a2 a3
    injection a1 with a1
    injection a1 with a1
    subst a1 a3
    refine ⟨⟨by simp, .inr ⟨g, cap, cur.setIfInBounds j u, ?_, h2, ?_, ?_, h5, by simpa using h6, ?_⟩⟩, h.below.setCell (p := ⟨g, j, none⟩) h2 u⟩
    · rw [List.length_set, a2]
    · exact heap_setCell_same wr g j _ e _ h3
    · rw [List.length_set]; exact h4
    · rw [List.length_set, Array.toList_setIfInBounds, List.take_set, h7]
end Go.Proofs.YtbjinmlelchmgaaGreatDoor
namespace Go.Proofs.YtbjinmlelchmgaaGreatDoor
namespace T.Z
theorem trim_len (l : List UInt8) : (trim l).length ≤ l.length := by
  unfold trim Lib.trimRightB
  have := (List.dropWhile_suffix (l := l.reverse) fun b => b == 32).length_le
  simpa using this
theorem mrg_le (m : Nat) : ∀ (ws : List Nat) (r : List (List UInt8)), (∀ w ∈ ws, w ≤ m) → (∀ c ∈ r, c.length ≤ m) → ∀ w ∈ mrg ws r, w ≤ m
  | ws, [], h, _ => by rw [mrg_nil]; exact h
  | [], c :: r, h, hr => by
    intro w hw
    simp only [mrg, List.mem_cons] at hw
    rcases hw with rfl | hw
    · exact hr c (by simp)
    · exact mrg_le m [] r (fun _ h => by cases h) (fun d hd => hr d (by simp [hd])) w hw
  | x :: ws, c :: r, h, hr => by
    intro w hw
    simp only [mrg, List.mem_cons] at hw
    rcases hw with rfl | hw
    · have h1 := h x (by simp)
      have h2 := hr c (by simp)
      omega
    · exact mrg_le m ws r (fun d hd => h d (by simp [hd])) (fun d hd => hr d (by simp [hd])) w hw
theorem fold_le (m : Nat) : ∀ (rows : List (List (List UInt8))) (ws : List Nat), (∀ w ∈ ws, w ≤ m) → (∀ r ∈ rows, ∀ c ∈ r, c.length ≤ m) → ∀ w ∈ rows.foldl mrg ws, w ≤ m
  | [], ws, h, _ => h
  | r :: rows, ws, h, hr => by
    rw [List.foldl_cons]
    exact fold_le m rows _ (mrg_le m ws r h (hr r (by simp))) (fun x hx => hr x (by simp [hx]))
theorem widths_le (m : Nat) (rows : List (List (List UInt8))) (hr : ∀ r ∈ rows, ∀ c ∈ r, c.length ≤ m) (i : Nat) : (widths rows).getD i 0 ≤ m := by
  rw [List.getD_eq_getElem?_getD]
  rcases Nat.lt_or_ge i (widths rows).length with h | h
  · rw [List.getElem?_eq_getElem h, Option.getD_some]
    exact fold_le m rows [] (fun _ h => by cases h) hr _ (List.getElem_mem h)
  · rw [List.getElem?_eq_none h]; simp
theorem getD_le (m : Nat) (row : List (List UInt8)) (hr : ∀ c ∈ row, c.length ≤ m) (i : Nat) : (row.getD i []).length ≤ m := by
  rw [List.getD_eq_getElem?_getD]
  rcases Nat.lt_or_ge i row.length with h | h
  · rw [List.getElem?_eq_getElem h, Option.getD_some]
    exact hr _ (List.getElem_mem h)
  · rw [List.getElem?_eq_none h]; simp
theorem fills_bd (m : Nat) (ws : List Nat) (hw : ∀ i, ws.getD i 0 ≤ m) (row : List (List UInt8)) (hr : ∀ c ∈ row, c.length ≤ m) : ∀ k, (fills ws row k).length ≤ k * (m + 2)
  | 0 => by simp [fills_zero]
  | k + 1 => by
    have ih := fills_bd m ws hw row hr k
    have h1 := hw k
    have h2 := getD_le m row hr k
    rw [fills_succ, List.length_append, Nat.succ_mul]
    have : (fillTo ws k (row.getD k [])).length ≤ m + 2 := by
      simp only [fillTo, List.length_append, List.length_replicate, List.length_cons, List.length_nil]
      omega
    omega
theorem line_bd (m : Nat) (ws : List Nat) (hw : ∀ i, ws.getD i 0 ≤ m) (row : List (List UInt8)) (hr : ∀ c ∈ row, c.length ≤ m) : (line ws row).length ≤ row.length * (m + 2) := by
  unfold line
  split
  · simp
  · have h0 := upTo_le row
    have h1 := fills_bd m ws hw row hr (upTo row - 1)
    have h2 := trim_len (row.getD (upTo row - 1) [])
    have h3 := getD_le m row hr (upTo row - 1)
    have h4 : (upTo row - 1 + 1) * (m + 2) ≤ row.length * (m + 2) := Nat.mul_le_mul_right _ (by omega)
    rw [Nat.succ_mul] at h4
    rw [List.length_append]
    omega
theorem table_bd (m : Nat) (ws : List Nat) (hw : ∀ i, ws.getD i 0 ≤ m) : ∀ (rows : List (List (List UInt8))), (∀ r ∈ rows, ∀ c ∈ r, c.length ≤ m) → (table rows ws).length ≤ (rows.map List.length).sum * (m + 2) + rows.length
  | [], _ => by simp [table]
  | r :: rows, hr => by
    have ih := table_bd m ws hw rows (fun x hx => hr x (by simp [hx]))
    have h1 := line_bd m ws hw r (hr r (by simp))
    have e : table (r :: rows) ws = line ws r ++ [10] ++ table rows ws := by simp [table]
    rw [e]
    simp only [List.length_append, List.length_cons, List.length_nil, List.map_cons, List.sum_cons, Nat.add_mul]
    omega
/-- What a row and a table weigh. -/
def wr (r : List (List UInt8)) : Nat := (r.map fun c => c.length + 1).sum + 1
def wt (rows : List (List (List UInt8))) : Nat := (rows.map wr).sum
theorem row_in : ∀ (r : List (List UInt8)), r.length + 1 ≤ wr r
  | [] => by simp [wr]
  | c :: r => by
    have := row_in r
    simp only [wr, List.map_cons, List.sum_cons, List.length_cons] at this ⊢
    omega
theorem cell_in : ∀ (r : List (List UInt8)) (c : List UInt8), c ∈ r → c.length + r.length + 1 ≤ wr r
  | d :: r, c, h => by
    have h0 := row_in r
    simp only [wr, List.map_cons, List.sum_cons, List.length_cons] at h0 ⊢
    rcases List.mem_cons.1 h with rfl | h
    · omega
    · have := cell_in r c h
      simp only [wr] at this
      omega
theorem rows_in : ∀ (rows : List (List (List UInt8))), (rows.map List.length).sum + rows.length ≤ wt rows
  | [] => by simp [wt]
  | r :: rows => by
    have h0 := row_in r
    have := rows_in rows
    simp only [wt, List.map_cons, List.sum_cons, List.length_cons] at this ⊢
    omega
theorem all_in : ∀ (rows : List (List (List UInt8))) (r : List (List UInt8)) (c : List UInt8), r ∈ rows → c ∈ r → c.length + (rows.map List.length).sum + rows.length ≤ wt rows
  | x :: rows, r, c, h, hc => by
    have h0 := row_in x
    have h1 := rows_in rows
    simp only [wt, List.map_cons, List.sum_cons, List.length_cons] at h1 ⊢
    rcases List.mem_cons.1 h with rfl | h
    · have := cell_in r c hc
      omega
    · have := all_in rows r c h hc
      simp only [wt] at this
      omega
theorem len_in : ∀ (rows : List (List (List UInt8))) (r : List (List UInt8)), r ∈ rows → r.length ≤ (rows.map List.length).sum
  | x :: rows, r, h => by
    simp only [List.map_cons, List.sum_cons]
    rcases List.mem_cons.1 h with rfl | h
    · omega
    · have := len_in rows r h
      omega
theorem prod_bd (c m : Nat) (h : c + m ≤ 1048576) : c * (m + 2) ≤ 600000000000 := by
  rcases Nat.le_total c 524288 with h1 | h1
  · have : c * (m + 2) ≤ 524288 * 1048578 := Nat.mul_le_mul h1 (by omega)
    omega
  · have : c * (m + 2) ≤ 1048576 * 524290 := Nat.mul_le_mul (by omega) (by omega)
    omega
theorem bounds (rows : List (List (List UInt8))) (h : wt rows ≤ 1048576) :
    rows.length ≤ 1048576 ∧ (∀ r ∈ rows, r.length ≤ 1048576 ∧ ∀ x ∈ r, x.length ≤ 1048576) ∧ (∀ r ∈ rows, (fills (widths rows) r r.length).length ≤ 1000000000000) ∧ (columns rows).length ≤ 1000000000000 := by
  have h0 := rows_in rows
  have hm : ∀ r ∈ rows, ∀ c ∈ r, c.length ≤ 1048576 - (rows.map List.length).sum := fun r hr c hc => by
    have := all_in rows r c hr hc
    omega
  have hw := widths_le _ rows hm
  refine ⟨by omega, fun r hr => ⟨by have := len_in rows r hr; omega, fun x hx => by have := hm r hr x hx; omega⟩, fun r hr => ?_, ?_⟩
  · have h1 := fills_bd _ _ hw r (hm r hr) r.length
    have h2 := len_in rows r hr
    have h3 := prod_bd r.length (1048576 - (rows.map List.length).sum) (by omega)
    omega
  · have h1 := table_bd _ _ hw rows hm
    have h3 := prod_bd (rows.map List.length).sum (1048576 - (rows.map List.length).sum) (by omega)
    show (table rows (widths rows)).length ≤ _
    omega
end T.Z
end Go.Proofs.YtbjinmlelchmgaaGreatDoor
