/- A row put together and trimmed is its line; a column's width by folding. -/
import Derived.Test.YtbjinmlelchmgaaGreatDoorCol0ZBnd
namespace Go.Proofs.YtbjinmlelchmgaaGreatDoor.T

theorem trim_app (a b : List UInt8) : trim (a ++ b) = if (trim b).isEmpty then trim a else a ++ trim b := by
  unfold trim Lib.trimRightB
  rw [List.reverse_append, List.dropWhile_append]
  simp only [List.isEmpty_reverse]
  split <;> simp
theorem trim_app_nil (a b : List UInt8) (h : trim b = []) : trim (a ++ b) = trim a := by rw [trim_app, h]; rfl
theorem trim_sp (m : Nat) : trim (List.replicate m 32) = [] := by
  unfold trim Lib.trimRightB
  rw [List.reverse_replicate, List.reverse_eq_nil_iff]
  induction m with
  | zero => rfl
  | succ m ih => rw [List.replicate_succ, List.dropWhile_cons]; simp [ih]
theorem trim_two : trim [32, 32] = [] := trim_sp 2
theorem fills_same (ws : List Nat) (row : List (List UInt8)) (k n : Nat) (h : k ≤ n) : fills ws (row.take n) k = fills ws row k := by
  unfold fills
  congr 1
  apply List.map_congr_left
  intro i hi
  have hi' : i < k := List.mem_range.1 hi
  congr 1
  rw [List.getD_eq_getElem?_getD, List.getD_eq_getElem?_getD, List.getElem?_take, if_pos (by omega)]
/-- A row as it is put together, its blanks at the end taken away, is its line. -/
theorem trim_row (ws : List Nat) (row : List (List UInt8)) : ∀ (k : Nat) (h : k < row.length), trim (fills ws row k ++ row[k]) = line ws (row.take (k + 1))
  | 0, h => by
    rw [fills_zero, List.nil_append]
    cases hb : (trim row[0]).isEmpty with
    | true =>
      have := upTo_take_blank row 0 h hb
      rw [List.take_zero] at this
      unfold line
      rw [this, show upTo [] = 0 from rfl, if_pos rfl]
      simpa using hb
    | false =>
      have := upTo_take_full row 0 h hb
      unfold line
      rw [this, if_neg (by decide)]
      simp [fills_zero, h]
  | k + 1, h => by
    have ih := trim_row ws row k (by omega)
    rw [trim_app]
    cases hb : (trim row[k + 1]).isEmpty with
    | true =>
      rw [if_pos rfl, fills_succ, trim_app]
      have e1 : trim (fillTo ws k (row.getD k [])) = trim row[k] := by
        unfold fillTo
        rw [trim_app_nil _ _ trim_two, trim_app_nil _ _ (trim_sp _), List.getD_eq_getElem?_getD, List.getElem?_eq_getElem (by omega)]
        rfl
      have hu := upTo_take_blank row (k + 1) h hb
      have hl : line ws (row.take (k + 2)) = line ws (row.take (k + 1)) := by
        unfold line
        rw [hu]
        have hle := upTo_le (row.take (k + 1))
        rw [List.length_take] at hle
        by_cases h0 : upTo (row.take (k + 1)) = 0
        · rw [if_pos h0, if_pos h0]
        · rw [if_neg h0, if_neg h0, fills_same _ _ _ _ (by omega), fills_same _ _ _ _ (by omega), List.getD_eq_getElem?_getD, List.getD_eq_getElem?_getD, List.getElem?_take, List.getElem?_take, if_pos (by omega), if_pos (by omega)]
      rw [hl, ← ih, trim_app, e1]
    | false =>
      have hu := upTo_take_full row (k + 1) h hb
      unfold line
      rw [if_neg (by decide), hu, if_neg (by omega), fills_same _ _ _ _ (by omega), List.getD_eq_getElem?_getD, List.getElem?_take, if_pos (by omega), List.getElem?_eq_getElem (by omega)]
      simp

theorem mrg_getD (r : List (List UInt8)) : ∀ (ws : List Nat) (j : Nat), (mrg ws r).getD j 0 = max (ws.getD j 0) (r.getD j []).length := by
  induction r with
  | nil => intro ws j; rw [mrg_nil]; simp
  | cons c r ih =>
    intro ws j
    cases ws with
    | nil =>
      cases j with
      | zero => simp [mrg]
      | succ j => have := ih [] j; simp [mrg] at this ⊢; exact this
    | cons w ws =>
      cases j with
      | zero => simp [mrg]
      | succ j => have := ih ws j; simp [mrg] at this ⊢; exact this
def widthR (j : Nat) (rows : List (List (List UInt8))) : Nat := rows.foldl (fun w r => max w (r.getD j []).length) 0
theorem widths_fold (j : Nat) (rows : List (List (List UInt8))) : ∀ ws : List Nat, (rows.foldl mrg ws).getD j 0 = rows.foldl (fun w r => max w (r.getD j []).length) (ws.getD j 0) := by
  induction rows with
  | nil => intro ws; rfl
  | cons r rows ih => intro ws; rw [List.foldl_cons, List.foldl_cons, ih, mrg_getD]
theorem widths_getD (j : Nat) (rows : List (List (List UInt8))) : (widths rows).getD j 0 = widthR j rows := widths_fold j rows []
theorem widthR_snoc (j : Nat) (a : List (List (List UInt8))) (r : List (List UInt8)) : widthR j (a ++ [r]) = max (widthR j a) (r.getD j []).length := by simp [widthR, List.foldl_append]
end Go.Proofs.YtbjinmlelchmgaaGreatDoor.T
