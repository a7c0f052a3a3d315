/- Columns of numbers: what stands where. -/
import Derived.Test.YtbjinmlelchmgaaDoorCut
import Derived.Test.YtbjinmlelchmgaaDoorNum2
namespace Go.Proofs.YtbjinmlelchmgaaDoor
namespace T
/-- A cell of digits. -/
def digs (c : List UInt8) : Prop := c ≠ [] ∧ ∀ x ∈ c, 48 ≤ x.toNat ∧ x.toNat ≤ 57
theorem digs_plain {c : List UInt8} (h : digs c) : okP ⟨false, c, 0, false⟩ = true := by
  unfold okP plainW
  obtain ⟨h0, h1⟩ := h
  cases c with
  | nil => exact absurd rfl h0
  | cons x t =>
    have hx := h1 x (by simp)
    have e34 : (x.toNat == 34) = false := by simp; omega
    have e35 : (x.toNat == 35) = false := by simp; omega
    simp only [e34, e35, Bool.false_or, Bool.not_false, Bool.true_and]
    rw [List.all_eq_true]
    intro y hy
    have := h1 y hy
    have a1 : y.toNat ≠ 32 := by omega
    have a2 : y.toNat ≠ 9 := by omega
    simp [isGap, a1, a2]
theorem digs_trim {c : List UInt8} (h : digs c) : trim c = c := by
  unfold trim Lib.trimRightB
  obtain ⟨h0, h1⟩ := h
  cases hc : c.reverse with
  | nil => simp at hc; exact absurd hc h0
  | cons x t =>
    have hx := h1 x (by rw [← List.mem_reverse, hc]; simp)
    have : (x == 32) = false := by
      simp only [beq_eq_false_iff_ne, ne_eq]
      rintro rfl
      simp at hx
    rw [List.dropWhile_cons_of_neg (by simp [this]), ← hc, List.reverse_reverse]
theorem digs_upTo (row : List (List UInt8)) (h : ∀ c ∈ row, digs c) : upTo row = row.length := by
  unfold upTo
  cases hr : row.reverse with
  | nil => simp at hr; simp [hr]
  | cons x t =>
    have hx := h x (by rw [← List.mem_reverse, hr]; simp)
    rw [List.dropWhile_cons_of_neg (by rw [digs_trim hx]; have := hx.1; cases x with | nil => exact absurd rfl this | cons _ _ => simp), ← hr, List.length_reverse]
/-- Where column k begins, from 0. -/
def col (ws : List Nat) : Nat → Nat
  | 0 => 0
  | k + 1 => col ws k + (ws.getD k 0 + 2)
def wordsR (ws : List Nat) (row : List (List UInt8)) (k : Nat) : List Wd := (List.range k).map fun j => ⟨row.getD j [], false, col ws j + 1⟩
theorem wordsR_succ (ws : List Nat) (row : List (List UInt8)) (k : Nat) : wordsR ws row (k + 1) = wordsR ws row k ++ [⟨row.getD k [], false, col ws k + 1⟩] := by simp [wordsR, List.range_succ]
theorem wordsR_length (ws : List Nat) (row : List (List UInt8)) (k : Nat) : (wordsR ws row k).length = k := by simp [wordsR]
/-- A row of numbers that fits the widths. -/
structure Fits (ws : List Nat) (row : List (List UInt8)) : Prop where
  dig : ∀ c ∈ row, digs c
  fit : ∀ i, (row.getD i []).length ≤ ws.getD i 0
theorem Fits.at {ws : List Nat} {row : List (List UInt8)} (h : Fits ws row) (k : Nat) (hk : k < row.length) : digs (row.getD k []) := by
  rw [List.getD_eq_getElem?_getD, List.getElem?_eq_getElem hk]
  exact h.dig _ (List.getElem_mem _)
theorem pre_pre2 (a b : List Wd) (r : Nat ⊕ List Wd) : pre a (pre b r) = pre (a ++ b) r := by cases r <;> simp [pre]
theorem rd_fills {ws : List Nat} {row : List (List UInt8)} (h : Fits ws row) : ∀ (k : Nat) (l : List UInt8), k ≤ row.length → rd (fills ws row k ++ l) 0 = pre (wordsR ws row k) (rd l (col ws k)) := by
  intro k
  induction k with
  | zero => intro l _; rw [fills_zero, show wordsR ws row 0 = [] from rfl, pre_nil]; rfl
  | succ k ih =>
    intro l hk
    rw [fills_succ, List.append_assoc, ih _ (by omega), wordsR_succ, ← pre_pre2]
    congr 1
    have hd := h.at k (by omega)
    have hf := h.fit k
    rw [col, fillTo]
    generalize row.getD k [] = c at *
    generalize ws.getD k 0 = w at *
    have hg : (List.replicate (w - c.length) (32 : UInt8) ++ [32, 32]).all isGap = true := by
      rw [List.all_append]
      simp [isGap32]
    have hw := rd_word ⟨false, c, 0, false⟩ (digs_plain hd) ((List.replicate (w - c.length) 32 ++ [32, 32]) ++ l) (parted_gaps _ _ hg (by simp)) (col ws k)
    simp only [wordOf, Bool.false_eq_true, if_false] at hw
    rw [List.append_assoc, List.append_assoc, ← List.append_assoc (List.replicate _ _), hw, rd_gaps _ _ hg]
    have e : (List.replicate (w - c.length) (32 : UInt8) ++ [32, 32]).length = w - c.length + 2 := by simp
    rw [e, Nat.add_assoc, show c.length + (w - c.length + 2) = w + 2 from by omega]
    cases rd l (col ws k + (w + 2)) <;> rfl
/-- The words of a line of numbers. -/
theorem rd_line {ws : List Nat} {row : List (List UInt8)} (h : Fits ws row) : rd (line ws row) 0 = .inr (wordsR ws row row.length) := by
  unfold line
  rw [digs_upTo row h.dig]
  split
  · rename_i h0
    rw [h0, rd_nil]
    rfl
  · rename_i h0
    obtain ⟨k, hk⟩ : ∃ k, row.length = k + 1 := ⟨row.length - 1, by omega⟩
    rw [hk, Nat.add_sub_cancel, rd_fills h k _ (by omega), wordsR_succ]
    have hd := h.at k (by omega)
    rw [digs_trim hd]
    have hw := rd_word ⟨false, row.getD k [], 0, false⟩ (digs_plain hd) [] rfl (col ws k)
    simp only [wordOf, Bool.false_eq_true, if_false, List.append_nil] at hw
    rw [hw, rd_nil]
    rfl
theorem fills_length {ws : List Nat} {row : List (List UInt8)} (h : Fits ws row) : ∀ k, (fills ws row k).length = col ws k := by
  intro k
  induction k with
  | zero => rfl
  | succ k ih =>
    rw [fills_succ, List.length_append, ih, col, fillTo]
    have := h.fit k
    simp only [List.length_append, List.length_replicate, List.length_cons, List.length_nil]
    omega
theorem mem_fills {ws : List Nat} {row : List (List UInt8)} (h : Fits ws row) : ∀ k, k ≤ row.length → ∀ x ∈ fills ws row k, x ≠ 10 := by
  intro k
  induction k with
  | zero => intro _ x hx; rw [fills_zero] at hx; cases hx
  | succ k ih =>
    intro hk x hx
    rw [fills_succ, List.mem_append] at hx
    rcases hx with hx | hx
    · exact ih (by omega) x hx
    · rw [fillTo, List.mem_append, List.mem_append] at hx
      rcases hx with (hx | hx) | hx
      · have := (h.at k (by omega)).2 x hx
        rintro rfl
        simp at this
      · rw [List.mem_replicate] at hx
        rw [hx.2]
        decide
      · simp at hx
        rw [hx]
        decide
theorem line_none {ws : List Nat} {row : List (List UInt8)} (h : row.length = 0) : line ws row = [] := by
  have : row = [] := List.eq_nil_of_length_eq_zero h
  subst this
  rfl
theorem line_some {ws : List Nat} {row : List (List UInt8)} (h : Fits ws row) (k : Nat) (hk : row.length = k + 1) : line ws row = fills ws row k ++ row.getD k [] := by
  unfold line
  rw [digs_upTo row h.dig, hk, if_neg (by omega), Nat.add_sub_cancel, digs_trim (h.at k (by omega))]
theorem line_no10 {ws : List Nat} {row : List (List UInt8)} (h : Fits ws row) : ∀ x ∈ line ws row, x ≠ 10 := by
  intro x hx
  cases hk : row.length with
  | zero => rw [line_none hk] at hx; cases hx
  | succ k =>
    rw [line_some h k hk, List.mem_append] at hx
    rcases hx with hx | hx
    · exact mem_fills h k (by omega) x hx
    · have := (h.at k (by omega)).2 x hx
      rintro rfl
      simp at this
/-- The last byte of a line is no blank. -/
theorem line_last {ws : List Nat} {row : List (List UInt8)} (h : Fits ws row) (hn : 0 < row.length) : 0 < (line ws row).length ∧ ((line ws row).getD ((line ws row).length - 1) 0).toNat ≠ 32 := by
  obtain ⟨k, hk⟩ : ∃ k, row.length = k + 1 := ⟨row.length - 1, by omega⟩
  rw [line_some h k hk]
  have hd := h.at k (by omega)
  generalize fills ws row k = f at *
  generalize row.getD k [] = c at *
  obtain ⟨h0, h1⟩ := hd
  have hl : 0 < c.length := by
    cases c with
    | nil => exact absurd rfl h0
    | cons _ _ => simp
  refine ⟨by simp; omega, ?_⟩
  rw [List.length_append, List.getD_eq_getElem?_getD, List.getElem?_append_right (by omega), List.getElem?_eq_getElem (by omega)]
  have := h1 (c[f.length + c.length - 1 - f.length]'(by omega)) (List.getElem_mem _)
  simp only [Option.getD_some]
  omega
theorem col_le (ws : List Nat) (h : ∀ i, ws.getD i 0 ≤ 10) : ∀ k, col ws k ≤ 12 * k
  | 0 => Nat.le_refl _
  | k + 1 => by have := col_le ws h k; have := h k; rw [col]; omega
theorem line_le {ws : List Nat} {row : List (List UInt8)} (h : Fits ws row) (h10 : ∀ i, ws.getD i 0 ≤ 10) : (line ws row).length ≤ 12 * row.length := by
  cases hk : row.length with
  | zero => rw [line_none hk]; simp
  | succ k =>
    rw [line_some h k hk, List.length_append, fills_length h]
    have := col_le ws h10 k
    have := h.fit k
    have := h10 k
    omega
end T
end Go.Proofs.YtbjinmlelchmgaaDoor
