/- WalkLocal's own: what a walk hangs on. -/
import Derived.Test.YtgbpbfnpeeciaaaB1
import Derived.Test.YtgbpbfnpeeciaaaK2
namespace Go.Proofs.Ytgbpbfnpeeciaaa
open Go.RowKit
theorem MS.read_eq (m : MS) (s : Bool) (p o : Int) : m.read s p o = if m.err s p o = 0 then m.tick 1 else m := by
  unfold MS.read MS.err
  cases m.at s p with
  | none => rfl
  | some k => by_cases h : In o <;> simp [h]
def MS.wc (m : MS) (c : Int) : MS := { m with c := c }
def MS.wkD (m : MS) (l va : Int) : Int := if spE va = 0 then (if m.f1E l (spI va) = 0 then 2 else if m.err true l (spI va) = 0 then 1 else 0) else 0
theorem MS.wkD_range (m : MS) (l va : Int) : 0 ≤ m.wkD l va ∧ m.wkD l va ≤ 2 := by
  unfold MS.wkD
  split
  · split
    · decide
    · split <;> decide
  · decide
theorem spJ_range (va : Int) : In (spJ va) := by
  unfold spJ In
  split
  · omega
  · decide
theorem f1E_zero {m : MS} {t n : Int} (h : m.f1E t n = 0) : m.err true t n = 0 ∧ pfE (m.word true t n) = 0 ∧ (m.at true (m.f1 t n)).isSome = true ∧ m.f1 t n = pf (m.word true t n) := by
  have hf : m.f1 t n = pf (m.word true t n) := by unfold MS.f1; rw [if_pos h]
  rw [hf]
  unfold MS.f1E at h
  by_cases h1 : m.err true t n = 0
  · rw [if_pos h1] at h
    by_cases h2 : pfE (m.word true t n) = 0
    · rw [if_pos h2] at h
      cases h3 : (m.at true (pf (m.word true t n))).isSome with
      | true => exact ⟨h1, h2, rfl, rfl⟩
      | false => rw [h3] at h; simp at h
    · rw [if_neg h2] at h; exact absurd h h2
  · rw [if_neg h1] at h; exact absurd h h1
theorem MS.wkS_eq (m : MS) (l va : Int) (h0 : 0 ≤ m.c) (h1 : m.c ≤ 4611686018427387904) : m.wkS l va = m.wc (m.c + m.wkD l va) := by
  have ht : m.tick 1 = m.wc (m.c + 1) := by unfold MS.tick MS.wc; rw [w64b (by omega) (by omega)]
  unfold MS.wkS MS.wkD
  by_cases e0 : spE va = 0
  · simp only [if_pos e0]
    by_cases e1 : m.f1E l (spI va) = 0
    · simp only [if_pos e1]
      obtain ⟨a, b, c, d⟩ := f1E_zero e1
      have hr : m.read true l (spI va) = m.wc (m.c + 1) := by rw [MS.read_eq, if_pos a, ht]
      rw [hr, MS.read_eq]
      have he : (m.wc (m.c + 1)).err true (m.f1 l (spI va)) (spJ va) = 0 := by
        have ha : (m.wc (m.c + 1)).at true (m.f1 l (spI va)) = m.at true (m.f1 l (spI va)) := rfl
        unfold MS.err
        rw [ha]
        cases hq : m.at true (m.f1 l (spI va)) with
        | none => rw [hq] at c; simp at c
        | some k => simp only; rw [if_pos (spJ_range va)]
      rw [if_pos he]
      unfold MS.tick MS.wc
      simp only
      rw [w64b (by omega) (by omega)]
      congr 1
      omega
    · simp only [if_neg e1]
      rw [MS.read_eq]
      by_cases e2 : m.err true l (spI va) = 0
      · simp only [if_pos e2]; exact ht
      · simp only [if_neg e2]; unfold MS.wc; rw [Int.add_zero]
  · simp only [if_neg e0]
    unfold MS.wc; rw [Int.add_zero]
theorem MS.wc_wk (m : MS) (c l va : Int) : (m.wc c).wk l va = m.wk l va := rfl
theorem MS.wc_wkE (m : MS) (c l va : Int) : (m.wc c).wkE l va = m.wkE l va := rfl
theorem MS.wc_wkD (m : MS) (c l va : Int) : (m.wc c).wkD l va = m.wkD l va := rfl
theorem MS.wc_wc (m : MS) (c d : Int) : (m.wc c).wc d = m.wc d := rfl
theorem MS.U.wc {m : MS} (h : m.U) (c : Int) : (m.wc c).U := h
theorem MS.write_at (m : MS) (s : Bool) (p o v : Int) (s' : Bool) (p' : Int) : (m.write s p o v).at s' p' = m.at s' p' := by
  unfold MS.write
  split
  · rfl
  · split
    · unfold MS.at; simp only [MS.tick, List.length_set]; try rfl
    · rfl
theorem MS.at_inj {m : MS} {s s' : Bool} {p p' : Int} {k : Nat} (h0 : m.ns ≤ m.P.length) (h : m.at s p = some k) (h' : m.at s' p' = some k) : s = s' ∧ p = p' := by
  unfold MS.at at h h'
  cases s <;> cases s' <;> simp at h h'
  · exact ⟨rfl, by omega⟩
  · exfalso; omega
  · exfalso; omega
  · exact ⟨rfl, by omega⟩
theorem MS.write_word {m : MS} (h0 : m.ns ≤ m.P.length) (s : Bool) (p o v : Int) (s' : Bool) (p' o' : Int) (h : ¬ (s = s' ∧ p = p' ∧ o = o')) : (m.write s p o v).word s' p' o' = m.word s' p' o' := by
  unfold MS.word
  rw [MS.write_at]
  cases h1 : m.at s' p' with
  | none => rfl
  | some k =>
    simp only
    by_cases hi : In o'
    · rw [if_pos hi, if_pos hi]
      unfold MS.write
      cases h2 : m.at s p with
      | none => rfl
      | some q =>
        simp only
        by_cases hj : In o
        · rw [if_pos hj]
          simp only [MS.p, List.getD_eq_getElem?_getD, List.getElem?_set]
          by_cases hq : q = k
          · subst hq
            obtain ⟨e1, e2⟩ := MS.at_inj h0 h2 h1
            have hne : o ≠ o' := fun e => h ⟨e1, e2, e⟩
            by_cases hl : q < m.P.length
            · simp only [if_pos, hl, Option.getD_some]
              rw [wd_set, if_neg]
              rintro ⟨e, _⟩
              unfold In at hi hj
              omega
            · simp only [if_pos, hl, if_false]
              rw [List.getElem?_eq_none (by omega)]
          · simp only [if_neg hq]
        · rw [if_neg hj]
    · rw [if_neg hi, if_neg hi]
theorem MS.write_err (m : MS) (s : Bool) (p o v : Int) (s' : Bool) (p' o' : Int) : (m.write s p o v).err s' p' o' = m.err s' p' o' := by
  unfold MS.err
  rw [MS.write_at]
/-- A word that is none of the two changes nothing. -/
theorem wk_local {m : MS} (h0 : m.ns ≤ m.P.length) (s : Bool) (p o v l va : Int) (h1 : ¬ (s = true ∧ p = l ∧ o = spI va)) (h2 : ¬ (pfE (m.word true l (spI va)) = 0 ∧ s = true ∧ p = pf (m.word true l (spI va)) ∧ o = spJ va)) :
    (m.write s p o v).wk l va = m.wk l va ∧ (m.write s p o v).wkE l va = m.wkE l va := by
  have e1 : (m.write s p o v).f1E l (spI va) = m.f1E l (spI va) ∧ (m.write s p o v).f1 l (spI va) = m.f1 l (spI va) := by
    have : (m.write s p o v).f1E l (spI va) = m.f1E l (spI va) := by
      unfold MS.f1E
      rw [MS.write_err, MS.write_word h0 _ _ _ _ _ _ _ h1, MS.write_at]
    refine ⟨this, ?_⟩
    unfold MS.f1
    rw [this, MS.write_word h0 _ _ _ _ _ _ _ h1]
  unfold MS.wk MS.wkE
  rw [e1.1, e1.2]
  by_cases hs : spE va = 0
  · simp only [if_pos hs]
    by_cases hf : m.f1E l (spI va) = 0
    · simp only [if_pos hf]
      obtain ⟨a, b, c, d⟩ := f1E_zero hf
      have hw := MS.write_word h0 s p o v true (m.f1 l (spI va)) (spJ va) (fun h => h2 ⟨b, h.1, by rw [← d]; exact h.2.1, h.2.2⟩)
      have : (m.write s p o v).f2E (m.f1 l (spI va)) (spJ va) = m.f2E (m.f1 l (spI va)) (spJ va) := by
        unfold MS.f2E
        rw [MS.write_err, hw, MS.write_at]
      refine ⟨?_, this⟩
      unfold MS.f2
      rw [this, hw]
    · simp only [if_neg hf, and_self]
  · simp only [if_neg hs, and_self]
theorem wk_no {m : MS} {l va : Int} (h : ¬ spE va = 0) : spE va = 91 ∧ m.wkE l va = 91 ∧ m.wkD l va = 0 := by
  have : spE va = 91 := by unfold spE at h ⊢; split at h; exact absurd rfl h; rename_i hh; rw [if_neg hh]
  exact ⟨this, by unfold MS.wkE; rw [if_neg h]; exact this, by unfold MS.wkD; rw [if_neg h]⟩
end Go.Proofs.Ytgbpbfnpeeciaaa
