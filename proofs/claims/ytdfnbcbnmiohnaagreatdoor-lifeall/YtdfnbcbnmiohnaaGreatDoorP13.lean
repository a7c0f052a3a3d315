import Derived.Test.YtdfnbcbnmiohnaaGreatDoorP12
namespace Go.Proofs.YtdfnbcbnmiohnaaGreatDoor.H
open Go.RowKit

def saveOf (L : List Int) : List Int := saveL (S.run S.First L (L.length / 16)) L.length (L.drop (16 * (L.length / 16)))
theorem saveOf_length (L : List Int) : (saveOf L).length = 26 := saveL_length _ _ _ (run_length _ _ rfl _) (by rw [List.length_drop]; omega)
theorem saveOfL_any (W : World) (g : Nat) (L : List Int) (D : DigL W g L) :
    Calls Tryz.prog 56 #[.pointer (some ⟨g, 0, none⟩)] W fun e W' => e = .returned (.agg ((saveOf L).map (Value.int .u32)).toArray) ∧ Below W.heap.size W W' := save_any W g _ _ _ D
theorem saveL_head (A : List Int) (n : Nat) (p : List Int) (hA : A.length = 8) : (saveL A n p).take 8 = A := by
  unfold saveL
  rw [List.append_assoc, List.take_append_of_le_length (by omega), List.take_of_length_le (by omega)]
theorem saveL_ten (A : List Int) (n : Nat) (p : List Int) (hA : A.length = 8) : (saveL A n p).drop 10 = p ++ List.replicate (16 - p.length) 0 := by
  unfold saveL
  rw [List.drop_append_of_le_length (by simp [hA]), List.drop_eq_nil_of_le (by simp [hA]), List.nil_append]
theorem saveL_8 (A : List Int) (n : Nat) (p : List Int) (hA : A.length = 8) : (saveL A n p).getD 8 0 = (n : Int) / 4294967296 := by
  unfold saveL
  rw [List.append_assoc, List.getD_eq_getElem?_getD, List.getElem?_append_right (by omega), hA]
  rfl
theorem saveL_9 (A : List Int) (n : Nat) (p : List Int) (hA : A.length = 8) : (saveL A n p).getD 9 0 = (n : Int) % 4294967296 := by
  unfold saveL
  rw [List.append_assoc, List.getD_eq_getElem?_getD, List.getElem?_append_right (by omega), hA]
  rfl
theorem saveL_num (A : List Int) (n : Nat) (p : List Int) (hA : A.length = 8) : numL (saveL A n p) = n := by
  unfold numL
  rw [saveL_8 _ _ _ hA, saveL_9 _ _ _ hA]
  omega
theorem saveL_wait (A : List Int) (n : Nat) (p : List Int) (hA : A.length = 8) (hp : p.length = n % 16) : waitL (saveL A n p) = p := by
  unfold waitL
  rw [saveL_num _ _ _ hA, saveL_ten _ _ _ hA, ← hp, List.take_append_of_le_length (Nat.le_refl _), List.take_of_length_le (Nat.le_refl _)]
theorem saveL_ok (A : List Int) (n : Nat) (p : List Int) (hA : A.length = 8) (hp : p.length = n % 16) (hn : n ≤ 36028797018963968) (hf : 16 ≤ n ∨ A = S.First) : LoadOk (saveL A n p) := by
  refine ⟨by rw [saveL_num _ _ _ hA]; exact hn, ?_, ?_⟩
  · rw [saveL_num _ _ _ hA, saveL_head _ _ _ hA]; exact hf
  · rw [saveL_num _ _ _ hA, saveL_head _ _ _ hA, saveL_wait _ _ _ hA hp]
theorem wds_append {xs ys : List Int} (h : Wds xs) (h' : Wds ys) : Wds (xs ++ ys) := fun i => by
  rcases Nat.lt_or_ge i xs.length with hi | hi
  · have := h i
    simpa [List.getD_eq_getElem?_getD, List.getElem?_append_left hi] using this
  · have := h' (i - xs.length)
    simpa [List.getD_eq_getElem?_getD, List.getElem?_append_right hi] using this
theorem wds_drop {xs : List Int} (h : Wds xs) (n : Nat) : Wds (xs.drop n) := fun i => by
  rw [getD_drop]; exact h _
theorem wds_zeros (n : Nat) : Wds (List.replicate n 0) := fun i => by
  simp only [List.getD_eq_getElem?_getD, List.getElem?_replicate]
  split <;> simp
theorem wds_block (A B : List Int) : Wds (S.block A B) := fun i => by
  unfold S.block
  generalize S.rounds A (S.sched B 48) 64 = R
  by_cases hi : i < 8
  · simp only [S.plus, List.getD_eq_getElem?_getD, List.getElem?_map, List.getElem?_range hi, Option.map_some, Option.getD_some, if_pos hi, S.ad]
    omega
  · simp [List.getD_eq_getElem?_getD, List.getElem?_eq_none (show (S.plus R A 8).length ≤ i by rw [plus_length]; omega)]
theorem wds_first : Wds S.First := fun i => by
  match i with
  | 0 | 1 | 2 | 3 | 4 | 5 | 6 | 7 => decide
  | i + 8 => simp [S.First]
theorem wds_run (L : List Int) (k : Nat) : Wds (S.run S.First L k) := by
  cases k with
  | zero => exact wds_first
  | succ k => exact wds_block _ _
theorem wds_saveOf {L : List Int} (h : Wds L) (hL : L.length ≤ 36028797018963968) : Wds (saveOf L) := by
  refine wds_append (wds_append (wds_run _ _) fun i => ?_) (wds_append (wds_drop h _) (wds_zeros _))
  match i with
  | 0 => simp only [List.getD_cons_zero]; omega
  | 1 => simp only [List.getD_cons_succ, List.getD_cons_zero]; omega
  | i + 2 => simp
end Go.Proofs.YtdfnbcbnmiohnaaGreatDoor.H
