/- The reference's sum: whole blocks of bytes first, the rest padded behind them. No program. -/
import Derived.Test.YtialckmoigcdeaaDoorMth2
namespace Go.Proofs.YtialckmoigcdeaaDoor
open Go.RowKit

namespace S
/-- The state behind the first k blocks of bytes. -/
def runB (A bs : List Int) : Nat → List Int
  | 0 => A
  | k + 1 => block (runB A bs k) (wordsD ((bs.drop (64 * k)).take 64) 16)
end S
def padR (bs : List Int) (b : Int) : List Int := ((bs ++ [128]) ++ List.replicate (bz bs.length) 0) ++ lenB b 8
def endR (A rest : List Int) (b : Int) : List Int := S.runB A (padR rest b) ((padR rest b).length / 64)
def rsumB (bs : List Int) : List Int := endR (S.runB S.First bs (bs.length / 64)) (bs.drop (64 * (bs.length / 64))) (8 * (bs.length : Int))
theorem runB_length (A xs : List Int) (hA : A.length = 8) (m : Nat) : (S.runB A xs m).length = 8 := by
  cases m with
  | zero => exact hA
  | succ m => exact block_length _ _
theorem runB_run (A bs : List Int) (n : Nat) : ∀ k, 16 * k ≤ n → S.runB A bs k = S.run A (wordsD bs n) k
  | 0, _ => rfl
  | k + 1, h => by
    show S.block (S.runB A bs k) _ = S.block (S.run A (wordsD bs n) k) _
    rw [runB_run A bs n k (by omega), wordsD_cut bs n (16 * k) 16 (by omega), show 4 * (16 * k) = 64 * k by omega]
theorem runB_more (A xs : List Int) (k : Nat) : ∀ j, S.runB A xs (k + j) = S.runB (S.runB A xs k) (xs.drop (64 * k)) j
  | 0 => rfl
  | j + 1 => by
    show S.block (S.runB A xs (k + j)) (wordsD ((xs.drop (64 * (k + j))).take 64) 16) = S.block (S.runB (S.runB A xs k) (xs.drop (64 * k)) j) (wordsD (((xs.drop (64 * k)).drop (64 * j)).take 64) 16)
    rw [runB_more A xs k j, List.drop_drop, show 64 * k + 64 * j = 64 * (k + j) by omega]
theorem runB_head (A xs ys : List Int) : ∀ k, 64 * k ≤ xs.length → S.runB A (xs ++ ys) k = S.runB A xs k
  | 0, _ => rfl
  | k + 1, h => by
    show S.block (S.runB A (xs ++ ys) k) (wordsD (((xs ++ ys).drop (64 * k)).take 64) 16) = S.block (S.runB A xs k) (wordsD ((xs.drop (64 * k)).take 64) 16)
    rw [runB_head A xs ys k (by omega), List.drop_append_of_le_length (by omega), List.take_append_of_le_length (by simp; omega)]
theorem padR_length (bs : List Int) (b : Int) : (padR bs b).length = bs.length + 1 + bz bs.length + 8 := by simp [padR, lenB_length]; omega
theorem padR_whole (bs : List Int) (b : Int) : (padR bs b).length = 64 * ((padR bs b).length / 64) := by
  rw [padR_length]; unfold bz; omega
theorem padR_bts {bs : List Int} (h : Bts bs) (b : Int) : Bts (padR bs b) := by
  refine bts_append (bts_append (bts_append h fun i => ?_) fun i => ?_) fun i => ?_
  · match i with
    | 0 => decide
    | i + 1 => simp
  · simp only [List.getD_eq_getElem?_getD, List.getElem?_replicate]
    split <;> simp
  · by_cases hi : i < 8
    · simp only [lenB, List.getD_eq_getElem?_getD, List.getElem?_map, List.getElem?_range hi, Option.map_some, Option.getD_some]
      omega
    · simp [List.getD_eq_getElem?_getD, List.getElem?_eq_none (show (lenB b 8).length ≤ i by rw [lenB_length]; omega)]
theorem endR_length (A rest : List Int) (hA : A.length = 8) (b : Int) : (endR A rest b).length = 8 := runB_length _ _ hA _
/-- The two ways to sum bytes. -/
theorem rsumB_eq (bs : List Int) (hm : bs.length ≤ 140737488355328) : rsumB bs = sumB bs := by
  obtain ⟨q, h1, h2⟩ := sumB_chain bs hm
  rw [h2, ← runB_run S.First (padB bs) (16 * q) q (Nat.le_refl _)]
  obtain ⟨k, hk⟩ : ∃ k, k = bs.length / 64 := ⟨_, rfl⟩
  have hd : (bs.drop (64 * k)).length = bs.length - 64 * k := by simp
  have hz : bz (bs.drop (64 * k)).length = bz bs.length := by
    rw [hd]; unfold bz
    rw [show (bs.length - 64 * k) % 64 = bs.length % 64 by omega]
  have hp : padB bs = bs.take (64 * k) ++ padR (bs.drop (64 * k)) (8 * (bs.length : Int)) := by
    unfold padB padR
    rw [hz, ← List.append_assoc, ← List.append_assoc, ← List.append_assoc, List.take_append_drop]
  have hl : q = k + (padR (bs.drop (64 * k)) (8 * (bs.length : Int))).length / 64 := by
    rw [hp, List.length_append, List.length_take] at h1
    omega
  unfold rsumB endR
  rw [← hk, hl, runB_more, hp]
  have e1 : (bs.take (64 * k)).drop (64 * k) = [] := List.drop_eq_nil_of_le (by rw [List.length_take]; omega)
  rw [List.drop_append_of_le_length (by rw [List.length_take]; omega), e1, List.nil_append]
  congr 1
  rw [runB_head _ _ _ _ (by rw [List.length_take]; omega)]
  have := runB_head S.First (bs.take (64 * k)) (bs.drop (64 * k)) k (by rw [List.length_take]; omega)
  rw [List.take_append_drop] at this
  exact this
end Go.Proofs.YtialckmoigcdeaaDoor
