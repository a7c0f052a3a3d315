import Derived.Test.YtdfnbcbnmiohnaaGreatDoorP06
namespace Go.Proofs.YtdfnbcbnmiohnaaGreatDoor.H
open Go.RowKit

def bz (m : Nat) : Nat := (119 - m % 64) % 64
def lenB (b : Int) (t : Nat) : List Int := (List.range t).map fun k => b / 2 ^ (56 - 8 * k) % 256
def padB (bs : List Int) : List Int := ((bs ++ [128]) ++ List.replicate (bz bs.length) 0) ++ lenB (8 * (bs.length : Int)) 8
theorem lenB_succ (b : Int) (t : Nat) : lenB b (t + 1) = lenB b t ++ [b / 2 ^ (56 - 8 * t) % 256] := by simp [lenB, List.range_succ]
theorem lenB_length (b : Int) (t : Nat) : (lenB b t).length = t := by simp [lenB]

end Go.Proofs.YtdfnbcbnmiohnaaGreatDoor.H
namespace Go.Proofs.YtdfnbcbnmiohnaaGreatDoor.H
open Go.RowKit

def w4 (a b c d : Int) : Int := (((0 * 256 + a) * 256 + b) * 256 + c) * 256 + d
theorem wordAt_full (bs : List Int) (t i : Nat) (h : 4 * i + 3 < t) : wordAt bs t i = w4 (bs.getD (4 * i) 0) (bs.getD (4 * i + 1) 0) (bs.getD (4 * i + 2) 0) (bs.getD (4 * i + 3) 0) := by
  simp (disch := omega) only [wordAt, if_pos, w4, Nat.add_zero]
theorem wordsD_getD (bs : List Int) (n i : Nat) (hi : i < n) : (wordsD bs n).getD i 0 = w4 (bs.getD (4 * i) 0) (bs.getD (4 * i + 1) 0) (bs.getD (4 * i + 2) 0) (bs.getD (4 * i + 3) 0) := by
  unfold wordsD
  rw [partW_getD _ _ _ _ hi, wordAt_full _ _ _ (by omega)]
theorem wordsD_length (bs : List Int) (n : Nat) : (wordsD bs n).length = n := partW_length _ _ _
theorem list_ext_getD {xs ys : List Int} (hl : xs.length = ys.length) (h : ∀ i, i < xs.length → xs.getD i 0 = ys.getD i 0) : xs = ys := by
  apply List.ext_getElem hl
  intro i h1 h2
  have := h i h1
  simpa [List.getD_eq_getElem?_getD, h1, h2] using this
theorem getD_take {xs : List Int} {n i : Nat} (h : i < n) : (xs.take n).getD i 0 = xs.getD i 0 := by
  simp [List.getD_eq_getElem?_getD, h]
theorem getD_drop {xs : List Int} {n i : Nat} : (xs.drop n).getD i 0 = xs.getD (n + i) 0 := by
  simp [List.getD_eq_getElem?_getD]
theorem wordsD_cut (bs : List Int) (n a k : Nat) (h : a + k ≤ n) : ((wordsD bs n).drop a).take k = wordsD ((bs.drop (4 * a)).take (4 * k)) k := by
  apply list_ext_getD
  · simp only [List.length_take, List.length_drop, wordsD_length]; omega
  · intro i hi
    simp only [List.length_take, List.length_drop, wordsD_length] at hi
    rw [getD_take (by omega), getD_drop, wordsD_getD _ _ _ (by omega), wordsD_getD _ _ _ (by omega)]
    rw [getD_take (by omega), getD_take (by omega), getD_take (by omega), getD_take (by omega), getD_drop, getD_drop, getD_drop, getD_drop]
    rw [show 4 * (a + i) = 4 * a + 4 * i by omega]
    rfl

attribute [-simp] Tryz.isAgg55 Tryz.sizeOf55 Tryz.zeroValue55 Tryz.isAgg166 Tryz.sizeOf166 Tryz.zeroValue166
end Go.Proofs.YtdfnbcbnmiohnaaGreatDoor.H
