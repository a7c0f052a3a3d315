import Derived.Test.YtmomidkodjihjaaDoorHPack
namespace Go.Proofs.YtmomidkodjihjaaDoor.H
open Go.RowKit

/-- The last word: what is left of the bytes, the end bit, zeros. -/
def endB (bs : List Int) (n : Nat) : List Int := (bs.drop (4 * n) ++ 128 :: List.replicate 3 0).take 4
def endW (bs : List Int) (n : Nat) : List Int := wordsD (endB bs n) 1
theorem bts_take {xs : List Int} (h : Bts xs) (n : Nat) : Bts (xs.take n) := fun i => by
  have := h i
  simp only [List.getD_eq_getElem?_getD, List.getElem?_take] at this ⊢
  split <;> simp_all
theorem bts_drop {xs : List Int} (h : Bts xs) (n : Nat) : Bts (xs.drop n) := fun i => by
  have := h (n + i)
  simp only [List.getD_eq_getElem?_getD, List.getElem?_drop] at this ⊢
  exact this
theorem bts_append {xs ys : List Int} (h : Bts xs) (h' : Bts ys) : Bts (xs ++ ys) := fun i => by
  rcases Nat.lt_or_ge i xs.length with hi | hi
  · have := h i
    simpa [List.getD_eq_getElem?_getD, List.getElem?_append_left hi] using this
  · have := h' (i - xs.length)
    simpa [List.getD_eq_getElem?_getD, List.getElem?_append_right hi] using this
theorem bts_end : Bts (128 :: List.replicate 3 0) := fun i => by
  match i with
  | 0 => decide
  | 1 => decide
  | 2 => decide
  | 3 => decide
  | i + 4 => simp
theorem endB_length (bs : List Int) (n : Nat) : (endB bs n).length = 4 := by simp [endB]
theorem endB_bts {bs : List Int} (h : Bts bs) (n : Nat) : Bts (endB bs n) := bts_take (bts_append (bts_drop h _) bts_end) 4

attribute [-simp] Tryd.isAgg44 Tryd.sizeOf44 Tryd.zeroValue44
end Go.Proofs.YtmomidkodjihjaaDoor.H
