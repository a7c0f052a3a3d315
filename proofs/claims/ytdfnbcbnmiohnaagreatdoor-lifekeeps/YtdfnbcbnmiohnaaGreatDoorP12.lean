import Derived.Test.YtdfnbcbnmiohnaaGreatDoorP09
namespace Go.Proofs.YtdfnbcbnmiohnaaGreatDoor.H
open Go.RowKit

def bz (m : Nat) : Nat := (119 - m % 64) % 64
def lenB (b : Int) (t : Nat) : List Int := (List.range t).map fun k => b / 2 ^ (56 - 8 * k) % 256
def padB (bs : List Int) : List Int := ((bs ++ [128]) ++ List.replicate (bz bs.length) 0) ++ lenB (8 * (bs.length : Int)) 8
end Go.Proofs.YtdfnbcbnmiohnaaGreatDoor.H
namespace Go.Proofs.YtdfnbcbnmiohnaaGreatDoor.H
open Go.RowKit

def w4 (a b c d : Int) : Int := (((0 * 256 + a) * 256 + b) * 256 + c) * 256 + d
theorem getD_take {xs : List Int} {n i : Nat} (h : i < n) : (xs.take n).getD i 0 = xs.getD i 0 := by
  simp [List.getD_eq_getElem?_getD, h]
theorem getD_drop {xs : List Int} {n i : Nat} : (xs.drop n).getD i 0 = xs.getD (n + i) 0 := by
  simp [List.getD_eq_getElem?_getD]
attribute [-simp] Tryz.isAgg55 Tryz.sizeOf55 Tryz.zeroValue55 Tryz.isAgg166 Tryz.sizeOf166 Tryz.zeroValue166
end Go.Proofs.YtdfnbcbnmiohnaaGreatDoor.H
