import Derived.Test.YtmomidkodjihjaaDoorHApp
namespace Go.Proofs.YtmomidkodjihjaaDoor.H
open Go.RowKit

def bz (m : Nat) : Nat := (119 - m % 64) % 64
def lenB (b : Int) (t : Nat) : List Int := (List.range t).map fun k => b / 2 ^ (56 - 8 * k) % 256
def padB (bs : List Int) : List Int := ((bs ++ [128]) ++ List.replicate (bz bs.length) 0) ++ lenB (8 * (bs.length : Int)) 8
theorem lenB_succ (b : Int) (t : Nat) : lenB b (t + 1) = lenB b t ++ [b / 2 ^ (56 - 8 * t) % 256] := by simp [lenB, List.range_succ]
theorem lenB_length (b : Int) (t : Nat) : (lenB b t).length = t := by simp [lenB]

end Go.Proofs.YtmomidkodjihjaaDoor.H
