import Derived.Test.YtmomidkodjihjaaDoorP09
namespace Go.Proofs.YtmomidkodjihjaaDoor.H
open Go.RowKit

theorem nat_join (k a c : Nat) (h : c < 2 ^ k) : a * 2 ^ k ||| c = a * 2 ^ k + c := by
  have := Nat.two_pow_add_eq_or_of_lt h a
  rw [Nat.mul_comm (2 ^ k) a] at this
  exact this.symm
def wordAt (bs : List Int) (t i : Nat) : Int :=
  let f := fun (a : Int) (j : Nat) => if 4 * i + j < t then a * 256 + bs.getD (4 * i + j) 0 else a
  f (f (f (f 0 0) 1) 2) 3
def partW (bs : List Int) (n t : Nat) : List Int := (List.range n).map (wordAt bs t)
def wordsD (bs : List Int) (n : Nat) : List Int := partW bs n (4 * n)
end Go.Proofs.YtmomidkodjihjaaDoor.H
namespace Go.Proofs.YtmomidkodjihjaaDoor.H
open Go.RowKit

def endB (bs : List Int) (n : Nat) : List Int := (bs.drop (4 * n) ++ 128 :: List.replicate 3 0).take 4
def endW (bs : List Int) (n : Nat) : List Int := wordsD (endB bs n) 1
attribute [-simp] Tryd.isAgg44 Tryd.sizeOf44 Tryd.zeroValue44
end Go.Proofs.YtmomidkodjihjaaDoor.H
