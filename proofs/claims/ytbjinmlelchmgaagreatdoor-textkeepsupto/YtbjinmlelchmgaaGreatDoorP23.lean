import Derived.Test.YtbjinmlelchmgaaGreatDoorP16
import Derived.Test.YtbjinmlelchmgaaGreatDoorP21
import Derived.Test.YtbjinmlelchmgaaGreatDoorP22
import Derived.Test.YtbjinmlelchmgaaGreatDoorP19
import Derived.Test.YtbjinmlelchmgaaGreatDoorP18
import Derived.Test.YtbjinmlelchmgaaGreatDoorP08
import Derived.Lib.ItoaNum
import Derived.Lib.ItoaMem
namespace Go.Proofs.YtbjinmlelchmgaaGreatDoor
open Go.RowKit
end Go.Proofs.YtbjinmlelchmgaaGreatDoor
namespace Go.Proofs.YtbjinmlelchmgaaGreatDoor
namespace T
open Go.Lib

def hx (t x : Nat) : List UInt8 := (List.range t).map fun i => hexD (x / 16 ^ (t - 1 - i) % 16)
theorem hx_succ (t x : Nat) : hx (t + 1) x = hx t (x / 16) ++ [hexD (x % 16)] := by
  unfold hx
  rw [List.range_succ, List.map_append]
  congr 1
  · apply List.map_congr_left
    intro i hi
    have hi' : i < t := by simpa using hi
    rw [show t + 1 - 1 - i = (t - 1 - i) + 1 from by omega, Nat.pow_succ, Nat.mul_comm, ← Nat.div_div_eq_div_mul]
  · simp
theorem hx_length (t x : Nat) : (hx t x).length = t := by simp [hx]
theorem hval_hx (t : Nat) : ∀ x, x < 16 ^ t → hval (hx t x) = some x := by
  induction t with
  | zero => intro x h; simp at h; subst h; rfl
  | succ t ih =>
    intro x h
    rw [hx_succ, hval_snoc, ih (x / 16) (by rw [Nat.pow_succ] at h; omega)]
    simp only [hstep, hexD_inv (x % 16) (by omega)]
    congr 1
    omega
theorem hexT8_hx (w : Nat) : hexT8 w 8 = hx 8 w := by unfold hexT8 hx; rfl
theorem number_hex (w : Nat) (hw : w < 4294967296) : number (hexed8 w) = some w := by
  unfold number
  rw [if_pos (by rfl)]
  rw [show (hexed8 w).drop 2 = hx 8 w from by rw [← hexT8_hx]; rfl]
  unfold hexed
  rw [if_neg (by rw [hx_length]; omega)]
  exact hval_hx 8 w (by omega)
end T
end Go.Proofs.YtbjinmlelchmgaaGreatDoor
