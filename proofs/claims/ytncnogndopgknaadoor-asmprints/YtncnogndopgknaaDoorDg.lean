/- Digits. -/
import Derived.Test.YtncnogndopgknaaDoorQuo
import Derived.Lib.ItoaNum
import Derived.Lib.ItoaMem
namespace Go.Proofs.YtncnogndopgknaaDoor
open Go.RowKit
def dig16 : ByteArray := ⟨#[48, 49, 50, 51, 52, 53, 54, 55, 56, 57, 97, 98, 99, 100, 101, 102]⟩
theorem dig_ext : ∀ n < 16, dig16.extract n (n + 1) = ⟨#[T.hexD n]⟩ := by decide +kernel
theorem one_cell (c : UInt8) (j : Nat) (h : j < [c].length) : (Lib.byteCells [c])[j]? = some (.int .u8 ([c][j].toNat : Int)) := by
  have h0 : j = 0 := by simpa using h
  subst h0
  rfl
theorem wrap_sm (x : Int) (h0 : 0 ≤ x) (h1 : x ≤ 1000000000000) : IntKind.i64.wrap x = x := by
  simp [IntKind.wrap, IntKind.signed, IntKind.bits]
  split <;> omega
namespace T
open Go.Lib
theorem nDigits_le (k : Nat) : ∀ u, u < 10 ^ (k + 1) → nDigits u ≤ k + 1 := by
  induction k with
  | zero => intro u h; rw [nDigits_small (by simpa using h)]; omega
  | succ k ih =>
    intro u h
    by_cases hs : u < 10
    · rw [nDigits_small hs]; omega
    · rw [nDigits_big hs]
      have := ih (u / 10) (by rw [Nat.pow_succ] at h; omega)
      omega
end T
end Go.Proofs.YtncnogndopgknaaDoor
