/- known 11, numbers 17. -/
import Derived.Test.YtmmphmdmocfnpaaW3
namespace Go.Proofs.Ytmmphmdmocfnpaa
open Go.RowKit
set_option maxHeartbeats 4000000
theorem known_any (W : World) : Calls Try.prog 11 #[] W fun x W' => x = .returned (.bool true) ∧ Below W.heap.size W W' := by
  have H1 := hid (split_any W 4206600 (by decide) (by decide))
  rw [show spI 4206600 = 1 by decide, show spJ 4206600 = 3 by decide, show spO 4206600 = 2 by decide, show spE 4206600 = 0 by decide] at H1
  have H2 := hid (second_any W ⟨true, 3, true, false⟩)
  rw [show (Mp.mk true 3 true false).enc = 775 by decide, show (Mp.mk true 3 true false).err = 0 by decide] at H2
  have H3 := hid (fun W => pf_any W 1281 (by decide) (by decide))
  rw [show pf 1281 = 5 by decide, show pfE 1281 = 0 by decide] at H3
  unfold Mp.v at H2
  go_enter Try.func11, Try.ntmps11
  go_wp2_with fail
  refine H1.out.mono ?_
  rintro x w1 ⟨rfl, rfl⟩
  go_wp2_with fail
  refine H2.out.mono ?_
  rintro x w2 ⟨rfl, hb⟩
  have HB := hid hb
  clear hb
  go_wp2_with fail
  refine (H3.out _).mono ?_
  rintro x w3 ⟨rfl, rfl⟩
  go_wp2_with fail
  go_returns
  exact ⟨rfl, HB.out⟩
theorem numbers_any (W : World) : Calls Try.prog 17 #[] W fun x W' => x = .returned (.bool true) ∧ W' = W := by
  go_enter Try.func17, Try.ntmps17
  go_wp2_with fail
  go_returns
  exact ⟨rfl, rfl⟩
end Go.Proofs.Ytmmphmdmocfnpaa
