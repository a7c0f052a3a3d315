/- The law's plays (11): every other kind. -/
import Derived.Test.YtbjinmlelchmgaaGreatDoorPy5
namespace Go.Proofs.YtbjinmlelchmgaaGreatDoor
open Go.RowKit
set_option maxRecDepth 40000 in
set_option maxHeartbeats 2000000 in
theorem plays0 (W : World) (s : ByteArray) (k p u i : Int) (ab ar : Option Addr) (nb cb nr cr : Nat) (h1 : k ≠ 1) (h2 : k ≠ 2) (h3 : k ≠ 3) (h4 : k ≠ 4) (h5 : k ≠ 5) (h6 : k ≠ 6) (h7 : k ≠ 7) :
    Calls Tryz.prog 11 #[.agg #[.int .i64 k, .string s, .int .i64 p, .slice ab nb cb, .int .u32 u, .int .i32 i, .slice ar nr cr]] W fun e w' => e = .returned (.bool true) ∧ Below W.heap.size W w' := by
  have e1 : (k == 1) = false := by simpa using h1
  have e2 : (k == 2) = false := by simpa using h2
  have e3 : (k == 3) = false := by simpa using h3
  have e4 : (k == 4) = false := by simpa using h4
  have e5 : (k == 5) = false := by simpa using h5
  have e6 : (k == 6) = false := by simpa using h6
  have e7 : (k == 7) = false := by simpa using h7
  clear h1 h2 h3 h4 h5 h6 h7
  go_enter Tryz.func11, Tryz.ntmps11
  go_wp2_with fail
  go_ret
  exact ⟨rfl, box_below W _⟩
end Go.Proofs.YtbjinmlelchmgaaGreatDoor
