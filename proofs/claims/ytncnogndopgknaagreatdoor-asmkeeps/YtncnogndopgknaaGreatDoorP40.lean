import Derived.Test.YtncnogndopgknaaGreatDoorP32
import Derived.Test.YtncnogndopgknaaGreatDoorP38
import Derived.Test.YtncnogndopgknaaGreatDoorP39
import Derived.Deep.DeepCutAuto
namespace Go.Proofs.YtncnogndopgknaaGreatDoor
open Go.RowKit
set_option maxRecDepth 100000
set_option maxHeartbeats 4000000
theorem atu {w : World} {ao : Option Addr} {l : List Nat} (h : AtW w ao l) : UAt w ao l := h
theorem data_list (l : List UInt8) : (⟨l.toArray⟩ : ByteArray).data.toList = l := by simp
end Go.Proofs.YtncnogndopgknaaGreatDoor
