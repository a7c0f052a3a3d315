import Derived.Test.YtllcbgdcepfdkaaGreatDoorP06
namespace Go.Proofs.YtllcbgdcepfdkaaGreatDoor.H
open Go.RowKit

attribute [-simp] Tryz.isAgg56 Tryz.sizeOf56 Tryz.zeroValue56
end Go.Proofs.YtllcbgdcepfdkaaGreatDoor.H
