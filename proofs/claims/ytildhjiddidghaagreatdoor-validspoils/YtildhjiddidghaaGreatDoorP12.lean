import Derived.Test.YtildhjiddidghaaGreatDoorP11
import Derived.Test.YtildhjiddidghaaGreatDoorP08
namespace Go.Proofs.YtildhjiddidghaaGreatDoor.H
open Go.RowKit

attribute [-simp] Tryz.isAgg164 Tryz.sizeOf164 Tryz.zeroValue164
end Go.Proofs.YtildhjiddidghaaGreatDoor.H
