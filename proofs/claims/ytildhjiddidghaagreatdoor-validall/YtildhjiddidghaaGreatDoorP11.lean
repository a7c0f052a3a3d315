import Derived.Test.YtildhjiddidghaaGreatDoorP10
import Derived.Test.YtildhjiddidghaaGreatDoorP07
namespace Go.Proofs.YtildhjiddidghaaGreatDoor.H
open Go.RowKit

attribute [-simp] Tryz.isAgg164 Tryz.sizeOf164 Tryz.zeroValue164
end Go.Proofs.YtildhjiddidghaaGreatDoor.H
