import Derived.Test.YtbpdmkohihgnjaaDoorP26
namespace Go.Proofs.YtbpdmkohihgnjaaDoor
open Go.RowKit
set_option maxHeartbeats 4000000
set_option maxRecDepth 100000
attribute [-simp] Tryd.isAgg23 Tryd.zeroValue23 Tryd.isAgg38 Tryd.zeroValue38 Tryd.isAgg36 Tryd.zeroValue36
end Go.Proofs.YtbpdmkohihgnjaaDoor
