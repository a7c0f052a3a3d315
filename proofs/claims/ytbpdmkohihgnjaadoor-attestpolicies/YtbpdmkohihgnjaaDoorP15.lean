import Derived.Test.YtbpdmkohihgnjaaDoorP14
namespace Go.Proofs.YtbpdmkohihgnjaaDoor
open Go.RowKit

attribute [-simp] Tryd.isAgg23 Tryd.sizeOf23 Tryd.zeroValue23
end Go.Proofs.YtbpdmkohihgnjaaDoor
