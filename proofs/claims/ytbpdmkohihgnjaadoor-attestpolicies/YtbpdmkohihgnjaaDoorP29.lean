import Derived.Test.YtbpdmkohihgnjaaDoorP28
namespace Go.Proofs.YtbpdmkohihgnjaaDoor
open Go.RowKit
set_option maxHeartbeats 8000000
set_option maxRecDepth 100000
def pN (s : ByteArray) : Int := if qok s then 0 else 160
structure PS (W : World) (E : Nat → Addr) (g : Nat) (M : List Int) (w : World) : Prop where
  bl : Below W.heap.size W w
  es : ErrS w E
  b4 : Blk w g .u32 38 M
attribute [-simp] Tryd.isAgg23 Tryd.zeroValue23 Tryd.isAgg38 Tryd.zeroValue38
end Go.Proofs.YtbpdmkohihgnjaaDoor
