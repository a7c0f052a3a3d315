import Derived.Test.YtbpdmkohihgnjaaDoorP08
import Derived.Deep.RegionLaw
namespace Go.Proofs.YtbpdmkohihgnjaaDoor
open Go.RowKit

def Sch (B : List Int) (k : Nat) : List Int := S.sched B k ++ List.replicate (48 - k) 0
attribute [-simp] Tryd.isAgg180 Tryd.sizeOf180 Tryd.zeroValue180 Tryd.isAgg77 Tryd.sizeOf77
end Go.Proofs.YtbpdmkohihgnjaaDoor
