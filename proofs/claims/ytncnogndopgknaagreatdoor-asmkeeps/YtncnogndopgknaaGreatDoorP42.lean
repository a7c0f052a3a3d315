import Derived.Test.YtncnogndopgknaaGreatDoorP41
namespace Go.Proofs.YtncnogndopgknaaGreatDoor
open Go.RowKit
set_option maxRecDepth 200000
set_option maxHeartbeats 4000000
def pieC (p : Pie) : List Value := [.int .i64 p.k, .int .i64 p.a, .int .i64 p.cd, .int .i64 p.tq, .int .u32 (p.v : Int)]
def pieV (p : Pie) : Value := .agg (pieC p).toArray
end Go.Proofs.YtncnogndopgknaaGreatDoor
