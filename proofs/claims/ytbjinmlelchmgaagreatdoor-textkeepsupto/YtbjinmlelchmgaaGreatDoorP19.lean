import Derived.Test.YtbjinmlelchmgaaGreatDoorP04
import Derived.Test.YtbjinmlelchmgaaGreatDoorP18
namespace Go.Proofs.YtbjinmlelchmgaaGreatDoor
open Go.RowKit
namespace T
def okc (c : UInt8) : Bool := isLet c || isDig c || c.toNat == 95
def name (l : List UInt8) : Bool := decide (1 ≤ l.length) && decide (l.length ≤ 24) && isLet (l.headD 0) && l.all okc
end T
end Go.Proofs.YtbjinmlelchmgaaGreatDoor
namespace Go.Proofs.YtbjinmlelchmgaaGreatDoor
open Go.RowKit
def numRes (r : Option Nat) : Value := match r with
  | some v => .tuple #[.int .u32 (v : Int), .int .i64 0]
  | none => .tuple #[.int .u32 0, .int .i64 41]

end Go.Proofs.YtbjinmlelchmgaaGreatDoor
