import Derived.Test.YtbjinmlelchmgaaGreatDoorP07
import Derived.Test.YtbjinmlelchmgaaGreatDoorP19
import Derived.Laws.BitsAllLaws
namespace Go.Proofs.YtbjinmlelchmgaaGreatDoor
open Go.RowKit
def tn (r : Option Nat) : Int := match r with
  | some v => (v : Int)
  | none => -1
end Go.Proofs.YtbjinmlelchmgaaGreatDoor
namespace Go.Proofs.YtbjinmlelchmgaaGreatDoor
open Go.RowKit
end Go.Proofs.YtbjinmlelchmgaaGreatDoor
