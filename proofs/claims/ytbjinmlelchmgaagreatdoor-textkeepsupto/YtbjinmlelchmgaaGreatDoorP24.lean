import Derived.Test.YtbjinmlelchmgaaGreatDoorP08
import Derived.Test.YtbjinmlelchmgaaGreatDoorP01
import Derived.Test.YtbjinmlelchmgaaGreatDoorP23
namespace Go.Proofs.YtbjinmlelchmgaaGreatDoor
open Go.RowKit
def left (m : Nat) (t : List UInt8) : List UInt8 := if m = 0 then t else Lib.decDigits m ++ t
end Go.Proofs.YtbjinmlelchmgaaGreatDoor
namespace Go.Proofs.YtbjinmlelchmgaaGreatDoor
open Go.RowKit
def tailH (w i : Nat) : List UInt8 := (List.range i).map fun j => T.hexD (w / 16 ^ (i - 1 - j) % 16)
end Go.Proofs.YtbjinmlelchmgaaGreatDoor
