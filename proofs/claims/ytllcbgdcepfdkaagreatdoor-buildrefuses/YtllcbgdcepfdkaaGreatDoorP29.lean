import Derived.Test.YtllcbgdcepfdkaaGreatDoorP28
import Derived.Test.YtllcbgdcepfdkaaGreatDoorP26
namespace Go.Proofs.YtllcbgdcepfdkaaGreatDoor
open Go.RowKit
set_option maxHeartbeats 4000000
def PsOk (v : Int) : Prop := (fldM v).err = 0 ∧ (fldM v).code = v
instance (v : Int) : Decidable (PsOk v) := by unfold PsOk; exact inferInstance
def psE (v : Int) : Int := if v = 0 then 92 else if PsOk v then 0 else 90
def ps (v : Int) : Mp := if PsOk v then fldM v else Mp.z
end Go.Proofs.YtllcbgdcepfdkaaGreatDoor
namespace Go.Proofs.YtllcbgdcepfdkaaGreatDoor
open Go.RowKit
/-- Every word is a word. -/
def MS.U (m : MS) : Prop := ∀ k j, 0 ≤ wd (m.p k) j ∧ wd (m.p k) j < 4294967296
theorem MS.U.word {m : MS} (h : m.U) (s : Bool) (p off : Int) : 0 ≤ m.word s p off ∧ m.word s p off < 4294967296 := by
  unfold MS.word
  split
  · decide
  · split
    · exact h _ _
    · decide
end Go.Proofs.YtllcbgdcepfdkaaGreatDoor
