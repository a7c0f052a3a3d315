/- WalkLocal (6). -/
import Derived.Test.YteldpapacdbbiaaDoorLp
import Derived.Test.YteldpapacdbbiaaDoorB1
namespace Go.Proofs.YteldpapacdbbiaaDoor
open Go.RowKit
set_option maxHeartbeats 8000000
set_option maxRecDepth 100000
theorem MS.read_wk (m : MS) (s : Bool) (p o l va : Int) : (m.read s p o).wk l va = m.wk l va := by
  rw [MS.read_eq]; split <;> rfl
theorem MS.read_wkE (m : MS) (s : Bool) (p o l va : Int) : (m.read s p o).wkE l va = m.wkE l va := by
  rw [MS.read_eq]; split <;> rfl
theorem MS.wkS_wk (m : MS) (l va l' va' : Int) : (m.wkS l va).wk l' va' = m.wk l' va' ∧ (m.wkS l va).wkE l' va' = m.wkE l' va' := by
  unfold MS.wkS
  split
  · split
    · rw [MS.read_wk, MS.read_wkE, MS.read_wk, MS.read_wkE]; exact ⟨rfl, rfl⟩
    · rw [MS.read_wk, MS.read_wkE]; exact ⟨rfl, rfl⟩
  · exact ⟨rfl, rfl⟩
theorem MS.U.wkS {m : MS} (h : m.U) (l va : Int) : (m.wkS l va).U := by
  unfold MS.wkS
  split
  · split
    · exact (h.read _ _ _).read _ _ _
    · exact h.read _ _ _
  · exact h
theorem tr_same {m m' : MS} {l va : Int} (h : m'.wk l va = m.wk l va ∧ m'.wkE l va = m.wkE l va) (a : Int) : m'.trE l va a = m.trE l va a ∧ m'.trS l va a = m.trS l va a ∧ m'.trP l va a = m.trP l va a ∧ m'.trO l va a = m.trO l va a := by
  have e : m'.trE l va a = m.trE l va a := by unfold MS.trE; rw [h.1, h.2]
  refine ⟨e, ?_, ?_, ?_⟩
  · unfold MS.trS; rw [e, h.1]
  · unfold MS.trP; rw [e, h.1]
  · unfold MS.trO; rw [e]
end Go.Proofs.YteldpapacdbbiaaDoor
