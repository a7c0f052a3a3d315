/- WalkLocal (6). -/
import Derived.Test.YtgbpbfnpeeciaaaLp
namespace Go.Proofs.Ytgbpbfnpeeciaaa
open Go.RowKit
set_option maxHeartbeats 8000000
set_option maxRecDepth 100000
theorem MS.read_wk (m : MS) (s : Bool) (p o l va : Int) : (m.read s p o).wk l va = m.wk l va := by
  rw [MS.read_eq]; split <;> rfl
theorem MS.read_wkE (m : MS) (s : Bool) (p o l va : Int) : (m.read s p o).wkE l va = m.wkE l va := by
  rw [MS.read_eq]; split <;> rfl
theorem MS.wkS_wk (m : MS) (l va l' va' : Int) : (m.wkS l va).wk l' va' = m.wk l' va' ∧ (m.wkS l va).wkE l' va' = m.wkE l' va' := by
  unfold MS.wkS
  split
  · split
    · rw [MS.read_wk, MS.read_wkE, MS.read_wk, MS.read_wkE]; exact ⟨rfl, rfl⟩
    · rw [MS.read_wk, MS.read_wkE]; exact ⟨rfl, rfl⟩
  · exact ⟨rfl, rfl⟩
theorem MS.U.wkS {m : MS} (h : m.U) (l va : Int) : (m.wkS l va).U := by
  unfold MS.wkS
  split
  · split
    · exact (h.read _ _ _).read _ _ _
    · exact h.read _ _ _
  · exact h
end Go.Proofs.Ytgbpbfnpeeciaaa
