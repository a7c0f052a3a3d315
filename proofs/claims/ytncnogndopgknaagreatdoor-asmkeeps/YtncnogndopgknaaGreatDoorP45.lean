import Derived.Test.YtncnogndopgknaaGreatDoorP44
namespace Go.Proofs.YtncnogndopgknaaGreatDoor
open Go.RowKit
set_option maxRecDepth 40000
set_option maxHeartbeats 4000000
def plcM (ps : List Pie) (m k : Nat) : List Value := (List.range m).map fun j => .int .i64 (if j < k then (S.plc ps j : Int) else 0)
def PcAt (w : World) (ao : Option Addr) (ps : List Pie) : Prop := ps = [] ∨ ∃ b o, ao = some ⟨b, o, none⟩ ∧ b < w.heap.size ∧ ∀ i, i < ps.length → w.rangeAt b (o + i * 5) (pieC (ps.getD i S.p0))
theorem PcAt.on {W w : World} {ao : Option Addr} {ps : List Pie} (h : PcAt W ao ps) (hb : Below W.heap.size W w) : PcAt w ao ps := by
  rcases h with h0 | ⟨b, o, e, hlt, hc⟩
  · exact .inl h0
  · exact .inr ⟨b, o, e, Nat.lt_of_lt_of_le hlt hb.size, fun i hi j v hv => by rw [hb.cell (p := ⟨b, o + i * 5 + j, none⟩) hlt]; exact hc i hi j v hv⟩
end Go.Proofs.YtncnogndopgknaaGreatDoor
