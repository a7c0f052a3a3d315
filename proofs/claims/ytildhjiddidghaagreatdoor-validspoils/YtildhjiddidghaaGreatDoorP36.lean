import Derived.Test.YtildhjiddidghaaGreatDoorP35
namespace Go.Proofs.YtildhjiddidghaaGreatDoor
open Go.RowKit
set_option maxHeartbeats 8000000
set_option maxRecDepth 100000
theorem RG.pre {W w2 w : World} {p q : Rp} {d : DS} (hb : Below W.heap.size W w2) (k : RG w2 w p q d) : RG W w p q d :=
  ⟨k.db, (ButL.of hb).trans k.but, k.g, fun j hj => (k.sub j hj).imp id (fun e => Nat.le_trans hb.size e)⟩
theorem RG.s0 {W w : World} {pg pe pc : Nat} {pr r : Rf} {d : DS} (h : RG W w ⟨pg, pe, pc, pr⟩ ⟨pg, pe, pc, r⟩ d) (hr : r.g = pr.g) : w.cell? ⟨pg, 0, none⟩ = some (.pointer (some ⟨pr.g, 0, none⟩)) := by
  have := h.db.c0
  rw [hr] at this
  exact this
end Go.Proofs.YtildhjiddidghaaGreatDoor
