import Derived.Test.YtdfnbcbnmiohnaaGreatDoorP45
namespace Go.Proofs.YtdfnbcbnmiohnaaGreatDoor
open Go.RowKit
set_option maxRecDepth 100000
set_option maxHeartbeats 8000000
attribute [-simp] Tryz.isAgg44 Tryz.sizeOf44 Tryz.zeroValue44 Tryz.isAgg55 Tryz.sizeOf55 Tryz.zeroValue55
structure RD (W w : World) (p : Dp) (n : Nat) (d : DS) : Prop where
  o : OD W w p d
  r : Rch n d
theorem RD.on {W w w' : World} {p : Dp} {n : Nat} {d : DS} (h : RD W w p n d) (hb : Below w.heap.size w w') : RD W w' p n d := ⟨h.o.on hb, h.r⟩
theorem RD.up {W w : World} {p : Dp} {n : Nat} {d : DS} (h : RD W w p n d) : RD W w p (n + 1) d := ⟨h.o, h.r.up⟩
theorem RD.wh {W w : World} {p : Dp} {n : Nat} {d : DS} (h : RD W w p n d) : d.m.Whole := Mem.whole h.o.db.mem
theorem RD.g {W w : World} {p : Dp} {n : Nat} {d : DS} (h : RD W w p n d) (hn : n ≤ 41) : GI n d := .of h.r hn
theorem RD.set {W w : World} {p : Dp} {n : Nat} {d : DS} (h : RD W w p n d) {gc : Nat} (hg : W.heap.size ≤ gc) (hoff : ∀ k ∈ p.all, k < gc) (j : Nat) (u : Value) : RD W (w.setCell ⟨gc, j, none⟩ u) p n d := by
  have hB : ButL [gc] w (w.setCell ⟨gc, j, none⟩ u) := .setCell w gc j u (by simp)
  exact ⟨⟨h.o.db.frame hB (fun k hk hm => by rw [List.mem_singleton] at hm; have := hoff k hk; omega), h.o.bl.trans (hB.below (by simpa using hg) h.o.bl.size), h.o.own⟩, h.r⟩
end Go.Proofs.YtdfnbcbnmiohnaaGreatDoor
