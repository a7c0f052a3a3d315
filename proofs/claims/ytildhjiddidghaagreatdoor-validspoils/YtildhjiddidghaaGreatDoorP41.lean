import Derived.Test.YtildhjiddidghaaGreatDoorP34
import Derived.Test.YtildhjiddidghaaGreatDoorP40
namespace Go.Proofs.YtildhjiddidghaaGreatDoor
open Go.RowKit
set_option maxHeartbeats 4000000
set_option maxRecDepth 100000
theorem own_but2 {w w' : World} {B : Nat} {v : Value} {n : Nat} {L : List Value} {G : List Nat} (h : w.ownsRow B 121 5 v n L) (hb : ButL G w w') (hn : ∀ b, v.ownBlock = some b → b ∉ G) : w'.ownsRow B 121 5 v n L :=
  ⟨h.1, h.2.imp id fun ⟨g, cap, cur, hv, hB, hg, r⟩ => ⟨g, cap, cur, hv, hB, (hb.block g (Array.getElem?_eq_some_iff.1 hg).1 (hn g (by rw [hv]; rfl))).trans hg, r⟩⟩
theorem RN.apart {W w : World} {r0 r : Rf} {g : Nat} {v : Value} {E : List En} {b : Int} {m : MS} (h : RN W w r0 g v r E b m) {k : Nat} (hk : v.ownBlock = some k) : k < w.heap.size := by
  obtain ⟨_, cur, hc⟩ := own_blk h.own hk
  exact (Array.getElem?_eq_some_iff.1 hc).1
structure RNL (W w : World) (r : Rf) (g : Nat) (v : Value) (E : List En) (b : Int) (m : MS) : Prop where
  rn : RN W w r g v r E b m
  bl : Below W.heap.size W w
theorem RNL.on {W w w' : World} {r : Rf} {g : Nat} {v : Value} {E : List En} {b : Int} {m : MS} (h : RNL W w r g v E b m) (hb : Below w.heap.size w w') : RNL W w' r g v E b m := ⟨h.rn.on hb, below_on h.bl hb⟩
structure RNX (W w : World) (r : Rf) (g : Nat) (v : Value) (E : List En) (b : Int) (m : MS) (k : Nat) (x : En) : Prop where
  l : RNL W w r g v E b m
  c : Cel w k 121 x.cs
  ap : ∀ j, v.ownBlock = some j → j < k
theorem RNX.on {W w w' : World} {r : Rf} {g : Nat} {v : Value} {E : List En} {b : Int} {m : MS} {k : Nat} {x : En} (h : RNX W w r g v E b m k x) (hb : Below w.heap.size w w') : RNX W w' r g v E b m k x := ⟨h.l.on hb, h.c.on hb, h.ap⟩
theorem RNL.box {W w : World} {r : Rf} {g : Nat} {v : Value} {E : List En} {b : Int} {m : MS} (h : RNL W w r g v E b m) (x : En) : RNX W (w.alloc (.cells x.cs.toArray 121)) r g v E b m w.heap.size x := ⟨h.on (below_one _ _), Cel.new w 121 x.cs, fun _ hj => h.rn.apart hj⟩
theorem RNX.put {W w w' : World} {r : Rf} {g : Nat} {v : Value} {E : List En} {b : Int} {m : MS} {k : Nat} {x y : En} (h : RNX W w r g v E b m k x) (hW : W.heap.size ≤ k) (hc : Cel w' k 121 y.cs) (hb : ButL [k] w w') : RNX W w' r g v E b m k y := by
  have hgk : g ≠ k := fun e => by
    have h1 := h.l.rn.cel
    rw [e] at h1
    exact absurd (h1.ty h.c) (by decide)
  refine ⟨⟨⟨own_but2 h.l.rn.own hb (fun j hj hm => by rw [List.mem_singleton] at hm; have := h.ap j hj; omega), h.l.rn.cel.but hb (by rw [List.mem_singleton]; exact hgk), h.l.rn.hg, h.l.rn.mem.frame hb (fun j hj hm => ?_), h.l.rn.but.trans_sub hb (fun j hj => ?_), h.l.rn.sub⟩, h.l.bl.trans (hb.below (B := W.heap.size) (fun j hj => ?_) h.l.bl.size)⟩, hc, h.ap⟩
  · rw [List.mem_singleton] at hm
    subst hm
    exact h.l.rn.mem.off h.c (by decide) hj
  · rw [List.mem_singleton] at hj
    subst hj
    exact .inr hW
  · rw [List.mem_singleton] at hj
    subst hj
    exact hW
end Go.Proofs.YtildhjiddidghaaGreatDoor
