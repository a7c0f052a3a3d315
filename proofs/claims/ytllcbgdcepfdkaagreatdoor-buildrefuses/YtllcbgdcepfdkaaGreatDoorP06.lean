import Derived.Test.YtllcbgdcepfdkaaGreatDoorP05
namespace Go.Proofs.YtllcbgdcepfdkaaGreatDoor.H
open Go.RowKit

namespace S
/-- How many zeros stand behind so many words. -/
def pz (n : Nat) : Nat := (30 - n % 16) % 16
/-- The last blocks: zeros, and the length. -/
def pad (L : List Int) (b : Int) : List Int := (L ++ List.replicate (pz L.length) 0) ++ [b / 4294967296, b % 4294967296]
def fin (A L : List Int) (b : Int) : List Int := run A (pad L b) ((pad L b).length / 16)
end S
theorem ownsRow_below {w w' : World} {base : Nat} {e : TypeId} {size : Nat} {v : Value} {n : Nat} {xs : List Value} (h : w.ownsRow base e size v n xs) (hb : Below w.heap.size w w') : w'.ownsRow base e size v n xs := by
  have hl := h.lt
  obtain ⟨h1, h2⟩ := h
  refine ⟨h1, ?_⟩
  rcases h2 with h2 | ⟨g, cap, cur, hv, hg, hh, r⟩
  · exact .inl h2
  · subst hv
    exact .inr ⟨g, cap, cur, rfl, hg, (hb.block g (hl g rfl).2).trans hh, r⟩

theorem Blk.on {W w : World} {g : Nat} {k : IntKind} {e : TypeId} {L : List Int} (h : Blk W g k e L) (hb : Below W.heap.size W w) : Blk w g k e L := h.below hb h.lt
attribute [-simp] Tryz.isAgg56 Tryz.sizeOf56 Tryz.zeroValue56
end Go.Proofs.YtllcbgdcepfdkaaGreatDoor.H
