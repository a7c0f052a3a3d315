import Derived.Test.YtbpdmkohihgnjaaDoorP13
namespace Go.Proofs.YtbpdmkohihgnjaaDoor
open Go.RowKit

namespace S
def pz (n : Nat) : Nat := (30 - n % 16) % 16
def pad (L : List Int) (b : Int) : List Int := (L ++ List.replicate (pz L.length) 0) ++ [b / 4294967296, b % 4294967296]
def fin (A L : List Int) (b : Int) : List Int := run A (pad L b) ((pad L b).length / 16)
end S
theorem ownsRow_below {w w' : World} {base : Nat} {e : TypeId} {size : Nat} {v : Value} {n : Nat} {xs : List Value} (h : w.ownsRow base e size v n xs) (hb : Below w.heap.size w w') : w'.ownsRow base e size v n xs := by
  have hl := h.lt
  obtain ⟨h1, h2⟩ := h
  refine ⟨h1, ?_⟩
  rcases h2 with h2 | ⟨g, cap, cur, hv, hg, hh, r⟩
  · exact .inl h2
  · subst hv
    exact .inr ⟨g, cap, cur, rfl, hg, (hb.block g (hl g rfl).2).trans hh, r⟩

theorem own_form {w : World} {base : Nat} {k : IntKind} {e : TypeId} {v : Value} {L : List Int} (h : w.ownsRow base e 1 v L.length (L.map (Value.int k))) (hn : 0 < L.length) : ∃ g cap, v = .slice (some ⟨g, 0, none⟩) L.length cap ∧ L.length ≤ cap ∧ base ≤ g ∧ g < w.heap.size ∧ Row w k g 0 L := by
  have hlt := h.lt
  rcases h.2 with ⟨_, h0⟩ | ⟨g, cap, cur, rfl, hg, hh, hc, hm, hs, ht⟩
  · omega
  · refine ⟨g, cap, rfl, hc, hg, (hlt g rfl).2, ?_⟩
    intro i hi
    rw [Nat.zero_add, h.cellAt i (by omega)]
    simp [List.getD_eq_getElem?_getD, hi]
theorem Blk.on {W w : World} {g : Nat} {k : IntKind} {e : TypeId} {L : List Int} (h : Blk W g k e L) (hb : Below W.heap.size W w) : Blk w g k e L := h.below hb h.lt
attribute [-simp] Tryd.isAgg23 Tryd.sizeOf23 Tryd.zeroValue23
end Go.Proofs.YtbpdmkohihgnjaaDoor
