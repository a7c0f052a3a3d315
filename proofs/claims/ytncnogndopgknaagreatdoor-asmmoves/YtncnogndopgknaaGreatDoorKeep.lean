/- Blocks of other types stay. -/
import Derived.Test.YtncnogndopgknaaGreatDoorWrd3
namespace Go.Proofs.YtncnogndopgknaaGreatDoor
open Go.RowKit
theorem keep_block {w w' : World} {B n g : Nat} {e e' : TypeId} {z : Nat} {v : Value} {xs : List Value} {cur : Array Value} {fr : Nat × Nat} (hown : w.ownsRow B e z v n xs) (h2 : w.grownBy w' v.ownBlock) (hg : w.heap[g]? = some (.cells cur e' fr)) (hne : e' ≠ e) : w'.heap[g]? = some (.cells cur e' fr) := by
  rw [h2.block g (Array.getElem?_eq_some_iff.1 hg).1 ?_]
  · exact hg
  · intro he
    rcases hown.2 with ⟨rfl, _⟩ | ⟨g', cap, cur', rfl, _, hg', _⟩
    · cases he
    · simp only [Value.ownBlock, Option.some.injEq] at he
      subst he
      rw [hg] at hg'
      injection hg' with hh
      injection hh with h1 h2 h3
      exact hne h2
theorem HW.grown {W w w' : World} {u : Value} {ws : List T.Wd} {v : Value} {n : Nat} {xs : List Value} {e : TypeId} {z : Nat} (h : HW W w u ws) (hown : w.ownsRow W.heap.size e z v n xs) (h2 : w.grownBy w' v.ownBlock) (hne : (154 : TypeId) ≠ e) : HW W w' u ws :=
  ⟨⟨h.own.1, h.own.2.imp id fun ⟨g, cap, cur, hv, hb, hg, r⟩ => ⟨g, cap, cur, hv, hb, keep_block hown h2 hg hne, r⟩⟩, h.below.grown h2 h.below.size fun g hg => (hown.lt g hg).1⟩
theorem HB.grown {W w w' : World} {u : Value} {l : List UInt8} {v : Value} {n : Nat} {xs : List Value} {e : TypeId} {z : Nat} (h : HB W w u l) (hown : w.ownsRow W.heap.size e z v n xs) (h2 : w.grownBy w' v.ownBlock) (hne : (5 : TypeId) ≠ e) : HB W w' u l :=
  ⟨⟨h.own.1, h.own.2.imp id fun ⟨g, cap, cur, hv, hb, hg, r⟩ => ⟨g, cap, cur, hv, hb, keep_block hown h2 hg hne, r⟩⟩, h.below.grown h2 h.below.size fun g hg => (hown.lt g hg).1⟩
end Go.Proofs.YtncnogndopgknaaGreatDoor
