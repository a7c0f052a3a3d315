import Derived.Test.YtdfnbcbnmiohnaaGreatDoorP44
import Derived.Test.YtdfnbcbnmiohnaaGreatDoorP40
namespace Go.Proofs.YtdfnbcbnmiohnaaGreatDoor
open Go.RowKit
set_option maxHeartbeats 8000000
set_option maxRecDepth 100000
structure R4 (W x : World) (g1 g2 g4 g5 : Nat) (a b : List Value) (y : En) (c : List Value) : Prop where
  c1 : Cel x g1 162 a
  c2 : Cel x g2 144 b
  c4 : Cel x g4 144 y.cs
  c5 : Cel x g5 162 c
  below : Below W.heap.size W x
  l2 : W.heap.size ≤ g2
theorem R4.put {W x x' : World} {g1 g2 g4 g5 : Nat} {a b c es : List Value} {y : En} (k : R4 W x g1 g2 g4 g5 a b y c) (hc : Cel x' g2 144 es) (hb : ButL [g2] x x') : Cel x' g2 144 es ∧ Below W.heap.size W x' :=
  ⟨hc, k.below.trans (hb.below (B := W.heap.size) (by simpa using k.l2) k.below.size)⟩
end Go.Proofs.YtdfnbcbnmiohnaaGreatDoor
namespace Go.Proofs.YtdfnbcbnmiohnaaGreatDoor
open Go.RowKit Go.Shelf
set_option maxHeartbeats 2000000
set_option maxRecDepth 100000
attribute [local go_sem] Oper.semAt_some
def ints (A : List Nat) : List Value := A.map fun (k : Nat) => Value.int .i64 (k : Int)
/-- What Owned holds between two rounds. -/
structure OJ (w W : World) (p : Dp) (d : DS) (gl bd bs bo L D B : Nat) (r : Loop) (s : Int) (A : List Nat) : Prop where
  db : DB W p d
  but : Below w.heap.size w W
  cd : Ob W bd (box (.pointer (some ⟨p.g, 0, none⟩)) 23)
  cs : Ob W bs (box (.func (.func 136) #[] #[.pointer (some ⟨bo, 0, none⟩)]) 136)
  co : Ob W bo (box (.int .i64 s) 3)
  l : Ob W L (.loop r)
  d : Ob W D (.deferred (some []))
  lst : ∃ v, Ob W gl (box v 25) ∧ W.ownsRow B 3 1 v A.length (ints A)
theorem ownsRow_same {W W' : World} {b : Nat} {e : TypeId} {size : Nat} {v : Value} {n : Nat} {xs : List Value} (h : W.ownsRow b e size v n xs) (hk : ∀ k cs t z, b ≤ k → W.heap[k]? = some (.cells cs t z) → W'.heap[k]? = W.heap[k]?) : W'.ownsRow b e size v n xs := by
  refine ⟨h.1, h.2.imp id ?_⟩
  rintro ⟨g, cap, cur, rfl, h1, h2, h3⟩
  exact ⟨g, cap, cur, rfl, h1, (hk g _ _ _ h1 h2).trans h2, h3⟩
theorem OJ.on {w W W' : World} {p : Dp} {d : DS} {gl bd bs bo L D B : Nat} {r : Loop} {s : Int} {A : List Nat} (h : OJ w W p d gl bd bs bo L D B r s A) (hb : Below W.heap.size W W') : OJ w W' p d gl bd bs bo L D B r s A := by
  obtain ⟨v, h1, h2⟩ := h.lst
  exact ⟨h.db.on hb, below_on h.but hb, h.cd.on hb, h.cs.on hb, h.co.on hb, h.l.on hb, h.d.on hb, v, h1.on hb, ownsRow_same h2 (fun k cs t z _ hc => hb.block k (Array.getElem?_eq_some_iff.1 hc).1)⟩
end Go.Proofs.YtdfnbcbnmiohnaaGreatDoor
