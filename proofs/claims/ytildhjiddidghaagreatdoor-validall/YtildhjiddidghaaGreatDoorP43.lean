import Derived.Test.YtildhjiddidghaaGreatDoorP42
namespace Go.Proofs.YtildhjiddidghaaGreatDoor
open Go.RowKit
set_option maxHeartbeats 4000000
set_option maxRecDepth 100000
structure PB (w x : World) (L : List BxT) : Prop where
  bl : Below w.heap.size w x
  bag : ∀ y ∈ L, Cel x y.1 y.2.1 y.2.2
  nw : ∀ y ∈ L, w.heap.size ≤ y.1
theorem PB.on {w x x' : World} {L : List BxT} (h : PB w x L) (hb : Below x.heap.size x x') : PB w x' L := ⟨below_on h.bl hb, fun y hy => (h.bag y hy).on hb, h.nw⟩
theorem PB.get {w x : World} {L : List BxT} (h : PB w x L) (k : Nat) {b : Nat} {t : TypeId} {cs : List Value} (hk : L[k]? = some (b, t, cs)) : Cel x b t cs := h.bag _ (List.mem_of_getElem? hk)
theorem PB.box {w x : World} {L : List BxT} (h : PB w x L) (t : TypeId) (cs : List Value) : PB w (x.alloc (.cells cs.toArray t)) ((x.heap.size, t, cs) :: L) := by
  have h' := h.on (below_one x (.cells cs.toArray t))
  refine ⟨h'.bl, fun y hy => ?_, fun y hy => ?_⟩
  · rcases List.mem_cons.1 hy with rfl | hy
    · exact Cel.new x t cs
    · exact h'.bag y hy
  · rcases List.mem_cons.1 hy with rfl | hy
    · exact h.bl.size
    · exact h'.nw y hy
theorem PB.put {w x x' : World} {L : List BxT} {b : Nat} {t : TypeId} {cs cs' : List Value} (h : PB w x ((b, t, cs) :: L)) (hL : ∀ y ∈ L, y.1 ≠ b) (hc : Cel x' b t cs') (hb : ButL [b] x x') : PB w x' ((b, t, cs') :: L) := by
  have hn := h.nw (b, t, cs) (by simp)
  refine ⟨h.bl.trans (hb.below (B := w.heap.size) (by simpa using hn) h.bl.size), fun y hy => ?_, fun y hy => ?_⟩
  · rcases List.mem_cons.1 hy with rfl | hy
    · exact hc
    · exact (h.bag y (by simp [hy])).but hb (by rw [List.mem_singleton]; exact hL y hy)
  · rcases List.mem_cons.1 hy with rfl | hy
    · exact hn
    · exact h.nw y (by simp [hy])
def DS.pl (d : DS) (k : Int) (q : Nat) : Bool :=
  if k = 1 then (d.at q).t != 1 || (d.at q).o == (q : Int) else if k = 2 then (d.at q).t != 0 || d.zr (q : Int) 0 1024 else if k = 3 then (d.at q).t == 0 || ((d.at q).t == 1 || d.hasSp q) else if k = 4 then (d.at q).t != 1 || ((d.at q).r == ((d.owned (q : Int)).length : Int)) else if k = 12 then (d.at q).t != 6 || d.zr (q : Int) 0 1024 else true
end Go.Proofs.YtildhjiddidghaaGreatDoor
namespace Go.Proofs.YtildhjiddidghaaGreatDoor
open Go.RowKit
set_option maxHeartbeats 4000000
set_option maxRecDepth 100000
end Go.Proofs.YtildhjiddidghaaGreatDoor
namespace Go.Proofs.YtildhjiddidghaaGreatDoor
open Go.RowKit
set_option maxHeartbeats 4000000
theorem holds_bad (d : DS) (k : Nat) (h1 : 1 ≤ k) (h2 : k ≤ 12) : d.holds (k : Int) = (d.bad k).isNone := by
  unfold DS.holds
  have e1 : decide ((1 : Int) ≤ (k : Int)) = true := by simp; omega
  have e2 : decide ((k : Int) ≤ 12) = true := by simp; omega
  rw [e1, e2, Int.toNat_natCast, Bool.and_self, Bool.true_and]
  rw [DS.fb]
  cases hb : d.bad k with
  | none => rfl
  | some q =>
    have : ((k : Int) == 0) = false := by rw [beq_eq_false_iff_ne]; omega
    simpa using this
structure FBs (d : DS) (C Q : Nat) : Prop where
  c12 : C ≤ 12
  q : Q < d.m.ns
  z : C = 0 → Q = 0
  pre : ∀ i : Nat, 1 ≤ i → i ≤ 12 → (C = 0 ∨ i < C) → d.holds (i : Int) = true
  at_ : 1 ≤ C → d.holds (C : Int) = false
  least : 1 ≤ C → ∀ q, d.pl (C : Int) q = false → Q ≤ q
  bad : (C = 1 ∨ C = 2 ∨ C = 3 ∨ C = 4 ∨ C = 12) → d.pl (C : Int) Q = false
end Go.Proofs.YtildhjiddidghaaGreatDoor
