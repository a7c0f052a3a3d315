/- A program's database and the document's beside it. -/
import Derived.Test.YtajkhkaidjjioaaT4
import Derived.Test.YtajkhkaidjjioaaT2
import Derived.Test.YtajkhkaidjjioaaS5
import Derived.Test.YtajkhkaidjjioaaS7
import Derived.Test.YtajkhkaidjjioaaPc
namespace Go.Proofs.Ytajkhkaidjjioaa
open Go.RowKit
structure TP (W w : World) (p : Dp) (r q : Rp) (d e : DS) (L : List (Nat × TypeId × List Value)) : Prop where
  own : DB w p d
  doc : RDB w q e
  g : q.g = r.g
  but : ButL (p.all ++ r.all) W w
  sub : ∀ k ∈ q.all, k ∈ r.all ∨ W.heap.size ≤ k
  ap : ∀ k ∈ p.all, k ∉ q.all
  bag : ∀ x ∈ L, Cel w x.1 x.2.1 x.2.2
  bnew : ∀ x ∈ L, W.heap.size ≤ x.1
  boff : ∀ x ∈ L, x.1 ∉ q.all
  bown : ∀ x ∈ L, x.1 ∉ p.all
theorem TP.start {W : World} {p : Dp} {r : Rp} {d e : DS} (h : DB W p d) (h' : RDB W r e) (ha : ∀ k ∈ p.all, k ∉ r.all) : TP W W p r r d e [] :=
  ⟨h, h', rfl, .refl _ _, fun _ hk => .inl hk, ha, by simp, by simp, by simp, by simp⟩
theorem TP.on {W w w' : World} {p : Dp} {r q : Rp} {d e : DS} {L : List (Nat × TypeId × List Value)} (h : TP W w p r q d e L) (hb : Below w.heap.size w w') : TP W w' p r q d e L :=
  ⟨h.own.on hb, h.doc.on hb, h.g, h.but.on hb, h.sub, h.ap, fun x hx => (h.bag x hx).on hb, h.bnew, h.boff, h.bown⟩
theorem TP.box {W w : World} {p : Dp} {r q : Rp} {d e : DS} {L : List (Nat × TypeId × List Value)} (h : TP W w p r q d e L) (t : TypeId) (cs : List Value) : TP W (w.alloc (.cells cs.toArray t)) p r q d e ((w.heap.size, t, cs) :: L) := by
  have h1 := h.on (below_one w (.cells cs.toArray t))
  refine ⟨h1.own, h1.doc, h1.g, h1.but, h1.sub, h1.ap, fun x hx => ?_, fun x hx => ?_, fun x hx => ?_, fun x hx => ?_⟩
  · rcases List.mem_cons.1 hx with rfl | hx
    · exact Cel.new w t cs
    · exact h1.bag x hx
  · rcases List.mem_cons.1 hx with rfl | hx
    · exact h.but.size
    · exact h1.bnew x hx
  · rcases List.mem_cons.1 hx with rfl | hx
    · intro hm; exact Nat.lt_irrefl _ (h.doc.lt _ hm)
    · exact h1.boff x hx
  · rcases List.mem_cons.1 hx with rfl | hx
    · intro hm; exact Nat.lt_irrefl _ (h.own.lt _ hm)
    · exact h1.bown x hx
theorem TP.get {W w : World} {p : Dp} {r q : Rp} {d e : DS} {L : List (Nat × TypeId × List Value)} (h : TP W w p r q d e L) (k : Nat) {g : Nat} {t : TypeId} {cs : List Value} (hk : L[k]? = some (g, t, cs)) : Cel w g t cs := h.bag _ (List.mem_of_getElem? hk)
theorem TP.put {W w w' : World} {p : Dp} {r q : Rp} {d e : DS} {g : Nat} {t : TypeId} {cs es : List Value} {L : List (Nat × TypeId × List Value)} (h : TP W w p r q d e ((g, t, cs) :: L)) (hn : ∀ x ∈ L, x.1 ≠ g) (hc : Cel w' g t es) (hb : ButL [g] w w') : TP W w' p r q d e ((g, t, es) :: L) := by
  have hg := h.bnew (g, t, cs) (by simp)
  have hgo := h.bown (g, t, cs) (by simp)
  have hgq := h.boff (g, t, cs) (by simp)
  simp only at hg hgo hgq
  refine ⟨h.own.frame hb (fun k hk hm => ?_), h.doc.frame hb (fun k hk hm => ?_), h.g, h.but.trans_sub hb (fun k hk => ?_), h.sub, h.ap, fun x hx => ?_, fun x hx => ?_, fun x hx => ?_, fun x hx => ?_⟩
  · rw [List.mem_singleton] at hm; subst hm; exact hgo hk
  · rw [List.mem_singleton] at hm; subst hm; exact hgq hk
  · rw [List.mem_singleton] at hk; subst hk; exact .inr hg
  · rcases List.mem_cons.1 hx with rfl | hx
    · exact hc
    · exact (h.bag x (by simp [hx])).but hb (by rw [List.mem_singleton]; exact hn x hx)
  · rcases List.mem_cons.1 hx with rfl | hx
    · exact hg
    · exact h.bnew x (by simp [hx])
  · rcases List.mem_cons.1 hx with rfl | hx
    · exact hgq
    · exact h.boff x (by simp [hx])
  · rcases List.mem_cons.1 hx with rfl | hx
    · exact hgo
    · exact h.bown x (by simp [hx])
theorem TP.stepR {W w w' : World} {p : Dp} {r q q' : Rp} {d e e' : DS} {L : List (Nat × TypeId × List Value)} (h : TP W w p r q d e L) (hR : RG w w' q q' e') : TP W w' p r q' d e' L := by
  have hs := h.but.size
  refine ⟨h.own.frame hR.but (fun k hk => h.ap k hk), hR.db, hR.g.trans h.g, h.but.trans_sub hR.but (fun k hk => (h.sub k hk).imp (fun h => List.mem_append_right _ h) id), fun k hk => ?_, fun k hk hm => ?_, fun x hx => (h.bag x hx).but hR.but (h.boff x hx), h.bnew, fun x hx hm => ?_, h.bown⟩
  · rcases hR.sub k hk with hk | hk
    · exact h.sub k hk
    · exact .inr (Nat.le_trans hs hk)
  · rcases hR.sub k hm with hm | hm
    · exact h.ap k hk hm
    · have := h.own.lt k hk; omega
  · rcases hR.sub _ hm with hm | hm
    · exact h.boff x hx hm
    · have := (h.bag x hx).lt; omega
theorem TP.stepA {W w w' : World} {p : Dp} {r q : Rp} {d d' e : DS} {L : List (Nat × TypeId × List Value)} (h : TP W w p r q d e L) (hd : DB w' p d') (hb : ButL p.w w w') : TP W w' p r q d' e L :=
  ⟨hd, h.doc.frame hb (fun k hk hm => h.ap k (Dp.w_all hm) hk), h.g, h.but.trans_sub hb (fun _ hk => .inl (List.mem_append_left _ (Dp.w_all hk))), h.sub, h.ap, fun x hx => (h.bag x hx).but hb (fun hm => h.bown x hx (Dp.w_all hm)), h.bnew, h.boff, h.bown⟩
theorem TP.drop {W w : World} {p : Dp} {r q : Rp} {d e : DS} {L : List (Nat × TypeId × List Value)} (h : TP W w p r q d e L) : TP W w p r q d e [] :=
  ⟨h.own, h.doc, h.g, h.but, h.sub, h.ap, by simp, by simp, by simp, by simp⟩
theorem TP.pair {W w : World} {p : Dp} {r q : Rp} {d e : DS} {L : List (Nat × TypeId × List Value)} (h : TP W w p r q d e L) (k : Nat) {g : Nat} {t : TypeId} {a b : Value} (hk : L[k]? = some (g, t, [a, b])) : w.cell? ⟨g, 0, none⟩ = some a ∧ w.cell? ⟨g, 1, none⟩ = some b :=
  ⟨(h.get k hk).cell 0, (h.get k hk).cell 1⟩
theorem TP.op {W w : World} {p : Dp} {r q : Rp} {d e : DS} {L : List (Nat × TypeId × List Value)} (h : TP W w p r q d e L) (k : Nat) {g : Nat} {t : TypeId} {a0 a1 a2 a3 a4 a5 a6 a7 : Value} (hk : L[k]? = some (g, t, [a0, a1, a2, a3, a4, a5, a6, a7])) : w.cell? ⟨g, 0, none⟩ = some a0 ∧ w.cell? ⟨g, 1, none⟩ = some a1 ∧ w.cell? ⟨g, 2, none⟩ = some a2 ∧ w.cell? ⟨g, 3, none⟩ = some a3 ∧ w.cell? ⟨g, 4, none⟩ = some a4 ∧ w.cell? ⟨g, 5, none⟩ = some a5 ∧ w.cell? ⟨g, 6, none⟩ = some a6 ∧ w.cell? ⟨g, 7, none⟩ = some a7 :=
  ⟨(h.get k hk).cell 0, (h.get k hk).cell 1, (h.get k hk).cell 2, (h.get k hk).cell 3, (h.get k hk).cell 4, (h.get k hk).cell 5, (h.get k hk).cell 6, (h.get k hk).cell 7⟩
def DS.step (d : DS) (o : Oq) : DS := if o.k = 9 then { d with m := d.m.write true o.a o.off o.v } else if 1 ≤ o.k ∧ o.k ≤ 6 then d.call o else d
end Go.Proofs.Ytajkhkaidjjioaa
