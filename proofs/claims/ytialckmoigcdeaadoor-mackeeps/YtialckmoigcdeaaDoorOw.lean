/- MacAll: what the walk asks. -/
import Derived.Test.YtialckmoigcdeaaDoorOq
namespace Go.Proofs.YtialckmoigcdeaaDoor
open Go.RowKit
set_option maxRecDepth 100000
theorem below_on {W w w' : World} (h : Below W.heap.size W w) (hb : Below w.heap.size w w') : Below W.heap.size W w' := h.trans (hb.mono h.size)
theorem cel_range {w : World} {g : Nat} {t : TypeId} {cs : List Value} (h : Cel w g t cs) : w.rangeAt g 0 cs := fun j v hv => by rw [Nat.zero_add, h.cell]; exact hv
theorem src_new (w : World) (cs : List Value) (t : TypeId) : ∀ j u, cs[j]? = some u → (w.alloc (Obj.cells cs.toArray t)).cell? ((⟨w.heap.size, 0, none⟩ : Addr).add j) = some u := fun j u hu => by
  have hc : Cel (w.alloc (Obj.cells cs.toArray t)) w.heap.size t cs := heap_alloc_new _ _
  rw [Addr.add_mid, Nat.zero_add, hc.cell j]
  exact hu
theorem own_np {w : World} {B : Nat} {e : TypeId} {st : Nat} {v : Value} {xs : List Value} {n np : Nat} (h : w.ownsRow B e st v n xs) (hn : n = np) : w.ownsRow B e st v np xs := hn ▸ h
/-- Behind mac.New, with the list of one pointer laid. -/
structure NewM (W w : World) (v3 v4 : Value) (Ps : List PH) (Ds : List DH) (o : Ov) (g : Nat) (p : PH) : Prop where
  mid : Mid W w v3 v4 Ps Ds o g
  mac : MacH w p.gm p.gi p.go (keyW (bytesD p.key)) p.said
  ex : ∃ X, W.heap.size ≤ X ∧ X ≤ p.gi ∧ X ≤ p.go ∧ ∀ x ∈ Ps, x.gi < X ∧ x.go < X
theorem new_mid {W w5 w6 : World} {v3 v4 : Value} {Ps : List PH} {Ds : List DH} {o : Ov} {g gm gi go : Nat} (h : Mid W w5 v3 v4 Ps Ds o g) (MH : MacH w6 gm gi go (keyW (bytesD o.us)) []) (hi : w5.heap.size ≤ gi) (ho : w5.heap.size ≤ go) (hb : Below w5.heap.size w5 w6) :
    NewM W (w6.alloc (Obj.cells #[Value.pointer (some ⟨gm, 0, none⟩)] 42)) v3 v4 Ps Ds o g ⟨gm, gi, go, o.us, []⟩ :=
  ⟨(h.on hb).on (below_one _ _), MH.on (below_one _ _), w5.heap.size, h.size, hi, ho, h.old⟩
theorem pushP_l {W w w' : World} {v3 v4 v3' : Value} {Ps : List PH} {Ds : List DH} {o : Ov} {g : Nat} {p : PH} (h : NewM W w v3 v4 Ps Ds o g p) {n : Nat} (hn : Ps.length = n) (ho : w'.ownsRow W.heap.size 42 1 v3' (n + 1) (ptrs Ps ++ [.pointer (some ⟨p.gm, 0, none⟩)])) (hw : (∃ g, v3.ownBlock = some g ∧ But g w w') ∨ Below w.heap.size w w') : Mid W w' v3' v4 (Ps ++ [p]) Ds o g := by
  obtain ⟨X, h1, h2, h3, h4⟩ := h.ex
  exact h.mid.pushP p h.mac h1 h2 h3 h4 hn ho hw
/-- What is read of a handle stays while something is added to it. -/
theorem cel3 {W w w' : World} {v3 v4 : Value} {Ps : List PH} {Ds : List DH} {o : Ov} {g6 : Nat} {p : PH} {h3 q np c3 : Nat} (h : Mid W w v3 v4 Ps Ds o g6) (hv : v3 = .slice (some ⟨h3, 0, none⟩) np c3) (hm : MacH w p.gm p.gi p.go (keyW (bytesD p.key)) p.said) (hb : But p.gi w w')
    (hs : w.cell? ⟨h3, q, none⟩ = some (.pointer (some ⟨p.gm, 0, none⟩)) ∧ w.cell? ⟨p.gm, 0, none⟩ = some (.pointer (some ⟨p.gi, 0, none⟩)) ∧ w.cell? ⟨g6, 2, none⟩ = some (.slice o.ua o.un o.uc)) :
    w'.cell? ⟨h3, q, none⟩ = some (.pointer (some ⟨p.gm, 0, none⟩)) ∧ w'.cell? ⟨p.gm, 0, none⟩ = some (.pointer (some ⟨p.gi, 0, none⟩)) ∧ w'.cell? ⟨g6, 2, none⟩ = some (.slice o.ua o.un o.uc) := by
  obtain ⟨cs, hc⟩ := hm.inner.cel
  subst hv
  obtain ⟨c3, hc3⟩ := own_ty h.P.own (g := h3) rfl
  have e3 := hc3.but hb (fun e => by subst e; exact absurd (hc3.ty hc) (by decide))
  have eb := h.box.but hb (fun e => by subst e; exact absurd (h.box.ty hc) (by decide))
  have em := hm.cel.but hb hm.mi
  rw [hc3.cell, hm.cel.cell, h.box.cell] at hs
  rw [e3.cell, em.cell, eb.cell]
  exact hs
theorem mid_row {W w : World} {v3 v4 : Value} {Ps : List PH} {Ds : List DH} {o : Ov} {g g9 : Nat} {V8 : List Int} (h : Mid W w v3 v4 Ps Ds o g) (hb : Blk w g9 .u32 26 V8) (hW : W.heap.size ≤ g9) (L : List Int) : Mid W (w.setRow g9 (L.map (Value.int .u32)).toArray) v3 v4 Ps Ds o g := by
  have hc : Cel w g9 26 (V8.map (Value.int .u32)) := hb
  have ht := but_setRow w g9 (L.map (Value.int .u32)).toArray
  exact ⟨h.below.trans (ht.below hW h.size), h.P.ch hc ht (by decide), h.D.ch hc ht (by decide), h.box.but ht (fun e => by subst e; exact absurd (h.box.ty hc) (by decide)), h.inn⟩
theorem cel55_row {w : World} {g h4 : Nat} {cs : List Value} {V8 : List Int} (h : Cel w h4 55 cs) (hb : Blk w g .u32 26 V8) (L : List Int) : Cel (w.setRow g (L.map (Value.int .u32)).toArray) h4 55 cs := by
  have hc : Cel w g 26 (V8.map (Value.int .u32)) := hb
  exact h.but (but_setRow w g _) (fun e => by subst e; exact absurd (h.ty hc) (by decide))
/-- Behind words, with the list of one pair laid. -/
theorem newD_l {W w : World} {v3 v4 : Value} {Ps : List PH} {Ds : List DH} {o : Ov} {g : Nat} {v : Value} {L : List Int} (h : Mid W w v3 v4 Ps Ds o g) (hl : Lw w W.heap.size v L) :
    Mid W (w.alloc (Obj.cells #[v, Value.slice none 0 0] 55)) v3 v4 Ps Ds o g ∧ Lw (w.alloc (Obj.cells #[v, Value.slice none 0 0] 55)) W.heap.size v L := ⟨h.on (below_one _ _), hl.on (below_one _ _)⟩
theorem pst_cell {w : World} {B g n c : Nat} {Ps : List PH} (h : PSt w B (.slice (some ⟨g, 0, none⟩) n c) Ps) {q : Nat} {p : PH} (hq : Ps[q]? = some p) : w.cell? ⟨g, q, none⟩ = some (.pointer (some ⟨p.gm, 0, none⟩)) := by
  obtain ⟨g', c', hv, _, _, _, hc⟩ := h.form (by have := (List.getElem?_eq_some_iff.1 hq).1; omega)
  cases hv
  exact hc q p hq
theorem dst_cell {w : World} {B g n c : Nat} {Ds : List DH} (h : DSt w B (.slice (some ⟨g, 0, none⟩) n c) Ds) {q : Nat} {d : DH} (hq : Ds[q]? = some d) : w.cell? ⟨g, q * 2, none⟩ = some d.kv ∧ w.cell? ⟨g, q * 2 + 1, none⟩ = some d.sv := by
  obtain ⟨g', c', hv, _, _, _, _, _, hc⟩ := h.form (by have := (List.getElem?_eq_some_iff.1 hq).1; omega)
  cases hv
  exact hc q d hq
theorem dst_free {w : World} {B g n c : Nat} {Ds : List DH} (h : DSt w B (.slice (some ⟨g, 0, none⟩) n c) Ds) (j : Nat) : w.frozen? ⟨g, j, none⟩ = false := by
  obtain ⟨cs, hc⟩ := own_ty h.own (g := g) rfl
  exact hc.free j
theorem ai_same {W w w' : World} {k : Nat} {v3 v4 : Value} {Ps : List PH} {Ds : List DH} {o : Ov} {g : Nat} (h : AI W w k v3 v4 Ps Ds) (h' : Mid W w' v3 v4 Ps Ds o g) : AI W w' (k + 1) v3 v4 Ps Ds := AI.next ⟨h'.below, h'.P, h'.D, h.same, h.bd, h.pos, h.most⟩
end Go.Proofs.YtialckmoigcdeaaDoor
