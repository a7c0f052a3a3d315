/- Several pairs, and the list that names them. A round of the script: the pairs, the step, what is made. -/
import Derived.Test.YtajkhkaidjjioaaTa
namespace Go.Proofs.Ytajkhkaidjjioaa
open Go.RowKit
set_option maxHeartbeats 2000000
theorem DS.step_ns (d : DS) (o : Oq) : (d.step o).m.ns = d.m.ns := by
  unfold DS.step DS.call
  by_cases h9 : o.k = 9
  · rw [if_pos h9]; exact MS.write_ns _ _ _ _ _
  rw [if_neg h9]
  split
  · split
    · unfold DS.takeSpace; split
      · show (MS.born _ _ _ _).ns = _; simp [MS.born, MS.write_ns]
      · rfl
    split
    · unfold DS.take; split <;> rfl
    split
    · unfold DS.turn; split
      · show (MS.zero _ _ _).ns = _; exact MS.zero_ns _ _ _
      · rfl
    split
    · unfold DS.give DS.given; split
      · split
        · show (MS.zero _ _ _).ns = _; exact MS.zero_ns _ _ _
        · show (MS.zero _ _ _).ns = _; exact MS.zero_ns _ _ _
      · rfl
    split
    · unfold DS.state; split <;> rfl
    unfold DS.entered; split <;> rfl
  · rfl
theorem DB.ty {w : World} {p : Dp} {d : DS} (h : DB w p d) : ∀ k ∈ p.all, ∀ t cs, Cel w k t cs → t = 92 ∨ t = 27 ∨ t = 98 ∨ t = 139 ∨ t = 141 := by
  intro k hk t cs hc
  simp only [Dp.all, List.mem_cons] at hk
  rcases hk with rfl | rfl | hk
  · exact .inl (hc.ty h.cel)
  · exact .inr (.inl (hc.ty h.wds))
  · exact .inr (.inr (h.mem.ty_w k hk t cs hc))
theorem RDB.ty {w : World} {p : Rp} {d : DS} (h : RDB w p d) : ∀ k ∈ p.all, ∀ t cs, Cel w k t cs → t = 80 ∨ t = 124 ∨ t = 146 ∨ t = 32 ∨ t = 27 := by
  intro k hk t cs hc
  simp only [Rp.all, List.mem_cons] at hk
  rcases hk with rfl | rfl | hk
  · exact .inl (hc.ty h.cel)
  · obtain ⟨_, h1⟩ := h.ents; exact .inr (.inl (hc.ty h1))
  · exact .inr (.inr (h.mem.ty_w k hk t cs hc))
abbrev Tr := Dp × Rp × DS
def Tr.all (t : Tr) : List Nat := t.1.all ++ t.2.1.all
def pcs (Ps : List Tr) : List Value := Ps.flatMap (fun t => [ptr t.1.g, ptr t.2.1.g])
theorem pcs_len (Ps : List Tr) : (pcs Ps).length = Ps.length * 2 := by
  induction Ps with
  | nil => rfl
  | cons x E ih => simp only [pcs, List.flatMap_cons, List.length_append, List.length_cons] at ih ⊢; rw [ih]; simp; omega
theorem pcs_at : ∀ (Ps : List Tr) (i : Nat) (t : Tr), Ps[i]? = some t → (pcs Ps)[i * 2]? = some (ptr t.1.g) ∧ (pcs Ps)[i * 2 + 1]? = some (ptr t.2.1.g)
  | [], i, t, h => by simp at h
  | x :: Ps, 0, t, h => by
    simp only [List.getElem?_cons_zero, Option.some.injEq] at h
    subst h
    exact ⟨rfl, rfl⟩
  | x :: Ps, i + 1, t, h => by
    have ih := pcs_at Ps i t (by simpa using h)
    have e : (i + 1) * 2 = i * 2 + 1 + 1 := by omega
    rw [e]
    exact ih
theorem pcs_set : ∀ (Ps : List Tr) (i : Nat) (t : Tr), i < Ps.length → pcs (Ps.set i t) = ((pcs Ps).set (i * 2) (ptr t.1.g)).set (i * 2 + 1) (ptr t.2.1.g)
  | [], i, t, h => by simp at h
  | x :: Ps, 0, t, _ => rfl
  | x :: Ps, i + 1, t, h => by
    have ih := pcs_set Ps i t (by simpa using h)
    have e : (i + 1) * 2 = i * 2 + 1 + 1 := by omega
    rw [e]
    show ptr x.1.g :: ptr x.2.1.g :: pcs (Ps.set i t) = _
    rw [ih]
    rfl
theorem pcs_same (Ps : List Tr) (i : Nat) (t s : Tr) (h : Ps[i]? = some s) (h1 : t.1.g = s.1.g) (h2 : t.2.1.g = s.2.1.g) : pcs (Ps.set i t) = pcs Ps := by
  have hi : i < Ps.length := by
    rcases Nat.lt_or_ge i Ps.length with h' | h'
    · exact h'
    · rw [List.getElem?_eq_none h'] at h; cases h
  obtain ⟨a, b⟩ := pcs_at Ps i s h
  rw [pcs_set Ps i t hi, h1, h2]
  apply List.ext_getElem?
  intro j
  rw [List.getElem?_set, List.getElem?_set]
  have hl := pcs_len Ps
  by_cases e1 : i * 2 + 1 = j
  · subst e1
    rw [if_pos rfl, if_pos (by rw [List.length_set]; omega), b]
  · rw [if_neg e1]
    by_cases e2 : i * 2 = j
    · subst e2
      rw [if_pos rfl, if_pos (by omega), a]
    · rw [if_neg e2]
/-- The list's block. -/
structure PLst (w : World) (B gl cap n : Nat) (C : List Value) : Prop where
  base : B ≤ gl
  blk : ∃ rest, Cel w gl 68 (C ++ rest) ∧ (C ++ rest).length = cap * 2
  len : C.length = n * 2
  le : n ≤ cap
  mx : cap ≤ maxLen
theorem PLst.owns {w : World} {B gl cap n : Nat} {C : List Value} (h : PLst w B gl cap n C) : w.ownsRow B 68 2 (.slice (some ⟨gl, 0, none⟩) n cap) n C := by
  obtain ⟨rest, hc, hl⟩ := h.blk
  refine ⟨h.len, .inr ⟨gl, cap, (C ++ rest).toArray, rfl, h.base, hc, h.le, h.mx, by simpa using hl, ?_⟩⟩
  rw [List.toList_toArray, ← h.len, List.take_left]
theorem PLst.of {w : World} {B n : Nat} {v : Value} {C : List Value} (h : w.ownsRow B 68 2 v n C) (h0 : 0 < n) : ∃ gl cap, v = .slice (some ⟨gl, 0, none⟩) n cap ∧ PLst w B gl cap n C := by
  obtain ⟨hl, h2⟩ := h
  rcases h2 with ⟨_, e⟩ | ⟨g, cap, cur, hv, hB, hg, hle, hm, hsz, ht⟩
  · omega
  · refine ⟨g, cap, hv, hB, ⟨cur.toList.drop (n * 2), ?_, ?_⟩, hl, hle, hm⟩
    · show w.heap[g]? = _
      rw [hg]
      show some (Obj.cells cur 68 (0, 0)) = some (.cells (C ++ cur.toList.drop (n * 2)).toArray 68 (0, 0))
      rw [← ht, List.take_append_drop]
    · rw [← ht, List.take_append_drop]; simpa using hsz
theorem PLst.but {w w' : World} {B gl cap n : Nat} {C : List Value} {G : List Nat} (h : PLst w B gl cap n C) (hb : ButL G w w') (hn : gl ∉ G) : PLst w' B gl cap n C := by
  obtain ⟨rest, hc, hl⟩ := h.blk
  exact ⟨h.base, ⟨rest, hc.but hb hn, hl⟩, h.len, h.le, h.mx⟩
theorem PLst.lt {w : World} {B gl cap n : Nat} {C : List Value} (h : PLst w B gl cap n C) : gl < w.heap.size := by
  obtain ⟨rest, hc, hl⟩ := h.blk
  exact hc.lt
theorem PLst.cell {w : World} {B gl cap n : Nat} {C : List Value} (h : PLst w B gl cap n C) (j : Nat) (u : Value) (hj : C[j]? = some u) : w.cell? ⟨gl, j, none⟩ = some u := by
  obtain ⟨rest, hc, hl⟩ := h.blk
  have hjl : j < C.length := by
    rcases Nat.lt_or_ge j C.length with h' | h'
    · exact h'
    · rw [List.getElem?_eq_none h'] at hj; cases hj
  rw [hc.cell, List.getElem?_append_left hjl]; exact hj
theorem PLst.fz {w : World} {B gl cap n : Nat} {C : List Value} (h : PLst w B gl cap n C) (j : Nat) : w.frozen? ⟨gl, j, none⟩ = false := by
  obtain ⟨rest, hc, hl⟩ := h.blk
  exact hc.free j
structure MP (W x : World) (Ps : List Tr) (n gl cap : Nat) : Prop where
  own : ∀ (i : Nat) (t : Tr), Ps[i]? = some t → DB x t.1 t.2.2
  doc : ∀ (i : Nat) (t : Tr), Ps[i]? = some t → RDB x t.2.1 t.2.2
  ns0 : ∀ (i : Nat) (t : Tr), Ps[i]? = some t → 0 < t.2.2.m.ns
  new : ∀ (i : Nat) (t : Tr), Ps[i]? = some t → ∀ k ∈ t.all, W.heap.size ≤ k
  ap : ∀ (i : Nat) (t : Tr), Ps[i]? = some t → ∀ k ∈ t.1.all, k ∉ t.2.1.all
  apart : ∀ (i j : Nat) (t s : Tr), Ps[i]? = some t → Ps[j]? = some s → i ≠ j → ∀ k ∈ t.all, k ∉ s.all
  bl : Below W.heap.size W x
  lst : PLst x W.heap.size gl cap n (pcs (Ps.take n))
  nle : n ≤ Ps.length
theorem Tr.mem {t : Tr} {k : Nat} (h : k ∈ t.all) : k ∈ t.1.all ∨ k ∈ t.2.1.all := List.mem_append.1 h
theorem MP.lt {W x : World} {Ps : List Tr} {n gl cap : Nat} (h : MP W x Ps n gl cap) {i : Nat} {t : Tr} (hi : Ps[i]? = some t) {k : Nat} (hk : k ∈ t.all) : k < x.heap.size := by
  rcases Tr.mem hk with hk | hk
  · exact (h.own i t hi).lt k hk
  · exact (h.doc i t hi).lt k hk
theorem MP.off {W x : World} {Ps : List Tr} {n gl cap : Nat} (h : MP W x Ps n gl cap) {i : Nat} {t : Tr} (hi : Ps[i]? = some t) {k : Nat} {ty : TypeId} {cs : List Value} (hc : Cel x k ty cs) (ht : ty = 68 ∨ ty = 29) : k ∉ t.all := fun hk => by
  rcases Tr.mem hk with hk | hk
  · rcases (h.own i t hi).ty k hk ty cs hc with e | e | e | e | e <;> (rw [e] at ht; revert ht; decide)
  · rcases (h.doc i t hi).ty k hk ty cs hc with e | e | e | e | e <;> (rw [e] at ht; revert ht; decide)
theorem MP.loff {W x : World} {Ps : List Tr} {n gl cap : Nat} (h : MP W x Ps n gl cap) {i : Nat} {t : Tr} (hi : Ps[i]? = some t) : gl ∉ t.all := by
  obtain ⟨rest, hc, _⟩ := h.lst.blk
  exact h.off hi hc (.inl rfl)
/-- Blocks that are none of these are written. -/
theorem MP.frame {W x x' : World} {Ps : List Tr} {n gl cap : Nat} {G : List Nat} (h : MP W x Ps n gl cap) (hb : ButL G x x') (hG : ∀ k ∈ G, W.heap.size ≤ k) (hp : ∀ (i : Nat) (t : Tr), Ps[i]? = some t → ∀ k ∈ G, k ∉ t.all) (hl : gl ∉ G) : MP W x' Ps n gl cap :=
  ⟨fun i t hi => (h.own i t hi).frame hb (fun k hk hm => hp i t hi k hm (List.mem_append_left _ hk)), fun i t hi => (h.doc i t hi).frame hb (fun k hk hm => hp i t hi k hm (List.mem_append_right _ hk)), h.ns0, h.new, h.ap, h.apart, h.bl.trans (hb.below (B := W.heap.size) hG h.bl.size), h.lst.but hb hl, h.nle⟩
theorem MP.on {W x x' : World} {Ps : List Tr} {n gl cap : Nat} (h : MP W x Ps n gl cap) (hb : Below x.heap.size x x') : MP W x' Ps n gl cap :=
  ⟨fun i t hi => (h.own i t hi).on hb, fun i t hi => (h.doc i t hi).on hb, h.ns0, h.new, h.ap, h.apart, below_on h.bl hb, h.lst.but (.of (G := []) hb) (by simp), h.nle⟩
theorem MP.box {W x x' : World} {Ps : List Tr} {n gl cap g : Nat} {ty : TypeId} {cs : List Value} (h : MP W x Ps n gl cap) (hc : Cel x g ty cs) (ht : ty = 68 ∨ ty = 29) (hW : W.heap.size ≤ g) (hl : gl ≠ g) (hb : ButL [g] x x') : MP W x' Ps n gl cap :=
  h.frame hb (fun k hk => by rw [List.mem_singleton] at hk; omega) (fun i t hi k hk => by rw [List.mem_singleton] at hk; rw [hk]; exact h.off hi hc ht) (by rw [List.mem_singleton]; exact hl)
theorem set_look {Ps : List Tr} {i : Nat} {t s : Tr} {j : Nat} (hj : (Ps.set i t)[j]? = some s) : (j = i ∧ s = t) ∨ (j ≠ i ∧ Ps[j]? = some s) := by
  rw [List.getElem?_set] at hj
  by_cases he : i = j
  · rw [if_pos he] at hj
    split at hj
    · injection hj with hj; exact .inl ⟨he.symm, hj.symm⟩
    · cases hj
  · rw [if_neg he] at hj; exact .inr ⟨fun e => he e.symm, hj⟩
/-- A pair is another: only blocks of its own, and new ones. -/
theorem MP.swap {W x x' : World} {Ps : List Tr} {n gl cap : Nat} (h : MP W x Ps n gl cap) (i : Nat) (t s : Tr) (hi : Ps[i]? = some t) (ho : DB x' s.1 s.2.2) (hd : RDB x' s.2.1 s.2.2) (h0 : 0 < s.2.2.m.ns) (ha : ∀ k ∈ s.1.all, k ∉ s.2.1.all) (hs : ∀ k ∈ s.all, k ∈ t.all ∨ x.heap.size ≤ k) (hb : ButL t.all x x') :
    (∀ (j : Nat) (u : Tr), (Ps.set i s)[j]? = some u → DB x' u.1 u.2.2 ∧ RDB x' u.2.1 u.2.2 ∧ 0 < u.2.2.m.ns ∧ (∀ k ∈ u.all, W.heap.size ≤ k) ∧ ∀ k ∈ u.1.all, k ∉ u.2.1.all) ∧ (∀ (j k : Nat) (u v : Tr), (Ps.set i s)[j]? = some u → (Ps.set i s)[k]? = some v → j ≠ k → ∀ z ∈ u.all, z ∉ v.all) ∧ Below W.heap.size W x' ∧ PLst x' W.heap.size gl cap n (pcs (Ps.take n)) := by
  have hx := h.bl.size
  refine ⟨fun j u hj => ?_, fun j k u v hj hk hjk z hz hz' => ?_, h.bl.trans (hb.below (B := W.heap.size) (fun k hk => h.new i t hi k hk) hx), h.lst.but hb (h.loff hi)⟩
  · rcases set_look hj with ⟨rfl, rfl⟩ | ⟨hne, hj⟩
    · exact ⟨ho, hd, h0, fun k hk => (hs k hk).elim (h.new _ t hi k) (fun h => by omega), ha⟩
    · exact ⟨(h.own j u hj).frame hb (fun k hk => h.apart j i u t hj hi hne k (List.mem_append_left _ hk)), (h.doc j u hj).frame hb (fun k hk => h.apart j i u t hj hi hne k (List.mem_append_right _ hk)), h.ns0 j u hj, h.new j u hj, h.ap j u hj⟩
  · rcases set_look hj with ⟨e1, e2⟩ | ⟨hne, hj2⟩ <;> rcases set_look hk with ⟨e3, e4⟩ | ⟨hne', hk2⟩
    · omega
    · rw [e2] at hz
      rcases hs z hz with hz | hz
      · exact h.apart i k t v hi hk2 (by omega) z hz hz'
      · have := h.lt hk2 hz'; omega
    · rw [e4] at hz'
      rcases hs z hz' with hz' | hz'
      · exact h.apart j i u t hj2 hi (by omega) z hz hz'
      · have := h.lt hj2 hz; omega
    · exact h.apart j k u v hj2 hk2 hjk z hz hz'
theorem MP.step {W x x' : World} {Ps : List Tr} {n gl cap : Nat} (h : MP W x Ps n gl cap) (i : Nat) {p : Dp} {r q : Rp} {d d' : DS} (hi : Ps[i]? = some (p, r, d)) (hT : TP x x' p r q d' d' []) (hn : d'.m.ns = d.m.ns) : MP W x' (Ps.set i (p, q, d')) n gl cap := by
  obtain ⟨h1, h2, h3, h4⟩ := h.swap i (p, r, d) (p, q, d') hi hT.own hT.doc (by have := h.ns0 i _ hi; simp only at this ⊢; omega) hT.ap (fun k hk => by
    rcases Tr.mem hk with hk | hk
    · exact .inl (List.mem_append_left _ hk)
    · exact (hT.sub k hk).imp (fun h => List.mem_append_right _ h) id) hT.but
  refine ⟨fun j u hj => (h1 j u hj).1, fun j u hj => (h1 j u hj).2.1, fun j u hj => (h1 j u hj).2.2.1, fun j u hj => (h1 j u hj).2.2.2.1, fun j u hj => (h1 j u hj).2.2.2.2, h2, h3, ?_, by rw [List.length_set]; exact h.nle⟩
  rw [List.take_set]
  by_cases hin : i < n
  · rw [pcs_same (Ps.take n) i (p, q, d') (p, r, d) (by rw [List.getElem?_take_of_lt hin]; exact hi) rfl hT.g]; exact h4
  · rw [List.set_eq_of_length_le (by rw [List.length_take]; omega)]; exact h4
theorem MP.push {W x x' : World} {Ps : List Tr} {n gl cap : Nat} (h : MP W x Ps n gl cap) {p : Dp} {r : Rp} {d : DS} (hn : NewP x x' p r d) (h0 : 0 < d.m.ns) : MP W x' (Ps ++ [(p, r, d)]) n gl cap := by
  have look : ∀ (j : Nat) (u : Tr), (Ps ++ [(p, r, d)])[j]? = some u → (j = Ps.length ∧ u = (p, r, d)) ∨ (j < Ps.length ∧ Ps[j]? = some u) := fun j u hj => by
    by_cases hlt : j < Ps.length
    · rw [List.getElem?_append_left hlt] at hj; exact .inr ⟨hlt, hj⟩
    · rw [List.getElem?_append_right (by omega)] at hj
      have e0 : j - Ps.length = 0 := by
        by_cases e0 : j - Ps.length = 0
        · exact e0
        · obtain ⟨k, hk⟩ : ∃ k, j - Ps.length = k + 1 := ⟨j - Ps.length - 1, by omega⟩
          rw [hk] at hj; simp at hj
      rw [e0] at hj
      simp only [List.getElem?_cons_zero, Option.some.injEq] at hj
      exact .inl ⟨by omega, hj.symm⟩
  have hx := h.bl.size
  have h1 := h.on hn.bl
  have hall : ∀ k ∈ Tr.all (p, r, d), x.heap.size ≤ k := fun k hk => by
    rcases Tr.mem hk with hk | hk
    · exact hn.pn k hk
    · exact hn.rn k hk
  refine ⟨fun j u hj => ?_, fun j u hj => ?_, fun j u hj => ?_, fun j u hj => ?_, fun j u hj => ?_, fun j k u v hj hk hjk z hz hz' => ?_, h1.bl, ?_, by rw [List.length_append]; have := h.nle; omega⟩
  · rcases look j u hj with ⟨_, rfl⟩ | ⟨_, hj'⟩
    · exact hn.own
    · exact h1.own j u hj'
  · rcases look j u hj with ⟨_, rfl⟩ | ⟨_, hj'⟩
    · exact hn.doc
    · exact h1.doc j u hj'
  · rcases look j u hj with ⟨_, rfl⟩ | ⟨_, hj'⟩
    · exact h0
    · exact h1.ns0 j u hj'
  · rcases look j u hj with ⟨_, rfl⟩ | ⟨_, hj'⟩
    · intro k hk; have := hall k hk; omega
    · exact h1.new j u hj'
  · rcases look j u hj with ⟨_, rfl⟩ | ⟨_, hj'⟩
    · exact hn.ap
    · exact h1.ap j u hj'
  · rcases look j u hj with ⟨e1, rfl⟩ | ⟨_, hj'⟩ <;> rcases look k v hk with ⟨e2, rfl⟩ | ⟨_, hk'⟩
    · omega
    · have := hall z hz; have := h.lt hk' hz'; omega
    · have := hall z hz'; have := h.lt hj' hz; omega
    · exact h.apart j k u v hj' hk' hjk z hz hz'
  · rw [List.take_append_of_le_length h.nle]; exact h1.lst
theorem MP.drop {W x : World} {Ps : List Tr} {t : Tr} {n gl cap : Nat} (h : MP W x (Ps ++ [t]) n gl cap) (hn : n = Ps.length) : MP W x Ps n gl cap := by
  have look : ∀ (j : Nat) (u : Tr), Ps[j]? = some u → (Ps ++ [t])[j]? = some u := fun j u hj => by
    have hl : j < Ps.length := by
      rcases Nat.lt_or_ge j Ps.length with h' | h'
      · exact h'
      · rw [List.getElem?_eq_none h'] at hj; cases hj
    rw [List.getElem?_append_left hl]; exact hj
  refine ⟨fun j u hj => h.own j u (look j u hj), fun j u hj => h.doc j u (look j u hj), fun j u hj => h.ns0 j u (look j u hj), fun j u hj => h.new j u (look j u hj), fun j u hj => h.ap j u (look j u hj), fun j k u v hj hk => h.apart j k u v (look j u hj) (look k v hk), h.bl, ?_, by omega⟩
  have := h.lst
  rw [List.take_append_of_le_length (by omega)] at this
  exact this
theorem MP.cells {W x : World} {Ps : List Tr} {n gl cap : Nat} (h : MP W x Ps n gl cap) {i : Nat} (hin : i < n) {t : Tr} (hi : Ps[i]? = some t) : x.cell? ⟨gl, i * 2, none⟩ = some (ptr t.1.g) ∧ x.cell? ⟨gl, i * 2 + 1, none⟩ = some (ptr t.2.1.g) := by
  have hi' : (Ps.take n)[i]? = some t := by rw [List.getElem?_take_of_lt hin]; exact hi
  obtain ⟨a, b⟩ := pcs_at _ i t hi'
  exact ⟨h.lst.cell _ _ a, h.lst.cell _ _ b⟩
theorem MP.pick {W x : World} {Ps : List Tr} {n gl cap : Nat} (h : MP W x Ps n gl cap) {i : Nat} (hin : i < n) : ∃ p r d, Ps[i]? = some (p, r, d) := by
  have hl : i < Ps.length := by have := h.nle; omega
  exact ⟨_, _, _, List.getElem?_eq_getElem hl⟩
end Go.Proofs.Ytajkhkaidjjioaa
namespace Go.Proofs.Ytajkhkaidjjioaa
open Go.RowKit
set_option maxHeartbeats 2000000
set_option maxRecDepth 100000
theorem under73 : Try.prog.underlying 73 = some (.slice 68) := by kernel_rfl
theorem info68 : (Try.prog.info? 68).map (fun i => (i.zero, i.size, i.bytes)) = some (some (.agg #[.pointer none, .pointer none]), 2, 16) := by kernel_rfl
theorem wpList_append_p {B : Nat} {w : World} {ops : Array Oper} {rest : List Oper} {o : Oper} {a : Act} {Q : Exit → Act → World → Prop} (hgd : o.guard = none) (s x : Operand)
    (ho : o.op = .call { callee := .builtin .append, args := #[s, x], argTypes := #[73, 73] }) (v : Value) (n : Nat) (C : List Value) (hs : a.eval s = v) (H : w.ownsRow B 68 2 v n C) (hB : B ≤ w.heap.size) (ad : Addr) (c : Nat) (p q : Option Addr) (hx : a.eval x = .slice (some ad) 1 c)
    (hsrc : ∀ j u, [Value.pointer p, Value.pointer q][j]? = some u → w.cell? (ad.add j) = some u) (hlen : n ≤ 1000)
    (h : ∀ v' w', w'.ownsRow B 68 2 v' (n + 1) (C ++ [.pointer p, .pointer q]) → w.grownBy w' v.ownBlock → wpList Try.prog ops Q rest (a.put o.dst v') w') : wpList Try.prog ops Q (o :: rest) a w := by
  obtain ⟨i, hi, hz, hsize, hby⟩ := info_parts info68
  obtain ⟨v', w', hr, h1, h2, _⟩ := run_append_own (P := Try.prog) w B 73 o.type 68 i (.agg #[.pointer none, .pointer none]) 2 16 under73 hi hz hsize hby rfl (by decide) v n _ H ad 1 c [.pointer p, .pointer q] rfl hsrc (fun u hu => by
    simp only [List.mem_cons, List.not_mem_nil, or_false] at hu
    rcases hu with rfl | rfl <;> rfl) (by unfold maxLen; omega) (by omega) hB
  refine wpList_plain hgd fun K hK => ?_
  unfold Oper.wp execOp
  simp only [ho, resolve, invoke, builtin, Sem.run_bind, Sem.run_pure, Result.andThen_ok, List.map_toArray, List.map_cons, List.map_nil, hs, hx, hr]
  exact hK _ _ (h _ _ h1 h2)
theorem MP.start {W x : World} {p : Dp} {r : Rp} {d : DS} {gl : Nat} (h : NewP W x p r d) (h0 : 0 < d.m.ns) (hc : Cel x gl 68 [ptr p.g, ptr r.g]) (hg : W.heap.size ≤ gl) : MP W x [(p, r, d)] 1 gl 1 := by
  have one : ∀ (i : Nat) (t : Tr), [(p, r, d)][i]? = some t → i = 0 ∧ t = (p, r, d) := fun i t hi => by
    cases i with
    | zero => simp only [List.getElem?_cons_zero, Option.some.injEq] at hi; exact ⟨rfl, hi.symm⟩
    | succ i => simp at hi
  refine ⟨fun i t hi => ?_, fun i t hi => ?_, fun i t hi => ?_, fun i t hi k hk => ?_, fun i t hi => ?_, fun i j t s hi hj hij => ?_, h.bl, ⟨hg, ⟨[], by simpa [pcs] using hc, rfl⟩, rfl, Nat.le_refl _, by unfold maxLen; omega⟩, Nat.le_refl _⟩
  · rw [(one i t hi).2]; exact h.own
  · rw [(one i t hi).2]; exact h.doc
  · rw [(one i t hi).2]; exact h0
  · rw [(one i t hi).2] at hk
    rcases Tr.mem hk with hk | hk
    · exact h.pn k hk
    · exact h.rn k hk
  · rw [(one i t hi).2]; exact h.ap
  · have := (one i t hi).1; have := (one j s hj).1; omega
/-- A pair is appended to the list. -/
theorem MP.append {W x x' : World} {Ps : List Tr} {t : Tr} {n gl cap : Nat} {v' : Value} (h : MP W x (Ps ++ [t]) n gl cap) (hn : n = Ps.length) (ho : x'.ownsRow W.heap.size 68 2 v' (n + 1) (pcs ((Ps ++ [t]).take n) ++ [ptr t.1.g, ptr t.2.1.g])) (hg : x.grownBy x' (Value.slice (some ⟨gl, 0, none⟩) n cap).ownBlock) : ∃ gl' cap', v' = .slice (some ⟨gl', 0, none⟩) (Ps ++ [t]).length cap' ∧ MP W x' (Ps ++ [t]) (Ps ++ [t]).length gl' cap' := by
  obtain ⟨gl', cap', hv, hl⟩ := PLst.of ho (by omega)
  have hlen : (Ps ++ [t]).length = n + 1 := by simp [hn]
  have hb : ButL [gl] x x' := grown_but hg (fun b hb => by
    have hb' : some gl = some b := hb
    injection hb' with hb'; rw [hb']; simp)
  have h1 := h.bl.trans (hb.below (B := W.heap.size) (fun k hk => by rw [List.mem_singleton] at hk; rw [hk]; exact h.lst.base) h.bl.size)
  refine ⟨gl', cap', by rw [hlen]; exact hv, ⟨fun i u hi => (h.own i u hi).frame hb (fun k hk hm => ?_), fun i u hi => (h.doc i u hi).frame hb (fun k hk hm => ?_), h.ns0, h.new, h.ap, h.apart, h1, ?_, Nat.le_refl _⟩⟩
  · rw [List.mem_singleton] at hm; subst hm; exact h.loff hi (List.mem_append_left _ hk)
  · rw [List.mem_singleton] at hm; subst hm; exact h.loff hi (List.mem_append_right _ hk)
  · rw [hlen]
    have e : pcs ((Ps ++ [t]).take n) ++ [ptr t.1.g, ptr t.2.1.g] = pcs ((Ps ++ [t]).take (n + 1)) := by
      rw [List.take_append_of_le_length (by omega), ← hlen, List.take_length, hn, List.take_length]
      simp [pcs]
    rw [← e]
    exact hl
/-- New over the same memories, and the pair's place in the list written. -/
theorem MP.again {W x x2 x3 : World} {Ps : List Tr} {n gl cap : Nat} (h : MP W x Ps n gl cap) (i : Nat) (hin : i < n) {p : Dp} {r q : Rp} {d e : DS} {g gw : Nat} (hi : Ps[i]? = some (p, r, d)) (hd : DB x2 ⟨g, gw, p.f⟩ e) (hg : x.heap.size ≤ g) (hgw : x.heap.size ≤ gw) (hb : ButL p.f.w x x2) (hn : NewD x2 x3 r.r q e) (h0 : 0 < e.m.ns) :
    ∀ x4, (x3.setCell ⟨gl, i * 2, none⟩ (ptr g)).setCell ⟨gl, i * 2 + 1, none⟩ (ptr q.g) = x4 → MP W x4 (Ps.set i (⟨g, gw, p.f⟩, q, e)) n gl cap := by
  have s1 := hb.size
  have hpl : ∀ k ∈ p.f.all, k ∈ p.all := fun k hk => by simp [Dp.all, hk]
  have hrl : ∀ k ∈ r.r.all, k ∈ r.all := fun k hk => by simp [Rp.all, hk]
  have hap := h.ap i _ hi
  have hpx := (h.own i _ hi).lt
  have hrx := (h.doc i _ hi).lt
  simp only at hap hpx hrx
  have hpall : ∀ k ∈ (Dp.mk g gw p.f).all, k = g ∨ k = gw ∨ k ∈ p.f.all := fun k hk => by
    simpa only [Dp.all, List.mem_cons] using hk
  have hqall : ∀ k ∈ q.all, k = q.g ∨ k = q.ge ∨ k ∈ q.r.all := fun k hk => by
    simpa only [Rp.all, List.mem_cons] using hk
  have hoff : ∀ k ∈ (Dp.mk g gw p.f).all, k ∉ r.r.all := fun k hk hm => by
    have h3 := hrx k (hrl k hm)
    rcases hpall k hk with rfl | rfl | hk
    · omega
    · omega
    · exact hap k (hpl k hk) (hrl k hm)
  have hq : ∀ k ∈ q.all, k ∈ r.all ∨ x2.heap.size ≤ k := fun k hk => by
    rcases hqall k hk with rfl | rfl | hk
    · exact .inr hn.g
    · exact .inr hn.ge
    · exact (hn.sub k hk).imp (hrl k) id
  have hb3 : ButL (p.all ++ r.all) x x3 := ((ButL.refl (p.all ++ r.all) x).trans_sub hb (fun k hk => .inl (List.mem_append_left _ (hpl k (Fp.w_all hk))))).trans_sub hn.but (fun k hk => .inl (List.mem_append_right _ (hrl k hk)))
  obtain ⟨h1, h2, h3, h4⟩ := h.swap i (p, r, d) (⟨g, gw, p.f⟩, q, e) hi (hd.frame hn.but hoff) hn.db h0 (fun k hk hm => by
    have h5 := hd.lt k hk
    rcases hqall k hm with rfl | rfl | hm
    · have := hn.g; omega
    · have := hn.ge; omega
    · rcases hn.sub k hm with hm | hm
      · exact hoff k hk hm
      · omega) (fun k hk => by
    rcases Tr.mem hk with hk | hk
    · rcases hpall k hk with rfl | rfl | hk
      · exact .inr hg
      · exact .inr hgw
      · exact .inl (List.mem_append_left _ (hpl k hk))
    · rcases hq k hk with hk | hk
      · exact .inl (List.mem_append_right _ hk)
      · exact .inr (Nat.le_trans s1 hk)) hb3
  intro x4 hx4
  subst hx4
  obtain ⟨rest, hc, hl⟩ := h4.blk
  have hlen := h4.len
  have hb4 : ButL [gl] x3 ((x3.setCell ⟨gl, i * 2, none⟩ (ptr g)).setCell ⟨gl, i * 2 + 1, none⟩ (ptr q.g)) := (ButL.setCell x3 gl (i * 2) _ (by simp)).trans (.setCell _ gl (i * 2 + 1) _ (by simp))
  have hoffl : ∀ (j : Nat) (u : Tr), (Ps.set i (⟨g, gw, p.f⟩, q, e))[j]? = some u → gl ∉ u.all := fun j u hj hm => by
    rcases Tr.mem hm with hm | hm
    · rcases (h1 j u hj).1.ty gl hm 68 _ hc with e | e | e | e | e <;> (revert e; decide)
    · rcases (h1 j u hj).2.1.ty gl hm 68 _ hc with e | e | e | e | e <;> (revert e; decide)
  refine ⟨fun j u hj => (h1 j u hj).1.frame hb4 (fun k hk hm => ?_), fun j u hj => (h1 j u hj).2.1.frame hb4 (fun k hk hm => ?_), fun j u hj => (h1 j u hj).2.2.1, fun j u hj => (h1 j u hj).2.2.2.1, fun j u hj => (h1 j u hj).2.2.2.2, h2, h3.trans (hb4.below (B := W.heap.size) (fun k hk => by rw [List.mem_singleton] at hk; rw [hk]; exact h4.base) h3.size), ?_, by rw [List.length_set]; exact h.nle⟩
  · rw [List.mem_singleton] at hm; subst hm; exact hoffl j u hj (List.mem_append_left _ hk)
  · rw [List.mem_singleton] at hm; subst hm; exact hoffl j u hj (List.mem_append_right _ hk)
  · rw [List.take_set, pcs_set _ i _ (by rw [List.length_take]; have := h.nle; omega)]
    refine ⟨h4.base, ⟨rest, ?_, ?_⟩, by simpa using hlen, h4.le, h4.mx⟩
    · have h5 := (hc.setCell (i * 2) (ptr g)).setCell (i * 2 + 1) (ptr q.g)
      rw [List.set_append_left _ _ (by omega), List.set_append_left _ _ (by rw [List.length_set]; omega)] at h5
      exact h5
    · simpa using hl
structure IT (W x : World) (Ps : List Tr) (n gl cap g11 g13 : Nat) (o : Oq) (a b : Value) : Prop where
  mp : MP W x Ps n gl cap
  b11 : Cel x g11 29 o.cs
  b13 : Cel x g13 68 [a, b]
  n13 : W.heap.size ≤ g13
  l13 : gl ≠ g13
theorem IT.ne {W x : World} {Ps : List Tr} {n gl cap g11 g13 : Nat} {o : Oq} {a b : Value} (h : IT W x Ps n gl cap g11 g13 o a b) : g11 ≠ g13 := fun e => by
  have := h.b11
  rw [e] at this
  exact absurd (this.ty h.b13) (by decide)
theorem IT.on {W x x' : World} {Ps : List Tr} {n gl cap g11 g13 : Nat} {o : Oq} {a b : Value} (h : IT W x Ps n gl cap g11 g13 o a b) (hb : Below x.heap.size x x') : IT W x' Ps n gl cap g11 g13 o a b := ⟨h.mp.on hb, h.b11.on hb, h.b13.on hb, h.n13, h.l13⟩
theorem IT.put {W x x' : World} {Ps : List Tr} {n gl cap g11 g13 : Nat} {o : Oq} {a b a' b' : Value} (h : IT W x Ps n gl cap g11 g13 o a b) (hc : Cel x' g13 68 [a', b']) (hb : ButL [g13] x x') : IT W x' Ps n gl cap g11 g13 o a' b' :=
  ⟨h.mp.box h.b13 (.inl rfl) h.n13 h.l13 hb, h.b11.but hb (by rw [List.mem_singleton]; exact h.ne), hc, h.n13, h.l13⟩
theorem IT.step {W x x' : World} {Ps : List Tr} {n gl cap g11 g13 : Nat} {o : Oq} {a b : Value} (h : IT W x Ps n gl cap g11 g13 o a b) (i : Nat) {p : Dp} {r q : Rp} {d d' : DS} (hi : Ps[i]? = some (p, r, d)) (hT : TP x x' p r q d' d' []) (hn : d'.m.ns = d.m.ns) : IT W x' (Ps.set i (p, q, d')) n gl cap g11 g13 o a b :=
  ⟨h.mp.step i hi hT hn, h.b11.but hT.but (h.mp.off hi h.b11 (.inr rfl)), h.b13.but hT.but (h.mp.off hi h.b13 (.inl rfl)), h.n13, h.l13⟩
theorem IT.push {W x x' : World} {Ps : List Tr} {n gl cap g11 g13 : Nat} {o : Oq} {a b : Value} (h : IT W x Ps n gl cap g11 g13 o a b) {p : Dp} {r : Rp} {d : DS} (hn : NewP x x' p r d) (h0 : 0 < d.m.ns) : IT W x' (Ps ++ [(p, r, d)]) n gl cap g11 g13 o a b :=
  ⟨h.mp.push hn h0, h.b11.on hn.bl, h.b13.on hn.bl, h.n13, h.l13⟩
theorem pair_cloned {x x1 x2 : World} {p : Dp} {q : Rp} {d : DS} (h1 : NewDB x x1 p d) (h2 : NewRD x1 x2 q d) : NewP x x2 p q d :=
  ⟨h1.db.on h2.below, h2.db, below_on h1.below h2.below, h1.new, fun k hk => by have := h2.new k hk; have := h1.below.size; omega, fun k hk hm => by have := h1.db.lt k hk; have := h2.new k hm; omega⟩
/-- What loaded answers: nothing, or a pair of its own. -/
def LO (x x' : World) (a b : Value) (m : MS) : Prop := (a = .pointer none ∧ b = .pointer none ∧ Below x.heap.size x x') ∨ ∃ p r d, a = ptr p.g ∧ b = ptr r.g ∧ NewP x x' p r d ∧ d.m = m
theorem LO.below {x x' : World} {a b : Value} {m : MS} (h : LO x x' a b m) : Below x.heap.size x x' := by
  rcases h with ⟨_, _, h⟩ | ⟨p, r, d, _, _, h, _⟩
  · exact h
  · exact h.bl
theorem loaded_lo (W : World) (p : Dp) (r : Rp) (d : DS) (h : DB W p d) (h' : RDB W r d) (h0 : 0 < d.m.ns) (a v : Int) (a0 : -9223372036854775808 ≤ a) (a1 : a ≤ 9223372036854775807) :
    Calls Try.prog 35 #[.agg #[ptr p.g, ptr r.g], .int .i64 a, .int .u32 v] W fun x W' => ∃ s t : Option Addr, x = .returned (.tuple #[.agg #[.pointer s, .pointer t], .bool true]) ∧ LO W W' (.pointer s) (.pointer t) d.m :=
  (loaded_any W p r d h h' h0 a v a0 a1).mono fun x W' h => by
    rcases h with ⟨h1, h2⟩ | ⟨p2, r2, d2, h1, h2, h3⟩
    · exact ⟨none, none, h1, .inl ⟨rfl, rfl, h2⟩⟩
    · exact ⟨_, _, h1, .inr ⟨p2, r2, d2, rfl, rfl, h2, h3⟩⟩
end Go.Proofs.Ytajkhkaidjjioaa
