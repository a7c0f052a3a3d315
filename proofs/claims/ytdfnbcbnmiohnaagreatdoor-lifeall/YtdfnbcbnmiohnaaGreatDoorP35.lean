import Derived.Test.YtdfnbcbnmiohnaaGreatDoorP33
import Derived.Test.YtdfnbcbnmiohnaaGreatDoorP01
import Derived.Test.YtdfnbcbnmiohnaaGreatDoorP34
import Derived.Test.YtdfnbcbnmiohnaaGreatDoorP28
namespace Go.Proofs.YtdfnbcbnmiohnaaGreatDoor
open Go.RowKit
structure Rp where
  g : Nat
  ge : Nat
  cap : Nat
  r : Rf
def Rp.all (p : Rp) : List Nat := p.g :: p.ge :: p.r.all
def ecs (E : List En) : List Value := E.flatMap En.cs
theorem ecs_len (E : List En) : (ecs E).length = E.length * 5 := by
  induction E with
  | nil => rfl
  | cons x E ih => simp only [ecs, List.flatMap_cons, List.length_append, List.length_cons] at ih ⊢; rw [ih]; simp [En.cs]; omega
theorem ecs_at : ∀ (E : List En) (k j : Nat), k < E.length → j < 5 → (ecs E)[k * 5 + j]? = (E.getD k En.zero).cs[j]?
  | [], k, j, h, _ => by simp at h
  | x :: E, 0, j, _, hj => by
    rw [Nat.zero_mul, Nat.zero_add]
    show (x.cs ++ ecs E)[j]? = x.cs[j]?
    exact List.getElem?_append_left (by simpa [En.cs] using hj)
  | x :: E, k + 1, j, h, hj => by
    have ih := ecs_at E k j (by simpa using h) hj
    show (x.cs ++ ecs E)[(k + 1) * 5 + j]? = (E.getD k En.zero).cs[j]?
    rw [List.getElem?_append_right (by simp [En.cs]; omega), ← ih]
    congr 1
    simp [En.cs]
    omega
theorem ecs_fld : ∀ (E : List En) (k j : Nat) (x : En) (v : Value), k < E.length → j < 5 → x.cs = (E.getD k En.zero).cs.set j v → (ecs E).set (k * 5 + j) v = ecs (E.set k x)
  | [], k, j, x, v, h, _, _ => by simp at h
  | y :: E, 0, j, x, v, _, hj, hx => by
    rw [Nat.zero_mul, Nat.zero_add]
    show (y.cs ++ ecs E).set j v = x.cs ++ ecs E
    rw [hx, List.set_append_left _ _ (by simpa [En.cs] using hj)]
    rfl
  | y :: E, k + 1, j, x, v, h, hj, hx => by
    have ih := ecs_fld E k j x v (by simpa using h) hj hx
    show (y.cs ++ ecs E).set ((k + 1) * 5 + j) v = y.cs ++ ecs (E.set k x)
    rw [List.set_append_right _ _ (by simp [En.cs]; omega), ← ih]
    congr 2
    simp [En.cs]
    omega
theorem ecs_set5 : ∀ (E : List En) (k : Nat) (x : En), k < E.length → (((((ecs E).set (k * 5) (.int .i64 x.t)).set (k * 5 + 1) (.int .i64 x.o)).set (k * 5 + 2) (.int .i64 x.r)).set (k * 5 + 3) (.int .i64 x.s)).set (k * 5 + 4) (.bool x.e) = ecs (E.set k x)
  | [], k, x, h => by simp at h
  | y :: E, 0, x, _ => by
    show List.set (List.set (List.set (List.set (List.set (y.cs ++ ecs E) _ _) _ _) _ _) _ _) _ _ = x.cs ++ ecs E
    simp [En.cs]
  | y :: E, k + 1, x, h => by
    have ih := ecs_set5 E k x (by simpa using h)
    show List.set (List.set (List.set (List.set (List.set (y.cs ++ ecs E) _ _) _ _) _ _) _ _) _ _ = y.cs ++ ecs (E.set k x)
    rw [← ih]
    have e : ∀ i, (k + 1) * 5 + i = (k * 5 + i) + 5 := fun i => by omega
    have e0 : (k + 1) * 5 = k * 5 + 5 := by omega
    rw [e 1, e 2, e 3, e 4, e0]
    simp only [En.cs, List.cons_append, List.nil_append, tqS]
structure RDB (w : World) (p : Rp) (d : DS) : Prop where
  mem : RMem w p.r d.m
  cel : Cel w p.g 150 [ptr p.r.g, .slice (some ⟨p.ge, 0, none⟩) d.m.ns p.cap, .int .i64 d.b]
  ents : ∃ rest, Cel w p.ge 144 (ecs d.E ++ rest)
  ok : d.Ok
theorem RMem.ty_w {w : World} {r : Rf} {m : MS} (h : RMem w r m) : ∀ k ∈ r.all, ∀ t cs, Cel w k t cs → t = 186 ∨ t = 51 ∨ t = 43 := by
  intro k hk t cs hc
  rcases Rf.all_mem hk with rfl | rfl | ⟨j, hj, hb⟩
  · exact .inl (hc.ty h.cel)
  · obtain ⟨cur, h1, _⟩ := h.pages
    have h1' : Cel w r.gp 51 cur.toList := by show w.heap[r.gp]? = _; rw [h1]
    exact .inr (.inl (hc.ty h1'))
  · exact .inr (.inr ((h.pg j (by rw [← h.len]; exact hj)).ty hb hc))
theorem RMem.off {w : World} {r : Rf} {m : MS} (h : RMem w r m) {g : Nat} {t : TypeId} {cs : List Value} (hc : Cel w g t cs) (ht : t ≠ 186 ∧ t ≠ 51 ∧ t ≠ 43) : g ∉ r.all := fun hm => by
  rcases h.ty_w g hm t cs hc with e | e | e
  · exact ht.1 e
  · exact ht.2.1 e
  · exact ht.2.2 e
theorem RDB.lt {w : World} {p : Rp} {d : DS} (h : RDB w p d) : ∀ k ∈ p.all, k < w.heap.size := by
  intro k hk
  simp only [Rp.all, List.mem_cons] at hk
  rcases hk with rfl | rfl | hk
  · exact h.cel.lt
  · obtain ⟨_, h1⟩ := h.ents; exact h1.lt
  · exact h.mem.lt k hk
theorem RDB.ne {w : World} {p : Rp} {d : DS} (h : RDB w p d) : p.g ≠ p.ge := fun e => by
  obtain ⟨_, h1⟩ := h.ents
  have := h.cel
  rw [e] at this
  exact absurd (this.ty h1) (by decide)
theorem RDB.frame {w w' : World} {p : Rp} {d : DS} {G : List Nat} (h : RDB w p d) (hb : ButL G w w') (hd : ∀ k ∈ p.all, k ∉ G) : RDB w' p d :=
  ⟨h.mem.frame hb (fun k hk => hd k (by simp [Rp.all, hk])), h.cel.but hb (hd _ (by simp [Rp.all])), by obtain ⟨r, h1⟩ := h.ents; exact ⟨r, h1.but hb (hd _ (by simp [Rp.all]))⟩, h.ok⟩
theorem RDB.on {w w' : World} {p : Rp} {d : DS} (h : RDB w p d) (hb : Below w.heap.size w w') : RDB w' p d := h.frame (G := []) (.of hb) (by simp)
theorem RDB.c0 {w : World} {p : Rp} {d : DS} (h : RDB w p d) : w.cell? ⟨p.g, 0, none⟩ = some (.pointer (some ⟨p.r.g, 0, none⟩)) := h.cel.cell 0
theorem RDB.c1 {w : World} {p : Rp} {d : DS} (h : RDB w p d) : w.cell? ⟨p.g, 1, none⟩ = some (.slice (some ⟨p.ge, 0, none⟩) d.m.ns p.cap) := h.cel.cell 1
theorem RDB.c2 {w : World} {p : Rp} {d : DS} (h : RDB w p d) : w.cell? ⟨p.g, 2, none⟩ = some (.int .i64 d.b) := h.cel.cell 2
theorem RDB.e0 {w : World} {p : Rp} {d : DS} (h : RDB w p d) (k j : Nat) (hk : k < d.m.ns) (hj : j < 5) : w.cell? ⟨p.ge, k * 5 + j, none⟩ = (d.at k).cs[j]? := by
  obtain ⟨r, h1⟩ := h.ents
  have hl : k < d.E.length := by rw [h.ok.len]; exact hk
  rw [h1.cell, List.getElem?_append_left (by rw [ecs_len]; omega), ecs_at d.E k j hl hj]
  rfl
theorem RDB.row {w : World} {p : Rp} {d : DS} (h : RDB w p d) (k : Nat) (hk : k < d.m.ns) : w.cell? ⟨p.ge, k * 5, none⟩ = some (.int .i64 (d.at k).t) ∧ w.cell? ⟨p.ge, k * 5 + 1, none⟩ = some (.int .i64 (d.at k).o) ∧ w.cell? ⟨p.ge, k * 5 + 2, none⟩ = some (.int .i64 (d.at k).r) ∧ w.cell? ⟨p.ge, k * 5 + 3, none⟩ = some (.int .i64 (d.at k).s) ∧ w.cell? ⟨p.ge, k * 5 + 4, none⟩ = some (.bool (d.at k).e) :=
  ⟨h.e0 k 0 hk (by decide), h.e0 k 1 hk (by decide), h.e0 k 2 hk (by decide), h.e0 k 3 hk (by decide), h.e0 k 4 hk (by decide)⟩
theorem RDB.fz {w : World} {p : Rp} {d : DS} (h : RDB w p d) (j : Nat) : w.frozen? ⟨p.ge, j, none⟩ = false := by
  obtain ⟨r, h1⟩ := h.ents
  exact h1.free j
theorem ButL.trans_sub {G G' : List Nat} {a b c : World} (h : ButL G a b) (h' : ButL G' b c) (hs : ∀ k ∈ G', k ∈ G ∨ a.heap.size ≤ k) : ButL G a c :=
  ⟨h'.os.trans h.os, h'.tape.trans h.tape, h'.output.trans h.output, Nat.le_trans h.size h'.size, fun k hk hn => (h'.block k (Nat.lt_of_lt_of_le hk h.size) (fun hm => (hs k hm).elim hn (fun e => by omega))).trans (h.block k hk hn)⟩
structure RG (W w : World) (p q : Rp) (d : DS) : Prop where
  db : RDB w q d
  but : ButL p.all W w
  g : q.g = p.g
  sub : ∀ k ∈ q.all, k ∈ p.all ∨ W.heap.size ≤ k
theorem RG.start {W : World} {p : Rp} {d : DS} (h : RDB W p d) : RG W W p p d := ⟨h, .refl _ _, rfl, fun _ hk => .inl hk⟩
theorem RG.on {W w w' : World} {p q : Rp} {d : DS} (h : RG W w p q d) (hb : Below w.heap.size w w') : RG W w' p q d := ⟨h.db.on hb, h.but.on hb, h.g, h.sub⟩
theorem RG.ents {W w w' : World} {p q : Rp} {d : DS} {E' : List En} {rest : List Value} (h : RG W w p q d) (hc : Cel w' q.ge 144 (ecs E' ++ rest)) (hb : ButL [q.ge] w w') (hk : DS.Ok { d with E := E' }) : RG W w' p q { d with E := E' } := by
  obtain ⟨r0, h1⟩ := h.db.ents
  refine ⟨⟨h.db.mem.frame hb (fun k hk hm => ?_), h.db.cel.but hb (by rw [List.mem_singleton]; exact h.db.ne), ⟨rest, hc⟩, hk⟩, h.but.trans_sub hb (fun k hk => h.sub k (by rw [List.mem_singleton] at hk; rw [hk]; simp [Rp.all])), h.g, h.sub⟩
  rw [List.mem_singleton] at hm
  subst hm
  exact h.db.mem.off h1 (by decide) hk
theorem RG.lay5 {W w w' : World} {p q : Rp} {d : DS} (h : RG W w p q d) (k : Nat) (hk : k < d.m.ns) (x : En) (hx : x.ok = true) (ho : x.o < (d.m.ns : Int))
    (e : ((((w.setCell ⟨q.ge, k * 5, none⟩ (.int .i64 x.t)).setCell ⟨q.ge, k * 5 + 1, none⟩ (.int .i64 x.o)).setCell ⟨q.ge, k * 5 + 2, none⟩ (.int .i64 x.r)).setCell ⟨q.ge, k * 5 + 3, none⟩ (.int .i64 x.s)).setCell ⟨q.ge, k * 5 + 4, none⟩ (.bool x.e) = w') : RG W w' p q (d.lay k x) := by
  subst e
  obtain ⟨r, h1⟩ := h.db.ents
  have hl : k < d.E.length := by rw [h.db.ok.len]; exact hk
  have hn : (ecs d.E).length = d.E.length * 5 := ecs_len _
  refine h.ents (E' := d.E.set k x) (rest := r) ?_ (((((ButL.setCell w q.ge (k * 5) _ (by simp)).trans (.setCell _ q.ge (k * 5 + 1) _ (by simp))).trans (.setCell _ q.ge (k * 5 + 2) _ (by simp))).trans (.setCell _ q.ge (k * 5 + 3) _ (by simp))).trans (.setCell _ q.ge (k * 5 + 4) _ (by simp))) (h.db.ok.lay k x hx ho)
  have h5 := ((((h1.setCell (k * 5) (.int .i64 x.t)).setCell (k * 5 + 1) (.int .i64 x.o)).setCell (k * 5 + 2) (.int .i64 x.r)).setCell (k * 5 + 3) (.int .i64 x.s)).setCell (k * 5 + 4) (.bool x.e)
  rw [← ecs_set5 d.E k x hl]
  rw [List.set_append_left _ _ (by omega), List.set_append_left _ _ (by simp only [List.length_set]; omega), List.set_append_left _ _ (by simp only [List.length_set]; omega), List.set_append_left _ _ (by simp only [List.length_set]; omega), List.set_append_left _ _ (by simp only [List.length_set]; omega)] at h5
  exact h5
theorem RG.fld {W w : World} {p q : Rp} {d : DS} (h : RG W w p q d) (k : Nat) (hk : k < d.m.ns) (j : Nat) (hj : j < 5) (x : En) (v : Value) (hx : x.ok = true) (ho : x.o < (d.m.ns : Int)) (he : x.cs = (d.at k).cs.set j v) : RG W (w.setCell ⟨q.ge, k * 5 + j, none⟩ v) p q (d.lay k x) := by
  obtain ⟨r, h1⟩ := h.db.ents
  have hl : k < d.E.length := by rw [h.db.ok.len]; exact hk
  have hn : (ecs d.E).length = d.E.length * 5 := ecs_len _
  refine h.ents (E' := d.E.set k x) (rest := r) ?_ (.setCell _ _ _ _ (by simp)) (h.db.ok.lay k x hx ho)
  have h5 := h1.setCell (k * 5 + j) v
  rw [List.set_append_left _ _ (by omega), ecs_fld d.E k j x v hl hj he] at h5
  exact h5
theorem RG.mem {W w w' : World} {p q : Rp} {d : DS} {r' : Rf} {m' : MS} (h : RG W w p q d) (hs : RSt w w' q.r r' m') (hn : m'.ns = d.m.ns) : RG W w' p { q with r := r' } { d with m := m' } := by
  obtain ⟨r0, h1⟩ := h.db.ents
  have hall : ∀ k ∈ q.r.all, k ∈ q.all := fun k hk => by simp [Rp.all, hk]
  refine ⟨⟨hs.mem, ?_, ⟨r0, h1.but hs.but (h.db.mem.off h1 (by decide))⟩, ?_⟩, h.but.trans_sub hs.but (fun k hk => h.sub k (hall k hk)), h.g, fun k hk => ?_⟩
  · have := h.db.cel.but hs.but (h.db.mem.off h.db.cel (by decide))
    show Cel w' q.g 150 [ptr r'.g, .slice (some ⟨q.ge, 0, none⟩) m'.ns q.cap, .int .i64 d.b]
    rw [hs.g, hn]
    exact this
  · obtain ⟨a, b, c, e, f, g⟩ := h.db.ok
    exact ⟨by simpa only [hn] using a, by simpa only [hn] using b, fun k hk => c k (by have hk' : k < m'.ns := hk; omega), fun k hk => by
      have hk' : k < m'.ns := hk
      have := e k (by omega)
      show (d.at k).o < (m'.ns : Int)
      rw [hn]; exact this, f, g⟩
  · simp only [Rp.all, List.mem_cons] at hk
    rcases hk with hk | hk | hk
    · exact h.sub k (by simp [Rp.all, hk])
    · exact h.sub k (by simp [Rp.all, hk])
    · rcases hs.sub k hk with hk | hk
      · exact h.sub k (hall k hk)
      · exact .inr (Nat.le_trans h.but.size hk)
theorem RG.born {W w : World} {p q : Rp} {d : DS} (h : RG W w p q d) (hb : d.b < 64) : RG W (w.setCell ⟨q.g, 2, none⟩ (.int .i64 (d.b + 1))) p q { d with b := d.b + 1 } := by
  obtain ⟨r0, h1⟩ := h.db.ents
  have hbt : ButL [q.g] w (w.setCell ⟨q.g, 2, none⟩ (.int .i64 (d.b + 1))) := .setCell _ _ _ _ (by simp)
  refine ⟨⟨h.db.mem.frame hbt (fun k hk hm => ?_), h.db.cel.setCell 2 _, ⟨r0, h1.but hbt (by rw [List.mem_singleton]; exact Ne.symm h.db.ne)⟩, ?_⟩, h.but.trans_sub hbt (fun k hk => h.sub k (by rw [List.mem_singleton] at hk; rw [hk]; simp [Rp.all])), h.g, h.sub⟩
  · rw [List.mem_singleton] at hm
    subst hm
    exact h.db.mem.off h.db.cel (by decide) hk
  · obtain ⟨a, b, c, e, f, g⟩ := h.db.ok
    exact ⟨a, b, c, e, by show 0 ≤ d.b + 1; omega, by show d.b + 1 ≤ 64; omega⟩
set_option maxHeartbeats 4000000
set_option maxRecDepth 100000
theorem RDB.rng {w : World} {p : Rp} {d : DS} (h : RDB w p d) (k : Nat) (hk : k < d.m.ns) : w.rangeAt p.ge (k * 5) (d.at k).cs := fun j v hv => by
  have hj : j < 5 := by have := (List.getElem?_eq_some_iff.1 hv).1; simpa [En.cs] using this
  rw [h.e0 k j hk hj, hv]
theorem rframe_any (W : World) (p : Int) : Calls Tryz.prog 121 #[.int .i64 p] W fun x W' => x = .returned (fr true p) ∧ Below W.heap.size W W' := by
  unfold fr
  go_enter Tryz.func121, Tryz.ntmps121
  go_wp2_with fail
  go_returns
  exact ⟨rfl, below_one _ _⟩
theorem rpages_any (W : World) (p : Rp) (d : DS) (h : RDB W p d) : Calls Tryz.prog 88 #[ptr p.g] W fun x W' => x = .returned (.int .i64 (d.m.ns : Int)) ∧ W = W' := by
  have c1 := h.c1
  have b0 : wrap64 (d.m.ns : Int) = (d.m.ns : Int) := by have := h.ok.n64; unfold wrap64; omega
  clear h
  simp only [ptr] at *
  generalize d.m.ns = n at *
  go_enter Tryz.func88, Tryz.ntmps88
  go_wp2_with fail
  go_ret
  exact ⟨rfl, rfl⟩
theorem DS.ent_no {d : DS} {q : Int} (h : d.there q = false) : d.ent q = En.zero := by simp [DS.ent, h]
theorem ris_any (W : World) (p : Rp) (d : DS) (h : RDB W p d) (q t : Int) : Calls Tryz.prog 131 #[ptr p.g, .int .i64 q, .int .i64 t] W fun e W' => e = .returned (.bool (d.there q && ((d.ent q).t == t))) ∧ W = W' := by
  have c1 := h.c1
  by_cases hq : d.there q = true
  · obtain ⟨q0, q1, eq⟩ := there_lt hq
    rw [hq, ent_at hq]
    obtain ⟨r0, _, _, _, _⟩ := h.row q.toNat q1
    generalize q.toNat = k at *
    subst eq
    generalize (d.at k).t = dt at *
    have q2 : (k : Int) < (d.m.ns : Int) := by omega
    generalize d.m.ns = n at *
    clear h hq
    simp only [ptr, Bool.true_and] at *
    go_enter Tryz.func131, Tryz.ntmps131
    go_wp2_with fail
    go_ret
    exact ⟨rfl, rfl⟩
  · have hq' : d.there q = false := by simpa using hq
    rw [hq']
    have hc : q < 0 ∨ (0 ≤ q ∧ (d.m.ns : Int) ≤ q) := by
      have := of_decide_eq_false hq'
      omega
    clear h hq hq'
    simp only [ptr, Bool.false_and] at *
    generalize d.m.ns = n at *
    rcases hc with hc | ⟨h0, hc⟩
    · go_enter Tryz.func131, Tryz.ntmps131
      go_wp2_with fail
      go_ret
      exact ⟨rfl, rfl⟩
    · go_enter Tryz.func131, Tryz.ntmps131
      go_wp2_with fail
      go_ret
      exact ⟨rfl, rfl⟩
theorem built_zR : Tryz.prog.built 144 [] = some En.zero.cs.toArray := by kernel_rfl
theorem wpList_build_zR {ops : Array Oper} {rest : List Oper} {o : Oper} {a : Act} {w : World} {Q : Exit → Act → World → Prop} (hgd : o.guard = none) (ho : o.op = .build 144 #[])
    (h : wpList Tryz.prog ops Q rest (a.put o.dst (.agg En.zero.cs.toArray)) w) : wpList Tryz.prog ops Q (o :: rest) a w :=
  wpList_build_f hgd 144 _ ho #[] (by simp) _ built_zR h
theorem rentry_any (W : World) (p : Rp) (d : DS) (h : RDB W p d) (q : Int) :
    Calls Tryz.prog 80 #[ptr p.g, .int .i64 q] W fun x W' => x = .returned (.tuple #[(d.ent q).v, .int .i64 (d.entE q)]) ∧ Below W.heap.size W W' := by
  have B0 := hid (bag_one W 144 En.zero.cs)
  have HX := hid (h.on (below_one W (.cells En.zero.cs.toArray 144)))
  by_cases hq : d.there q = true
  · obtain ⟨q0, q1, eq⟩ := there_lt hq
    have e2 : d.entE q = 0 := by simp [DS.entE, hq]
    rw [e2, ent_at hq]
    have HR := hid (fun w (hw : RDB w p d) => hw.rng q.toNat q1)
    have HC1 := hid (fun w (hw : RDB w p d) => hw.c1)
    generalize q.toNat = k at *
    subst eq
    have q2 : (k : Int) < (d.m.ns : Int) := by omega
    generalize d.at k = D at *
    clear h hq e2
    simp only [ptr, En.v, En.zero, En.cs] at HX B0 ⊢
    go_enter Tryz.func80, Tryz.ntmps80
    go_upto_region 1 with fail
    generalize W.alloc _ = X at *
    generalize hg : W.heap.size = g4 at B0 ⊢
    have HG := hid hg
    clear hg
    have c1 := HC1.out _ HX.out
    generalize d.m.ns = n at *
    go_wp2_with (first | (refine wpList_load_mid rfl 144 _ rfl p.ge (k * 5) (by go_simp) _ _ (HR.out _ HX.out) underR rfl (by rw [sizeR]; rfl) ?_) | (refine wpList_store_st rfl 144 _ _ rfl g4 D.cs rfl rfl (B0.out.get 0 rfl) sizeR rfl rfl ?_; intro w4 hc hb hs; have HE := hid (And.intro hc (B0.out.below.trans (hb.below (by have := HG.out; simp; omega) B0.out.below.size))); clear hc hb hs))
    exact ret_st2 rfl rfl g4 _ rfl HE.out.1 underR rfl sizeR ⟨rfl, HE.out.2⟩
  · have hq' : d.there q = false := by simpa using hq
    have e2 : d.entE q = 5 := by simp [DS.entE, hq']
    rw [e2, DS.ent_no hq']
    have c1 := HX.out.c1
    have hc : q < 0 ∨ (0 ≤ q ∧ (d.m.ns : Int) ≤ q) := by
      have := of_decide_eq_false hq'
      omega
    clear h hq hq' e2
    simp only [ptr, En.v, En.zero, En.cs] at HX B0 c1 ⊢
    rcases hc with hc | ⟨h0, hc⟩
    · go_enter Tryz.func80, Tryz.ntmps80
      go_upto_region 1 with fail
      generalize W.alloc _ = X at *
      generalize hg : W.heap.size = g4 at B0 ⊢
      have HG := hid hg
      clear hg
      generalize d.m.ns = n at *
      go_wp2_with (first | (refine wpList_build_zR rfl rfl ?_) | (refine wpList_store_st rfl 144 _ _ rfl g4 En.zero.cs rfl rfl (B0.out.get 0 rfl) sizeR rfl rfl ?_; intro w4 hc hb hs; have HE := hid (And.intro hc (B0.out.below.trans (hb.below (by have := HG.out; simp; omega) B0.out.below.size))); clear hc hb hs))
      exact ret_st2 rfl rfl g4 _ rfl HE.out.1 underR rfl sizeR ⟨rfl, HE.out.2⟩
    · go_enter Tryz.func80, Tryz.ntmps80
      go_upto_region 1 with fail
      generalize W.alloc _ = X at *
      generalize hg : W.heap.size = g4 at B0 ⊢
      have HG := hid hg
      clear hg
      generalize d.m.ns = n at *
      go_wp2_with (first | (refine wpList_build_zR rfl rfl ?_) | (refine wpList_store_st rfl 144 _ _ rfl g4 En.zero.cs rfl rfl (B0.out.get 0 rfl) sizeR rfl rfl ?_; intro w4 hc hb hs; have HE := hid (And.intro hc (B0.out.below.trans (hb.below (by have := HG.out; simp; omega) B0.out.below.size))); clear hc hb hs))
      exact ret_st2 rfl rfl g4 _ rfl HE.out.1 underR rfl sizeR ⟨rfl, HE.out.2⟩
end Go.Proofs.YtdfnbcbnmiohnaaGreatDoor
