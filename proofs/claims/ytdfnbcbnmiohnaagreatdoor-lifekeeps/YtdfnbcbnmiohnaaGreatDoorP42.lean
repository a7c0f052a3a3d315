import Derived.Test.YtdfnbcbnmiohnaaGreatDoorP41
import Derived.Test.YtdfnbcbnmiohnaaGreatDoorP40
import Derived.Test.YtdfnbcbnmiohnaaGreatDoorP33
import Derived.Test.YtdfnbcbnmiohnaaGreatDoorP27
namespace Go.Proofs.YtdfnbcbnmiohnaaGreatDoor
open Go.RowKit
set_option maxHeartbeats 8000000
set_option maxRecDepth 100000
structure R4 (W x : World) (g1 g2 g4 g5 : Nat) (a b : List Value) (y : En) (c : List Value) : Prop where
  c1 : Cel x g1 162 a
  c2 : Cel x g2 144 b
  c4 : Cel x g4 144 y.cs
  c5 : Cel x g5 162 c
  below : Below W.heap.size W x
  l2 : W.heap.size ≤ g2
theorem R4.put {W x x' : World} {g1 g2 g4 g5 : Nat} {a b c es : List Value} {y : En} (k : R4 W x g1 g2 g4 g5 a b y c) (hc : Cel x' g2 144 es) (hb : ButL [g2] x x') : Cel x' g2 144 es ∧ Below W.heap.size W x' :=
  ⟨hc, k.below.trans (hb.below (B := W.heap.size) (by simpa using k.l2) k.below.size)⟩
end Go.Proofs.YtdfnbcbnmiohnaaGreatDoor
namespace Go.Proofs.YtdfnbcbnmiohnaaGreatDoor
open Go.RowKit
structure Rp where
  g : Nat
  ge : Nat
  cap : Nat
  r : Rf
def Rp.all (p : Rp) : List Nat := p.g :: p.ge :: p.r.all
def ecs (E : List En) : List Value := E.flatMap En.cs
theorem ecs_len (E : List En) : (ecs E).length = E.length * 5 := by
  induction E with
  | nil => rfl
  | cons x E ih => simp only [ecs, List.flatMap_cons, List.length_append, List.length_cons] at ih ⊢; rw [ih]; simp [En.cs]; omega
theorem ecs_at : ∀ (E : List En) (k j : Nat), k < E.length → j < 5 → (ecs E)[k * 5 + j]? = (E.getD k En.zero).cs[j]?
  | [], k, j, h, _ => by simp at h
  | x :: E, 0, j, _, hj => by
    rw [Nat.zero_mul, Nat.zero_add]
    show (x.cs ++ ecs E)[j]? = x.cs[j]?
    exact List.getElem?_append_left (by simpa [En.cs] using hj)
  | x :: E, k + 1, j, h, hj => by
    have ih := ecs_at E k j (by simpa using h) hj
    show (x.cs ++ ecs E)[(k + 1) * 5 + j]? = (E.getD k En.zero).cs[j]?
    rw [List.getElem?_append_right (by simp [En.cs]; omega), ← ih]
    congr 1
    simp [En.cs]
    omega
theorem ecs_fld : ∀ (E : List En) (k j : Nat) (x : En) (v : Value), k < E.length → j < 5 → x.cs = (E.getD k En.zero).cs.set j v → (ecs E).set (k * 5 + j) v = ecs (E.set k x)
  | [], k, j, x, v, h, _, _ => by simp at h
  | y :: E, 0, j, x, v, _, hj, hx => by
    rw [Nat.zero_mul, Nat.zero_add]
    show (y.cs ++ ecs E).set j v = x.cs ++ ecs E
    rw [hx, List.set_append_left _ _ (by simpa [En.cs] using hj)]
    rfl
  | y :: E, k + 1, j, x, v, h, hj, hx => by
    have ih := ecs_fld E k j x v (by simpa using h) hj hx
    show (y.cs ++ ecs E).set ((k + 1) * 5 + j) v = y.cs ++ ecs (E.set k x)
    rw [List.set_append_right _ _ (by simp [En.cs]; omega), ← ih]
    congr 2
    simp [En.cs]
    omega
structure RDB (w : World) (p : Rp) (d : DS) : Prop where
  mem : RMem w p.r d.m
  cel : Cel w p.g 150 [ptr p.r.g, .slice (some ⟨p.ge, 0, none⟩) d.m.ns p.cap, .int .i64 d.b]
  ents : ∃ rest, Cel w p.ge 144 (ecs d.E ++ rest)
  ok : d.Ok
theorem RMem.ty_w {w : World} {r : Rf} {m : MS} (h : RMem w r m) : ∀ k ∈ r.all, ∀ t cs, Cel w k t cs → t = 186 ∨ t = 51 ∨ t = 43 := by
  intro k hk t cs hc
  rcases Rf.all_mem hk with rfl | rfl | ⟨j, hj, hb⟩
  · exact .inl (hc.ty h.cel)
  · obtain ⟨cur, h1, _⟩ := h.pages
    have h1' : Cel w r.gp 51 cur.toList := by show w.heap[r.gp]? = _; rw [h1]
    exact .inr (.inl (hc.ty h1'))
  · exact .inr (.inr ((h.pg j (by rw [← h.len]; exact hj)).ty hb hc))
theorem RMem.off {w : World} {r : Rf} {m : MS} (h : RMem w r m) {g : Nat} {t : TypeId} {cs : List Value} (hc : Cel w g t cs) (ht : t ≠ 186 ∧ t ≠ 51 ∧ t ≠ 43) : g ∉ r.all := fun hm => by
  rcases h.ty_w g hm t cs hc with e | e | e
  · exact ht.1 e
  · exact ht.2.1 e
  · exact ht.2.2 e
theorem RDB.lt {w : World} {p : Rp} {d : DS} (h : RDB w p d) : ∀ k ∈ p.all, k < w.heap.size := by
  intro k hk
  simp only [Rp.all, List.mem_cons] at hk
  rcases hk with rfl | rfl | hk
  · exact h.cel.lt
  · obtain ⟨_, h1⟩ := h.ents; exact h1.lt
  · exact h.mem.lt k hk
theorem RDB.ne {w : World} {p : Rp} {d : DS} (h : RDB w p d) : p.g ≠ p.ge := fun e => by
  obtain ⟨_, h1⟩ := h.ents
  have := h.cel
  rw [e] at this
  exact absurd (this.ty h1) (by decide)
theorem RDB.frame {w w' : World} {p : Rp} {d : DS} {G : List Nat} (h : RDB w p d) (hb : ButL G w w') (hd : ∀ k ∈ p.all, k ∉ G) : RDB w' p d :=
  ⟨h.mem.frame hb (fun k hk => hd k (by simp [Rp.all, hk])), h.cel.but hb (hd _ (by simp [Rp.all])), by obtain ⟨r, h1⟩ := h.ents; exact ⟨r, h1.but hb (hd _ (by simp [Rp.all]))⟩, h.ok⟩
theorem RDB.on {w w' : World} {p : Rp} {d : DS} (h : RDB w p d) (hb : Below w.heap.size w w') : RDB w' p d := h.frame (G := []) (.of hb) (by simp)
theorem RDB.c0 {w : World} {p : Rp} {d : DS} (h : RDB w p d) : w.cell? ⟨p.g, 0, none⟩ = some (.pointer (some ⟨p.r.g, 0, none⟩)) := h.cel.cell 0
theorem RDB.c1 {w : World} {p : Rp} {d : DS} (h : RDB w p d) : w.cell? ⟨p.g, 1, none⟩ = some (.slice (some ⟨p.ge, 0, none⟩) d.m.ns p.cap) := h.cel.cell 1
theorem RDB.c2 {w : World} {p : Rp} {d : DS} (h : RDB w p d) : w.cell? ⟨p.g, 2, none⟩ = some (.int .i64 d.b) := h.cel.cell 2
theorem RDB.e0 {w : World} {p : Rp} {d : DS} (h : RDB w p d) (k j : Nat) (hk : k < d.m.ns) (hj : j < 5) : w.cell? ⟨p.ge, k * 5 + j, none⟩ = (d.at k).cs[j]? := by
  obtain ⟨r, h1⟩ := h.ents
  have hl : k < d.E.length := by rw [h.ok.len]; exact hk
  rw [h1.cell, List.getElem?_append_left (by rw [ecs_len]; omega), ecs_at d.E k j hl hj]
  rfl
/-- The five cells of an entry. -/
theorem RDB.row {w : World} {p : Rp} {d : DS} (h : RDB w p d) (k : Nat) (hk : k < d.m.ns) : w.cell? ⟨p.ge, k * 5, none⟩ = some (.int .i64 (d.at k).t) ∧ w.cell? ⟨p.ge, k * 5 + 1, none⟩ = some (.int .i64 (d.at k).o) ∧ w.cell? ⟨p.ge, k * 5 + 2, none⟩ = some (.int .i64 (d.at k).r) ∧ w.cell? ⟨p.ge, k * 5 + 3, none⟩ = some (.int .i64 (d.at k).s) ∧ w.cell? ⟨p.ge, k * 5 + 4, none⟩ = some (.bool (d.at k).e) :=
  ⟨h.e0 k 0 hk (by decide), h.e0 k 1 hk (by decide), h.e0 k 2 hk (by decide), h.e0 k 3 hk (by decide), h.e0 k 4 hk (by decide)⟩
theorem RDB.fz {w : World} {p : Rp} {d : DS} (h : RDB w p d) (j : Nat) : w.frozen? ⟨p.ge, j, none⟩ = false := by
  obtain ⟨r, h1⟩ := h.ents
  exact h1.free j
theorem ButL.trans_sub {G G' : List Nat} {a b c : World} (h : ButL G a b) (h' : ButL G' b c) (hs : ∀ k ∈ G', k ∈ G ∨ a.heap.size ≤ k) : ButL G a c :=
  ⟨h'.os.trans h.os, h'.tape.trans h.tape, h'.output.trans h.output, Nat.le_trans h.size h'.size, fun k hk hn => (h'.block k (Nat.lt_of_lt_of_le hk h.size) (fun hm => (hs k hm).elim hn (fun e => by omega))).trans (h.block k hk hn)⟩
/-- The document's database behind some steps. -/
structure RG (W w : World) (p q : Rp) (d : DS) : Prop where
  db : RDB w q d
  but : ButL p.all W w
  g : q.g = p.g
  sub : ∀ k ∈ q.all, k ∈ p.all ∨ W.heap.size ≤ k
theorem RG.start {W : World} {p : Rp} {d : DS} (h : RDB W p d) : RG W W p p d := ⟨h, .refl _ _, rfl, fun _ hk => .inl hk⟩
theorem RG.on {W w w' : World} {p q : Rp} {d : DS} (h : RG W w p q d) (hb : Below w.heap.size w w') : RG W w' p q d := ⟨h.db.on hb, h.but.on hb, h.g, h.sub⟩
theorem RG.ents {W w w' : World} {p q : Rp} {d : DS} {E' : List En} {rest : List Value} (h : RG W w p q d) (hc : Cel w' q.ge 144 (ecs E' ++ rest)) (hb : ButL [q.ge] w w') (hk : DS.Ok { d with E := E' }) : RG W w' p q { d with E := E' } := by
  obtain ⟨r0, h1⟩ := h.db.ents
  refine ⟨⟨h.db.mem.frame hb (fun k hk hm => ?_), h.db.cel.but hb (by rw [List.mem_singleton]; exact h.db.ne), ⟨rest, hc⟩, hk⟩, h.but.trans_sub hb (fun k hk => h.sub k (by rw [List.mem_singleton] at hk; rw [hk]; simp [Rp.all])), h.g, h.sub⟩
  rw [List.mem_singleton] at hm
  subst hm
  exact h.db.mem.off h1 (by decide) hk
theorem RG.fld {W w : World} {p q : Rp} {d : DS} (h : RG W w p q d) (k : Nat) (hk : k < d.m.ns) (j : Nat) (hj : j < 5) (x : En) (v : Value) (hx : x.ok = true) (ho : x.o < (d.m.ns : Int)) (he : x.cs = (d.at k).cs.set j v) : RG W (w.setCell ⟨q.ge, k * 5 + j, none⟩ v) p q (d.lay k x) := by
  obtain ⟨r, h1⟩ := h.db.ents
  have hl : k < d.E.length := by rw [h.db.ok.len]; exact hk
  have hn : (ecs d.E).length = d.E.length * 5 := ecs_len _
  refine h.ents (E' := d.E.set k x) (rest := r) ?_ (.setCell _ _ _ _ (by simp)) (h.db.ok.lay k x hx ho)
  have h5 := h1.setCell (k * 5 + j) v
  rw [List.set_append_left _ _ (by omega), ecs_fld d.E k j x v hl hj he] at h5
  exact h5
theorem RG.mem {W w w' : World} {p q : Rp} {d : DS} {r' : Rf} {m' : MS} (h : RG W w p q d) (hs : RSt w w' q.r r' m') (hn : m'.ns = d.m.ns) : RG W w' p { q with r := r' } { d with m := m' } := by
  obtain ⟨r0, h1⟩ := h.db.ents
  have hall : ∀ k ∈ q.r.all, k ∈ q.all := fun k hk => by simp [Rp.all, hk]
  refine ⟨⟨hs.mem, ?_, ⟨r0, h1.but hs.but (h.db.mem.off h1 (by decide))⟩, ?_⟩, h.but.trans_sub hs.but (fun k hk => h.sub k (hall k hk)), h.g, fun k hk => ?_⟩
  · have := h.db.cel.but hs.but (h.db.mem.off h.db.cel (by decide))
    show Cel w' q.g 150 [ptr r'.g, .slice (some ⟨q.ge, 0, none⟩) m'.ns q.cap, .int .i64 d.b]
    rw [hs.g, hn]
    exact this
  · obtain ⟨a, b, c, e, f, g⟩ := h.db.ok
    exact ⟨by simpa only [hn] using a, by simpa only [hn] using b, fun k hk => c k (by have hk' : k < m'.ns := hk; omega), fun k hk => by
      have hk' : k < m'.ns := hk
      have := e k (by omega)
      show (d.at k).o < (m'.ns : Int)
      rw [hn]; exact this, f, g⟩
  · simp only [Rp.all, List.mem_cons] at hk
    rcases hk with hk | hk | hk
    · exact h.sub k (by simp [Rp.all, hk])
    · exact h.sub k (by simp [Rp.all, hk])
    · rcases hs.sub k hk with hk | hk
      · exact h.sub k (hall k hk)
      · exact .inr (Nat.le_trans h.but.size hk)
theorem RG.born {W w : World} {p q : Rp} {d : DS} (h : RG W w p q d) (hb : d.b < 64) : RG W (w.setCell ⟨q.g, 2, none⟩ (.int .i64 (d.b + 1))) p q { d with b := d.b + 1 } := by
  obtain ⟨r0, h1⟩ := h.db.ents
  have hbt : ButL [q.g] w (w.setCell ⟨q.g, 2, none⟩ (.int .i64 (d.b + 1))) := .setCell _ _ _ _ (by simp)
  refine ⟨⟨h.db.mem.frame hbt (fun k hk hm => ?_), h.db.cel.setCell 2 _, ⟨r0, h1.but hbt (by rw [List.mem_singleton]; exact Ne.symm h.db.ne)⟩, ?_⟩, h.but.trans_sub hbt (fun k hk => h.sub k (by rw [List.mem_singleton] at hk; rw [hk]; simp [Rp.all])), h.g, h.sub⟩
  · rw [List.mem_singleton] at hm
    subst hm
    exact h.db.mem.off h.db.cel (by decide) hk
  · obtain ⟨a, b, c, e, f, g⟩ := h.db.ok
    exact ⟨a, b, c, e, by show 0 ≤ d.b + 1; omega, by show d.b + 1 ≤ 64; omega⟩
end Go.Proofs.YtdfnbcbnmiohnaaGreatDoor
namespace Go.Proofs.YtdfnbcbnmiohnaaGreatDoor
open Go.RowKit
set_option maxHeartbeats 4000000
set_option maxRecDepth 100000
theorem under78 : Tryz.prog.underlying 148 = some (.slice 144) := by kernel_rfl
theorem info124 : (Tryz.prog.info? 144).map (fun i => (i.zero, i.size, i.bytes)) = some (some En.zero.v, 5, 40) := by kernel_rfl
theorem ecs_snoc (E : List En) (x : En) : ecs (E ++ [x]) = ecs E ++ x.cs := by simp [ecs]
theorem cs_one (x : En) : ∀ u ∈ x.cs, u.oneCell' = true := by
  intro u hu
  simp only [En.cs, List.mem_cons, List.not_mem_nil, or_false] at hu
  rcases hu with rfl | rfl | rfl | rfl | rfl <;> rfl
theorem wpList_append_e {B : Nat} {w : World} {ops : Array Oper} {rest : List Oper} {o : Oper} {a : Act} {Q : Exit → Act → World → Prop} (hgd : o.guard = none) (s x : Operand)
    (ho : o.op = .call { callee := .builtin .append, args := #[s, x], argTypes := #[148, 148] }) (v : Value) (E : List En) (hs : a.eval s = v) (H : w.ownsRow B 144 5 v E.length (ecs E)) (hB : B ≤ w.heap.size) (ad : Addr) (c : Nat) (y : En) (hx : a.eval x = .slice (some ad) 1 c)
    (hsrc : ∀ j u, y.cs[j]? = some u → w.cell? (ad.add j) = some u) (hlen : E.length ≤ 1000)
    (h : ∀ v' w', w'.ownsRow B 144 5 v' (E ++ [y]).length (ecs (E ++ [y])) → w.grownBy w' v.ownBlock → wpList Tryz.prog ops Q rest (a.put o.dst v') w') : wpList Tryz.prog ops Q (o :: rest) a w := by
  obtain ⟨i, hi, hz, hsize, hby⟩ := info_parts info124
  obtain ⟨v', w', hr, h1, h2, _⟩ := run_append_own (P := Tryz.prog) w B 148 o.type 144 i En.zero.v 5 40 under78 hi hz hsize hby rfl (by decide) v E.length _ H ad 1 c y.cs rfl hsrc (cs_one y) (by unfold maxLen; omega) (by omega) hB
  have hH : w'.ownsRow B 144 5 v' (E ++ [y]).length (ecs (E ++ [y])) := by rw [List.length_append, ecs_snoc]; exact h1
  refine wpList_plain hgd fun K hK => ?_
  unfold Oper.wp execOp
  simp only [ho, resolve, invoke, builtin, Sem.run_bind, Sem.run_pure, Result.andThen_ok, List.map_toArray, List.map_cons, List.map_nil, hs, hx, hr]
  exact hK _ _ (h _ _ hH h2)
theorem own_blk {w : World} {B : Nat} {v : Value} {n : Nat} {L : List Value} (h : w.ownsRow B 144 5 v n L) {b : Nat} (hb : v.ownBlock = some b) : B ≤ b ∧ ∃ cur, w.heap[b]? = some (.cells cur 144 (0, 0)) := by
  rcases h.2 with ⟨hv, h0⟩ | ⟨g, cap, cur, hv, hB, hg, r⟩
  · rw [hv] at hb; cases hb
  · rw [hv] at hb
    have : g = b := by injection hb
    subst this
    exact ⟨hB, cur, hg⟩
theorem own_but {w w' : World} {B : Nat} {v : Value} {n : Nat} {L : List Value} {G : List Nat} (h : w.ownsRow B 144 5 v n L) (hb : ButL G w w') (hn : ∀ b cur, w.heap[b]? = some (.cells cur 144 (0, 0)) → B ≤ b → b ∉ G) : w'.ownsRow B 144 5 v n L :=
  ⟨h.1, h.2.imp id fun ⟨g, cap, cur, hv, hB, hg, r⟩ => ⟨g, cap, cur, hv, hB, (hb.block g (Array.getElem?_eq_some_iff.1 hg).1 (hn g cur hg hB)).trans hg, r⟩⟩
structure RN (W w : World) (r0 : Rf) (g : Nat) (v : Value) (r : Rf) (E : List En) (b : Int) (m : MS) : Prop where
  own : w.ownsRow W.heap.size 144 5 v E.length (ecs E)
  cel : Cel w g 150 [ptr r.g, v, .int .i64 b]
  hg : W.heap.size ≤ g
  mem : RMem w r m
  but : ButL r0.all W w
  sub : ∀ k ∈ r.all, k ∈ r0.all ∨ W.heap.size ≤ k
theorem RN.on {W w w' : World} {r0 r : Rf} {g : Nat} {v : Value} {E : List En} {b : Int} {m : MS} (h : RN W w r0 g v r E b m) (hb : Below w.heap.size w w') : RN W w' r0 g v r E b m :=
  ⟨own_but h.own (.of (G := []) hb) (by simp), h.cel.on hb, h.hg, h.mem.on hb, h.but.on hb, h.sub⟩
theorem off_cells {w : World} {r : Rf} {m : MS} (h : RMem w r m) {b : Nat} {cur : Array Value} {t : TypeId} (hc : w.heap[b]? = some (.cells cur t (0, 0))) (ht : t ≠ 186 ∧ t ≠ 51 ∧ t ≠ 43) : b ∉ r.all :=
  h.off (cs := cur.toList) (by show w.heap[b]? = _; rw [hc]) ht
theorem RN.st {W w w' : World} {r0 r r' : Rf} {g : Nat} {v : Value} {E : List En} {b : Int} {m m' : MS} (h : RN W w r0 g v r E b m) (hs : RSt w w' r r' m') : RN W w' r0 g v r' E b m' := by
  refine ⟨own_but h.own hs.but (fun b cur hc _ => off_cells h.mem hc (by decide)), ?_, h.hg, hs.mem, h.but.trans_sub hs.but h.sub, fun k hk => ?_⟩
  · rw [hs.g]; exact h.cel.but hs.but (h.mem.off h.cel (by decide))
  · rcases hs.sub k hk with hk | hk
    · exact h.sub k hk
    · exact .inr (Nat.le_trans h.but.size hk)
/-- Something was appended, and the new header is laid down. -/
theorem RN.snoc {W w w' : World} {r0 r : Rf} {g : Nat} {v v' : Value} {E E' : List En} {b : Int} {m : MS} (h : RN W w r0 g v r E b m) (h2 : w'.ownsRow W.heap.size 144 5 v' E'.length (ecs E')) (hgr : w.grownBy w' v.ownBlock) :
    RN W (w'.setCell ⟨g, 1, none⟩ v') r0 g v' r E' b m ∧ w'.cell? ⟨g, 1, none⟩ = some v ∧ w'.frozen? ⟨g, 1, none⟩ = false := by
  obtain ⟨G, hG⟩ : ∃ G : List Nat, G = v.ownBlock.toList := ⟨_, rfl⟩
  have hbt : ButL G w w' := grown_but hgr (fun b hb => by rw [hG, hb]; simp)
  have hGe : ∀ k ∈ G, W.heap.size ≤ k ∧ ∃ cur, w.heap[k]? = some (.cells cur 144 (0, 0)) := fun k hk => by
    rw [hG, Option.mem_toList] at hk
    exact own_blk h.own hk
  have hgG : g ∉ G := fun hk => by
    obtain ⟨_, cur, hc⟩ := hGe g hk
    have hc' : Cel w g 144 cur.toList := by show w.heap[g]? = _; rw [hc]
    exact absurd (h.cel.ty hc') (by decide)
  have hrG : ∀ k ∈ r.all, k ∉ G := fun k hk hm => by
    obtain ⟨_, cur, hc⟩ := hGe k hm
    exact off_cells h.mem hc (by decide) hk
  have hcel := h.cel.but hbt hgG
  have hb1 : ButL [g] w' (w'.setCell ⟨g, 1, none⟩ v') := .setCell _ _ _ _ (by simp)
  have hmem := h.mem.frame hbt hrG
  refine ⟨⟨own_but h2 hb1 (fun k cur hc _ => ?_), hcel.setCell 1 v', h.hg, hmem.frame hb1 (fun k hk hm => ?_), (h.but.trans_sub hbt (fun k hk => .inr (hGe k hk).1)).trans_sub hb1 (fun k hk => ?_), h.sub⟩, hcel.cell 1, hcel.free 1⟩
  · intro hm
    rw [List.mem_singleton] at hm
    subst hm
    have hc' : Cel w' k 144 cur.toList := by show w'.heap[k]? = _; rw [hc]
    exact absurd (hcel.ty hc') (by decide)
  · rw [List.mem_singleton] at hm
    subst hm
    exact hmem.off hcel (by decide) hk
  · rw [List.mem_singleton] at hk
    subst hk
    exact .inr h.hg
/-- It is made. -/
theorem RN.done {W w : World} {r0 r : Rf} {g : Nat} {v : Value} {E : List En} {b : Int} {m : MS} (h : RN W w r0 g v r E b m) (hn : 0 < m.ns) (hl : E.length = m.ns) (hk : DS.Ok ⟨m, b, E⟩) :
    ∃ ge cap, RDB w ⟨g, ge, cap, r⟩ ⟨m, b, E⟩ ∧ W.heap.size ≤ ge := by
  rcases h.own.2 with ⟨hv, h0⟩ | ⟨ge, cap, cur, hv, hB, hg, hle, hm, hsz, ht⟩
  · omega
  · refine ⟨ge, cap, ⟨h.mem, ?_, ⟨cur.toList.drop (E.length * 5), ?_⟩, hk⟩, hB⟩
    · have := h.cel
      rw [hv, hl] at this
      exact this
    · show w.heap[ge]? = _
      rw [hg]
      show some (Obj.cells cur 144 (0, 0)) = some (.cells (ecs E ++ cur.toList.drop (E.length * 5)).toArray 144 (0, 0))
      rw [← ht, List.take_append_drop]
end Go.Proofs.YtdfnbcbnmiohnaaGreatDoor
namespace Go.Proofs.YtdfnbcbnmiohnaaGreatDoor
open Go.RowKit
set_option maxHeartbeats 4000000
set_option maxRecDepth 100000
theorem RDB.rng {w : World} {p : Rp} {d : DS} (h : RDB w p d) (k : Nat) (hk : k < d.m.ns) : w.rangeAt p.ge (k * 5) (d.at k).cs := fun j v hv => by
  have hj : j < 5 := by have := (List.getElem?_eq_some_iff.1 hv).1; simpa [En.cs] using this
  rw [h.e0 k j hk hj, hv]
theorem rframe_any (W : World) (p : Int) : Calls Tryz.prog 121 #[.int .i64 p] W fun x W' => x = .returned (fr true p) ∧ Below W.heap.size W W' := by
  unfold fr
  go_enter Tryz.func121, Tryz.ntmps121
  go_wp2_with fail
  go_returns
  exact ⟨rfl, below_one _ _⟩
theorem built_zR : Tryz.prog.built 144 [] = some En.zero.cs.toArray := by kernel_rfl
theorem wpList_build_zR {ops : Array Oper} {rest : List Oper} {o : Oper} {a : Act} {w : World} {Q : Exit → Act → World → Prop} (hgd : o.guard = none) (ho : o.op = .build 144 #[])
    (h : wpList Tryz.prog ops Q rest (a.put o.dst (.agg En.zero.cs.toArray)) w) : wpList Tryz.prog ops Q (o :: rest) a w :=
  wpList_build_f hgd 144 _ ho #[] (by simp) _ built_zR h
end Go.Proofs.YtdfnbcbnmiohnaaGreatDoor
namespace Go.Proofs.YtdfnbcbnmiohnaaGreatDoor
open Go.RowKit
set_option maxHeartbeats 4000000
set_option maxRecDepth 100000
theorem rsecure_g (w : World) (r : Rf) (m : MS) (h : RMem w r m) (g : Nat) (hg : r.g = g) : Calls Tryz.prog 119 #[.pointer (some ⟨g, 0, none⟩)] w fun x w' => x = .returned (.int .i64 (m.ns : Int)) ∧ w' = w := by
  subst hg
  exact rsecure_any w r m h
theorem rzero_g (w : World) (r : Rf) (m : MS) (h : RMem w r m) (g : Nat) (hg : r.g = g) (s : Bool) (p : Int) : Calls Tryz.prog 120 #[.pointer (some ⟨g, 0, none⟩), fr s p] w fun x w' => x = .returned (.int .i64 (m.perr s p)) ∧ ∃ r', RSt w w' r r' (m.zero s p) := by
  subst hg
  exact rzero_any w r m h s p
theorem own_form5 {w : World} {B : Nat} {v : Value} {n : Nat} {L : List Value} (h : w.ownsRow B 144 5 v n L) : ∃ ao c, v = .slice ao n c := by
  rcases h.2 with ⟨hv, h0⟩ | ⟨g, cap, cur, hv, r⟩
  · exact ⟨none, 0, by rw [hv, h0]⟩
  · exact ⟨_, cap, hv⟩
structure NewD (W w : World) (r : Rf) (p : Rp) (d : DS) : Prop where
  db : RDB w p d
  g : W.heap.size ≤ p.g
  ge : W.heap.size ≤ p.ge
  rg : p.r.g = r.g
  but : ButL r.all W w
  sub : ∀ k ∈ p.r.all, k ∈ r.all ∨ W.heap.size ≤ k
theorem rnewDB_any (W : World) (r : Rf) (m : MS) (h : RMem W r m) (h64 : m.ns ≤ 64) (h0 : 0 < m.ns) :
    Calls Tryz.prog 75 #[ptr r.g] W fun e W' => ∃ p, e = .returned (ptr p.g) ∧ NewD W W' r p (DS.fresh m) := by
  have HS0 : Hid (RN W (W.alloc (.cells #[.pointer (some ⟨r.g, 0, none⟩), .slice none 0 0, .int .i64 0] 150)) r W.heap.size (.slice none 0 0) r [] 0 m) := hid
    ⟨World.ownsRow_nil _ _ _ _, Cel.new W 150 [.pointer (some ⟨r.g, 0, none⟩), .slice none 0 0, .int .i64 0], Nat.le_refl _, h.on (below_one _ _), .of (below_one _ _), fun k hk => .inl hk⟩
  have HN : Hid (m.ns ≤ 64) := hid h64
  have HZ0 : Hid (0 < m.ns) := hid h0
  have HZN : Hid (∀ k, (m.zall k).ns = m.ns) := hid (fun k => m.zall_ns k)
  have HFr := hid (fun w (p : Int) => rframe_any w p)
  clear h h64 h0
  simp only [ptr] at *
  go_enter Tryz.func75, Tryz.ntmps75
  go_wp2_with fail
  generalize W.alloc _ = X at *
  have HG : Hid (W.heap.size = W.heap.size) := hid rfl
  generalize hg : W.heap.size = g at *
  have HGG := hid hg
  clear hg HG
  go_loopw [4] (fun i wr => ∃ (j : Nat) (v : Value) (r' : Rf), j ≤ m.ns ∧ i = .int .i64 (j : Int) ∧ Hid (RN W wr r g v r' (List.replicate j En.zero) 0 (m.zall j) ∧ r'.g = r.g)) (fun i _ => m.ns - (intOf i).toNat)
  case atStart => exact ⟨0, _, r, Nat.zero_le _, rfl, hid ⟨HS0.out, rfl⟩⟩
  case round =>
    obtain ⟨j, v, r', hj, rfl, HQ⟩ := hrel
    clear HS0
    have HSc := hid (rsecure_g _ _ _ HQ.out.1.mem r.g HQ.out.2)
    rw [HZN.out] at HSc
    by_cases hlt : j < m.ns
    · have q1 : (j : Int) < (m.ns : Int) := by omega
      have HJ := hid hlt
      have hn64 := HN.out
      have j64 : (j : Int) ≤ 64 := by omega
      have j1000 : (List.replicate j En.zero).length ≤ 1000 := by rw [List.length_replicate]; omega
      have HR : Hid (List.replicate j En.zero ++ [En.zero] = List.replicate (j + 1) En.zero) := hid (by rw [List.replicate_succ'])
      have HM : Hid ((m.zall j).zero true (j : Int) = m.zall (j + 1)) := hid rfl
      clear hn64 hlt hj
      obtain ⟨m2, hm2⟩ : ∃ m2, m2 = m.zall (j + 1) := ⟨_, rfl⟩
      obtain ⟨E2, hE2⟩ : ∃ E2, E2 = List.replicate (j + 1) En.zero := ⟨_, rfl⟩
      rw [← hm2] at HM
      rw [← hE2] at HR
      have HME := hid (And.intro hm2 hE2)
      clear hm2 hE2
      generalize m.zall j = m1 at *
      generalize List.replicate j En.zero = E1 at *
      go_upto_region 8 with (first | (go_at_call 119; refine HSc.out.mono ?_; rintro e w0 ⟨rfl, rfl⟩) | (go_at_call 121; refine (HFr.out _ _).mono ?_; rintro e w1 ⟨rfl, hb⟩; have HQ1 := hid (And.intro (HQ.out.1.on hb) HQ.out.2); clear hb) | (go_at_call 120; refine (rzero_g _ _ _ HQ1.out.1.mem r.g HQ1.out.2 true (j : Int)).mono ?_; rintro e w2 ⟨rfl, r2, hs⟩; have HQ2 := hid (And.intro (HQ1.out.1.st hs) (hs.g.trans HQ1.out.2)); clear hs))
      rw [HM.out] at HQ2
      have y0 := HQ2.out.1.cel.cell 1
      simp only [List.getElem?_cons_zero, List.getElem?_cons_succ] at y0
      have HQ3 := hid (HQ2.out.1.on (below_one w2 (.cells En.zero.cs.toArray 144)))
      have HGR := hid HQ2.out.2
      have hfm := own_form5 HQ2.out.1.own
      obtain ⟨ao, cc, rfl⟩ := hfm
      have HBB := hid HQ3.out.but.size
      clear HQ2
      go_wp2_with (first | (refine wpList_build_zR rfl rfl ?_) | (at_builtin; refine wpList_append_e (B := W.heap.size) rfl _ _ rfl (.slice ao E1.length cc) E1 rfl HQ3.out.own HBB.out ⟨w2.heap.size, 0, none⟩ 1 En.zero rfl (Cel.new w2 144 En.zero.cs).src j1000 ?_; intro v' w3 h3 hgr; rw [HR.out] at h3; obtain ⟨ao9, cc9, rfl⟩ := own_form5 h3; obtain ⟨hq4, y1, y2⟩ := HQ3.out.snoc h3 hgr; have HQ4 := hid hq4; clear hq4 h3 hgr))
      go_roundw
      case measure => have := HJ.out; simp [intOf] <;> omega
      case rel => exact ⟨j + 1, _, _, HJ.out, by simp, hid ⟨by rw [← HME.out.1, ← HME.out.2]; exact HQ4.out, HGR.out⟩⟩
    · have hjn : j = m.ns := by omega
      subst hjn
      go_wp2_with (go_at_call 119; refine HSc.out.mono ?_; rintro e w0 ⟨rfl, rfl⟩)
      go_ret
      obtain ⟨ge, cap, hdb, hge⟩ := HQ.out.1.done (by rw [HZN.out]; exact HZ0.out) (by rw [HZN.out, List.length_replicate]) (zed_ok m m.ns HN.out)
      exact ⟨⟨g, ge, cap, r'⟩, rfl, hdb, HQ.out.1.hg, hge, HQ.out.2, HQ.out.1.but, HQ.out.1.sub⟩
end Go.Proofs.YtdfnbcbnmiohnaaGreatDoor
