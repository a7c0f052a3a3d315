import Derived.Test.YtdfnbcbnmiohnaaGreatDoorP26
import Derived.OwnWalk
import Derived.Test.YtdfnbcbnmiohnaaGreatDoorP27
import Derived.Test.YtdfnbcbnmiohnaaGreatDoorP01
namespace Go.Proofs.YtdfnbcbnmiohnaaGreatDoor
open Go.RowKit
structure Hl (W wr : World) (v : Value) (L : List Int) : Prop where
  own : wr.ownsRow W.heap.size 43 1 v L.length (u32s L)
  below : Below W.heap.size W wr
theorem Hl.start (W : World) : Hl W W (.slice none 0 0) [] := ⟨World.ownsRow_nil _ _ _ _, Below.refl _ _⟩
theorem Hl.on {W w w' : World} {v : Value} {L : List Int} (h : Hl W w v L) (hb : Below w.heap.size w w') : Hl W w' v L :=
  ⟨⟨h.own.1, h.own.2.imp id fun ⟨g, cap, cur, hv, hB, hg, r⟩ => ⟨g, cap, cur, hv, hB, (hb.block g (Array.getElem?_eq_some_iff.1 hg).1).trans hg, r⟩⟩, below_on h.below hb⟩
theorem Hl.form {W w : World} {v : Value} {L : List Int} (h : Hl W w v L) : ∃ ao c, v = .slice ao L.length c ∧ (0 < L.length → ∃ g, ao = some ⟨g, 0, none⟩ ∧ W.heap.size ≤ g ∧ g < w.heap.size ∧ (∃ cur, w.heap[g]? = some (.cells cur 43 (0, 0))) ∧ ∀ j u, (u32s L)[j]? = some u → w.cell? ⟨g, j, none⟩ = some u) := by
  rcases h.own.2 with ⟨hv, h0⟩ | ⟨g, cap, cur, hv, hB, hg, r⟩
  · exact ⟨none, 0, by rw [hv, h0], fun hp => by omega⟩
  · refine ⟨some ⟨g, 0, none⟩, cap, hv, fun _ => ⟨g, rfl, hB, (Array.getElem?_eq_some_iff.1 hg).1, ⟨cur, hg⟩, fun j u hu => ?_⟩⟩
    have := h.own.cells (g := g) (by rw [hv]; rfl) j u hu
    rwa [Addr.add_mid, Nat.zero_add] at this
theorem wpList_append_w {W w : World} {ops : Array Oper} {rest : List Oper} {o : Oper} {a : Act} {Q : Exit → Act → World → Prop} (hgd : o.guard = none) (s x : Operand)
    (ho : o.op = .call { callee := .builtin .append, args := #[s, x], argTypes := #[51, 51] }) (v : Value) (L : List Int) (hs : a.eval s = v) (H : Hl W w v L) (ad : Addr) (m c : Nat) (xs : List Int) (hx : a.eval x = .slice (some ad) m c) (hl : xs.length = m)
    (hsrc : ∀ j u, (u32s xs)[j]? = some u → w.cell? (ad.add j) = some u) (hbytes : (L.length + m) * 4 ≤ 140737488355328)
    (h : ∀ v' w', Hl W w' v' (L ++ xs) → w.grownBy w' v.ownBlock → wpList Tryz.prog ops Q rest (a.put o.dst v') w') : wpList Tryz.prog ops Q (o :: rest) a w := by
  obtain ⟨i, hi, hz, hsize, hby⟩ := info_parts info32
  obtain ⟨v', w', hr, h1, h2, _⟩ := run_append_own (P := Tryz.prog) w W.heap.size 51 o.type 43 i (.int .u32 0) 1 4 under24 hi hz hsize hby rfl (by decide) v L.length _ H.own ad m c (u32s xs) (by rw [u32s_len, hl, Nat.mul_one]) hsrc (u32s_one xs) (by unfold maxLen; omega) hbytes H.below.size
  have hH : Hl W w' v' (L ++ xs) := ⟨by
    have e : u32s (L ++ xs) = u32s L ++ u32s xs := by simp [u32s]
    rw [e, List.length_append, hl]; exact h1, H.below.grown h2 H.below.size (fun g hg => (H.own.lt g hg).1)⟩
  refine wpList_plain hgd fun K hK => ?_
  unfold Oper.wp execOp
  simp only [ho, resolve, invoke, builtin, Sem.run_bind, Sem.run_pure, Result.andThen_ok, List.map_toArray, List.map_cons, List.map_nil, hs, hx, hr]
  exact hK _ _ (h _ _ hH h2)
def nilV : Value := .slice none 0 0
def blkOf : Value → Option Nat
  | .slice (some a) _ _ => some a.block
  | _ => none
structure Rf where
  g : Nat
  gp : Nat
  cap : Nat
  vs : List Value
def Rf.all (r : Rf) : List Nat := r.g :: r.gp :: r.vs.filterMap blkOf
def Rf.v (r : Rf) (k : Nat) : Value := r.vs.getD k nilV
def PgIs (w : World) (v : Value) (L : List Int) : Prop := L.length = 1024 ∧ ((v = .slice none 0 0 ∧ L = zs) ∨ ∃ b cap cur, v = .slice (some ⟨b, 0, none⟩) 1024 cap ∧ w.heap[b]? = some (.cells cur 43 (0, 0)) ∧ cur.toList.take 1024 = u32s L)
theorem PgIs.but {w w' : World} {G : List Nat} {v : Value} {L : List Int} (h : PgIs w v L) (hb : ButL G w w') (hn : ∀ b, blkOf v = some b → b ∉ G) : PgIs w' v L := by
  refine ⟨h.1, h.2.imp id ?_⟩
  rintro ⟨b, cap, cur, rfl, h1, h2⟩
  exact ⟨b, cap, cur, rfl, (hb.block b (Array.getElem?_eq_some_iff.1 h1).1 (hn b rfl)).trans h1, h2⟩
theorem PgIs.lt {w : World} {v : Value} {L : List Int} (h : PgIs w v L) {b : Nat} (hb : blkOf v = some b) : b < w.heap.size := by
  rcases h.2 with ⟨rfl, _⟩ | ⟨b', cap, cur, rfl, h1, _⟩
  · cases hb
  · simp only [blkOf, Option.some.injEq] at hb
    subst hb
    exact (Array.getElem?_eq_some_iff.1 h1).1
structure RMem (w : World) (r : Rf) (m : MS) : Prop where
  cel : Cel w r.g 186 [.slice (some ⟨r.gp, 0, none⟩) m.P.length r.cap, .int .i64 (m.ns : Int), .int .i64 m.c]
  pages : ∃ cur, w.heap[r.gp]? = some (.cells cur 51 (0, 0)) ∧ cur.toList.take m.P.length = r.vs
  len : r.vs.length = m.P.length
  ns0 : m.ns ≤ m.P.length
  most : m.P.length ≤ 128
  pg : ∀ k, k < m.P.length → PgIs w (r.v k) (m.p k)
  apart : ∀ j k, j < m.P.length → k < m.P.length → j ≠ k → ∀ b, blkOf (r.v j) = some b → blkOf (r.v k) ≠ some b
theorem Rf.mem_all {r : Rf} {k b : Nat} (hk : k < r.vs.length) (h : blkOf (r.v k) = some b) : b ∈ r.all := by
  have e : r.v k = r.vs[k] := by unfold Rf.v; rw [List.getD_eq_getElem?_getD, List.getElem?_eq_getElem hk]; rfl
  simp only [Rf.all, List.mem_cons, List.mem_filterMap]
  exact .inr (.inr ⟨r.vs[k], List.getElem_mem hk, e ▸ h⟩)
theorem Rf.all_mem {r : Rf} {b : Nat} (h : b ∈ r.all) : b = r.g ∨ b = r.gp ∨ ∃ k, k < r.vs.length ∧ blkOf (r.v k) = some b := by
  simp only [Rf.all, List.mem_cons, List.mem_filterMap] at h
  rcases h with h | h | ⟨v, hv, hb⟩
  · exact .inl h
  · exact .inr (.inl h)
  · obtain ⟨k, hk, rfl⟩ := List.mem_iff_getElem.1 hv
    refine .inr (.inr ⟨k, hk, ?_⟩)
    have e : r.v k = r.vs[k] := by unfold Rf.v; rw [List.getD_eq_getElem?_getD, List.getElem?_eq_getElem hk]; rfl
    rw [e]; exact hb
theorem RMem.frame {w w' : World} {r : Rf} {m : MS} {G : List Nat} (h : RMem w r m) (hb : ButL G w w') (hd : ∀ k ∈ r.all, k ∉ G) : RMem w' r m := by
  obtain ⟨cur, h1, h2⟩ := h.pages
  refine ⟨h.cel.but hb (hd _ (by simp [Rf.all])), ⟨cur, (hb.block _ (Array.getElem?_eq_some_iff.1 h1).1 (hd _ (by simp [Rf.all]))).trans h1, h2⟩, h.len, h.ns0, h.most, fun k hk => (h.pg k hk).but hb (fun b hbk => hd b (Rf.mem_all (by rw [h.len]; exact hk) hbk)), h.apart⟩
theorem RMem.on {w w' : World} {r : Rf} {m : MS} (h : RMem w r m) (hb : Below w.heap.size w w') : RMem w' r m := h.frame (G := []) (.of hb) (by simp)
theorem RMem.lt {w : World} {r : Rf} {m : MS} (h : RMem w r m) : ∀ k ∈ r.all, k < w.heap.size := by
  intro k hk
  rcases Rf.all_mem hk with rfl | rfl | ⟨j, hj, hb⟩
  · exact h.cel.lt
  · obtain ⟨cur, h1, _⟩ := h.pages
    exact (Array.getElem?_eq_some_iff.1 h1).1
  · exact (h.pg j (by rw [← h.len]; exact hj)).lt hb
theorem RMem.ne {w : World} {r : Rf} {m : MS} (h : RMem w r m) : r.g ≠ r.gp := by
  obtain ⟨cur, h1, _⟩ := h.pages
  intro e
  have h2 := h.cel
  unfold Cel at h2
  rw [e, h1] at h2
  injection h2 with h2
  injection h2 with _ h3 _
  exact absurd h3 (by decide)
theorem PgIs.ty {w : World} {v : Value} {L : List Int} (h : PgIs w v L) {b : Nat} (hb : blkOf v = some b) {cur : Array Value} {t : TypeId} {fr : Nat × Nat} (hh : w.heap[b]? = some (.cells cur t fr)) : t = 43 := by
  rcases h.2 with ⟨rfl, _⟩ | ⟨b', cap, cur', rfl, h1, _⟩
  · cases hb
  · simp only [blkOf, Option.some.injEq] at hb
    subst hb
    rw [h1] at hh
    injection hh with hh
    injection hh with _ h3 _
    exact h3.symm
theorem RMem.cellAt {w : World} {r : Rf} {m : MS} (h : RMem w r m) (k : Nat) (hk : k < m.P.length) : w.cell? ⟨r.gp, k, none⟩ = some (r.v k) := by
  obtain ⟨cur, h1, h2⟩ := h.pages
  rw [cell_of_row w r.gp k _ 51 (0, 0) h1]
  have : (cur.toList.take m.P.length)[k]? = some (r.v k) := by
    rw [h2]; unfold Rf.v
    rw [List.getD_eq_getElem?_getD, List.getElem?_eq_getElem (by rw [h.len]; exact hk)]; rfl
  rw [List.getElem?_take_of_lt hk] at this
  simpa using this
theorem RMem.freeP {w : World} {r : Rf} {m : MS} (h : RMem w r m) (k : Nat) : w.frozen? ⟨r.gp, k, none⟩ = false := by
  obtain ⟨cur, h1, _⟩ := h.pages
  exact frozen_of_row w r.gp k _ 51 h1
theorem RMem.tick {w : World} {r : Rf} {m : MS} (h : RMem w r m) (n : Int) : RMem (w.setCell ⟨r.g, 2, none⟩ (.int .i64 (wrap64 (m.c + n)))) r (m.tick n) := by
  have hb := ButL.setCell (G := [r.g]) w r.g 2 (.int .i64 (wrap64 (m.c + n))) (by simp)
  obtain ⟨cur, h1, h2⟩ := h.pages
  refine ⟨h.cel.setCell 2 _, ⟨cur, (hb.block _ (Array.getElem?_eq_some_iff.1 h1).1 (by rw [List.mem_singleton]; exact fun e => h.ne e.symm)).trans h1, h2⟩, h.len, h.ns0, h.most, fun k hk => (h.pg k hk).but hb (fun b hbk => ?_), h.apart⟩
  rw [List.mem_singleton]
  intro e
  subst e
  exact absurd ((h.pg k hk).ty hbk h.cel) (by decide)
theorem RMem.setPage {w : World} {r : Rf} {m : MS} (h : RMem w r m) (k : Nat) (hk : k < m.P.length) (v' : Value) (L' : List Int) (hp : PgIs w v' L') (hnew : ∀ b, blkOf v' = some b → b ∉ r.all) :
    RMem (w.setCell ⟨r.gp, k, none⟩ v') { r with vs := r.vs.set k v' } { m with P := m.P.set k L' } := by
  have hb := ButL.setCell (G := [r.gp]) w r.gp k v' (by simp)
  obtain ⟨cur, h1, h2⟩ := h.pages
  have hv : ∀ j, j < m.P.length → ({ r with vs := r.vs.set k v' } : Rf).v j = if j = k then v' else r.v j := by
    intro j hj
    unfold Rf.v
    by_cases e : j = k
    · subst e
      rw [if_pos rfl, List.getD_eq_getElem?_getD, List.getElem?_set_self (by rw [h.len]; exact hj)]; rfl
    · rw [if_neg e, List.getD_eq_getElem?_getD, List.getElem?_set_ne (Ne.symm e), ← List.getD_eq_getElem?_getD]
  have hpp : ∀ j, j < m.P.length → ({ m with P := m.P.set k L' } : MS).p j = if j = k then L' else m.p j := by
    intro j hj
    unfold MS.p
    by_cases e : j = k
    · subst e
      rw [if_pos rfl, List.getD_eq_getElem?_getD, List.getElem?_set_self hj]; rfl
    · rw [if_neg e, List.getD_eq_getElem?_getD, List.getElem?_set_ne (Ne.symm e), ← List.getD_eq_getElem?_getD]
  have hty : ∀ j, j < m.P.length → ∀ b, blkOf (r.v j) = some b → b ≠ r.gp := fun j hj b hbj e => by
    subst e
    exact absurd ((h.pg j hj).ty hbj h1) (by decide)
  have hty' : ∀ b, blkOf v' = some b → b ≠ r.gp := fun b hbj e => by
    subst e
    exact absurd (hp.ty hbj h1) (by decide)
  refine ⟨?_, ⟨cur.setIfInBounds k v', ?_, ?_⟩, ?_, ?_, ?_, ?_, ?_⟩
  · simpa using h.cel.but hb (by rw [List.mem_singleton]; exact h.ne)
  · exact heap_setCell_same w r.gp k _ 51 _ h1
  · simp only [List.length_set, Array.toList_setIfInBounds]
    rw [List.take_set, h2]
  · simp [h.len]
  · simpa using h.ns0
  · simpa using h.most
  · intro j hj
    simp only [List.length_set] at hj
    rw [hv j hj, hpp j hj]
    split
    · exact hp.but hb (fun b hbj => by rw [List.mem_singleton]; exact hty' b hbj)
    · exact (h.pg j hj).but hb (fun b hbj => by rw [List.mem_singleton]; exact hty j hj b hbj)
  · intro i j hi hj hij b
    simp only [List.length_set] at hi hj
    rw [hv i hi, hv j hj]
    split
    · rename_i e1
      rw [if_neg (by omega)]
      intro hb1 hb2
      exact hnew b hb1 (Rf.mem_all (by rw [h.len]; exact hj) hb2)
    · split
      · intro hb1 hb2
        exact hnew b hb2 (Rf.mem_all (by rw [h.len]; exact hi) hb1)
      · exact h.apart i j hi hj hij b
structure RSt (w w' : World) (r r' : Rf) (m' : MS) : Prop where
  mem : RMem w' r' m'
  but : ButL r.all w w'
  g : r'.g = r.g
  sub : ∀ k ∈ r'.all, k ∈ r.all ∨ w.heap.size ≤ k
theorem RSt.of {w w' : World} {r : Rf} {m : MS} (h : RMem w r m) (hb : Below w.heap.size w w') : RSt w w' r r m := ⟨h.on hb, .of hb, rfl, fun _ hk => .inl hk⟩
theorem wrapI (n : Int) (h : -9223372036854775808 ≤ n ∧ n ≤ 9223372036854775807) : IntKind.i64.wrap n = n := by
  rw [IntKind.wrap_i64]; omega
def pl (o : Option Nat) : Int := match o with
  | none => -1
  | some k => (k : Int)
set_option maxRecDepth 40000 in
set_option maxHeartbeats 4000000 in
theorem rplace_any (w : World) (r : Rf) (m : MS) (h : RMem w r m) (s : Bool) (p : Int) :
    Calls Tryz.prog 130 #[ptr r.g, fr s p] w fun x w' => x = .returned (.int .i64 (pl (m.at s p))) ∧ Below w.heap.size w w' := by
  have hX := h.on (below_one w (.cells #[.bool s, .int .i64 p] 152))
  have hB := hid (below_one w (.cells #[.bool s, .int .i64 p] 152))
  have C3 := hid (Cel.new w 152 [.bool s, .int .i64 p])
  have h1 := h.ns0
  have h2 := h.most
  have HX : Hid (∀ x, Below (w.alloc (.cells #[.bool s, .int .i64 p] 152)).heap.size (w.alloc (.cells #[.bool s, .int .i64 p] 152)) x → x.cell? ⟨w.heap.size, 0, none⟩ = some (.bool s) ∧ x.cell? ⟨w.heap.size, 1, none⟩ = some (.int .i64 p) ∧ x.cell? ⟨r.g, 0, none⟩ = some (.slice (some ⟨r.gp, 0, none⟩) m.P.length r.cap) ∧ x.cell? ⟨r.g, 1, none⟩ = some (.int .i64 (m.ns : Int))) := hid (fun x hx => ⟨(C3.out.on hx).cell 0, (C3.out.on hx).cell 1, (hX.on hx).cel.cell 0, (hX.on hx).cel.cell 1⟩)
  obtain ⟨y0, y1, y2, y3⟩ := HX.out _ (Below.refl _ _)
  clear h hX C3
  have n1 : (m.ns : Int) ≤ (m.P.length : Int) := by omega
  have n2 : (m.P.length : Int) ≤ 128 := by omega
  have HN : Hid (p < 0 → pl (m.at s p) = -1) := hid (fun hh => by unfold MS.at; rw [if_neg (by omega)]; rfl)
  have HS1 : Hid (s = true → 0 ≤ p → p < (m.ns : Int) → pl (m.at s p) = p) := hid (fun hs a b => by unfold MS.at; rw [if_pos a, if_pos hs, if_pos b]; show ((p.toNat : Nat) : Int) = p; omega)
  have HS2 : Hid (s = true → 0 ≤ p → ¬ p < (m.ns : Int) → pl (m.at s p) = -1) := hid (fun hs a b => by unfold MS.at; rw [if_pos a, if_pos hs, if_neg b]; rfl)
  have HI1 : Hid (s = false → 0 ≤ p → p < (m.P.length : Int) - (m.ns : Int) → pl (m.at s p) = (m.ns : Int) + p) := hid (fun hs a b => by unfold MS.at; rw [if_pos a, if_neg (by simp [hs]), if_pos (by omega)]; show ((m.ns + p.toNat : Nat) : Int) = _; omega)
  have HI2 : Hid (s = false → 0 ≤ p → ¬ p < (m.P.length : Int) - (m.ns : Int) → pl (m.at s p) = -1) := hid (fun hs a b => by unfold MS.at; rw [if_pos a, if_neg (by simp [hs]), if_neg (by omega)]; rfl)
  generalize pl (m.at s p) = res at *
  simp only [ptr, fr]
  go_enter Tryz.func130, Tryz.ntmps130
  by_cases hp : p < 0
  · have hr := HN.out hp
    subst hr
    go_wp2_with fail
    go_ret
    exact ⟨rfl, hB.out⟩
  have p0 : 0 ≤ p := by omega
  cases s
  · by_cases hq : p < (m.P.length : Int) - (m.ns : Int)
    · have HR := hid (HI1.out rfl p0 hq)
      clear HN HS1 HS2 HI1 HI2 hp
      go_wp2_with fail
      refine wp_region_held_drew (S := fun x => Below (w.alloc (.cells #[.bool false, .int .i64 p] 152)).heap.size (w.alloc (.cells #[.bool false, .int .i64 p] 152)) x) (by kernel_rfl) ((Below.refl _ _).drew) (fun hHeld => ?_)
      refine tk 0 (some 19) (.pointer (some ⟨w.heap.size, 1, none⟩)) ?_
      simp only [Act.put, tqA, tqZ, tqS]
      refine tk 1 (some 20) (.int .i64 p) ?_ (hy := Or.inl ⟨by rfl, by intro w hSw; have hcc := (HX.out w hSw).2.1; go_simp⟩)
      simp only [Act.put, tqA, tqZ, tqS]
      refine tk 2 (some 21) (.pointer (some ⟨r.g, 0, none⟩)) ?_
      simp only [Act.put, tqA, tqZ, tqS]
      refine tk 3 (some 22) (.pointer (some ⟨r.g, 0, none⟩)) ?_
      simp only [Act.put, tqA, tqZ, tqS]
      refine tk 4 (some 23) (.pointer (some ⟨r.g, 0, none⟩)) ?_
      simp only [Act.put, tqA, tqZ, tqS]
      refine tk 5 (some 24) (.slice (some ⟨r.gp, 0, none⟩) m.P.length r.cap) ?_ (hy := Or.inl ⟨by rfl, by intro w hSw; have hcc := (HX.out w hSw).2.2.1; go_simp⟩)
      simp only [Act.put, tqA, tqZ, tqS]
      refine tk 6 (some 25) (.int .i64 (m.P.length : Int)) ?_
      simp only [Act.put, tqA, tqZ, tqS]
      refine tk 7 (some 26) (.pointer (some ⟨r.g, 0, none⟩)) ?_
      simp only [Act.put, tqA, tqZ, tqS]
      refine tk 8 (some 27) (.pointer (some ⟨r.g, 0, none⟩)) ?_
      simp only [Act.put, tqA, tqZ, tqS]
      refine tk 9 (some 28) (.pointer (some ⟨r.g, 1, none⟩)) ?_
      simp only [Act.put, tqA, tqZ, tqS]
      refine tk 10 (some 29) (.int .i64 (m.ns : Int)) ?_ (hy := Or.inl ⟨by rfl, by intro w hSw; have hcc := (HX.out w hSw).2.2.2; go_simp⟩)
      simp only [Act.put, tqA, tqZ, tqS]
      refine tk 11 (some 30) (.int .i64 ((m.P.length : Int) - (m.ns : Int))) ?_ (hy := Or.inl ⟨by rfl, by intro w hSw; go_simp; exact wrapI _ (by omega)⟩)
      simp only [Act.put, tqA, tqZ, tqS]
      refine tk 12 (some 31) (.bool true) ?_
      simp only [Act.put, tqA, tqZ, tqS]
      refine wpAnyH_done (by kernel_rfl) ?_ _
      clear y0 y1 y2 y3
      clear hHeld
      obtain ⟨y0, y1, y2, y3⟩ := HX.out _ ((Below.refl _ _).drew)
      go_wp2_with fail
      refine wp_region_held_drew (S := fun x => Below (w.alloc (.cells #[.bool false, .int .i64 p] 152)).heap.size (w.alloc (.cells #[.bool false, .int .i64 p] 152)) x) (by kernel_rfl) ((Below.refl _ _).drew.drew) (fun hHeld => ?_)
      refine tk 0 (some 32) (.pointer (some ⟨r.g, 0, none⟩)) ?_
      simp only [Act.put, tqA, tqZ, tqS]
      refine tk 1 (some 33) (.pointer (some ⟨r.g, 0, none⟩)) ?_
      simp only [Act.put, tqA, tqZ, tqS]
      refine tk 2 (some 34) (.pointer (some ⟨r.g, 1, none⟩)) ?_
      simp only [Act.put, tqA, tqZ, tqS]
      refine tk 3 (some 35) (.int .i64 (m.ns : Int)) ?_ (hy := Or.inl ⟨by rfl, by intro w hSw; have hcc := (HX.out w hSw).2.2.2; go_simp⟩)
      simp only [Act.put, tqA, tqZ, tqS]
      refine tk 4 (some 36) (.pointer (some ⟨w.heap.size, 1, none⟩)) ?_
      simp only [Act.put, tqA, tqZ, tqS]
      refine tk 5 (some 37) (.int .i64 p) ?_ (hy := Or.inl ⟨by rfl, by intro w hSw; have hcc := (HX.out w hSw).2.1; go_simp⟩)
      simp only [Act.put, tqA, tqZ, tqS]
      refine tk 6 (some 38) (.int .i64 ((m.ns : Int) + p)) ?_ (hy := Or.inl ⟨by rfl, by intro w hSw; go_simp; exact wrapI _ (by omega)⟩)
      simp only [Act.put, tqA, tqZ, tqS]
      refine wpAnyH_ready (rs := [7]) (by kernel_rfl) (by simp) (AllReadyH.cons rfl (fun KQ hK => ?_) AllReadyH.nil)
      go_simp
      refine hK.out _ _ ((Below.refl _ _).drew.drew) (fun hHeld => ?_)
      clear hK KQ
      try simp only [Act.put, tqA, tqZ, tqS]
      refine wpAnyH_done (by kernel_rfl) ?_ _
      clear hHeld
      go_wp2_with fail
      go_ret
      exact ⟨ret_int HR.out.symm, below_on hB.out ((Below.refl _ _).drew.drew)⟩
    · have HR := hid (HI2.out rfl p0 hq)
      clear HN HS1 HS2 HI1 HI2 hp
      go_wp2_with fail
      refine wp_region_held_drew (S := fun x => Below (w.alloc (.cells #[.bool false, .int .i64 p] 152)).heap.size (w.alloc (.cells #[.bool false, .int .i64 p] 152)) x) (by kernel_rfl) ((Below.refl _ _).drew) (fun hHeld => ?_)
      refine tk 0 (some 19) (.pointer (some ⟨w.heap.size, 1, none⟩)) ?_
      simp only [Act.put, tqA, tqZ, tqS]
      refine tk 1 (some 20) (.int .i64 p) ?_ (hy := Or.inl ⟨by rfl, by intro w hSw; have hcc := (HX.out w hSw).2.1; go_simp⟩)
      simp only [Act.put, tqA, tqZ, tqS]
      refine tk 2 (some 21) (.pointer (some ⟨r.g, 0, none⟩)) ?_
      simp only [Act.put, tqA, tqZ, tqS]
      refine tk 3 (some 22) (.pointer (some ⟨r.g, 0, none⟩)) ?_
      simp only [Act.put, tqA, tqZ, tqS]
      refine tk 4 (some 23) (.pointer (some ⟨r.g, 0, none⟩)) ?_
      simp only [Act.put, tqA, tqZ, tqS]
      refine tk 5 (some 24) (.slice (some ⟨r.gp, 0, none⟩) m.P.length r.cap) ?_ (hy := Or.inl ⟨by rfl, by intro w hSw; have hcc := (HX.out w hSw).2.2.1; go_simp⟩)
      simp only [Act.put, tqA, tqZ, tqS]
      refine tk 6 (some 25) (.int .i64 (m.P.length : Int)) ?_
      simp only [Act.put, tqA, tqZ, tqS]
      refine tk 7 (some 26) (.pointer (some ⟨r.g, 0, none⟩)) ?_
      simp only [Act.put, tqA, tqZ, tqS]
      refine tk 8 (some 27) (.pointer (some ⟨r.g, 0, none⟩)) ?_
      simp only [Act.put, tqA, tqZ, tqS]
      refine tk 9 (some 28) (.pointer (some ⟨r.g, 1, none⟩)) ?_
      simp only [Act.put, tqA, tqZ, tqS]
      refine tk 10 (some 29) (.int .i64 (m.ns : Int)) ?_ (hy := Or.inl ⟨by rfl, by intro w hSw; have hcc := (HX.out w hSw).2.2.2; go_simp⟩)
      simp only [Act.put, tqA, tqZ, tqS]
      refine tk 11 (some 30) (.int .i64 ((m.P.length : Int) - (m.ns : Int))) ?_ (hy := Or.inl ⟨by rfl, by intro w hSw; go_simp; exact wrapI _ (by omega)⟩)
      simp only [Act.put, tqA, tqZ, tqS]
      refine tk 12 (some 31) (.bool false) ?_
      simp only [Act.put, tqA, tqZ, tqS]
      refine wpAnyH_done (by kernel_rfl) ?_ _
      clear y0 y1 y2 y3
      clear hHeld
      obtain ⟨y0, y1, y2, y3⟩ := HX.out _ ((Below.refl _ _).drew)
      go_wp2_with fail
      go_ret
      exact ⟨ret_int HR.out.symm, below_on hB.out ((Below.refl _ _).drew)⟩
  · by_cases hq : p < (m.ns : Int)
    · have HR := hid (HS1.out rfl p0 hq)
      clear HN HS1 HS2 HI1 HI2 hp
      go_wp2_with fail
      refine wp_region_held_drew (S := fun x => Below (w.alloc (.cells #[.bool true, .int .i64 p] 152)).heap.size (w.alloc (.cells #[.bool true, .int .i64 p] 152)) x) (by kernel_rfl) ((Below.refl _ _).drew) (fun hHeld => ?_)
      refine tk 0 (some 10) (.pointer (some ⟨w.heap.size, 1, none⟩)) ?_
      simp only [Act.put, tqA, tqZ, tqS]
      refine tk 1 (some 11) (.int .i64 p) ?_ (hy := Or.inl ⟨by rfl, by intro w hSw; have hcc := (HX.out w hSw).2.1; go_simp⟩)
      simp only [Act.put, tqA, tqZ, tqS]
      refine tk 2 (some 12) (.pointer (some ⟨r.g, 0, none⟩)) ?_
      simp only [Act.put, tqA, tqZ, tqS]
      refine tk 3 (some 13) (.pointer (some ⟨r.g, 0, none⟩)) ?_
      simp only [Act.put, tqA, tqZ, tqS]
      refine tk 4 (some 14) (.pointer (some ⟨r.g, 1, none⟩)) ?_
      simp only [Act.put, tqA, tqZ, tqS]
      refine tk 5 (some 15) (.int .i64 (m.ns : Int)) ?_ (hy := Or.inl ⟨by rfl, by intro w hSw; have hcc := (HX.out w hSw).2.2.2; go_simp⟩)
      simp only [Act.put, tqA, tqZ, tqS]
      refine tk 6 (some 16) (.bool true) ?_
      simp only [Act.put, tqA, tqZ, tqS]
      refine wpAnyH_done (by kernel_rfl) ?_ _
      clear y0 y1 y2 y3
      clear hHeld
      obtain ⟨y0, y1, y2, y3⟩ := HX.out _ ((Below.refl _ _).drew)
      go_wp2_with fail
      go_ret
      exact ⟨ret_int HR.out.symm, below_on hB.out ((Below.refl _ _).drew)⟩
    · have HR := hid (HS2.out rfl p0 hq)
      clear HN HS1 HS2 HI1 HI2 hp
      go_wp2_with fail
      refine wp_region_held_drew (S := fun x => Below (w.alloc (.cells #[.bool true, .int .i64 p] 152)).heap.size (w.alloc (.cells #[.bool true, .int .i64 p] 152)) x) (by kernel_rfl) ((Below.refl _ _).drew) (fun hHeld => ?_)
      refine tk 0 (some 10) (.pointer (some ⟨w.heap.size, 1, none⟩)) ?_
      simp only [Act.put, tqA, tqZ, tqS]
      refine tk 1 (some 11) (.int .i64 p) ?_ (hy := Or.inl ⟨by rfl, by intro w hSw; have hcc := (HX.out w hSw).2.1; go_simp⟩)
      simp only [Act.put, tqA, tqZ, tqS]
      refine tk 2 (some 12) (.pointer (some ⟨r.g, 0, none⟩)) ?_
      simp only [Act.put, tqA, tqZ, tqS]
      refine tk 3 (some 13) (.pointer (some ⟨r.g, 0, none⟩)) ?_
      simp only [Act.put, tqA, tqZ, tqS]
      refine tk 4 (some 14) (.pointer (some ⟨r.g, 1, none⟩)) ?_
      simp only [Act.put, tqA, tqZ, tqS]
      refine tk 5 (some 15) (.int .i64 (m.ns : Int)) ?_ (hy := Or.inl ⟨by rfl, by intro w hSw; have hcc := (HX.out w hSw).2.2.2; go_simp⟩)
      simp only [Act.put, tqA, tqZ, tqS]
      refine tk 6 (some 16) (.bool false) ?_
      simp only [Act.put, tqA, tqZ, tqS]
      refine wpAnyH_done (by kernel_rfl) ?_ _
      clear y0 y1 y2 y3
      clear hHeld
      obtain ⟨y0, y1, y2, y3⟩ := HX.out _ ((Below.refl _ _).drew)
      go_wp2_with fail
      go_ret
      exact ⟨ret_int HR.out.symm, below_on hB.out ((Below.refl _ _).drew)⟩
theorem rsecure_any (w : World) (r : Rf) (m : MS) (h : RMem w r m) : Calls Tryz.prog 119 #[ptr r.g] w fun x w' => x = .returned (.int .i64 (m.ns : Int)) ∧ w' = w := by
  have c1 := h.cel.cell 1
  clear h
  simp only [ptr, tqG, tqH] at *
  go_enter Tryz.func119, Tryz.ntmps119
  go_wp2_with fail
  go_ret
  exact ⟨rfl, rfl⟩
theorem PgIs.cell {w : World} {b : Nat} {cur : Array Value} {L : List Int} (hL : L.length = 1024) (h : w.heap[b]? = some (.cells cur 43 (0, 0))) (h2 : cur.toList.take 1024 = u32s L) (j : Nat) (hj : j < 1024) : w.cell? ⟨b, j, none⟩ = some (.int .u32 (wd L j)) := by
  rw [cell_of_row w b j _ 43 (0, 0) h]
  have : (cur.toList.take 1024)[j]? = some (.int .u32 (wd L j)) := by
    rw [h2, u32s, List.getElem?_map, List.getElem?_eq_getElem (by omega)]
    simp [wd, List.getD_eq_getElem?_getD, List.getElem?_eq_getElem (show j < L.length by omega)]
  rw [List.getElem?_take_of_lt hj] at this
  simpa using this
theorem wd_zsR (k : Nat) : wd zs k = 0 := by
  unfold wd zs; rw [List.getD_eq_getElem?_getD, List.getElem?_replicate]; split <;> rfl
theorem wd_zsR' (k : Nat) : wd zs k = 0 := wd_zsR k
set_option maxRecDepth 40000 in
theorem rpeek_any (w : World) (r : Rf) (m : MS) (h : RMem w r m) (s : Bool) (p off : Int) :
    Calls Tryz.prog 89 #[ptr r.g, fr s p, .int .i64 off] w fun x w' => x = .returned (.int .u32 (m.word s p off)) ∧ Below w.heap.size w w' := by
  have hX := h.on (below_one w (.cells #[.bool s, .int .i64 p] 152))
  have hB := hid (below_one w (.cells #[.bool s, .int .i64 p] 152))
  have HF := hid (rplace_any _ r m hX s p)
  have h1 := h.ns0
  have h2 := h.most
  have hlt : Hid (∀ k, m.at s p = some k → k < m.P.length) := fun k hk => MS.at_lt h1 hk
  have n2 : (m.P.length : Int) ≤ 128 := by omega
  have H := hid hX
  clear h hX h1 h2
  unfold MS.word
  generalize hr : m.at s p = o at *
  cases o with
  | none =>
    simp only [fr, ptr, pl] at *
    go_enter Tryz.func89, Tryz.ntmps89
    go_wp2_with fail
    refine HF.out.mono ?_
    rintro x w1 ⟨rfl, hb1⟩
    have HB1 := hid (below_on hB.out hb1)
    have HM := hid (H.out.on hb1)
    clear hb1
    go_wp2_with fail
    go_ret
    exact ⟨rfl, HB1.out⟩
  | some k =>
    have hk := hlt.out k rfl
    have k1 : (k : Int) < (m.P.length : Int) := by omega
    by_cases ho : In off
    · simp only [fr, ptr, pl, if_pos ho] at *
      obtain ⟨o0, o1⟩ := ho
      go_enter Tryz.func89, Tryz.ntmps89
      go_wp2_with fail
      refine HF.out.mono ?_
      rintro x w1 ⟨rfl, hb1⟩
      have HB1 := hid (below_on hB.out hb1)
      have HM := hid (H.out.on hb1)
      clear hb1
      have y0 := HM.out.cel.cell 0
      have y1 := HM.out.cellAt k hk
      simp only [tqG] at y0
      rcases HM.out.pg k hk with ⟨hL, ⟨e1, e2⟩ | ⟨b, cap, cur, e1, e2, e3⟩⟩
      · have HZ : Hid (wd (m.p k) off.toNat = 0) := hid (by rw [e2, wd_zsR'])
        rw [e1] at y1
        clear e1 e2 hL
        go_wp2_with fail
        go_ret
        exact ⟨ret_int HZ.out.symm, HB1.out⟩
      · have y2 := PgIs.cell hL e2 e3 off.toNat (by omega)
        rw [e1] at y1
        clear e1 e2 e3 hL
        obtain ⟨res, hres⟩ : ∃ res, wd (m.p k) off.toNat = res := ⟨_, rfl⟩
        rw [hres] at y2
        have HR := hid hres
        clear hres
        go_wp2_with fail
        go_ret
        exact ⟨ret_int HR.out.symm, HB1.out⟩
    · simp only [fr, ptr, pl, if_neg ho] at *
      have ho' : off < 0 ∨ (0 ≤ off ∧ 1024 ≤ off) := by unfold In at ho; omega
      clear ho
      go_enter Tryz.func89, Tryz.ntmps89
      go_wp2_with fail
      refine HF.out.mono ?_
      rintro x w1 ⟨rfl, hb1⟩
      have HB1 := hid (below_on hB.out hb1)
      have HM := hid (H.out.on hb1)
      clear hb1
      rcases ho' with ho | ⟨ho, ho2⟩
      all_goals go_wp2_with fail
      all_goals go_ret
      all_goals exact ⟨rfl, HB1.out⟩
structure NewL (w w' : World) (g : Nat) (L : List Int) : Prop where
  below : Below w.heap.size w w'
  hg : w.heap.size ≤ g
  cel : Cel w' g 43 (u32s L)
def partL (L : List Int) (j : Nat) : List Int := L.take j ++ List.replicate (1024 - j) 0
theorem RSt.same {w w' : World} {r : Rf} {m' : MS} (h : RMem w' r m') (hb : ButL r.all w w') : RSt w w' r r m' := ⟨h, hb, rfl, fun _ hk => .inl hk⟩
set_option maxRecDepth 40000 in
set_option maxHeartbeats 4000000 in
set_option maxRecDepth 40000 in
theorem pg_nil (w : World) : PgIs w (.slice none 0 0) zs := ⟨zs_len, .inl ⟨rfl, rfl⟩⟩
theorem RMem.step {w w1 : World} {r : Rf} {m : MS} (h : RMem w1 r m) (hb : ButL r.all w w1) (k : Nat) (hk : k < m.P.length) (v' : Value) (L' : List Int) (hp : PgIs w1 v' L') (hnew : ∀ b, blkOf v' = some b → w.heap.size ≤ b ∧ b ∉ r.all) :
    RSt w (w1.setCell ⟨r.gp, k, none⟩ v') r { r with vs := r.vs.set k v' } { m with P := m.P.set k L' } := by
  refine ⟨h.setPage k hk v' L' hp (fun b hb' => (hnew b hb').2), hb.trans (.setCell _ _ _ _ (by simp [Rf.all])), rfl, fun b hb' => ?_⟩
  rcases Rf.all_mem hb' with rfl | rfl | ⟨j, hj, hbj⟩
  · exact .inl (by simp [Rf.all])
  · exact .inl (by simp [Rf.all])
  · simp only [List.length_set] at hj
    by_cases e : j = k
    · subst e
      have e2 : ({ r with vs := r.vs.set j v' } : Rf).v j = v' := by
        unfold Rf.v; rw [List.getD_eq_getElem?_getD, List.getElem?_set_self hj]; rfl
      rw [e2] at hbj
      exact .inr (hnew b hbj).1
    · have e2 : ({ r with vs := r.vs.set k v' } : Rf).v j = r.v j := by
        unfold Rf.v; rw [List.getD_eq_getElem?_getD, List.getElem?_set_ne (Ne.symm e), ← List.getD_eq_getElem?_getD]
      rw [e2] at hbj
      exact .inl (Rf.mem_all hj hbj)
set_option maxRecDepth 40000 in
theorem rzero_any (w : World) (r : Rf) (m : MS) (h : RMem w r m) (s : Bool) (p : Int) :
    Calls Tryz.prog 120 #[ptr r.g, fr s p] w fun x w' => x = .returned (.int .i64 (m.perr s p)) ∧ ∃ r', RSt w w' r r' (m.zero s p) := by
  have hX := h.on (below_one w (.cells #[.bool s, .int .i64 p] 152))
  have hB := hid (below_one w (.cells #[.bool s, .int .i64 p] 152))
  have HF := hid (rplace_any _ r m hX s p)
  have h1 := h.ns0
  have h2 := h.most
  have hlt : Hid (∀ k, m.at s p = some k → k < m.P.length) := fun k hk => MS.at_lt h1 hk
  have n2 : (m.P.length : Int) ≤ 128 := by omega
  have H := hid hX
  clear h hX h1 h2
  unfold MS.zero MS.perr
  generalize hr : m.at s p = o at *
  cases o with
  | none =>
    simp only [fr, ptr, pl] at *
    go_enter Tryz.func120, Tryz.ntmps120
    go_wp2_with fail
    refine HF.out.mono ?_
    rintro x w1 ⟨rfl, hb1⟩
    have HB1 := hid (below_on hB.out hb1)
    have HM := hid (H.out.on hb1)
    clear hb1
    go_wp2_with fail
    go_ret
    exact ⟨rfl, r, .same HM.out (.of HB1.out)⟩
  | some k =>
    have hk := hlt.out k rfl
    have k1 : (k : Int) < (m.P.length : Int) := by omega
    simp only [fr, ptr, pl] at *
    go_enter Tryz.func120, Tryz.ntmps120
    go_wp2_with fail
    refine HF.out.mono ?_
    rintro x w1 ⟨rfl, hb1⟩
    have HB1 := hid (below_on hB.out hb1)
    have HM := hid (H.out.on hb1)
    clear hb1
    have c2 : w1.cell? ⟨r.g, 2, none⟩ = some (.int .i64 m.c) := HM.out.cel.cell 2
    have f2 := HM.out.cel.free 2
    have HT := hid (HM.out.tick 1024)
    have HBT : Hid (ButL r.all w (w1.setCell ⟨r.g, 2, none⟩ (.int .i64 (wrap64 (m.c + 1024))))) := hid ((ButL.of HB1.out).trans (.setCell _ _ _ _ (by simp [Rf.all])))
    have y0 : (w1.setCell ⟨r.g, 2, none⟩ (.int .i64 (wrap64 (m.c + 1024)))).cell? ⟨r.g, 0, none⟩ = some (.slice (some ⟨r.gp, 0, none⟩) m.P.length r.cap) := HT.out.cel.cell 0
    have y1 := HT.out.cellAt k hk
    have y2 := HT.out.freeP k
    have HST := hid (HT.out.step HBT.out k hk (.slice none 0 0) zs (pg_nil _) (fun b hb => by cases hb))
    generalize r.v k = oldv at *
    go_wp2_with fail
    go_ret
    exact ⟨rfl, _, HST.out⟩
theorem RMem.put {w : World} {r : Rf} {m : MS} (h : RMem w r m) (k : Nat) (hk : k < m.P.length) {b cap : Nat} {cur : Array Value} (e1 : r.v k = .slice (some ⟨b, 0, none⟩) 1024 cap) (e2 : w.heap[b]? = some (.cells cur 43 (0, 0))) (e3 : cur.toList.take 1024 = u32s (m.p k)) (j : Nat) (v : Int) :
    RMem (w.setCell ⟨b, j, none⟩ (.int .u32 v)) r { m with P := m.P.set k ((m.p k).set j v) } := by
  have hb := ButL.setCell (G := [b]) w b j (.int .u32 v) (by simp)
  have hL := (h.pg k hk).1
  have hbk : blkOf (r.v k) = some b := by rw [e1]; rfl
  obtain ⟨cur', h1, h2⟩ := h.pages
  have hpp : ∀ i, i < m.P.length → ({ m with P := m.P.set k ((m.p k).set j v) } : MS).p i = if i = k then (m.p k).set j v else m.p i := by
    intro i hi
    unfold MS.p
    by_cases e : i = k
    · subst e
      rw [if_pos rfl, List.getD_eq_getElem?_getD, List.getElem?_set_self hi]; rfl
    · rw [if_neg e, List.getD_eq_getElem?_getD, List.getElem?_set_ne (Ne.symm e), ← List.getD_eq_getElem?_getD]
  have ng : r.g ∉ [b] := by
    rw [List.mem_singleton]; intro e
    have h3 := h.cel
    unfold Cel at h3
    rw [e, e2] at h3
    injection h3 with h3
    injection h3 with _ h4 _
    exact absurd h4 (by decide)
  have ngp : r.gp ∉ [b] := by
    rw [List.mem_singleton]; intro e
    rw [e, e2] at h1
    injection h1 with h1
    injection h1 with _ h4 _
    exact absurd h4 (by decide)
  refine ⟨?_, ⟨cur', (hb.block _ (Array.getElem?_eq_some_iff.1 h1).1 ngp).trans h1, by simpa using h2⟩, by simp [h.len], by simpa using h.ns0, by simpa using h.most, ?_, ?_⟩
  · simpa using h.cel.but hb ng
  · intro i hi
    simp only [List.length_set] at hi
    rw [hpp i hi]
    split
    · rename_i e
      subst e
      refine ⟨by rw [List.length_set]; exact hL, .inr ⟨b, cap, cur.setIfInBounds j (.int .u32 v), e1, heap_setCell_same w b j _ 43 _ e2, ?_⟩⟩
      rw [Array.toList_setIfInBounds, List.take_set, e3, u32s_set]
    · rename_i e
      exact (h.pg i hi).but hb (fun b' hb' => by rw [List.mem_singleton]; intro e'; subst e'; exact h.apart k i hk hi (fun h' => e h'.symm) b' hbk hb')
  · intro i i' hi hi'
    simp only [List.length_set] at hi hi'
    exact h.apart i i' hi hi'
theorem NewL.pg {w w' : World} {g : Nat} {L : List Int} (h : NewL w w' g L) (hL : L.length = 1024) (c : Nat) : PgIs w' (.slice (some ⟨g, 0, none⟩) 1024 c) L :=
  ⟨hL, .inr ⟨g, c, (u32s L).toArray, rfl, h.cel, by rw [List.take_of_length_le (by rw [u32s_len, hL]; exact Nat.le_refl _)]⟩⟩
theorem PgIs.on {w w' : World} {v : Value} {L : List Int} (h : PgIs w v L) (hb : Below w.heap.size w w') : PgIs w' v L := h.but (G := []) (.of hb) (by simp)
theorem wp_make_pg {o : Oper} {a : Act} {w : World} {K : Act → World → Prop} {Q : Exit → Act → World → Prop} (l c : Operand) (ho : o.op = Op.makeSlice 51 l c) (hl : a.eval l = .int .i64 1024) (hc : a.eval c = .int .i64 1024)
    (h : ∀ w', Cel w' w.heap.size 43 (u32s zs) → Below w.heap.size w w' → w'.heap.size = w.heap.size + 1 → K (a.put o.dst (.slice (some ⟨w.heap.size, 0, none⟩) 1024 1024)) w') : o.wp Tryz.prog a w K Q := by
  obtain ⟨i, hi, hzz⟩ := Option.map_eq_some_iff.1 info32
  simp only [Prod.mk.injEq] at hzz
  obtain ⟨hz, hs, hbb⟩ := hzz
  have hrun := run_make_row (P := Tryz.prog) 51 43 i (.int .u32 0) under24 hi hz hs rfl .i64 .i64 1024 (by rw [hbb]; decide) (by decide) w
  have e1 : madeCells #[Value.int .u32 0] 1024 = (u32s zs).toArray := by
    have e2 : List.replicate 1024 (Value.int .u32 0) = u32s zs := (List.map_replicate).symm
    rw [← e2, ← toList_madeCells_one]
  rw [e1] at hrun
  have hl' : a.eval l = .int .i64 ((1024 : Nat) : Int) := hl
  have hc' : a.eval c = .int .i64 ((1024 : Nat) : Int) := hc
  unfold Oper.wp execOp
  simp only [ho, hl', hc', Sem.run_bind, Sem.run_pure, hrun, Result.andThen_ok]
  exact h _ (Cel.new _ _ _) (below_one _ _) (by simp)
set_option maxRecDepth 40000 in
set_option maxHeartbeats 4000000 in
theorem rwrite_any (w : World) (r : Rf) (m : MS) (h : RMem w r m) (s : Bool) (p off v : Int) :
    Calls Tryz.prog 84 #[ptr r.g, fr s p, .int .i64 off, .int .u32 v] w fun x w' => x = .returned (.int .i64 (m.err s p off)) ∧ ∃ r', RSt w w' r r' (m.write s p off v) := by
  have hX := h.on (below_one w (.cells #[.bool s, .int .i64 p] 152))
  have hB := hid (below_one w (.cells #[.bool s, .int .i64 p] 152))
  have HF := hid (rplace_any _ r m hX s p)
  have h1 := h.ns0
  have h2 := h.most
  have hlt : Hid (∀ k, m.at s p = some k → k < m.P.length) := fun k hk => MS.at_lt h1 hk
  have n2 : (m.P.length : Int) ≤ 128 := by omega
  have H := hid hX
  clear h hX h1 h2
  unfold MS.err MS.write
  generalize hr : m.at s p = o at *
  cases o with
  | none =>
    simp only [fr, ptr, pl] at *
    go_enter Tryz.func84, Tryz.ntmps84
    go_wp2_with fail
    refine HF.out.mono ?_
    rintro x w1 ⟨rfl, hb1⟩
    have HB1 := hid (below_on hB.out hb1)
    have HM := hid (H.out.on hb1)
    clear hb1
    go_wp2_with fail
    go_ret
    exact ⟨rfl, r, .same HM.out (.of HB1.out)⟩
  | some k =>
    have hk := hlt.out k rfl
    have k1 : (k : Int) < (m.P.length : Int) := by omega
    by_cases ho : In off
    · simp only [fr, ptr, pl, if_pos ho] at *
      obtain ⟨o0, o1⟩ := ho
      go_enter Tryz.func84, Tryz.ntmps84
      go_wp2_with fail
      refine HF.out.mono ?_
      rintro x w1 ⟨rfl, hb1⟩
      have HB1 := hid (below_on hB.out hb1)
      have HM := hid (H.out.on hb1)
      clear hb1
      have c2 : w1.cell? ⟨r.g, 2, none⟩ = some (.int .i64 m.c) := HM.out.cel.cell 2
      have f2 := HM.out.cel.free 2
      have HT := hid (HM.out.tick 1)
      have HBT : Hid (ButL r.all w (w1.setCell ⟨r.g, 2, none⟩ (.int .i64 (wrap64 (m.c + 1))))) := hid ((ButL.of HB1.out).trans (.setCell _ _ _ _ (by simp [Rf.all])))
      have y0 : (w1.setCell ⟨r.g, 2, none⟩ (.int .i64 (wrap64 (m.c + 1)))).cell? ⟨r.g, 0, none⟩ = some (.slice (some ⟨r.gp, 0, none⟩) m.P.length r.cap) := HT.out.cel.cell 0
      have y1 := HT.out.cellAt k hk
      rcases (HT.out.pg k hk) with ⟨hL, ⟨e1, e2⟩ | ⟨b, cap, cur, e1, e2, e3⟩⟩
      · rw [e1] at y1
        have HE2 : Hid (m.p k = zs) := hid e2
        clear e1 e2 hL
        go_wp2_with fail
        generalize (w1.setCell ⟨r.g, 2, none⟩ (.int .i64 (wrap64 (m.c + 1)))) = Y at *
        have HX : Hid (∀ x, ButL [r.gp] Y x → x.cell? ⟨r.g, 0, none⟩ = some (.slice (some ⟨r.gp, 0, none⟩) m.P.length r.cap)) := hid (fun x hx => (HT.out.cel.but hx (by rw [List.mem_singleton]; exact HT.out.ne)).cell 0)
        clear y0 y1
        refine wp_region_held_drew (S := fun x => ButL [r.gp] Y x) (by kernel_rfl) (.of (Below.refl _ _).drew) (fun hHeld => ?_)
        refine tk 0 (some 37) (.pointer (some ⟨r.g, 0, none⟩)) ?_
        simp only [Act.put, tqA, tqZ, tqS]
        refine tk 1 (some 38) (.pointer (some ⟨r.g, 0, none⟩)) ?_
        simp only [Act.put, tqA, tqZ, tqS]
        refine tk 2 (some 39) (.pointer (some ⟨r.g, 0, none⟩)) ?_
        simp only [Act.put, tqA, tqZ, tqS]
        refine tk 3 (some 40) (.slice (some ⟨r.gp, 0, none⟩) m.P.length r.cap) ?_ (hy := Or.inl ⟨by rfl, by intro w hSw; have hcc := HX.out w hSw; go_simp⟩)
        simp only [Act.put, tqA, tqZ, tqS]
        refine tk 4 (some 41) (.int .i64 (k : Int)) ?_
        simp only [Act.put, tqA, tqZ, tqS]
        refine wpAnyH_ready (rs := [5]) (by kernel_rfl) (by simp) (AllReadyH.cons rfl (fun KQ hK => ?_) AllReadyH.nil)
        rw [if_pos (by rfl)]
        refine wp_make_pg _ _ rfl rfl rfl ?_
        intro w2 hc2 hb2 hs2
        have hbY := below_on ((Below.refl Y.heap.size Y).drew) hb2
        refine hK.out _ _ (.of hbY) (fun hHeld => ?_)
        clear hK KQ
        try simp only [Act.put, tqA]
        refine tk 6 (some 43) (.pointer (some ⟨r.gp, k, none⟩)) ?_
        simp only [Act.put]
        refine wpAnyH_ready (rs := [7]) (by kernel_rfl) (by simp) (AllReadyH.cons rfl (fun KQ hK => ?_) AllReadyH.nil)
        (have hMs := HT.out.on hbY; have ys := hMs.cellAt k hk; have yf := hMs.freeP k; go_simp)
        refine hK.out _ _ (ButL.trans (.of hbY) (.setCell _ _ _ _ (by simp))) (fun hHeld => ?_)
        clear hK KQ
        try simp only [Act.put]
        refine wpAnyH_done (by kernel_rfl) ?_ _
        clear hHeld
        have HNL : Hid (NewL Y w2 Y.heap.size zs) := hid ⟨hbY, Nat.le_refl _, hc2⟩
        have HYL : Hid (∀ b ∈ r.all, b < Y.heap.size) := hid HT.out.lt
        have HST : Hid (RSt w (w2.setCell ⟨r.gp, k, none⟩ (.slice (some ⟨Y.heap.size, 0, none⟩) 1024 1024)) r { r with vs := r.vs.set k (.slice (some ⟨Y.heap.size, 0, none⟩) 1024 1024) } ⟨m.ns, m.P.set k zs, wrap64 (m.c + 1)⟩) := hid ((HT.out.on hbY).step (HBT.out.on hbY) k hk (.slice (some ⟨Y.heap.size, 0, none⟩) 1024 1024) zs (HNL.out.pg zs_len 1024) (fun b hb => by simp only [blkOf, Option.some.injEq] at hb; subst hb; exact ⟨HBT.out.size, fun hm => by have := HYL.out _ hm; omega⟩))
        have HC3 := hid (HNL.out.cel.but (ButL.setCell (G := [r.gp]) w2 r.gp k (.slice (some ⟨Y.heap.size, 0, none⟩) 1024 1024) (by simp)) (by rw [List.mem_singleton]; intro e; have := HYL.out r.gp (by simp [Rf.all]); omega))
        clear hc2 hb2 hs2 hbY HX HNL
        generalize hgY : Y.heap.size = gy at *
        have HGY := hid hgY
        clear hgY
        generalize w2.setCell ⟨r.gp, k, none⟩ _ = w4 at *
        have y0 := HST.out.mem.cel.cell 0
        have hk2 : k < (⟨m.ns, m.P.set k zs, wrap64 (m.c + 1)⟩ : MS).P.length := by show k < (m.P.set k zs).length; rw [List.length_set]; exact hk
        have y1 := HST.out.mem.cellAt k hk2
        have ev : ({ r with vs := r.vs.set k (.slice (some ⟨gy, 0, none⟩) 1024 1024) } : Rf).v k = .slice (some ⟨gy, 0, none⟩) 1024 1024 := by unfold Rf.v; rw [List.getD_eq_getElem?_getD, List.getElem?_set_self (by rw [HT.out.len]; exact hk)]; rfl
        have ep : (⟨m.ns, m.P.set k zs, wrap64 (m.c + 1)⟩ : MS).p k = zs := by unfold MS.p; rw [List.getD_eq_getElem?_getD, List.getElem?_set_self hk]; rfl
        have y2 : w4.cell? ⟨gy, off.toNat, none⟩ = some (.int .u32 0) := by rw [HC3.out.cell, u32s, List.getElem?_map, List.getElem?_eq_getElem (by rw [zs_len]; omega)]; have := wd_zsR off.toNat; unfold wd at this; rw [List.getD_eq_getElem?_getD, List.getElem?_eq_getElem (by rw [zs_len]; omega)] at this; simp only [Option.getD_some] at this; rw [this]; rfl
        have y3 := HC3.out.free off.toNat
        have HP := hid (HST.out.mem.put k hk2 ev HC3.out (by rw [ep, List.take_of_length_le (by rw [u32s_len, zs_len]; exact Nat.le_refl _)]) off.toNat v)
        rw [ev] at y1
        rw [ep] at HP
        have HFIN : Hid (RSt w (w4.setCell ⟨gy, off.toNat, none⟩ (.int .u32 v)) r { r with vs := r.vs.set k (.slice (some ⟨gy, 0, none⟩) 1024 1024) } ⟨m.ns, m.P.set k ((m.p k).set off.toNat v), wrap64 (m.c + 1)⟩) := hid ⟨by have h9 := HP.out; simp only [List.set_set] at h9; rw [HE2.out]; exact h9, HST.out.but.trans' (g := gy) (.setCell w4 gy _ _ (by simp)) (by rw [← HGY.out]; exact HBT.out.size), rfl, HST.out.sub⟩
        simp only [tqG, List.length_set] at y0
        clear ev ep hk2
        go_wp2_with fail
        go_ret
        exact ⟨rfl, _, HFIN.out⟩
      · have y2 := PgIs.cell hL e2 e3 off.toNat (by omega)
        have y3 : (w1.setCell ⟨r.g, 2, none⟩ (.int .i64 (wrap64 (m.c + 1)))).frozen? ⟨b, off.toNat, none⟩ = false := frozen_of_row _ b off.toNat _ 43 e2
        have HP := hid (HT.out.put k hk e1 e2 e3 off.toNat v)
        have HBK : Hid (b ∈ r.all) := hid (Rf.mem_all (by rw [HT.out.len]; exact hk) (by rw [e1]; rfl))
        rw [e1] at y1
        clear e1 e2 e3 hL
        generalize wd ((m.tick 1).p k) off.toNat = oldw at *
        go_wp2_with fail
        go_ret
        exact ⟨rfl, r, .same HP.out (HBT.out.trans (.setCell _ _ _ _ HBK.out))⟩
    · simp only [fr, ptr, pl, if_neg ho] at *
      have ho' : off < 0 ∨ (0 ≤ off ∧ 1024 ≤ off) := by unfold In at ho; omega
      clear ho
      go_enter Tryz.func84, Tryz.ntmps84
      go_wp2_with fail
      refine HF.out.mono ?_
      rintro x w1 ⟨rfl, hb1⟩
      have HB1 := hid (below_on hB.out hb1)
      have HM := hid (H.out.on hb1)
      clear hb1
      rcases ho' with ho | ⟨ho, ho2⟩
      all_goals go_wp2_with fail
      all_goals go_ret
      all_goals exact ⟨rfl, r, .same HM.out (.of HB1.out)⟩
end Go.Proofs.YtdfnbcbnmiohnaaGreatDoor
