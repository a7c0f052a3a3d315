/- The document's memories: where they lie. The document's place 53, Has 48, Secure 50, Insecure 52, Meter 31; mem's Secure 49, Insecure 51; the law's doc 42. The document's Peek 45, whole 61, Page 56, Blank 60. -/
import Derived.Test.YtajkhkaidjjioaaK2
import Derived.Test.YtajkhkaidjjioaaL1
namespace Go.Proofs.Ytajkhkaidjjioaa
open Go.RowKit
def nilV : Value := .slice none 0 0
def blkOf : Value → Option Nat
  | .slice (some a) _ _ => some a.block
  | _ => none
structure Rf where
  g : Nat
  gp : Nat
  cap : Nat
  vs : List Value
def Rf.all (r : Rf) : List Nat := r.g :: r.gp :: r.vs.filterMap blkOf
def Rf.v (r : Rf) (k : Nat) : Value := r.vs.getD k nilV
def PgIs (w : World) (v : Value) (L : List Int) : Prop := L.length = 1024 ∧ ((v = .slice none 0 0 ∧ L = zs) ∨ ∃ b cap cur, v = .slice (some ⟨b, 0, none⟩) 1024 cap ∧ w.heap[b]? = some (.cells cur 27 (0, 0)) ∧ cur.toList.take 1024 = u32s L)
theorem PgIs.but {w w' : World} {G : List Nat} {v : Value} {L : List Int} (h : PgIs w v L) (hb : ButL G w w') (hn : ∀ b, blkOf v = some b → b ∉ G) : PgIs w' v L := by
  refine ⟨h.1, h.2.imp id ?_⟩
  rintro ⟨b, cap, cur, rfl, h1, h2⟩
  exact ⟨b, cap, cur, rfl, (hb.block b (Array.getElem?_eq_some_iff.1 h1).1 (hn b rfl)).trans h1, h2⟩
theorem PgIs.lt {w : World} {v : Value} {L : List Int} (h : PgIs w v L) {b : Nat} (hb : blkOf v = some b) : b < w.heap.size := by
  rcases h.2 with ⟨rfl, _⟩ | ⟨b', cap, cur, rfl, h1, _⟩
  · cases hb
  · simp only [blkOf, Option.some.injEq] at hb
    subst hb
    exact (Array.getElem?_eq_some_iff.1 h1).1
/-- A document's memory in state m. -/
structure RMem (w : World) (r : Rf) (m : MS) : Prop where
  cel : Cel w r.g 146 [.slice (some ⟨r.gp, 0, none⟩) m.P.length r.cap, .int .i64 (m.ns : Int), .int .i64 m.c]
  pages : ∃ cur, w.heap[r.gp]? = some (.cells cur 32 (0, 0)) ∧ cur.toList.take m.P.length = r.vs
  len : r.vs.length = m.P.length
  ns0 : m.ns ≤ m.P.length
  most : m.P.length ≤ 128
  pg : ∀ k, k < m.P.length → PgIs w (r.v k) (m.p k)
  apart : ∀ j k, j < m.P.length → k < m.P.length → j ≠ k → ∀ b, blkOf (r.v j) = some b → blkOf (r.v k) ≠ some b
theorem Rf.mem_all {r : Rf} {k b : Nat} (hk : k < r.vs.length) (h : blkOf (r.v k) = some b) : b ∈ r.all := by
  have e : r.v k = r.vs[k] := by unfold Rf.v; rw [List.getD_eq_getElem?_getD, List.getElem?_eq_getElem hk]; rfl
  simp only [Rf.all, List.mem_cons, List.mem_filterMap]
  exact .inr (.inr ⟨r.vs[k], List.getElem_mem hk, e ▸ h⟩)
theorem Rf.all_mem {r : Rf} {b : Nat} (h : b ∈ r.all) : b = r.g ∨ b = r.gp ∨ ∃ k, k < r.vs.length ∧ blkOf (r.v k) = some b := by
  simp only [Rf.all, List.mem_cons, List.mem_filterMap] at h
  rcases h with h | h | ⟨v, hv, hb⟩
  · exact .inl h
  · exact .inr (.inl h)
  · obtain ⟨k, hk, rfl⟩ := List.mem_iff_getElem.1 hv
    refine .inr (.inr ⟨k, hk, ?_⟩)
    have e : r.v k = r.vs[k] := by unfold Rf.v; rw [List.getD_eq_getElem?_getD, List.getElem?_eq_getElem hk]; rfl
    rw [e]; exact hb
theorem RMem.frame {w w' : World} {r : Rf} {m : MS} {G : List Nat} (h : RMem w r m) (hb : ButL G w w') (hd : ∀ k ∈ r.all, k ∉ G) : RMem w' r m := by
  obtain ⟨cur, h1, h2⟩ := h.pages
  refine ⟨h.cel.but hb (hd _ (by simp [Rf.all])), ⟨cur, (hb.block _ (Array.getElem?_eq_some_iff.1 h1).1 (hd _ (by simp [Rf.all]))).trans h1, h2⟩, h.len, h.ns0, h.most, fun k hk => (h.pg k hk).but hb (fun b hbk => hd b (Rf.mem_all (by rw [h.len]; exact hk) hbk)), h.apart⟩
theorem RMem.on {w w' : World} {r : Rf} {m : MS} (h : RMem w r m) (hb : Below w.heap.size w w') : RMem w' r m := h.frame (G := []) (.of hb) (by simp)
theorem RMem.lt {w : World} {r : Rf} {m : MS} (h : RMem w r m) : ∀ k ∈ r.all, k < w.heap.size := by
  intro k hk
  rcases Rf.all_mem hk with rfl | rfl | ⟨j, hj, hb⟩
  · exact h.cel.lt
  · obtain ⟨cur, h1, _⟩ := h.pages
    exact (Array.getElem?_eq_some_iff.1 h1).1
  · exact (h.pg j (by rw [← h.len]; exact hj)).lt hb
theorem RMem.ne {w : World} {r : Rf} {m : MS} (h : RMem w r m) : r.g ≠ r.gp := by
  obtain ⟨cur, h1, _⟩ := h.pages
  intro e
  have h2 := h.cel
  unfold Cel at h2
  rw [e, h1] at h2
  injection h2 with h2
  injection h2 with _ h3 _
  exact absurd h3 (by decide)
theorem PgIs.ty {w : World} {v : Value} {L : List Int} (h : PgIs w v L) {b : Nat} (hb : blkOf v = some b) {cur : Array Value} {t : TypeId} {fr : Nat × Nat} (hh : w.heap[b]? = some (.cells cur t fr)) : t = 27 := by
  rcases h.2 with ⟨rfl, _⟩ | ⟨b', cap, cur', rfl, h1, _⟩
  · cases hb
  · simp only [blkOf, Option.some.injEq] at hb
    subst hb
    rw [h1] at hh
    injection hh with hh
    injection hh with _ h3 _
    exact h3.symm
/-- The cell of a page. -/
theorem RMem.cellAt {w : World} {r : Rf} {m : MS} (h : RMem w r m) (k : Nat) (hk : k < m.P.length) : w.cell? ⟨r.gp, k, none⟩ = some (r.v k) := by
  obtain ⟨cur, h1, h2⟩ := h.pages
  rw [cell_of_row w r.gp k _ 32 (0, 0) h1]
  have : (cur.toList.take m.P.length)[k]? = some (r.v k) := by
    rw [h2]; unfold Rf.v
    rw [List.getD_eq_getElem?_getD, List.getElem?_eq_getElem (by rw [h.len]; exact hk)]; rfl
  rw [List.getElem?_take_of_lt hk] at this
  simpa using this
theorem RMem.freeP {w : World} {r : Rf} {m : MS} (h : RMem w r m) (k : Nat) : w.frozen? ⟨r.gp, k, none⟩ = false := by
  obtain ⟨cur, h1, _⟩ := h.pages
  exact frozen_of_row w r.gp k _ 32 h1
/-- The meter is set. -/
theorem RMem.tick {w : World} {r : Rf} {m : MS} (h : RMem w r m) (n : Int) : RMem (w.setCell ⟨r.g, 2, none⟩ (.int .i64 (wrap64 (m.c + n)))) r (m.tick n) := by
  have hb := ButL.setCell (G := [r.g]) w r.g 2 (.int .i64 (wrap64 (m.c + n))) (by simp)
  obtain ⟨cur, h1, h2⟩ := h.pages
  refine ⟨h.cel.setCell 2 _, ⟨cur, (hb.block _ (Array.getElem?_eq_some_iff.1 h1).1 (by rw [List.mem_singleton]; exact fun e => h.ne e.symm)).trans h1, h2⟩, h.len, h.ns0, h.most, fun k hk => (h.pg k hk).but hb (fun b hbk => ?_), h.apart⟩
  rw [List.mem_singleton]
  intro e
  subst e
  exact absurd ((h.pg k hk).ty hbk h.cel) (by decide)
/-- A page is laid anew. -/
theorem RMem.setPage {w : World} {r : Rf} {m : MS} (h : RMem w r m) (k : Nat) (hk : k < m.P.length) (v' : Value) (L' : List Int) (hp : PgIs w v' L') (hnew : ∀ b, blkOf v' = some b → b ∉ r.all) :
    RMem (w.setCell ⟨r.gp, k, none⟩ v') { r with vs := r.vs.set k v' } { m with P := m.P.set k L' } := by
  have hb := ButL.setCell (G := [r.gp]) w r.gp k v' (by simp)
  obtain ⟨cur, h1, h2⟩ := h.pages
  have hv : ∀ j, j < m.P.length → ({ r with vs := r.vs.set k v' } : Rf).v j = if j = k then v' else r.v j := by
    intro j hj
    unfold Rf.v
    by_cases e : j = k
    · subst e
      rw [if_pos rfl, List.getD_eq_getElem?_getD, List.getElem?_set_self (by rw [h.len]; exact hj)]; rfl
    · rw [if_neg e, List.getD_eq_getElem?_getD, List.getElem?_set_ne (Ne.symm e), ← List.getD_eq_getElem?_getD]
  have hpp : ∀ j, j < m.P.length → ({ m with P := m.P.set k L' } : MS).p j = if j = k then L' else m.p j := by
    intro j hj
    unfold MS.p
    by_cases e : j = k
    · subst e
      rw [if_pos rfl, List.getD_eq_getElem?_getD, List.getElem?_set_self hj]; rfl
    · rw [if_neg e, List.getD_eq_getElem?_getD, List.getElem?_set_ne (Ne.symm e), ← List.getD_eq_getElem?_getD]
  have hty : ∀ j, j < m.P.length → ∀ b, blkOf (r.v j) = some b → b ≠ r.gp := fun j hj b hbj e => by
    subst e
    exact absurd ((h.pg j hj).ty hbj h1) (by decide)
  have hty' : ∀ b, blkOf v' = some b → b ≠ r.gp := fun b hbj e => by
    subst e
    exact absurd (hp.ty hbj h1) (by decide)
  refine ⟨?_, ⟨cur.setIfInBounds k v', ?_, ?_⟩, ?_, ?_, ?_, ?_, ?_⟩
  · simpa using h.cel.but hb (by rw [List.mem_singleton]; exact h.ne)
  · exact heap_setCell_same w r.gp k _ 32 _ h1
  · simp only [List.length_set, Array.toList_setIfInBounds]
    rw [List.take_set, h2]
  · simp [h.len]
  · simpa using h.ns0
  · simpa using h.most
  · intro j hj
    simp only [List.length_set] at hj
    rw [hv j hj, hpp j hj]
    split
    · exact hp.but hb (fun b hbj => by rw [List.mem_singleton]; exact hty' b hbj)
    · exact (h.pg j hj).but hb (fun b hbj => by rw [List.mem_singleton]; exact hty j hj b hbj)
  · intro i j hi hj hij b
    simp only [List.length_set] at hi hj
    rw [hv i hi, hv j hj]
    split
    · rename_i e1
      rw [if_neg (by omega)]
      intro hb1 hb2
      exact hnew b hb1 (Rf.mem_all (by rw [h.len]; exact hj) hb2)
    · split
      · intro hb1 hb2
        exact hnew b hb2 (Rf.mem_all (by rw [h.len]; exact hi) hb1)
      · exact h.apart i j hi hj hij b
/-- A step of a document's memory. -/
structure RSt (w w' : World) (r r' : Rf) (m' : MS) : Prop where
  mem : RMem w' r' m'
  but : ButL r.all w w'
  g : r'.g = r.g
  sub : ∀ k ∈ r'.all, k ∈ r.all ∨ w.heap.size ≤ k
theorem RSt.of {w w' : World} {r : Rf} {m : MS} (h : RMem w r m) (hb : Below w.heap.size w w') : RSt w w' r r m := ⟨h.on hb, .of hb, rfl, fun _ hk => .inl hk⟩
end Go.Proofs.Ytajkhkaidjjioaa
namespace Go.Proofs.Ytajkhkaidjjioaa
open Go.RowKit
theorem under95 : Try.prog.underlying 121 = some (.struct (Try.prog.fieldsOf 121)) := by kernel_rfl
theorem size95 : (Try.prog.info? 121).map (·.size) = some 2 := by kernel_rfl
theorem wrapI (n : Int) (h : -9223372036854775808 ≤ n ∧ n ≤ 9223372036854775807) : IntKind.i64.wrap n = n := by
  rw [IntKind.wrap_i64]; omega
def pl (o : Option Nat) : Int := match o with
  | none => -1
  | some k => (k : Int)
set_option maxRecDepth 40000 in
set_option maxHeartbeats 4000000 in
theorem rplace_any (w : World) (r : Rf) (m : MS) (h : RMem w r m) (s : Bool) (p : Int) :
    Calls Try.prog 99 #[ptr r.g, fr s p] w fun x w' => x = .returned (.int .i64 (pl (m.at s p))) ∧ Below w.heap.size w w' := by
  have hX := h.on (below_one w (.cells #[.bool s, .int .i64 p] 121))
  have hB := hid (below_one w (.cells #[.bool s, .int .i64 p] 121))
  have C3 := hid (Cel.new w 121 [.bool s, .int .i64 p])
  have h1 := h.ns0
  have h2 := h.most
  have HX : Hid (∀ x, Below (w.alloc (.cells #[.bool s, .int .i64 p] 121)).heap.size (w.alloc (.cells #[.bool s, .int .i64 p] 121)) x → x.cell? ⟨w.heap.size, 0, none⟩ = some (.bool s) ∧ x.cell? ⟨w.heap.size, 1, none⟩ = some (.int .i64 p) ∧ x.cell? ⟨r.g, 0, none⟩ = some (.slice (some ⟨r.gp, 0, none⟩) m.P.length r.cap) ∧ x.cell? ⟨r.g, 1, none⟩ = some (.int .i64 (m.ns : Int))) := hid (fun x hx => ⟨(C3.out.on hx).cell 0, (C3.out.on hx).cell 1, (hX.on hx).cel.cell 0, (hX.on hx).cel.cell 1⟩)
  obtain ⟨y0, y1, y2, y3⟩ := HX.out _ (Below.refl _ _)
  clear h hX C3
  have n1 : (m.ns : Int) ≤ (m.P.length : Int) := by omega
  have n2 : (m.P.length : Int) ≤ 128 := by omega
  have HN : Hid (p < 0 → pl (m.at s p) = -1) := hid (fun hh => by unfold MS.at; rw [if_neg (by omega)]; rfl)
  have HS1 : Hid (s = true → 0 ≤ p → p < (m.ns : Int) → pl (m.at s p) = p) := hid (fun hs a b => by unfold MS.at; rw [if_pos a, if_pos hs, if_pos b]; show ((p.toNat : Nat) : Int) = p; omega)
  have HS2 : Hid (s = true → 0 ≤ p → ¬ p < (m.ns : Int) → pl (m.at s p) = -1) := hid (fun hs a b => by unfold MS.at; rw [if_pos a, if_pos hs, if_neg b]; rfl)
  have HI1 : Hid (s = false → 0 ≤ p → p < (m.P.length : Int) - (m.ns : Int) → pl (m.at s p) = (m.ns : Int) + p) := hid (fun hs a b => by unfold MS.at; rw [if_pos a, if_neg (by simp [hs]), if_pos (by omega)]; show ((m.ns + p.toNat : Nat) : Int) = _; omega)
  have HI2 : Hid (s = false → 0 ≤ p → ¬ p < (m.P.length : Int) - (m.ns : Int) → pl (m.at s p) = -1) := hid (fun hs a b => by unfold MS.at; rw [if_pos a, if_neg (by simp [hs]), if_neg (by omega)]; rfl)
  generalize pl (m.at s p) = res at *
  simp only [ptr, fr]
  go_enter Try.func99, Try.ntmps99
  by_cases hp : p < 0
  · have hr := HN.out hp
    subst hr
    go_wp2_with fail
    go_ret
    exact ⟨rfl, hB.out⟩
  have p0 : 0 ≤ p := by omega
  cases s
  · by_cases hq : p < (m.P.length : Int) - (m.ns : Int)
    · have HR := hid (HI1.out rfl p0 hq)
      clear HN HS1 HS2 HI1 HI2 hp
      go_wp2_with fail
      refine wp_region_held_drew (S := fun x => Below (w.alloc (.cells #[.bool false, .int .i64 p] 121)).heap.size (w.alloc (.cells #[.bool false, .int .i64 p] 121)) x) (by kernel_rfl) ((Below.refl _ _).drew) (fun hHeld => ?_)
      refine wpAnyH_take (i := 0) (oi := { dst := some 19, op := Op.fieldAddr 121 (Operand.tmp 3) 1, type := 0, pos := "ref.go:56", after := #[], guard := none }) (v := .pointer (some ⟨w.heap.size, 1, none⟩)) rfl (by kernel_rfl) (by kernel_rfl) (by kernel_rfl) (fun _ _ _ h => h) (Or.inl ⟨by rfl, by intro w hSw; go_simp⟩) (by assumption) ?_
      simp only [Act.put, List.setIfInBounds_toArray, List.set_cons_zero, List.set_cons_succ]
      refine wpAnyH_take (i := 1) (oi := { dst := some 20, op := Op.load 3 (Operand.tmp 19), type := 3, pos := "ref.go:56", after := #[{ on := 0, ground := Ground.data }], guard := none }) (v := .int .i64 p) rfl (by kernel_rfl) (by kernel_rfl) (by kernel_rfl) (fun _ _ _ h => h) (Or.inl ⟨by rfl, by intro w hSw; have hcc := (HX.out w hSw).2.1; go_simp⟩) (by assumption) ?_
      simp only [Act.put, List.setIfInBounds_toArray, List.set_cons_zero, List.set_cons_succ]
      refine wpAnyH_take (i := 2) (oi := { dst := some 21, op := Op.move (Operand.tmp 0), type := 77, pos := "ref.go:56", after := #[], guard := none }) (v := .pointer (some ⟨r.g, 0, none⟩)) rfl (by kernel_rfl) (by kernel_rfl) (by kernel_rfl) (fun _ _ _ h => h) (Or.inl ⟨by rfl, by intro w hSw; go_simp⟩) (by assumption) ?_
      simp only [Act.put, List.setIfInBounds_toArray, List.set_cons_zero, List.set_cons_succ]
      refine wpAnyH_take (i := 3) (oi := { dst := some 22, op := Op.nilCheck (Operand.tmp 21), type := 0, pos := "ref.go:56", after := #[{ on := 2, ground := Ground.data }], guard := none }) (v := .pointer (some ⟨r.g, 0, none⟩)) rfl (by kernel_rfl) (by kernel_rfl) (by kernel_rfl) (fun _ _ _ h => h) (Or.inl ⟨by rfl, by intro w hSw; go_simp⟩) (by assumption) ?_
      simp only [Act.put, List.setIfInBounds_toArray, List.set_cons_zero, List.set_cons_succ]
      refine wpAnyH_take (i := 4) (oi := { dst := some 23, op := Op.fieldAddr 146 (Operand.tmp 22) 0, type := 0, pos := "ref.go:56", after := #[{ on := 3, ground := Ground.data }], guard := none }) (v := .pointer (some ⟨r.g, 0, none⟩)) rfl (by kernel_rfl) (by kernel_rfl) (by kernel_rfl) (fun _ _ _ h => h) (Or.inl ⟨by rfl, by intro w hSw; go_simp⟩) (by assumption) ?_
      simp only [Act.put, List.setIfInBounds_toArray, List.set_cons_zero, List.set_cons_succ]
      refine wpAnyH_take (i := 5) (oi := { dst := some 24, op := Op.load 47 (Operand.tmp 23), type := 47, pos := "ref.go:56", after := #[{ on := 4, ground := Ground.data }], guard := none }) (v := .slice (some ⟨r.gp, 0, none⟩) m.P.length r.cap) rfl (by kernel_rfl) (by kernel_rfl) (by kernel_rfl) (fun _ _ _ h => h) (Or.inl ⟨by rfl, by intro w hSw; have hcc := (HX.out w hSw).2.2.1; go_simp⟩) (by assumption) ?_
      simp only [Act.put, List.setIfInBounds_toArray, List.set_cons_zero, List.set_cons_succ]
      refine wpAnyH_take (i := 6) (oi := { dst := some 25, op := Op.call { callee := Callee.builtin Builtin.len, args := #[Operand.tmp 24], argTypes := #[47] }, type := 3, pos := "ref.go:56", after := #[{ on := 5, ground := Ground.data }], guard := none }) (v := .int .i64 (m.P.length : Int)) rfl (by kernel_rfl) (by kernel_rfl) (by kernel_rfl) (fun _ _ _ h => h) (Or.inl ⟨by rfl, by intro w hSw; go_simp⟩) (by assumption) ?_
      simp only [Act.put, List.setIfInBounds_toArray, List.set_cons_zero, List.set_cons_succ]
      refine wpAnyH_take (i := 7) (oi := { dst := some 26, op := Op.move (Operand.tmp 0), type := 77, pos := "ref.go:56", after := #[], guard := none }) (v := .pointer (some ⟨r.g, 0, none⟩)) rfl (by kernel_rfl) (by kernel_rfl) (by kernel_rfl) (fun _ _ _ h => h) (Or.inl ⟨by rfl, by intro w hSw; go_simp⟩) (by assumption) ?_
      simp only [Act.put, List.setIfInBounds_toArray, List.set_cons_zero, List.set_cons_succ]
      refine wpAnyH_take (i := 8) (oi := { dst := some 27, op := Op.nilCheck (Operand.tmp 26), type := 0, pos := "ref.go:56", after := #[{ on := 7, ground := Ground.data }], guard := none }) (v := .pointer (some ⟨r.g, 0, none⟩)) rfl (by kernel_rfl) (by kernel_rfl) (by kernel_rfl) (fun _ _ _ h => h) (Or.inl ⟨by rfl, by intro w hSw; go_simp⟩) (by assumption) ?_
      simp only [Act.put, List.setIfInBounds_toArray, List.set_cons_zero, List.set_cons_succ]
      refine wpAnyH_take (i := 9) (oi := { dst := some 28, op := Op.fieldAddr 146 (Operand.tmp 27) 1, type := 0, pos := "ref.go:56", after := #[{ on := 8, ground := Ground.data }], guard := none }) (v := .pointer (some ⟨r.g, 1, none⟩)) rfl (by kernel_rfl) (by kernel_rfl) (by kernel_rfl) (fun _ _ _ h => h) (Or.inl ⟨by rfl, by intro w hSw; go_simp⟩) (by assumption) ?_
      simp only [Act.put, List.setIfInBounds_toArray, List.set_cons_zero, List.set_cons_succ]
      refine wpAnyH_take (i := 10) (oi := { dst := some 29, op := Op.load 3 (Operand.tmp 28), type := 3, pos := "ref.go:56", after := #[{ on := 9, ground := Ground.data }], guard := none }) (v := .int .i64 (m.ns : Int)) rfl (by kernel_rfl) (by kernel_rfl) (by kernel_rfl) (fun _ _ _ h => h) (Or.inl ⟨by rfl, by intro w hSw; have hcc := (HX.out w hSw).2.2.2; go_simp⟩) (by assumption) ?_
      simp only [Act.put, List.setIfInBounds_toArray, List.set_cons_zero, List.set_cons_succ]
      refine wpAnyH_take (i := 11) (oi := { dst := some 30, op := Op.binOp BinOp.sub 3 (Operand.tmp 25) (Operand.tmp 29) 3, type := 3, pos := "ref.go:56", after := #[{ on := 6, ground := Ground.data }, { on := 10, ground := Ground.data }], guard := none }) (v := .int .i64 ((m.P.length : Int) - (m.ns : Int))) rfl (by kernel_rfl) (by kernel_rfl) (by kernel_rfl) (fun _ _ _ h => h) (Or.inl ⟨by rfl, by intro w hSw; go_simp; exact wrapI _ (by omega)⟩) (by assumption) ?_
      simp only [Act.put, List.setIfInBounds_toArray, List.set_cons_zero, List.set_cons_succ]
      refine wpAnyH_take (i := 12) (oi := { dst := some 31, op := Op.binOp BinOp.lss 3 (Operand.tmp 20) (Operand.tmp 30) 3, type := 4, pos := "ref.go:56", after := #[{ on := 1, ground := Ground.data }, { on := 11, ground := Ground.data }], guard := none }) (v := .bool true) rfl (by kernel_rfl) (by kernel_rfl) (by kernel_rfl) (fun _ _ _ h => h) (Or.inl ⟨by rfl, by intro w hSw; go_simp⟩) (by assumption) ?_
      simp only [Act.put, List.setIfInBounds_toArray, List.set_cons_zero, List.set_cons_succ]
      refine wpAnyH_done (by kernel_rfl) ?_ _
      clear y0 y1 y2 y3
      clear hHeld
      obtain ⟨y0, y1, y2, y3⟩ := HX.out _ ((Below.refl _ _).drew)
      go_wp2_with fail
      refine wp_region_held_drew (S := fun x => Below (w.alloc (.cells #[.bool false, .int .i64 p] 121)).heap.size (w.alloc (.cells #[.bool false, .int .i64 p] 121)) x) (by kernel_rfl) ((Below.refl _ _).drew.drew) (fun hHeld => ?_)
      refine wpAnyH_take (i := 0) (oi := { dst := some 32, op := Op.move (Operand.tmp 0), type := 77, pos := "ref.go:57", after := #[], guard := none }) (v := .pointer (some ⟨r.g, 0, none⟩)) rfl (by kernel_rfl) (by kernel_rfl) (by kernel_rfl) (fun _ _ _ h => h) (Or.inl ⟨by rfl, by intro w hSw; go_simp⟩) (by assumption) ?_
      simp only [Act.put, List.setIfInBounds_toArray, List.set_cons_zero, List.set_cons_succ]
      refine wpAnyH_take (i := 1) (oi := { dst := some 33, op := Op.nilCheck (Operand.tmp 32), type := 0, pos := "ref.go:57", after := #[{ on := 0, ground := Ground.data }], guard := none }) (v := .pointer (some ⟨r.g, 0, none⟩)) rfl (by kernel_rfl) (by kernel_rfl) (by kernel_rfl) (fun _ _ _ h => h) (Or.inl ⟨by rfl, by intro w hSw; go_simp⟩) (by assumption) ?_
      simp only [Act.put, List.setIfInBounds_toArray, List.set_cons_zero, List.set_cons_succ]
      refine wpAnyH_take (i := 2) (oi := { dst := some 34, op := Op.fieldAddr 146 (Operand.tmp 33) 1, type := 0, pos := "ref.go:57", after := #[{ on := 1, ground := Ground.data }], guard := none }) (v := .pointer (some ⟨r.g, 1, none⟩)) rfl (by kernel_rfl) (by kernel_rfl) (by kernel_rfl) (fun _ _ _ h => h) (Or.inl ⟨by rfl, by intro w hSw; go_simp⟩) (by assumption) ?_
      simp only [Act.put, List.setIfInBounds_toArray, List.set_cons_zero, List.set_cons_succ]
      refine wpAnyH_take (i := 3) (oi := { dst := some 35, op := Op.load 3 (Operand.tmp 34), type := 3, pos := "ref.go:57", after := #[{ on := 2, ground := Ground.data }], guard := none }) (v := .int .i64 (m.ns : Int)) rfl (by kernel_rfl) (by kernel_rfl) (by kernel_rfl) (fun _ _ _ h => h) (Or.inl ⟨by rfl, by intro w hSw; have hcc := (HX.out w hSw).2.2.2; go_simp⟩) (by assumption) ?_
      simp only [Act.put, List.setIfInBounds_toArray, List.set_cons_zero, List.set_cons_succ]
      refine wpAnyH_take (i := 4) (oi := { dst := some 36, op := Op.fieldAddr 121 (Operand.tmp 3) 1, type := 0, pos := "ref.go:57", after := #[], guard := none }) (v := .pointer (some ⟨w.heap.size, 1, none⟩)) rfl (by kernel_rfl) (by kernel_rfl) (by kernel_rfl) (fun _ _ _ h => h) (Or.inl ⟨by rfl, by intro w hSw; go_simp⟩) (by assumption) ?_
      simp only [Act.put, List.setIfInBounds_toArray, List.set_cons_zero, List.set_cons_succ]
      refine wpAnyH_take (i := 5) (oi := { dst := some 37, op := Op.load 3 (Operand.tmp 36), type := 3, pos := "ref.go:57", after := #[{ on := 4, ground := Ground.data }], guard := none }) (v := .int .i64 p) rfl (by kernel_rfl) (by kernel_rfl) (by kernel_rfl) (fun _ _ _ h => h) (Or.inl ⟨by rfl, by intro w hSw; have hcc := (HX.out w hSw).2.1; go_simp⟩) (by assumption) ?_
      simp only [Act.put, List.setIfInBounds_toArray, List.set_cons_zero, List.set_cons_succ]
      refine wpAnyH_take (i := 6) (oi := { dst := some 38, op := Op.binOp BinOp.add 3 (Operand.tmp 35) (Operand.tmp 37) 3, type := 3, pos := "ref.go:57", after := #[{ on := 3, ground := Ground.data }, { on := 5, ground := Ground.data }], guard := none }) (v := .int .i64 ((m.ns : Int) + p)) rfl (by kernel_rfl) (by kernel_rfl) (by kernel_rfl) (fun _ _ _ h => h) (Or.inl ⟨by rfl, by intro w hSw; go_simp; exact wrapI _ (by omega)⟩) (by assumption) ?_
      simp only [Act.put, List.setIfInBounds_toArray, List.set_cons_zero, List.set_cons_succ]
      refine wpAnyH_ready (rs := [7]) (by kernel_rfl) (by simp) (AllReadyH.cons (o := { dst := some 4, op := Op.assign (Operand.tmp 38), type := 3, pos := "ref.go:57", after := #[{ on := 6, ground := Ground.data }, { on := 0, ground := Ground.phase }, { on := 1, ground := Ground.phase }, { on := 2, ground := Ground.phase }, { on := 3, ground := Ground.phase }, { on := 4, ground := Ground.phase }, { on := 5, ground := Ground.phase }, { on := 6, ground := Ground.phase }], guard := none }) rfl (fun KQ hK => ?_) AllReadyH.nil)
      go_simp
      refine hK.out _ _ ((Below.refl _ _).drew.drew) (fun hHeld => ?_)
      clear hK KQ
      try simp only [Act.put, List.setIfInBounds_toArray, List.set_cons_zero, List.set_cons_succ]
      refine wpAnyH_done (by kernel_rfl) ?_ _
      clear hHeld
      go_wp2_with fail
      go_ret
      exact ⟨ret_int HR.out.symm, below_on hB.out ((Below.refl _ _).drew.drew)⟩
    · have HR := hid (HI2.out rfl p0 hq)
      clear HN HS1 HS2 HI1 HI2 hp
      go_wp2_with fail
      refine wp_region_held_drew (S := fun x => Below (w.alloc (.cells #[.bool false, .int .i64 p] 121)).heap.size (w.alloc (.cells #[.bool false, .int .i64 p] 121)) x) (by kernel_rfl) ((Below.refl _ _).drew) (fun hHeld => ?_)
      refine wpAnyH_take (i := 0) (oi := { dst := some 19, op := Op.fieldAddr 121 (Operand.tmp 3) 1, type := 0, pos := "ref.go:56", after := #[], guard := none }) (v := .pointer (some ⟨w.heap.size, 1, none⟩)) rfl (by kernel_rfl) (by kernel_rfl) (by kernel_rfl) (fun _ _ _ h => h) (Or.inl ⟨by rfl, by intro w hSw; go_simp⟩) (by assumption) ?_
      simp only [Act.put, List.setIfInBounds_toArray, List.set_cons_zero, List.set_cons_succ]
      refine wpAnyH_take (i := 1) (oi := { dst := some 20, op := Op.load 3 (Operand.tmp 19), type := 3, pos := "ref.go:56", after := #[{ on := 0, ground := Ground.data }], guard := none }) (v := .int .i64 p) rfl (by kernel_rfl) (by kernel_rfl) (by kernel_rfl) (fun _ _ _ h => h) (Or.inl ⟨by rfl, by intro w hSw; have hcc := (HX.out w hSw).2.1; go_simp⟩) (by assumption) ?_
      simp only [Act.put, List.setIfInBounds_toArray, List.set_cons_zero, List.set_cons_succ]
      refine wpAnyH_take (i := 2) (oi := { dst := some 21, op := Op.move (Operand.tmp 0), type := 77, pos := "ref.go:56", after := #[], guard := none }) (v := .pointer (some ⟨r.g, 0, none⟩)) rfl (by kernel_rfl) (by kernel_rfl) (by kernel_rfl) (fun _ _ _ h => h) (Or.inl ⟨by rfl, by intro w hSw; go_simp⟩) (by assumption) ?_
      simp only [Act.put, List.setIfInBounds_toArray, List.set_cons_zero, List.set_cons_succ]
      refine wpAnyH_take (i := 3) (oi := { dst := some 22, op := Op.nilCheck (Operand.tmp 21), type := 0, pos := "ref.go:56", after := #[{ on := 2, ground := Ground.data }], guard := none }) (v := .pointer (some ⟨r.g, 0, none⟩)) rfl (by kernel_rfl) (by kernel_rfl) (by kernel_rfl) (fun _ _ _ h => h) (Or.inl ⟨by rfl, by intro w hSw; go_simp⟩) (by assumption) ?_
      simp only [Act.put, List.setIfInBounds_toArray, List.set_cons_zero, List.set_cons_succ]
      refine wpAnyH_take (i := 4) (oi := { dst := some 23, op := Op.fieldAddr 146 (Operand.tmp 22) 0, type := 0, pos := "ref.go:56", after := #[{ on := 3, ground := Ground.data }], guard := none }) (v := .pointer (some ⟨r.g, 0, none⟩)) rfl (by kernel_rfl) (by kernel_rfl) (by kernel_rfl) (fun _ _ _ h => h) (Or.inl ⟨by rfl, by intro w hSw; go_simp⟩) (by assumption) ?_
      simp only [Act.put, List.setIfInBounds_toArray, List.set_cons_zero, List.set_cons_succ]
      refine wpAnyH_take (i := 5) (oi := { dst := some 24, op := Op.load 47 (Operand.tmp 23), type := 47, pos := "ref.go:56", after := #[{ on := 4, ground := Ground.data }], guard := none }) (v := .slice (some ⟨r.gp, 0, none⟩) m.P.length r.cap) rfl (by kernel_rfl) (by kernel_rfl) (by kernel_rfl) (fun _ _ _ h => h) (Or.inl ⟨by rfl, by intro w hSw; have hcc := (HX.out w hSw).2.2.1; go_simp⟩) (by assumption) ?_
      simp only [Act.put, List.setIfInBounds_toArray, List.set_cons_zero, List.set_cons_succ]
      refine wpAnyH_take (i := 6) (oi := { dst := some 25, op := Op.call { callee := Callee.builtin Builtin.len, args := #[Operand.tmp 24], argTypes := #[47] }, type := 3, pos := "ref.go:56", after := #[{ on := 5, ground := Ground.data }], guard := none }) (v := .int .i64 (m.P.length : Int)) rfl (by kernel_rfl) (by kernel_rfl) (by kernel_rfl) (fun _ _ _ h => h) (Or.inl ⟨by rfl, by intro w hSw; go_simp⟩) (by assumption) ?_
      simp only [Act.put, List.setIfInBounds_toArray, List.set_cons_zero, List.set_cons_succ]
      refine wpAnyH_take (i := 7) (oi := { dst := some 26, op := Op.move (Operand.tmp 0), type := 77, pos := "ref.go:56", after := #[], guard := none }) (v := .pointer (some ⟨r.g, 0, none⟩)) rfl (by kernel_rfl) (by kernel_rfl) (by kernel_rfl) (fun _ _ _ h => h) (Or.inl ⟨by rfl, by intro w hSw; go_simp⟩) (by assumption) ?_
      simp only [Act.put, List.setIfInBounds_toArray, List.set_cons_zero, List.set_cons_succ]
      refine wpAnyH_take (i := 8) (oi := { dst := some 27, op := Op.nilCheck (Operand.tmp 26), type := 0, pos := "ref.go:56", after := #[{ on := 7, ground := Ground.data }], guard := none }) (v := .pointer (some ⟨r.g, 0, none⟩)) rfl (by kernel_rfl) (by kernel_rfl) (by kernel_rfl) (fun _ _ _ h => h) (Or.inl ⟨by rfl, by intro w hSw; go_simp⟩) (by assumption) ?_
      simp only [Act.put, List.setIfInBounds_toArray, List.set_cons_zero, List.set_cons_succ]
      refine wpAnyH_take (i := 9) (oi := { dst := some 28, op := Op.fieldAddr 146 (Operand.tmp 27) 1, type := 0, pos := "ref.go:56", after := #[{ on := 8, ground := Ground.data }], guard := none }) (v := .pointer (some ⟨r.g, 1, none⟩)) rfl (by kernel_rfl) (by kernel_rfl) (by kernel_rfl) (fun _ _ _ h => h) (Or.inl ⟨by rfl, by intro w hSw; go_simp⟩) (by assumption) ?_
      simp only [Act.put, List.setIfInBounds_toArray, List.set_cons_zero, List.set_cons_succ]
      refine wpAnyH_take (i := 10) (oi := { dst := some 29, op := Op.load 3 (Operand.tmp 28), type := 3, pos := "ref.go:56", after := #[{ on := 9, ground := Ground.data }], guard := none }) (v := .int .i64 (m.ns : Int)) rfl (by kernel_rfl) (by kernel_rfl) (by kernel_rfl) (fun _ _ _ h => h) (Or.inl ⟨by rfl, by intro w hSw; have hcc := (HX.out w hSw).2.2.2; go_simp⟩) (by assumption) ?_
      simp only [Act.put, List.setIfInBounds_toArray, List.set_cons_zero, List.set_cons_succ]
      refine wpAnyH_take (i := 11) (oi := { dst := some 30, op := Op.binOp BinOp.sub 3 (Operand.tmp 25) (Operand.tmp 29) 3, type := 3, pos := "ref.go:56", after := #[{ on := 6, ground := Ground.data }, { on := 10, ground := Ground.data }], guard := none }) (v := .int .i64 ((m.P.length : Int) - (m.ns : Int))) rfl (by kernel_rfl) (by kernel_rfl) (by kernel_rfl) (fun _ _ _ h => h) (Or.inl ⟨by rfl, by intro w hSw; go_simp; exact wrapI _ (by omega)⟩) (by assumption) ?_
      simp only [Act.put, List.setIfInBounds_toArray, List.set_cons_zero, List.set_cons_succ]
      refine wpAnyH_take (i := 12) (oi := { dst := some 31, op := Op.binOp BinOp.lss 3 (Operand.tmp 20) (Operand.tmp 30) 3, type := 4, pos := "ref.go:56", after := #[{ on := 1, ground := Ground.data }, { on := 11, ground := Ground.data }], guard := none }) (v := .bool false) rfl (by kernel_rfl) (by kernel_rfl) (by kernel_rfl) (fun _ _ _ h => h) (Or.inl ⟨by rfl, by intro w hSw; go_simp⟩) (by assumption) ?_
      simp only [Act.put, List.setIfInBounds_toArray, List.set_cons_zero, List.set_cons_succ]
      refine wpAnyH_done (by kernel_rfl) ?_ _
      clear y0 y1 y2 y3
      clear hHeld
      obtain ⟨y0, y1, y2, y3⟩ := HX.out _ ((Below.refl _ _).drew)
      go_wp2_with fail
      go_ret
      exact ⟨ret_int HR.out.symm, below_on hB.out ((Below.refl _ _).drew)⟩
  · by_cases hq : p < (m.ns : Int)
    · have HR := hid (HS1.out rfl p0 hq)
      clear HN HS1 HS2 HI1 HI2 hp
      go_wp2_with fail
      refine wp_region_held_drew (S := fun x => Below (w.alloc (.cells #[.bool true, .int .i64 p] 121)).heap.size (w.alloc (.cells #[.bool true, .int .i64 p] 121)) x) (by kernel_rfl) ((Below.refl _ _).drew) (fun hHeld => ?_)
      refine wpAnyH_take (i := 0) (oi := { dst := some 10, op := Op.fieldAddr 121 (Operand.tmp 3) 1, type := 0, pos := "ref.go:51", after := #[], guard := none }) (v := .pointer (some ⟨w.heap.size, 1, none⟩)) rfl (by kernel_rfl) (by kernel_rfl) (by kernel_rfl) (fun _ _ _ h => h) (Or.inl ⟨by rfl, by intro w hSw; go_simp⟩) (by assumption) ?_
      simp only [Act.put, List.setIfInBounds_toArray, List.set_cons_zero, List.set_cons_succ]
      refine wpAnyH_take (i := 1) (oi := { dst := some 11, op := Op.load 3 (Operand.tmp 10), type := 3, pos := "ref.go:51", after := #[{ on := 0, ground := Ground.data }], guard := none }) (v := .int .i64 p) rfl (by kernel_rfl) (by kernel_rfl) (by kernel_rfl) (fun _ _ _ h => h) (Or.inl ⟨by rfl, by intro w hSw; have hcc := (HX.out w hSw).2.1; go_simp⟩) (by assumption) ?_
      simp only [Act.put, List.setIfInBounds_toArray, List.set_cons_zero, List.set_cons_succ]
      refine wpAnyH_take (i := 2) (oi := { dst := some 12, op := Op.move (Operand.tmp 0), type := 77, pos := "ref.go:51", after := #[], guard := none }) (v := .pointer (some ⟨r.g, 0, none⟩)) rfl (by kernel_rfl) (by kernel_rfl) (by kernel_rfl) (fun _ _ _ h => h) (Or.inl ⟨by rfl, by intro w hSw; go_simp⟩) (by assumption) ?_
      simp only [Act.put, List.setIfInBounds_toArray, List.set_cons_zero, List.set_cons_succ]
      refine wpAnyH_take (i := 3) (oi := { dst := some 13, op := Op.nilCheck (Operand.tmp 12), type := 0, pos := "ref.go:51", after := #[{ on := 2, ground := Ground.data }], guard := none }) (v := .pointer (some ⟨r.g, 0, none⟩)) rfl (by kernel_rfl) (by kernel_rfl) (by kernel_rfl) (fun _ _ _ h => h) (Or.inl ⟨by rfl, by intro w hSw; go_simp⟩) (by assumption) ?_
      simp only [Act.put, List.setIfInBounds_toArray, List.set_cons_zero, List.set_cons_succ]
      refine wpAnyH_take (i := 4) (oi := { dst := some 14, op := Op.fieldAddr 146 (Operand.tmp 13) 1, type := 0, pos := "ref.go:51", after := #[{ on := 3, ground := Ground.data }], guard := none }) (v := .pointer (some ⟨r.g, 1, none⟩)) rfl (by kernel_rfl) (by kernel_rfl) (by kernel_rfl) (fun _ _ _ h => h) (Or.inl ⟨by rfl, by intro w hSw; go_simp⟩) (by assumption) ?_
      simp only [Act.put, List.setIfInBounds_toArray, List.set_cons_zero, List.set_cons_succ]
      refine wpAnyH_take (i := 5) (oi := { dst := some 15, op := Op.load 3 (Operand.tmp 14), type := 3, pos := "ref.go:51", after := #[{ on := 4, ground := Ground.data }], guard := none }) (v := .int .i64 (m.ns : Int)) rfl (by kernel_rfl) (by kernel_rfl) (by kernel_rfl) (fun _ _ _ h => h) (Or.inl ⟨by rfl, by intro w hSw; have hcc := (HX.out w hSw).2.2.2; go_simp⟩) (by assumption) ?_
      simp only [Act.put, List.setIfInBounds_toArray, List.set_cons_zero, List.set_cons_succ]
      refine wpAnyH_take (i := 6) (oi := { dst := some 16, op := Op.binOp BinOp.lss 3 (Operand.tmp 11) (Operand.tmp 15) 3, type := 4, pos := "ref.go:51", after := #[{ on := 1, ground := Ground.data }, { on := 5, ground := Ground.data }], guard := none }) (v := .bool true) rfl (by kernel_rfl) (by kernel_rfl) (by kernel_rfl) (fun _ _ _ h => h) (Or.inl ⟨by rfl, by intro w hSw; go_simp⟩) (by assumption) ?_
      simp only [Act.put, List.setIfInBounds_toArray, List.set_cons_zero, List.set_cons_succ]
      refine wpAnyH_done (by kernel_rfl) ?_ _
      clear y0 y1 y2 y3
      clear hHeld
      obtain ⟨y0, y1, y2, y3⟩ := HX.out _ ((Below.refl _ _).drew)
      go_wp2_with fail
      go_ret
      exact ⟨ret_int HR.out.symm, below_on hB.out ((Below.refl _ _).drew)⟩
    · have HR := hid (HS2.out rfl p0 hq)
      clear HN HS1 HS2 HI1 HI2 hp
      go_wp2_with fail
      refine wp_region_held_drew (S := fun x => Below (w.alloc (.cells #[.bool true, .int .i64 p] 121)).heap.size (w.alloc (.cells #[.bool true, .int .i64 p] 121)) x) (by kernel_rfl) ((Below.refl _ _).drew) (fun hHeld => ?_)
      refine wpAnyH_take (i := 0) (oi := { dst := some 10, op := Op.fieldAddr 121 (Operand.tmp 3) 1, type := 0, pos := "ref.go:51", after := #[], guard := none }) (v := .pointer (some ⟨w.heap.size, 1, none⟩)) rfl (by kernel_rfl) (by kernel_rfl) (by kernel_rfl) (fun _ _ _ h => h) (Or.inl ⟨by rfl, by intro w hSw; go_simp⟩) (by assumption) ?_
      simp only [Act.put, List.setIfInBounds_toArray, List.set_cons_zero, List.set_cons_succ]
      refine wpAnyH_take (i := 1) (oi := { dst := some 11, op := Op.load 3 (Operand.tmp 10), type := 3, pos := "ref.go:51", after := #[{ on := 0, ground := Ground.data }], guard := none }) (v := .int .i64 p) rfl (by kernel_rfl) (by kernel_rfl) (by kernel_rfl) (fun _ _ _ h => h) (Or.inl ⟨by rfl, by intro w hSw; have hcc := (HX.out w hSw).2.1; go_simp⟩) (by assumption) ?_
      simp only [Act.put, List.setIfInBounds_toArray, List.set_cons_zero, List.set_cons_succ]
      refine wpAnyH_take (i := 2) (oi := { dst := some 12, op := Op.move (Operand.tmp 0), type := 77, pos := "ref.go:51", after := #[], guard := none }) (v := .pointer (some ⟨r.g, 0, none⟩)) rfl (by kernel_rfl) (by kernel_rfl) (by kernel_rfl) (fun _ _ _ h => h) (Or.inl ⟨by rfl, by intro w hSw; go_simp⟩) (by assumption) ?_
      simp only [Act.put, List.setIfInBounds_toArray, List.set_cons_zero, List.set_cons_succ]
      refine wpAnyH_take (i := 3) (oi := { dst := some 13, op := Op.nilCheck (Operand.tmp 12), type := 0, pos := "ref.go:51", after := #[{ on := 2, ground := Ground.data }], guard := none }) (v := .pointer (some ⟨r.g, 0, none⟩)) rfl (by kernel_rfl) (by kernel_rfl) (by kernel_rfl) (fun _ _ _ h => h) (Or.inl ⟨by rfl, by intro w hSw; go_simp⟩) (by assumption) ?_
      simp only [Act.put, List.setIfInBounds_toArray, List.set_cons_zero, List.set_cons_succ]
      refine wpAnyH_take (i := 4) (oi := { dst := some 14, op := Op.fieldAddr 146 (Operand.tmp 13) 1, type := 0, pos := "ref.go:51", after := #[{ on := 3, ground := Ground.data }], guard := none }) (v := .pointer (some ⟨r.g, 1, none⟩)) rfl (by kernel_rfl) (by kernel_rfl) (by kernel_rfl) (fun _ _ _ h => h) (Or.inl ⟨by rfl, by intro w hSw; go_simp⟩) (by assumption) ?_
      simp only [Act.put, List.setIfInBounds_toArray, List.set_cons_zero, List.set_cons_succ]
      refine wpAnyH_take (i := 5) (oi := { dst := some 15, op := Op.load 3 (Operand.tmp 14), type := 3, pos := "ref.go:51", after := #[{ on := 4, ground := Ground.data }], guard := none }) (v := .int .i64 (m.ns : Int)) rfl (by kernel_rfl) (by kernel_rfl) (by kernel_rfl) (fun _ _ _ h => h) (Or.inl ⟨by rfl, by intro w hSw; have hcc := (HX.out w hSw).2.2.2; go_simp⟩) (by assumption) ?_
      simp only [Act.put, List.setIfInBounds_toArray, List.set_cons_zero, List.set_cons_succ]
      refine wpAnyH_take (i := 6) (oi := { dst := some 16, op := Op.binOp BinOp.lss 3 (Operand.tmp 11) (Operand.tmp 15) 3, type := 4, pos := "ref.go:51", after := #[{ on := 1, ground := Ground.data }, { on := 5, ground := Ground.data }], guard := none }) (v := .bool false) rfl (by kernel_rfl) (by kernel_rfl) (by kernel_rfl) (fun _ _ _ h => h) (Or.inl ⟨by rfl, by intro w hSw; go_simp⟩) (by assumption) ?_
      simp only [Act.put, List.setIfInBounds_toArray, List.set_cons_zero, List.set_cons_succ]
      refine wpAnyH_done (by kernel_rfl) ?_ _
      clear y0 y1 y2 y3
      clear hHeld
      obtain ⟨y0, y1, y2, y3⟩ := HX.out _ ((Below.refl _ _).drew)
      go_wp2_with fail
      go_ret
      exact ⟨ret_int HR.out.symm, below_on hB.out ((Below.refl _ _).drew)⟩
theorem rsecure_any (w : World) (r : Rf) (m : MS) (h : RMem w r m) : Calls Try.prog 67 #[ptr r.g] w fun x w' => x = .returned (.int .i64 (m.ns : Int)) ∧ w' = w := by
  have c1 := h.cel.cell 1
  clear h
  simp only [ptr, List.getElem?_cons_zero, List.getElem?_cons_succ] at *
  go_enter Try.func67, Try.ntmps67
  go_wp2_with fail
  go_ret
  exact ⟨rfl, rfl⟩
theorem rmeter_any (w : World) (r : Rf) (m : MS) (h : RMem w r m) : Calls Try.prog 83 #[ptr r.g] w fun x w' => x = .returned (.int .i64 m.c) ∧ w' = w := by
  have c1 := h.cel.cell 2
  clear h
  simp only [ptr, List.getElem?_cons_zero, List.getElem?_cons_succ] at *
  go_enter Try.func83, Try.ntmps83
  go_wp2_with fail
  go_ret
  exact ⟨rfl, rfl⟩
end Go.Proofs.Ytajkhkaidjjioaa
namespace Go.Proofs.Ytajkhkaidjjioaa
open Go.RowKit
theorem PgIs.cell {w : World} {b : Nat} {cur : Array Value} {L : List Int} (hL : L.length = 1024) (h : w.heap[b]? = some (.cells cur 27 (0, 0))) (h2 : cur.toList.take 1024 = u32s L) (j : Nat) (hj : j < 1024) : w.cell? ⟨b, j, none⟩ = some (.int .u32 (wd L j)) := by
  rw [cell_of_row w b j _ 27 (0, 0) h]
  have : (cur.toList.take 1024)[j]? = some (.int .u32 (wd L j)) := by
    rw [h2, u32s, List.getElem?_map, List.getElem?_eq_getElem (by omega)]
    simp [wd, List.getD_eq_getElem?_getD, List.getElem?_eq_getElem (show j < L.length by omega)]
  rw [List.getElem?_take_of_lt hj] at this
  simpa using this
theorem wd_zsR (k : Nat) : wd zs k = 0 := by
  unfold wd zs; rw [List.getD_eq_getElem?_getD, List.getElem?_replicate]; split <;> rfl
theorem wd_zsR' (k : Nat) : wd zs k = 0 := wd_zsR k
set_option maxRecDepth 40000 in
theorem rpeek_any (w : World) (r : Rf) (m : MS) (h : RMem w r m) (s : Bool) (p off : Int) :
    Calls Try.prog 85 #[ptr r.g, fr s p, .int .i64 off] w fun x w' => x = .returned (.int .u32 (m.word s p off)) ∧ Below w.heap.size w w' := by
  have hX := h.on (below_one w (.cells #[.bool s, .int .i64 p] 121))
  have hB := hid (below_one w (.cells #[.bool s, .int .i64 p] 121))
  have HF := hid (rplace_any _ r m hX s p)
  have h1 := h.ns0
  have h2 := h.most
  have hlt : Hid (∀ k, m.at s p = some k → k < m.P.length) := fun k hk => MS.at_lt h1 hk
  have n2 : (m.P.length : Int) ≤ 128 := by omega
  have H := hid hX
  clear h hX h1 h2
  unfold MS.word
  generalize hr : m.at s p = o at *
  cases o with
  | none =>
    simp only [fr, ptr, pl] at *
    go_enter Try.func85, Try.ntmps85
    go_wp2_with fail
    refine HF.out.mono ?_
    rintro x w1 ⟨rfl, hb1⟩
    have HB1 := hid (below_on hB.out hb1)
    have HM := hid (H.out.on hb1)
    clear hb1
    go_wp2_with fail
    go_ret
    exact ⟨rfl, HB1.out⟩
  | some k =>
    have hk := hlt.out k rfl
    have k1 : (k : Int) < (m.P.length : Int) := by omega
    by_cases ho : In off
    · simp only [fr, ptr, pl, if_pos ho] at *
      obtain ⟨o0, o1⟩ := ho
      go_enter Try.func85, Try.ntmps85
      go_wp2_with fail
      refine HF.out.mono ?_
      rintro x w1 ⟨rfl, hb1⟩
      have HB1 := hid (below_on hB.out hb1)
      have HM := hid (H.out.on hb1)
      clear hb1
      have y0 := HM.out.cel.cell 0
      have y1 := HM.out.cellAt k hk
      simp only [List.getElem?_cons_zero] at y0
      rcases HM.out.pg k hk with ⟨hL, ⟨e1, e2⟩ | ⟨b, cap, cur, e1, e2, e3⟩⟩
      · have HZ : Hid (wd (m.p k) off.toNat = 0) := hid (by rw [e2, wd_zsR'])
        rw [e1] at y1
        clear e1 e2 hL
        go_wp2_with fail
        go_ret
        exact ⟨ret_int HZ.out.symm, HB1.out⟩
      · have y2 := PgIs.cell hL e2 e3 off.toNat (by omega)
        rw [e1] at y1
        clear e1 e2 e3 hL
        obtain ⟨res, hres⟩ : ∃ res, wd (m.p k) off.toNat = res := ⟨_, rfl⟩
        rw [hres] at y2
        have HR := hid hres
        clear hres
        go_wp2_with fail
        go_ret
        exact ⟨ret_int HR.out.symm, HB1.out⟩
    · simp only [fr, ptr, pl, if_neg ho] at *
      have ho' : off < 0 ∨ (0 ≤ off ∧ 1024 ≤ off) := by unfold In at ho; omega
      clear ho
      go_enter Try.func85, Try.ntmps85
      go_wp2_with fail
      refine HF.out.mono ?_
      rintro x w1 ⟨rfl, hb1⟩
      have HB1 := hid (below_on hB.out hb1)
      have HM := hid (H.out.on hb1)
      clear hb1
      rcases ho' with ho | ⟨ho, ho2⟩
      all_goals go_wp2_with fail
      all_goals go_ret
      all_goals exact ⟨rfl, HB1.out⟩
/-- A new list of 1024 words. -/
structure NewL (w w' : World) (g : Nat) (L : List Int) : Prop where
  below : Below w.heap.size w w'
  hg : w.heap.size ≤ g
  cel : Cel w' g 27 (u32s L)
theorem u32s_setz (L : List Int) (j : Nat) (v : Int) : (u32s L).set j (.int .u32 v) = u32s (L.set j v) := u32s_set L j v
def partL (L : List Int) (j : Nat) : List Int := L.take j ++ List.replicate (1024 - j) 0
theorem partL_zero (L : List Int) : partL L 0 = zs := by unfold partL zs; rw [List.take_zero, List.nil_append]
theorem partL_full (L : List Int) (h : L.length = 1024) : partL L 1024 = L := by unfold partL; rw [List.take_of_length_le (by omega), Nat.sub_self]; simp
theorem partL_len (L : List Int) (j : Nat) (h : L.length = 1024) (hj : j ≤ 1024) : (partL L j).length = 1024 := by unfold partL; simp [h]; omega
theorem partL_set (L : List Int) (j : Nat) (h : L.length = 1024) (hj : j < 1024) : (partL L j).set j (wd L j) = partL L (j + 1) := by
  unfold partL
  have h1 : (L.take j).length = j := by rw [List.length_take]; omega
  rw [List.set_append_right _ _ (by omega), h1, Nat.sub_self]
  obtain ⟨k, hk⟩ : ∃ k, 1024 - j = k + 1 := ⟨1024 - j - 1, by omega⟩
  have hk2 : 1024 - (j + 1) = k := by omega
  have hjl : j < L.length := by omega
  rw [hk, hk2, List.replicate_succ, List.set_cons_zero, List.take_succ_eq_append_getElem hjl]
  unfold wd
  rw [List.getD_eq_getElem?_getD, List.getElem?_eq_getElem hjl]
  simp only [List.append_assoc, List.singleton_append, Option.getD_some]
end Go.Proofs.Ytajkhkaidjjioaa
