/- Clone 25, samePages 39, Same 26. -/
import Derived.Test.YtajkhkaidjjioaaK1
namespace Go.Proofs.Ytajkhkaidjjioaa
open Go.RowKit
theorem getD_take {α : Type} (l : List α) (d : α) (n k : Nat) (h : k < n) : (l.take n).getD k d = l.getD k d := by
  rw [List.getD_eq_getElem?_getD, List.getElem?_take_of_lt h, ← List.getD_eq_getElem?_getD]
theorem getD_drop {α : Type} (l : List α) (d : α) (n k : Nat) : (l.drop n).getD k d = l.getD (n + k) d := by
  rw [List.getD_eq_getElem?_getD, List.getElem?_drop, ← List.getD_eq_getElem?_getD]
theorem Mem.rs {w : World} {f : Fp} {m : MS} (h : Mem w f m) : RP w f.gs (f.bs.take m.ns) (m.P.take m.ns) := by
  have := h.ns0
  refine ⟨h.sec, by rw [List.length_take, List.length_take, h.len], fun k hk => ?_, fun k hk => ?_⟩
  · rw [List.length_take] at hk
    rw [getD_take _ _ _ _ (by omega), getD_take _ _ _ _ (by omega)]
    exact h.pg k (by omega)
  · rw [List.length_take] at hk
    rw [getD_take _ _ _ _ (by omega)]
    exact h.full k (by omega)
theorem Mem.ri {w : World} {f : Fp} {m : MS} (h : Mem w f m) : RP w f.gi (f.bs.drop m.ns) (m.P.drop m.ns) := by
  have := h.ns0
  refine ⟨h.ins, by rw [List.length_drop, List.length_drop, h.len], fun k hk => ?_, fun k hk => ?_⟩
  · rw [List.length_drop] at hk
    rw [getD_drop, getD_drop]
    exact h.pg _ (by omega)
  · rw [List.length_drop] at hk
    rw [getD_drop]
    exact h.full _ (by omega)
theorem mem_of2 {w w1 w2 w3 : World} {g1 g2 gm : Nat} {bs1 bs2 : List Nat} {m : MS} (h1 : CP w w1 g1 bs1 (m.P.take m.ns)) (h2 : CP w1 w2 g2 bs2 (m.P.drop m.ns)) (hm : m.P.length ≤ 128) (hs : m.ns ≤ m.P.length) (hb : Below w2.heap.size w2 w3) (hgm : w.heap.size ≤ gm)
    (hc : Cel w3 gm 98 [.slice (some ⟨g1, 0, none⟩) m.ns m.ns, .slice (some ⟨g2, 0, none⟩) (m.P.length - m.ns) (m.P.length - m.ns), .int .i64 m.c]) :
    Mem w3 ⟨gm, g1, g2, bs1 ++ bs2⟩ m ∧ (∀ k ∈ (⟨gm, g1, g2, bs1 ++ bs2⟩ : Fp).all, w.heap.size ≤ k) := by
  have h1' := (h1.on h2.below).on hb
  have h2' := h2.on hb
  have l1 : bs1.length = m.ns := by rw [h1.len, List.length_take]; omega
  have l2 : bs2.length = m.P.length - m.ns := by rw [h2.len, List.length_drop]
  have key : ∀ k, k < m.P.length → (k < m.ns ∧ (bs1 ++ bs2).getD k 0 = bs1.getD k 0 ∧ m.P.getD k [] = (m.P.take m.ns).getD k [] ∧ k < (m.P.take m.ns).length) ∨ (∃ j, k = m.ns + j ∧ (bs1 ++ bs2).getD k 0 = bs2.getD j 0 ∧ m.P.getD k [] = (m.P.drop m.ns).getD j [] ∧ j < (m.P.drop m.ns).length) := by
    intro k hk
    by_cases hlt : k < m.ns
    · refine .inl ⟨hlt, ?_, (getD_take _ _ _ _ hlt).symm, by rw [List.length_take]; omega⟩
      rw [List.getD_eq_getElem?_getD, List.getElem?_append_left (by omega), ← List.getD_eq_getElem?_getD]
    · refine .inr ⟨k - m.ns, by omega, ?_, ?_, by rw [List.length_drop]; omega⟩
      · rw [List.getD_eq_getElem?_getD, List.getElem?_append_right (by omega), ← List.getD_eq_getElem?_getD, l1]
      · rw [getD_drop]; congr 1; omega
  refine ⟨⟨hc, ?_, ?_, ?_, hs, hm, ?_, ?_, ?_⟩, ?_⟩
  · have := h1'.cel
    simpa [List.take_left' l1] using this
  · have := h2'.cel
    simpa [List.drop_left' l1] using this
  · simp [l1, l2]; omega
  · intro k hk
    show Cel w3 ((bs1 ++ bs2).getD k 0) 141 (u32s (m.P.getD k []))
    rcases key k hk with ⟨_, e1, e2, e3⟩ | ⟨j, _, e1, e2, e3⟩
    · rw [e1, e2]; exact (h1'.pages k e3).2
    · rw [e1, e2]; exact (h2'.pages j e3).2
  · intro k hk
    show (m.P.getD k []).length = 1024
    rcases key k hk with ⟨_, e1, e2, e3⟩ | ⟨j, _, e1, e2, e3⟩
    · rw [e2]; exact h1.full k e3
    · rw [e2]; exact h2.full j e3
  · rw [List.nodup_append]
    refine ⟨h1.nodup, h2.nodup, ?_⟩
    intro a ha b hb' e
    subst e
    obtain ⟨i, hi, rfl⟩ := List.mem_iff_getElem.1 ha
    obtain ⟨j, hj, hij⟩ := List.mem_iff_getElem.1 hb'
    have a1 := (h1.pages i (by rw [← h1.len]; exact hi)).2.lt
    have a2 := (h2.pages j (by rw [← h2.len]; exact hj)).1
    rw [List.getD_eq_getElem?_getD, List.getElem?_eq_getElem hi] at a1
    rw [List.getD_eq_getElem?_getD, List.getElem?_eq_getElem hj] at a2
    simp only [Option.getD_some] at a1 a2
    omega
  · intro k hk
    have s1 := h1.below.size
    simp only [Fp.all, List.mem_cons, List.mem_append] at hk
    rcases hk with rfl | rfl | rfl | hk | hk
    · exact hgm
    · exact h1.hg
    · have := h2.hg; omega
    · obtain ⟨i, hi, rfl⟩ := List.mem_iff_getElem.1 hk
      have a1 := (h1.pages i (by rw [← h1.len]; exact hi)).1
      rw [List.getD_eq_getElem?_getD, List.getElem?_eq_getElem hi] at a1
      exact a1
    · obtain ⟨i, hi, rfl⟩ := List.mem_iff_getElem.1 hk
      have a1 := (h2.pages i (by rw [← h2.len]; exact hi)).1
      rw [List.getD_eq_getElem?_getD, List.getElem?_eq_getElem hi] at a1
      simp only [Option.getD_some] at a1
      omega
theorem CP.from {w w0 w' : World} {g : Nat} {bs : List Nat} {Q : List (List Int)} (h : CP w0 w' g bs Q) (hb : Below w.heap.size w w0) : CP w w' g bs Q :=
  ⟨below_on hb h.below, Nat.le_trans hb.size h.hg, h.cel, h.len, fun k hk => ⟨Nat.le_trans hb.size (h.pages k hk).1, (h.pages k hk).2⟩, h.full, h.nodup⟩
set_option maxRecDepth 40000 in
set_option maxHeartbeats 4000000 in
theorem clone_any (w : World) (f : Fp) (m : MS) (h : Mem w f m) :
    Calls Try.prog 12 #[ptr f.gm] w fun x w' => ∃ f', x = .returned (ptr f'.gm) ∧ NewMem w w' f' m := by
  have F1 : Hid (∀ x, Below w.heap.size w x → Calls Try.prog 48 #[.slice (some ⟨f.gs, 0, none⟩) m.ns m.ns] x fun y x' => ∃ g' bs', y = .returned (.slice (some ⟨g', 0, none⟩) m.ns m.ns) ∧ CP x x' g' bs' (m.P.take m.ns)) := hid (fun x hx => by
    have e : (m.P.take m.ns).length = m.ns := by rw [List.length_take]; have := h.ns0; omega
    have := clonePages_any x f.gs _ _ (h.on hx).rs (by rw [e]; have := h.most; have := h.ns0; omega) m.ns
    rw [e] at this
    exact this)
  have F2 : Hid (∀ x, Below w.heap.size w x → Calls Try.prog 48 #[.slice (some ⟨f.gi, 0, none⟩) (m.P.length - m.ns) (m.P.length - m.ns)] x fun y x' => ∃ g' bs', y = .returned (.slice (some ⟨g', 0, none⟩) (m.P.length - m.ns) (m.P.length - m.ns)) ∧ CP x x' g' bs' (m.P.drop m.ns)) := hid (fun x hx => by
    have e : (m.P.drop m.ns).length = m.P.length - m.ns := List.length_drop
    have := clonePages_any x f.gi _ _ (h.on hx).ri (by rw [e]; have := h.most; omega) (m.P.length - m.ns)
    rw [e] at this
    exact this)
  have HX : Hid (∀ x, Below w.heap.size w x → x.cell? ⟨f.gm, 0, none⟩ = some (.slice (some ⟨f.gs, 0, none⟩) m.ns m.ns) ∧ x.cell? ⟨f.gm, 1, none⟩ = some (.slice (some ⟨f.gi, 0, none⟩) (m.P.length - m.ns) (m.P.length - m.ns)) ∧ x.cell? ⟨f.gm, 2, none⟩ = some (.int .i64 m.c)) := hid (fun x hx => ⟨(h.on hx).cel.cell 0, (h.on hx).cel.cell 1, (h.on hx).cel.cell 2⟩)
  have HM := hid h.most
  have HS := hid h.ns0
  clear h
  generalize hn2 : m.P.length - m.ns = n2 at *
  have HN2 := hid hn2
  clear hn2
  simp only [ptr]
  go_enter Try.func12, Try.ntmps12
  go_wp2_with fail
  refine wp_region_held_drew (S := fun x => Below w.heap.size w x) (by kernel_rfl) ((Below.refl _ _).drew) (fun hHeld => ?_)
  refine wpAnyH_take (i := 0) (oi := { dst := some 3, op := Op.move (Operand.tmp 0), type := 24, pos := "mem.go:39", after := #[], guard := none }) (v := .pointer (some ⟨f.gm, 0, none⟩)) rfl (by kernel_rfl) (by kernel_rfl) (by kernel_rfl) (fun _ _ _ h => h) (Or.inl ⟨by rfl, by intro w hSw; go_simp⟩) (by assumption) ?_
  simp only [Act.put, List.setIfInBounds_toArray, List.set_cons_zero, List.set_cons_succ]
  refine wpAnyH_take (i := 1) (oi := { dst := some 4, op := Op.nilCheck (Operand.tmp 3), type := 0, pos := "mem.go:39", after := #[{ on := 0, ground := Ground.data }], guard := none }) (v := .pointer (some ⟨f.gm, 0, none⟩)) rfl (by kernel_rfl) (by kernel_rfl) (by kernel_rfl) (fun _ _ _ h => h) (Or.inl ⟨by rfl, by intro w hSw; go_simp⟩) (by assumption) ?_
  simp only [Act.put, List.setIfInBounds_toArray, List.set_cons_zero, List.set_cons_succ]
  refine wpAnyH_take (i := 2) (oi := { dst := some 5, op := Op.fieldAddr 98 (Operand.tmp 4) 0, type := 0, pos := "mem.go:39", after := #[{ on := 1, ground := Ground.data }], guard := none }) (v := .pointer (some ⟨f.gm, 0, none⟩)) rfl (by kernel_rfl) (by kernel_rfl) (by kernel_rfl) (fun _ _ _ h => h) (Or.inl ⟨by rfl, by intro w hSw; go_simp⟩) (by assumption) ?_
  simp only [Act.put, List.setIfInBounds_toArray, List.set_cons_zero, List.set_cons_succ]
  refine wpAnyH_take (i := 3) (oi := { dst := some 6, op := Op.load 95 (Operand.tmp 5), type := 95, pos := "mem.go:39", after := #[{ on := 2, ground := Ground.data }], guard := none }) (v := .slice (some ⟨f.gs, 0, none⟩) m.ns m.ns) rfl (by kernel_rfl) (by kernel_rfl) (by kernel_rfl) (fun _ _ _ h => h) (Or.inl ⟨by rfl, by intro w hSw; have hcc := (HX.out w hSw).1; go_simp⟩) (by assumption) ?_
  simp only [Act.put, List.setIfInBounds_toArray, List.set_cons_zero, List.set_cons_succ]
  refine wpAnyH_take (i := 5) (oi := { dst := some 8, op := Op.move (Operand.tmp 0), type := 24, pos := "mem.go:39", after := #[], guard := none }) (v := .pointer (some ⟨f.gm, 0, none⟩)) rfl (by kernel_rfl) (by kernel_rfl) (by kernel_rfl) (fun _ _ _ h => h) (Or.inl ⟨by rfl, by intro w hSw; go_simp⟩) (by assumption) ?_
  simp only [Act.put, List.setIfInBounds_toArray, List.set_cons_zero, List.set_cons_succ]
  refine wpAnyH_take (i := 6) (oi := { dst := some 9, op := Op.nilCheck (Operand.tmp 8), type := 0, pos := "mem.go:39", after := #[{ on := 5, ground := Ground.data }], guard := none }) (v := .pointer (some ⟨f.gm, 0, none⟩)) rfl (by kernel_rfl) (by kernel_rfl) (by kernel_rfl) (fun _ _ _ h => h) (Or.inl ⟨by rfl, by intro w hSw; go_simp⟩) (by assumption) ?_
  simp only [Act.put, List.setIfInBounds_toArray, List.set_cons_zero, List.set_cons_succ]
  refine wpAnyH_take (i := 7) (oi := { dst := some 10, op := Op.fieldAddr 98 (Operand.tmp 9) 1, type := 0, pos := "mem.go:39", after := #[{ on := 6, ground := Ground.data }], guard := none }) (v := .pointer (some ⟨f.gm, 1, none⟩)) rfl (by kernel_rfl) (by kernel_rfl) (by kernel_rfl) (fun _ _ _ h => h) (Or.inl ⟨by rfl, by intro w hSw; go_simp⟩) (by assumption) ?_
  simp only [Act.put, List.setIfInBounds_toArray, List.set_cons_zero, List.set_cons_succ]
  refine wpAnyH_take (i := 8) (oi := { dst := some 11, op := Op.load 95 (Operand.tmp 10), type := 95, pos := "mem.go:39", after := #[{ on := 7, ground := Ground.data }], guard := none }) (v := .slice (some ⟨f.gi, 0, none⟩) n2 n2) rfl (by kernel_rfl) (by kernel_rfl) (by kernel_rfl) (fun _ _ _ h => h) (Or.inl ⟨by rfl, by intro w hSw; have hcc := (HX.out w hSw).2.1; go_simp⟩) (by assumption) ?_
  simp only [Act.put, List.setIfInBounds_toArray, List.set_cons_zero, List.set_cons_succ]
  refine wpAnyH_take (i := 10) (oi := { dst := some 13, op := Op.move (Operand.tmp 0), type := 24, pos := "mem.go:39", after := #[], guard := none }) (v := .pointer (some ⟨f.gm, 0, none⟩)) rfl (by kernel_rfl) (by kernel_rfl) (by kernel_rfl) (fun _ _ _ h => h) (Or.inl ⟨by rfl, by intro w hSw; go_simp⟩) (by assumption) ?_
  simp only [Act.put, List.setIfInBounds_toArray, List.set_cons_zero, List.set_cons_succ]
  refine wpAnyH_take (i := 11) (oi := { dst := some 14, op := Op.nilCheck (Operand.tmp 13), type := 0, pos := "mem.go:39", after := #[{ on := 10, ground := Ground.data }], guard := none }) (v := .pointer (some ⟨f.gm, 0, none⟩)) rfl (by kernel_rfl) (by kernel_rfl) (by kernel_rfl) (fun _ _ _ h => h) (Or.inl ⟨by rfl, by intro w hSw; go_simp⟩) (by assumption) ?_
  simp only [Act.put, List.setIfInBounds_toArray, List.set_cons_zero, List.set_cons_succ]
  refine wpAnyH_take (i := 12) (oi := { dst := some 15, op := Op.fieldAddr 98 (Operand.tmp 14) 2, type := 0, pos := "mem.go:39", after := #[{ on := 11, ground := Ground.data }], guard := none }) (v := .pointer (some ⟨f.gm, 2, none⟩)) rfl (by kernel_rfl) (by kernel_rfl) (by kernel_rfl) (fun _ _ _ h => h) (Or.inl ⟨by rfl, by intro w hSw; go_simp⟩) (by assumption) ?_
  simp only [Act.put, List.setIfInBounds_toArray, List.set_cons_zero, List.set_cons_succ]
  refine wpAnyH_take (i := 13) (oi := { dst := some 16, op := Op.load 2 (Operand.tmp 15), type := 2, pos := "mem.go:39", after := #[{ on := 12, ground := Ground.data }], guard := none }) (v := .int .i64 m.c) rfl (by kernel_rfl) (by kernel_rfl) (by kernel_rfl) (fun _ _ _ h => h) (Or.inl ⟨by rfl, by intro w hSw; have hcc := (HX.out w hSw).2.2; go_simp⟩) (by assumption) ?_
  simp only [Act.put, List.setIfInBounds_toArray, List.set_cons_zero, List.set_cons_succ]
  refine wpAnyH_ready (rs := [4]) (by kernel_rfl) (by simp) (AllReadyH.cons (o := { dst := some 7, op := Op.call { callee := Callee.value (Operand.func 48), args := #[Operand.tmp 6], argTypes := #[95] }, type := 95, pos := "mem.go:39", after := #[{ on := 3, ground := Ground.data }], guard := none }) rfl (fun KQ hK => ?_) AllReadyH.nil)
  go_simp
  refine (F1.out _ ((Below.refl _ _).drew)).mono ?_
  rintro x wa ⟨ga, bsa, rfl, hca⟩
  have hS1 := below_on ((Below.refl _ _).drew) hca.below
  go_wp2_with fail
  refine hK.out _ _ hS1 (fun hHeld => ?_)
  clear hK KQ
  try simp only [Act.put, List.setIfInBounds_toArray, List.set_cons_zero, List.set_cons_succ]
  refine wpAnyH_ready (rs := [9]) (by kernel_rfl) (by simp) (AllReadyH.cons (o := { dst := some 12, op := Op.call { callee := Callee.value (Operand.func 48), args := #[Operand.tmp 11], argTypes := #[95] }, type := 95, pos := "mem.go:39", after := #[{ on := 8, ground := Ground.data }, { on := 4, ground := Ground.chain }], guard := none }) rfl (fun KQ hK => ?_) AllReadyH.nil)
  go_simp
  refine (F2.out _ hS1).mono ?_
  rintro x wb ⟨gb, bsb, rfl, hcb⟩
  have hS2 := below_on hS1 hcb.below
  go_wp2_with fail
  refine hK.out _ _ hS2 (fun hHeld => ?_)
  clear hK KQ
  try simp only [Act.put, List.setIfInBounds_toArray, List.set_cons_zero, List.set_cons_succ]
  refine wpAnyH_take (i := 14) (oi := { dst := some 17, op := Op.build 98 #[(0, Operand.tmp 7), (1, Operand.tmp 12), (2, Operand.tmp 16)], type := 98, pos := "mem.go:39", after := #[{ on := 4, ground := Ground.data }, { on := 9, ground := Ground.data }, { on := 13, ground := Ground.data }], guard := none }) (v := .agg #[.slice (some ⟨ga, 0, none⟩) m.ns m.ns, .slice (some ⟨gb, 0, none⟩) n2 n2, .int .i64 m.c]) rfl (by kernel_rfl) (by kernel_rfl) (by kernel_rfl) (fun _ _ _ h => h) (Or.inl ⟨by rfl, by intro w hSw; go_simp⟩) (by assumption) ?_
  simp only [Act.put, List.setIfInBounds_toArray, List.set_cons_zero, List.set_cons_succ]
  refine wpAnyH_ready (rs := [15]) (by kernel_rfl) (by simp) (AllReadyH.cons (o := { dst := some 18, op := Op.box 98 (Operand.tmp 17), type := 24, pos := "mem.go:39", after := #[{ on := 14, ground := Ground.data }], guard := none }) rfl (fun KQ hK => ?_) AllReadyH.nil)
  go_simp
  refine hK.out _ _ (below_on hS2 (below_one _ _)) (fun hHeld => ?_)
  clear hK KQ
  try simp only [Act.put, List.setIfInBounds_toArray, List.set_cons_zero, List.set_cons_succ]
  refine wpAnyH_ready (rs := [16]) (by kernel_rfl) (by simp) (AllReadyH.cons (o := { dst := some 2, op := Op.assign (Operand.tmp 18), type := 24, pos := "mem.go:39", after := #[{ on := 15, ground := Ground.data }, { on := 9, ground := Ground.chain }, { on := 0, ground := Ground.phase }, { on := 1, ground := Ground.phase }, { on := 2, ground := Ground.phase }, { on := 3, ground := Ground.phase }, { on := 4, ground := Ground.phase }, { on := 5, ground := Ground.phase }, { on := 6, ground := Ground.phase }, { on := 7, ground := Ground.phase }, { on := 8, ground := Ground.phase }, { on := 9, ground := Ground.phase }, { on := 10, ground := Ground.phase }, { on := 11, ground := Ground.phase }, { on := 12, ground := Ground.phase }, { on := 13, ground := Ground.phase }, { on := 14, ground := Ground.phase }, { on := 15, ground := Ground.phase }], guard := none }) rfl (fun KQ hK => ?_) AllReadyH.nil)
  go_simp
  refine hK.out _ _ (below_on hS2 (below_one _ _)) (fun hHeld => ?_)
  clear hK KQ
  try simp only [Act.put, List.setIfInBounds_toArray, List.set_cons_zero, List.set_cons_succ]
  refine wpAnyH_done (by kernel_rfl) ?_ _
  clear hHeld
  have HCA := hid hca
  have HCB := hid hcb
  have HS1 := hid hS1
  have HS2 := hid hS2
  clear hca hcb hS1 hS2 F1 F2 HX
  go_wp2_with fail
  go_ret
  have h := mem_of2 (w := w) (m := m) (w3 := wb.alloc (.cells #[.slice (some ⟨ga, 0, none⟩) m.ns m.ns, .slice (some ⟨gb, 0, none⟩) n2 n2, .int .i64 m.c] 98)) (gm := wb.heap.size) (CP.from HCA.out (Below.refl _ _).drew) HCB.out HM.out HS.out (below_one _ _) HS2.out.size (by rw [HN2.out]; exact Cel.new _ _ [.slice (some ⟨ga, 0, none⟩) m.ns m.ns, .slice (some ⟨gb, 0, none⟩) n2 n2, .int .i64 m.c])
  exact ⟨⟨wb.heap.size, ga, gb, bsa ++ bsb⟩, rfl, h.1, below_on HS2.out (below_one _ _), h.2⟩
def MS.same (m o : MS) : Bool := decide (m.P.take m.ns = o.P.take o.ns) && decide (m.P.drop m.ns = o.P.drop o.ns)
theorem exec_neq {a : Act} {w : World} {o : Oper} (x y : Operand) (ho : o.op = .binOp .neq 141 x y 141) (X Y : List Int) (hx : a.eval x = pgV X) (hy : a.eval y = pgV Y) (hX : X.length = 1024) (hY : Y.length = 1024) (b : Bool) (hb : (!decide (X = Y)) = b) :
    (execOp a.eval o).run Try.prog w = .ok (.value (.bool b)) w := by
  unfold execOp
  simp only [ho, hx, hy, Sem.run_bind, Sem.run_pure, run_guard_neq, run_neq_pg w X Y hX hY, Result.andThen_ok, hb]
theorem take_step (A B : List (List Int)) (j : Nat) (ha : j < A.length) (hb : j < B.length) (h : A.take j = B.take j) (he : A.getD j [] = B.getD j []) : A.take (j + 1) = B.take (j + 1) := by
  rw [List.take_succ_eq_append_getElem ha, List.take_succ_eq_append_getElem hb, h]
  rw [List.getD_eq_getElem?_getD, List.getElem?_eq_getElem ha, List.getD_eq_getElem?_getD, List.getElem?_eq_getElem hb] at he
  simp only [Option.getD_some] at he
  rw [he]
set_option maxRecDepth 40000 in
set_option maxHeartbeats 4000000 in
theorem samePages_any (w : World) (g g' : Nat) (bs bs' : List Nat) (A B : List (List Int)) (h : RP w g bs A) (h' : RP w g' bs' B) (ha : A.length ≤ 128) (hb : B.length ≤ 128) (c c' : Nat) :
    Calls Try.prog 49 #[.slice (some ⟨g, 0, none⟩) A.length c, .slice (some ⟨g', 0, none⟩) B.length c'] w fun x w' => x = .returned (.bool (decide (A = B))) ∧ Below w.heap.size w w' := by
  have n1 : (A.length : Int) ≤ 128 := by omega
  have n2 : (B.length : Int) ≤ 128 := by omega
  have H := hid h
  have H' := hid h'
  clear h h'
  go_enter Try.func49, Try.ntmps49
  by_cases hl : A.length = B.length
  · have hl2 : (A.length : Int) = (B.length : Int) := by omega
    rw [← hl]
    go_wp2_with fail
    go_loopw [5, 6, 14] (fun _ _ i wr => ∃ j : Nat, j ≤ A.length ∧ i = .int .i64 (j : Int) ∧ Hid (A.take j = B.take j) ∧ Hid (Below w.heap.size w wr)) (fun _ _ i _ => A.length - (intOf i).toNat)
    case atStart => exact ⟨0, Nat.zero_le _, rfl, hid rfl, hid (Below.refl _ _)⟩
    case round =>
      obtain ⟨j, hj, rfl, HT, HB⟩ := hrel
      by_cases hlt : j < A.length
      · have c1 : (j : Int) < (A.length : Int) := by omega
        have j1 : (j : Int) ≤ 128 := by omega
        have y0 := (H.out.on HB.out).at j hlt
        have HY : Hid (∀ x, Below wr.heap.size wr x → x.cell? ⟨g', j, none⟩ = some (.pointer (some ⟨bs'.getD j 0, 0, none⟩))) := hid (fun x hx => (H'.out.on (below_on HB.out hx)).at j (by omega))
        have HP : Hid (∀ x, Below wr.heap.size wr x → Cel x (bs.getD j 0) 141 (u32s (A.getD j []))) := hid (fun x hx => (H.out.on (below_on HB.out hx)).pages j hlt)
        have HP' : Hid (∀ x, Below wr.heap.size wr x → Cel x (bs'.getD j 0) 141 (u32s (B.getD j []))) := hid (fun x hx => (H'.out.on (below_on HB.out hx)).pages j (by omega))
        have HF := hid (H.out.full j hlt)
        have HF' := hid (H'.out.full j (by omega))
        have HTS : Hid (A.getD j [] = B.getD j [] → A.take (j + 1) = B.take (j + 1)) := hid (take_step A B j hlt (by omega) HT.out)
        have HNE : Hid (A.getD j [] ≠ B.getD j [] → decide (A = B) = false) := hid (fun hne => by rw [decide_eq_false_iff_not]; intro e; exact hne (by rw [e]))
        generalize A.getD j [] = L1 at *
        generalize B.getD j [] = L2 at *
        generalize bs.getD j 0 = p at *
        generalize bs'.getD j 0 = p' at *
        by_cases he : L1 = L2
        · have HE := hid (HTS.out he)
          have HD : Hid ((!decide (L1 = L2)) = false) := hid (by simp [he])
          clear HTS HNE he
          go_wp2_with fail
          refine wp_region_held_drew (S := fun x => Below wr.heap.size wr x) (by kernel_rfl) ((Below.refl _ _).drew) (fun hHeld => ?_)
          refine wpAnyH_take (i := 0) (oi := { dst := some 19, op := Op.move (Operand.tmp 6), type := 139, pos := "page.go:32", after := #[], guard := none }) (v := .pointer (some ⟨p, 0, none⟩)) rfl (by kernel_rfl) (by kernel_rfl) (by kernel_rfl) (fun _ _ _ h => h) (Or.inl ⟨by rfl, by intro w hSw; go_simp⟩) (by assumption) ?_
          simp only [Act.put, List.setIfInBounds_toArray, List.set_cons_zero, List.set_cons_succ]
          refine wpAnyH_take (i := 1) (oi := { dst := some 20, op := Op.nilCheck (Operand.tmp 19), type := 0, pos := "page.go:32", after := #[{ on := 0, ground := Ground.data }], guard := none }) (v := .pointer (some ⟨p, 0, none⟩)) rfl (by kernel_rfl) (by kernel_rfl) (by kernel_rfl) (fun _ _ _ h => h) (Or.inl ⟨by rfl, by intro w hSw; go_simp⟩) (by assumption) ?_
          simp only [Act.put, List.setIfInBounds_toArray, List.set_cons_zero, List.set_cons_succ]
          refine wpAnyH_take (i := 2) (oi := { dst := some 21, op := Op.load 141 (Operand.tmp 20), type := 141, pos := "page.go:32", after := #[{ on := 1, ground := Ground.data }], guard := none }) (v := pgV L1) rfl (by kernel_rfl) (by kernel_rfl) (by kernel_rfl) (fun _ _ _ h => h) (yieldsIf_load_mid (by rfl) _ _ rfl _ _ rfl _ _ (fun w hSw => (HP.out w hSw).range) under85 rfl (by rw [size85, u32s_len, HF.out])) (by assumption) ?_
          simp only [Act.put, List.setIfInBounds_toArray, List.set_cons_zero, List.set_cons_succ]
          refine wpAnyH_take (i := 3) (oi := { dst := some 22, op := Op.move (Operand.tmp 1), type := 95, pos := "page.go:32", after := #[], guard := none }) (v := (.slice (some ⟨g', 0, none⟩) A.length c')) rfl (by kernel_rfl) (by kernel_rfl) (by kernel_rfl) (fun _ _ _ h => h) (Or.inl ⟨by rfl, by intro w hSw; go_simp⟩) (by assumption) ?_
          simp only [Act.put, List.setIfInBounds_toArray, List.set_cons_zero, List.set_cons_succ]
          refine wpAnyH_take (i := 4) (oi := { dst := some 23, op := Op.move (Operand.tmp 5), type := 3, pos := "page.go:32", after := #[], guard := none }) (v := .int .i64 (j : Int)) rfl (by kernel_rfl) (by kernel_rfl) (by kernel_rfl) (fun _ _ _ h => h) (Or.inl ⟨by rfl, by intro w hSw; go_simp⟩) (by assumption) ?_
          simp only [Act.put, List.setIfInBounds_toArray, List.set_cons_zero, List.set_cons_succ]
          refine wpAnyH_take (i := 5) (oi := { dst := some 24, op := Op.indexAddr 95 (Operand.tmp 22) (Operand.tmp 23), type := 0, pos := "page.go:32", after := #[{ on := 3, ground := Ground.data }, { on := 4, ground := Ground.data }], guard := none }) (v := .pointer (some ⟨g', j, none⟩)) rfl (by kernel_rfl) (by kernel_rfl) (by kernel_rfl) (fun _ _ _ h => h) (Or.inl ⟨by rfl, by intro w hSw; go_simp⟩) (by assumption) ?_
          simp only [Act.put, List.setIfInBounds_toArray, List.set_cons_zero, List.set_cons_succ]
          refine wpAnyH_take (i := 6) (oi := { dst := some 25, op := Op.load 139 (Operand.tmp 24), type := 139, pos := "page.go:32", after := #[{ on := 5, ground := Ground.data }], guard := none }) (v := .pointer (some ⟨p', 0, none⟩)) rfl (by kernel_rfl) (by kernel_rfl) (by kernel_rfl) (fun _ _ _ h => h) (Or.inl ⟨by rfl, by intro w hSw; have hcc := HY.out w hSw; go_simp⟩) (by assumption) ?_
          simp only [Act.put, List.setIfInBounds_toArray, List.set_cons_zero, List.set_cons_succ]
          refine wpAnyH_take (i := 7) (oi := { dst := some 26, op := Op.nilCheck (Operand.tmp 25), type := 0, pos := "page.go:32", after := #[{ on := 6, ground := Ground.data }], guard := none }) (v := .pointer (some ⟨p', 0, none⟩)) rfl (by kernel_rfl) (by kernel_rfl) (by kernel_rfl) (fun _ _ _ h => h) (Or.inl ⟨by rfl, by intro w hSw; go_simp⟩) (by assumption) ?_
          simp only [Act.put, List.setIfInBounds_toArray, List.set_cons_zero, List.set_cons_succ]
          refine wpAnyH_take (i := 8) (oi := { dst := some 27, op := Op.load 141 (Operand.tmp 26), type := 141, pos := "page.go:32", after := #[{ on := 7, ground := Ground.data }], guard := none }) (v := pgV L2) rfl (by kernel_rfl) (by kernel_rfl) (by kernel_rfl) (fun _ _ _ h => h) (yieldsIf_load_mid (by rfl) _ _ rfl _ _ rfl _ _ (fun w hSw => (HP'.out w hSw).range) under85 rfl (by rw [size85, u32s_len, HF'.out])) (by assumption) ?_
          simp only [Act.put, List.setIfInBounds_toArray, List.set_cons_zero, List.set_cons_succ]
          refine wpAnyH_take (i := 9) (oi := { dst := some 28, op := Op.binOp BinOp.neq 141 (Operand.tmp 21) (Operand.tmp 27) 141, type := 4, pos := "page.go:32", after := #[{ on := 2, ground := Ground.data }, { on := 8, ground := Ground.data }], guard := none }) (v := .bool false) rfl (by kernel_rfl) (by kernel_rfl) (by kernel_rfl) (fun _ _ _ h => h) (Or.inl ⟨by rfl, fun w hSw => exec_neq _ _ rfl L1 L2 rfl rfl HF.out HF'.out _ HD.out⟩) (by assumption) ?_
          simp only [Act.put, List.setIfInBounds_toArray, List.set_cons_zero, List.set_cons_succ]
          refine wpAnyH_done (by kernel_rfl) ?_ _
          clear hHeld
          have HB2 : Hid (Below w.heap.size w wr.drew) := hid (below_on HB.out (Below.refl _ _).drew)
          generalize wr.drew = w3 at *
          clear HP HP' HY
          go_wp2_with fail
          go_roundw
          case measure => simp [intOf] <;> omega
          case rel => exact ⟨j + 1, by omega, by go_num, HE, HB2⟩
        · have HE := hid (HNE.out he)
          have HD : Hid ((!decide (L1 = L2)) = true) := hid (by simp [he])
          clear HTS HNE he
          go_wp2_with fail
          refine wp_region_held_drew (S := fun x => Below wr.heap.size wr x) (by kernel_rfl) ((Below.refl _ _).drew) (fun hHeld => ?_)
          refine wpAnyH_take (i := 0) (oi := { dst := some 19, op := Op.move (Operand.tmp 6), type := 139, pos := "page.go:32", after := #[], guard := none }) (v := .pointer (some ⟨p, 0, none⟩)) rfl (by kernel_rfl) (by kernel_rfl) (by kernel_rfl) (fun _ _ _ h => h) (Or.inl ⟨by rfl, by intro w hSw; go_simp⟩) (by assumption) ?_
          simp only [Act.put, List.setIfInBounds_toArray, List.set_cons_zero, List.set_cons_succ]
          refine wpAnyH_take (i := 1) (oi := { dst := some 20, op := Op.nilCheck (Operand.tmp 19), type := 0, pos := "page.go:32", after := #[{ on := 0, ground := Ground.data }], guard := none }) (v := .pointer (some ⟨p, 0, none⟩)) rfl (by kernel_rfl) (by kernel_rfl) (by kernel_rfl) (fun _ _ _ h => h) (Or.inl ⟨by rfl, by intro w hSw; go_simp⟩) (by assumption) ?_
          simp only [Act.put, List.setIfInBounds_toArray, List.set_cons_zero, List.set_cons_succ]
          refine wpAnyH_take (i := 2) (oi := { dst := some 21, op := Op.load 141 (Operand.tmp 20), type := 141, pos := "page.go:32", after := #[{ on := 1, ground := Ground.data }], guard := none }) (v := pgV L1) rfl (by kernel_rfl) (by kernel_rfl) (by kernel_rfl) (fun _ _ _ h => h) (yieldsIf_load_mid (by rfl) _ _ rfl _ _ rfl _ _ (fun w hSw => (HP.out w hSw).range) under85 rfl (by rw [size85, u32s_len, HF.out])) (by assumption) ?_
          simp only [Act.put, List.setIfInBounds_toArray, List.set_cons_zero, List.set_cons_succ]
          refine wpAnyH_take (i := 3) (oi := { dst := some 22, op := Op.move (Operand.tmp 1), type := 95, pos := "page.go:32", after := #[], guard := none }) (v := (.slice (some ⟨g', 0, none⟩) A.length c')) rfl (by kernel_rfl) (by kernel_rfl) (by kernel_rfl) (fun _ _ _ h => h) (Or.inl ⟨by rfl, by intro w hSw; go_simp⟩) (by assumption) ?_
          simp only [Act.put, List.setIfInBounds_toArray, List.set_cons_zero, List.set_cons_succ]
          refine wpAnyH_take (i := 4) (oi := { dst := some 23, op := Op.move (Operand.tmp 5), type := 3, pos := "page.go:32", after := #[], guard := none }) (v := .int .i64 (j : Int)) rfl (by kernel_rfl) (by kernel_rfl) (by kernel_rfl) (fun _ _ _ h => h) (Or.inl ⟨by rfl, by intro w hSw; go_simp⟩) (by assumption) ?_
          simp only [Act.put, List.setIfInBounds_toArray, List.set_cons_zero, List.set_cons_succ]
          refine wpAnyH_take (i := 5) (oi := { dst := some 24, op := Op.indexAddr 95 (Operand.tmp 22) (Operand.tmp 23), type := 0, pos := "page.go:32", after := #[{ on := 3, ground := Ground.data }, { on := 4, ground := Ground.data }], guard := none }) (v := .pointer (some ⟨g', j, none⟩)) rfl (by kernel_rfl) (by kernel_rfl) (by kernel_rfl) (fun _ _ _ h => h) (Or.inl ⟨by rfl, by intro w hSw; go_simp⟩) (by assumption) ?_
          simp only [Act.put, List.setIfInBounds_toArray, List.set_cons_zero, List.set_cons_succ]
          refine wpAnyH_take (i := 6) (oi := { dst := some 25, op := Op.load 139 (Operand.tmp 24), type := 139, pos := "page.go:32", after := #[{ on := 5, ground := Ground.data }], guard := none }) (v := .pointer (some ⟨p', 0, none⟩)) rfl (by kernel_rfl) (by kernel_rfl) (by kernel_rfl) (fun _ _ _ h => h) (Or.inl ⟨by rfl, by intro w hSw; have hcc := HY.out w hSw; go_simp⟩) (by assumption) ?_
          simp only [Act.put, List.setIfInBounds_toArray, List.set_cons_zero, List.set_cons_succ]
          refine wpAnyH_take (i := 7) (oi := { dst := some 26, op := Op.nilCheck (Operand.tmp 25), type := 0, pos := "page.go:32", after := #[{ on := 6, ground := Ground.data }], guard := none }) (v := .pointer (some ⟨p', 0, none⟩)) rfl (by kernel_rfl) (by kernel_rfl) (by kernel_rfl) (fun _ _ _ h => h) (Or.inl ⟨by rfl, by intro w hSw; go_simp⟩) (by assumption) ?_
          simp only [Act.put, List.setIfInBounds_toArray, List.set_cons_zero, List.set_cons_succ]
          refine wpAnyH_take (i := 8) (oi := { dst := some 27, op := Op.load 141 (Operand.tmp 26), type := 141, pos := "page.go:32", after := #[{ on := 7, ground := Ground.data }], guard := none }) (v := pgV L2) rfl (by kernel_rfl) (by kernel_rfl) (by kernel_rfl) (fun _ _ _ h => h) (yieldsIf_load_mid (by rfl) _ _ rfl _ _ rfl _ _ (fun w hSw => (HP'.out w hSw).range) under85 rfl (by rw [size85, u32s_len, HF'.out])) (by assumption) ?_
          simp only [Act.put, List.setIfInBounds_toArray, List.set_cons_zero, List.set_cons_succ]
          refine wpAnyH_take (i := 9) (oi := { dst := some 28, op := Op.binOp BinOp.neq 141 (Operand.tmp 21) (Operand.tmp 27) 141, type := 4, pos := "page.go:32", after := #[{ on := 2, ground := Ground.data }, { on := 8, ground := Ground.data }], guard := none }) (v := .bool true) rfl (by kernel_rfl) (by kernel_rfl) (by kernel_rfl) (fun _ _ _ h => h) (Or.inl ⟨by rfl, fun w hSw => exec_neq _ _ rfl L1 L2 rfl rfl HF.out HF'.out _ HD.out⟩) (by assumption) ?_
          simp only [Act.put, List.setIfInBounds_toArray, List.set_cons_zero, List.set_cons_succ]
          refine wpAnyH_done (by kernel_rfl) ?_ _
          clear hHeld
          have HB2 : Hid (Below w.heap.size w wr.drew) := hid (below_on HB.out (Below.refl _ _).drew)
          generalize wr.drew = w3 at *
          clear HP HP' HY
          go_wp2_with fail
          go_ret
          exact ⟨ret_bool HE.out.symm, HB2.out⟩
      · obtain rfl : j = A.length := by omega
        have hh : decide (A = B) = true := by
          have := HT.out
          rw [List.take_of_length_le (by omega), List.take_of_length_le (by omega)] at this
          simp [this]
        have HH := hid hh
        clear hh
        go_wp2_with fail
        go_ret
        exact ⟨ret_bool HH.out.symm, HB.out⟩
  · have hl2 : ((A.length : Int) = (B.length : Int)) = False := by simp; omega
    have hh : decide (A = B) = false := by rw [decide_eq_false_iff_not]; intro e; exact hl (by rw [e])
    rw [hh]
    clear hh
    go_wp2_with fail
    go_ret
    exact ⟨rfl, Below.refl _ _⟩
set_option maxRecDepth 40000 in
set_option maxHeartbeats 4000000 in
theorem same_any (w : World) (f : Fp) (m : MS) (h : Mem w f m) (f' : Fp) (m' : MS) (h' : Mem w f' m') :
    Calls Try.prog 14 #[ptr f.gm, ptr f'.gm] w fun x w' => x = .returned (.bool (m.same m')) ∧ Below w.heap.size w w' := by
  have HX : Hid (∀ x, Below w.heap.size w x → x.cell? ⟨f.gm, 0, none⟩ = some (.slice (some ⟨f.gs, 0, none⟩) m.ns m.ns) ∧ x.cell? ⟨f.gm, 1, none⟩ = some (.slice (some ⟨f.gi, 0, none⟩) (m.P.length - m.ns) (m.P.length - m.ns))) := hid (fun x hx => ⟨(h.on hx).cel.cell 0, (h.on hx).cel.cell 1⟩)
  have HX' : Hid (∀ x, Below w.heap.size w x → x.cell? ⟨f'.gm, 0, none⟩ = some (.slice (some ⟨f'.gs, 0, none⟩) m'.ns m'.ns) ∧ x.cell? ⟨f'.gm, 1, none⟩ = some (.slice (some ⟨f'.gi, 0, none⟩) (m'.P.length - m'.ns) (m'.P.length - m'.ns))) := hid (fun x hx => ⟨(h'.on hx).cel.cell 0, (h'.on hx).cel.cell 1⟩)
  have F1 : Hid (∀ x, Below w.heap.size w x → Calls Try.prog 49 #[.slice (some ⟨f.gs, 0, none⟩) m.ns m.ns, .slice (some ⟨f'.gs, 0, none⟩) m'.ns m'.ns] x fun y x' => y = .returned (.bool (decide (m.P.take m.ns = m'.P.take m'.ns))) ∧ Below x.heap.size x x') := hid (fun x hx => by
    have e : (m.P.take m.ns).length = m.ns := by rw [List.length_take]; have := h.ns0; omega
    have e' : (m'.P.take m'.ns).length = m'.ns := by rw [List.length_take]; have := h'.ns0; omega
    have := samePages_any x f.gs f'.gs _ _ _ _ (h.on hx).rs (h'.on hx).rs (by rw [e]; have := h.most; have := h.ns0; omega) (by rw [e']; have := h'.most; have := h'.ns0; omega) m.ns m'.ns
    rw [e, e'] at this
    exact this)
  have F2 : Hid (∀ x, Below w.heap.size w x → Calls Try.prog 49 #[.slice (some ⟨f.gi, 0, none⟩) (m.P.length - m.ns) (m.P.length - m.ns), .slice (some ⟨f'.gi, 0, none⟩) (m'.P.length - m'.ns) (m'.P.length - m'.ns)] x fun y x' => y = .returned (.bool (decide (m.P.drop m.ns = m'.P.drop m'.ns))) ∧ Below x.heap.size x x') := hid (fun x hx => by
    have e : (m.P.drop m.ns).length = m.P.length - m.ns := List.length_drop
    have e' : (m'.P.drop m'.ns).length = m'.P.length - m'.ns := List.length_drop
    have := samePages_any x f.gi f'.gi _ _ _ _ (h.on hx).ri (h'.on hx).ri (by rw [e]; have := h.most; omega) (by rw [e']; have := h'.most; omega) (m.P.length - m.ns) (m'.P.length - m'.ns)
    rw [e, e'] at this
    exact this)
  clear h h'
  unfold MS.same
  generalize m.P.length - m.ns = n2 at *
  generalize m'.P.length - m'.ns = n3 at *
  generalize decide (m.P.drop m.ns = m'.P.drop m'.ns) = b2 at *
  generalize decide (m.P.take m.ns = m'.P.take m'.ns) = b1 at *
  simp only [ptr]
  go_enter Try.func14, Try.ntmps14
  go_wp2_with fail
  cases b1
  · refine wp_region_held_drew (S := fun x => Below w.heap.size w x) (by kernel_rfl) ((Below.refl _ _).drew) (fun hHeld => ?_)
    refine wpAnyH_take (i := 0) (oi := { dst := some 5, op := Op.move (Operand.tmp 0), type := 24, pos := "mem.go:42", after := #[], guard := none }) (v := .pointer (some ⟨f.gm, 0, none⟩)) rfl (by kernel_rfl) (by kernel_rfl) (by kernel_rfl) (fun _ _ _ h => h) (Or.inl ⟨by rfl, by intro w hSw; go_simp⟩) (by assumption) ?_
    simp only [Act.put, List.setIfInBounds_toArray, List.set_cons_zero, List.set_cons_succ]
    refine wpAnyH_take (i := 1) (oi := { dst := some 6, op := Op.nilCheck (Operand.tmp 5), type := 0, pos := "mem.go:42", after := #[{ on := 0, ground := Ground.data }], guard := none }) (v := .pointer (some ⟨f.gm, 0, none⟩)) rfl (by kernel_rfl) (by kernel_rfl) (by kernel_rfl) (fun _ _ _ h => h) (Or.inl ⟨by rfl, by intro w hSw; go_simp⟩) (by assumption) ?_
    simp only [Act.put, List.setIfInBounds_toArray, List.set_cons_zero, List.set_cons_succ]
    refine wpAnyH_take (i := 2) (oi := { dst := some 7, op := Op.fieldAddr 98 (Operand.tmp 6) 0, type := 0, pos := "mem.go:42", after := #[{ on := 1, ground := Ground.data }], guard := none }) (v := .pointer (some ⟨f.gm, 0, none⟩)) rfl (by kernel_rfl) (by kernel_rfl) (by kernel_rfl) (fun _ _ _ h => h) (Or.inl ⟨by rfl, by intro w hSw; go_simp⟩) (by assumption) ?_
    simp only [Act.put, List.setIfInBounds_toArray, List.set_cons_zero, List.set_cons_succ]
    refine wpAnyH_take (i := 3) (oi := { dst := some 8, op := Op.load 95 (Operand.tmp 7), type := 95, pos := "mem.go:42", after := #[{ on := 2, ground := Ground.data }], guard := none }) (v := .slice (some ⟨f.gs, 0, none⟩) m.ns m.ns) rfl (by kernel_rfl) (by kernel_rfl) (by kernel_rfl) (fun _ _ _ h => h) (Or.inl ⟨by rfl, by intro w hSw; have hcc := (HX.out w hSw).1; go_simp⟩) (by assumption) ?_
    simp only [Act.put, List.setIfInBounds_toArray, List.set_cons_zero, List.set_cons_succ]
    refine wpAnyH_take (i := 4) (oi := { dst := some 9, op := Op.move (Operand.tmp 1), type := 24, pos := "mem.go:42", after := #[], guard := none }) (v := .pointer (some ⟨f'.gm, 0, none⟩)) rfl (by kernel_rfl) (by kernel_rfl) (by kernel_rfl) (fun _ _ _ h => h) (Or.inl ⟨by rfl, by intro w hSw; go_simp⟩) (by assumption) ?_
    simp only [Act.put, List.setIfInBounds_toArray, List.set_cons_zero, List.set_cons_succ]
    refine wpAnyH_take (i := 5) (oi := { dst := some 10, op := Op.nilCheck (Operand.tmp 9), type := 0, pos := "mem.go:42", after := #[{ on := 4, ground := Ground.data }], guard := none }) (v := .pointer (some ⟨f'.gm, 0, none⟩)) rfl (by kernel_rfl) (by kernel_rfl) (by kernel_rfl) (fun _ _ _ h => h) (Or.inl ⟨by rfl, by intro w hSw; go_simp⟩) (by assumption) ?_
    simp only [Act.put, List.setIfInBounds_toArray, List.set_cons_zero, List.set_cons_succ]
    refine wpAnyH_take (i := 6) (oi := { dst := some 11, op := Op.fieldAddr 98 (Operand.tmp 10) 0, type := 0, pos := "mem.go:42", after := #[{ on := 5, ground := Ground.data }], guard := none }) (v := .pointer (some ⟨f'.gm, 0, none⟩)) rfl (by kernel_rfl) (by kernel_rfl) (by kernel_rfl) (fun _ _ _ h => h) (Or.inl ⟨by rfl, by intro w hSw; go_simp⟩) (by assumption) ?_
    simp only [Act.put, List.setIfInBounds_toArray, List.set_cons_zero, List.set_cons_succ]
    refine wpAnyH_take (i := 7) (oi := { dst := some 12, op := Op.load 95 (Operand.tmp 11), type := 95, pos := "mem.go:42", after := #[{ on := 6, ground := Ground.data }], guard := none }) (v := (.slice (some ⟨f'.gs, 0, none⟩) m'.ns m'.ns)) rfl (by kernel_rfl) (by kernel_rfl) (by kernel_rfl) (fun _ _ _ h => h) (Or.inl ⟨by rfl, by intro w hSw; have hcc := (HX'.out w hSw).1; go_simp⟩) (by assumption) ?_
    simp only [Act.put, List.setIfInBounds_toArray, List.set_cons_zero, List.set_cons_succ]
    refine wpAnyH_ready (rs := [8]) (by kernel_rfl) (by simp) (AllReadyH.cons (o := { dst := some 13, op := Op.call { callee := Callee.value (Operand.func 49), args := #[Operand.tmp 8, Operand.tmp 12], argTypes := #[95, 95] }, type := 4, pos := "mem.go:42", after := #[{ on := 3, ground := Ground.data }, { on := 7, ground := Ground.data }], guard := none }) rfl (fun KQ hK => ?_) AllReadyH.nil)
    go_simp
    refine (F1.out _ ((Below.refl _ _).drew)).mono ?_
    rintro x wa ⟨rfl, hba⟩
    have hS1 := below_on ((Below.refl _ _).drew) hba
    go_wp2_with fail
    refine hK.out _ _ hS1 (fun hHeld => ?_)
    clear hK KQ
    try simp only [Act.put, List.setIfInBounds_toArray, List.set_cons_zero, List.set_cons_succ]
    refine wpAnyH_take (i := 9) (oi := { dst := some 14, op := Op.move (Operand.tmp 13), type := 4, pos := "mem.go:42", after := #[{ on := 8, ground := Ground.data }, { on := 8, ground := Ground.chain }], guard := none }) (v := .bool false) rfl (by kernel_rfl) (by kernel_rfl) (by kernel_rfl) (fun _ _ _ h => h) (Or.inl ⟨by rfl, by intro w hSw; go_simp⟩) (by assumption) ?_
    simp only [Act.put, List.setIfInBounds_toArray, List.set_cons_zero, List.set_cons_succ]
    refine wpAnyH_take (i := 10) (oi := { dst := some 15, op := Op.move (Operand.tmp 0), type := 24, pos := "mem.go:42", after := #[{ on := 9, ground := Ground.guard }], guard := some (9, true) }) (v := undef) rfl (by kernel_rfl) (by kernel_rfl) (by kernel_rfl) (fun _ _ _ h => h) (Or.inr ⟨by rfl, rfl⟩) (by assumption) ?_
    simp only [Act.put, List.setIfInBounds_toArray, List.set_cons_zero, List.set_cons_succ]
    refine wpAnyH_take (i := 11) (oi := { dst := some 16, op := Op.nilCheck (Operand.tmp 15), type := 0, pos := "mem.go:42", after := #[{ on := 10, ground := Ground.data }, { on := 9, ground := Ground.guard }], guard := some (9, true) }) (v := undef) rfl (by kernel_rfl) (by kernel_rfl) (by kernel_rfl) (fun _ _ _ h => h) (Or.inr ⟨by rfl, rfl⟩) (by assumption) ?_
    simp only [Act.put, List.setIfInBounds_toArray, List.set_cons_zero, List.set_cons_succ]
    refine wpAnyH_take (i := 12) (oi := { dst := some 17, op := Op.fieldAddr 98 (Operand.tmp 16) 1, type := 0, pos := "mem.go:42", after := #[{ on := 11, ground := Ground.data }, { on := 9, ground := Ground.guard }], guard := some (9, true) }) (v := undef) rfl (by kernel_rfl) (by kernel_rfl) (by kernel_rfl) (fun _ _ _ h => h) (Or.inr ⟨by rfl, rfl⟩) (by assumption) ?_
    simp only [Act.put, List.setIfInBounds_toArray, List.set_cons_zero, List.set_cons_succ]
    refine wpAnyH_take (i := 13) (oi := { dst := some 18, op := Op.load 95 (Operand.tmp 17), type := 95, pos := "mem.go:42", after := #[{ on := 12, ground := Ground.data }, { on := 9, ground := Ground.guard }], guard := some (9, true) }) (v := undef) rfl (by kernel_rfl) (by kernel_rfl) (by kernel_rfl) (fun _ _ _ h => h) (Or.inr ⟨by rfl, rfl⟩) (by assumption) ?_
    simp only [Act.put, List.setIfInBounds_toArray, List.set_cons_zero, List.set_cons_succ]
    refine wpAnyH_take (i := 14) (oi := { dst := some 19, op := Op.move (Operand.tmp 1), type := 24, pos := "mem.go:42", after := #[{ on := 9, ground := Ground.guard }], guard := some (9, true) }) (v := undef) rfl (by kernel_rfl) (by kernel_rfl) (by kernel_rfl) (fun _ _ _ h => h) (Or.inr ⟨by rfl, rfl⟩) (by assumption) ?_
    simp only [Act.put, List.setIfInBounds_toArray, List.set_cons_zero, List.set_cons_succ]
    refine wpAnyH_take (i := 15) (oi := { dst := some 20, op := Op.nilCheck (Operand.tmp 19), type := 0, pos := "mem.go:42", after := #[{ on := 14, ground := Ground.data }, { on := 9, ground := Ground.guard }], guard := some (9, true) }) (v := undef) rfl (by kernel_rfl) (by kernel_rfl) (by kernel_rfl) (fun _ _ _ h => h) (Or.inr ⟨by rfl, rfl⟩) (by assumption) ?_
    simp only [Act.put, List.setIfInBounds_toArray, List.set_cons_zero, List.set_cons_succ]
    refine wpAnyH_take (i := 16) (oi := { dst := some 21, op := Op.fieldAddr 98 (Operand.tmp 20) 1, type := 0, pos := "mem.go:42", after := #[{ on := 15, ground := Ground.data }, { on := 9, ground := Ground.guard }], guard := some (9, true) }) (v := undef) rfl (by kernel_rfl) (by kernel_rfl) (by kernel_rfl) (fun _ _ _ h => h) (Or.inr ⟨by rfl, rfl⟩) (by assumption) ?_
    simp only [Act.put, List.setIfInBounds_toArray, List.set_cons_zero, List.set_cons_succ]
    refine wpAnyH_take (i := 17) (oi := { dst := some 22, op := Op.load 95 (Operand.tmp 21), type := 95, pos := "mem.go:42", after := #[{ on := 16, ground := Ground.data }, { on := 9, ground := Ground.guard }], guard := some (9, true) }) (v := undef) rfl (by kernel_rfl) (by kernel_rfl) (by kernel_rfl) (fun _ _ _ h => h) (Or.inr ⟨by rfl, rfl⟩) (by assumption) ?_
    simp only [Act.put, List.setIfInBounds_toArray, List.set_cons_zero, List.set_cons_succ]
    refine wpAnyH_take (i := 18) (oi := { dst := some 23, op := Op.call { callee := Callee.value (Operand.func 49), args := #[Operand.tmp 18, Operand.tmp 22], argTypes := #[95, 95] }, type := 4, pos := "mem.go:42", after := #[{ on := 13, ground := Ground.data }, { on := 17, ground := Ground.data }, { on := 9, ground := Ground.chain }, { on := 9, ground := Ground.guard }], guard := some (9, true) }) (v := undef) rfl (by kernel_rfl) (by kernel_rfl) (by kernel_rfl) (fun _ _ _ h => h) (Or.inr ⟨by rfl, rfl⟩) (by assumption) ?_
    simp only [Act.put, List.setIfInBounds_toArray, List.set_cons_zero, List.set_cons_succ]
    refine wpAnyH_take (i := 19) (oi := { dst := some 24, op := Op.pick (Operand.tmp 14) (Operand.tmp 23) (Operand.const (Value.bool false)), type := 4, pos := "mem.go:42", after := #[{ on := 9, ground := Ground.data }, { on := 18, ground := Ground.data }], guard := none }) (v := .bool false) rfl (by kernel_rfl) (by kernel_rfl) (by kernel_rfl) (fun _ _ _ h => h) (Or.inl ⟨by rfl, by intro w hSw; go_simp⟩) (by assumption) ?_
    simp only [Act.put, List.setIfInBounds_toArray, List.set_cons_zero, List.set_cons_succ]
    refine wpAnyH_ready (rs := [20]) (by kernel_rfl) (by simp) (AllReadyH.cons (o := { dst := some 4, op := Op.assign (Operand.tmp 24), type := 4, pos := "mem.go:42", after := #[{ on := 19, ground := Ground.data }, { on := 18, ground := Ground.chain }, { on := 0, ground := Ground.phase }, { on := 1, ground := Ground.phase }, { on := 2, ground := Ground.phase }, { on := 3, ground := Ground.phase }, { on := 4, ground := Ground.phase }, { on := 5, ground := Ground.phase }, { on := 6, ground := Ground.phase }, { on := 7, ground := Ground.phase }, { on := 8, ground := Ground.phase }, { on := 9, ground := Ground.phase }, { on := 10, ground := Ground.phase }, { on := 11, ground := Ground.phase }, { on := 12, ground := Ground.phase }, { on := 13, ground := Ground.phase }, { on := 14, ground := Ground.phase }, { on := 15, ground := Ground.phase }, { on := 16, ground := Ground.phase }, { on := 17, ground := Ground.phase }, { on := 18, ground := Ground.phase }, { on := 19, ground := Ground.phase }], guard := none }) rfl (fun KQ hK => ?_) AllReadyH.nil)
    go_simp
    refine hK.out _ _ hS1 (fun hHeld => ?_)
    clear hK KQ
    try simp only [Act.put, List.setIfInBounds_toArray, List.set_cons_zero, List.set_cons_succ]
    refine wpAnyH_done (by kernel_rfl) ?_ _
    clear hHeld
    have HB := hid hS1
    clear F1 F2 HX HX'
    go_wp2_with fail
    go_ret
    exact ⟨rfl, HB.out⟩
  · refine wp_region_held_drew (S := fun x => Below w.heap.size w x) (by kernel_rfl) ((Below.refl _ _).drew) (fun hHeld => ?_)
    refine wpAnyH_take (i := 0) (oi := { dst := some 5, op := Op.move (Operand.tmp 0), type := 24, pos := "mem.go:42", after := #[], guard := none }) (v := .pointer (some ⟨f.gm, 0, none⟩)) rfl (by kernel_rfl) (by kernel_rfl) (by kernel_rfl) (fun _ _ _ h => h) (Or.inl ⟨by rfl, by intro w hSw; go_simp⟩) (by assumption) ?_
    simp only [Act.put, List.setIfInBounds_toArray, List.set_cons_zero, List.set_cons_succ]
    refine wpAnyH_take (i := 1) (oi := { dst := some 6, op := Op.nilCheck (Operand.tmp 5), type := 0, pos := "mem.go:42", after := #[{ on := 0, ground := Ground.data }], guard := none }) (v := .pointer (some ⟨f.gm, 0, none⟩)) rfl (by kernel_rfl) (by kernel_rfl) (by kernel_rfl) (fun _ _ _ h => h) (Or.inl ⟨by rfl, by intro w hSw; go_simp⟩) (by assumption) ?_
    simp only [Act.put, List.setIfInBounds_toArray, List.set_cons_zero, List.set_cons_succ]
    refine wpAnyH_take (i := 2) (oi := { dst := some 7, op := Op.fieldAddr 98 (Operand.tmp 6) 0, type := 0, pos := "mem.go:42", after := #[{ on := 1, ground := Ground.data }], guard := none }) (v := .pointer (some ⟨f.gm, 0, none⟩)) rfl (by kernel_rfl) (by kernel_rfl) (by kernel_rfl) (fun _ _ _ h => h) (Or.inl ⟨by rfl, by intro w hSw; go_simp⟩) (by assumption) ?_
    simp only [Act.put, List.setIfInBounds_toArray, List.set_cons_zero, List.set_cons_succ]
    refine wpAnyH_take (i := 3) (oi := { dst := some 8, op := Op.load 95 (Operand.tmp 7), type := 95, pos := "mem.go:42", after := #[{ on := 2, ground := Ground.data }], guard := none }) (v := .slice (some ⟨f.gs, 0, none⟩) m.ns m.ns) rfl (by kernel_rfl) (by kernel_rfl) (by kernel_rfl) (fun _ _ _ h => h) (Or.inl ⟨by rfl, by intro w hSw; have hcc := (HX.out w hSw).1; go_simp⟩) (by assumption) ?_
    simp only [Act.put, List.setIfInBounds_toArray, List.set_cons_zero, List.set_cons_succ]
    refine wpAnyH_take (i := 4) (oi := { dst := some 9, op := Op.move (Operand.tmp 1), type := 24, pos := "mem.go:42", after := #[], guard := none }) (v := .pointer (some ⟨f'.gm, 0, none⟩)) rfl (by kernel_rfl) (by kernel_rfl) (by kernel_rfl) (fun _ _ _ h => h) (Or.inl ⟨by rfl, by intro w hSw; go_simp⟩) (by assumption) ?_
    simp only [Act.put, List.setIfInBounds_toArray, List.set_cons_zero, List.set_cons_succ]
    refine wpAnyH_take (i := 5) (oi := { dst := some 10, op := Op.nilCheck (Operand.tmp 9), type := 0, pos := "mem.go:42", after := #[{ on := 4, ground := Ground.data }], guard := none }) (v := .pointer (some ⟨f'.gm, 0, none⟩)) rfl (by kernel_rfl) (by kernel_rfl) (by kernel_rfl) (fun _ _ _ h => h) (Or.inl ⟨by rfl, by intro w hSw; go_simp⟩) (by assumption) ?_
    simp only [Act.put, List.setIfInBounds_toArray, List.set_cons_zero, List.set_cons_succ]
    refine wpAnyH_take (i := 6) (oi := { dst := some 11, op := Op.fieldAddr 98 (Operand.tmp 10) 0, type := 0, pos := "mem.go:42", after := #[{ on := 5, ground := Ground.data }], guard := none }) (v := .pointer (some ⟨f'.gm, 0, none⟩)) rfl (by kernel_rfl) (by kernel_rfl) (by kernel_rfl) (fun _ _ _ h => h) (Or.inl ⟨by rfl, by intro w hSw; go_simp⟩) (by assumption) ?_
    simp only [Act.put, List.setIfInBounds_toArray, List.set_cons_zero, List.set_cons_succ]
    refine wpAnyH_take (i := 7) (oi := { dst := some 12, op := Op.load 95 (Operand.tmp 11), type := 95, pos := "mem.go:42", after := #[{ on := 6, ground := Ground.data }], guard := none }) (v := (.slice (some ⟨f'.gs, 0, none⟩) m'.ns m'.ns)) rfl (by kernel_rfl) (by kernel_rfl) (by kernel_rfl) (fun _ _ _ h => h) (Or.inl ⟨by rfl, by intro w hSw; have hcc := (HX'.out w hSw).1; go_simp⟩) (by assumption) ?_
    simp only [Act.put, List.setIfInBounds_toArray, List.set_cons_zero, List.set_cons_succ]
    refine wpAnyH_ready (rs := [8]) (by kernel_rfl) (by simp) (AllReadyH.cons (o := { dst := some 13, op := Op.call { callee := Callee.value (Operand.func 49), args := #[Operand.tmp 8, Operand.tmp 12], argTypes := #[95, 95] }, type := 4, pos := "mem.go:42", after := #[{ on := 3, ground := Ground.data }, { on := 7, ground := Ground.data }], guard := none }) rfl (fun KQ hK => ?_) AllReadyH.nil)
    go_simp
    refine (F1.out _ ((Below.refl _ _).drew)).mono ?_
    rintro x wa ⟨rfl, hba⟩
    have hS1 := below_on ((Below.refl _ _).drew) hba
    go_wp2_with fail
    refine hK.out _ _ hS1 (fun hHeld => ?_)
    clear hK KQ
    try simp only [Act.put, List.setIfInBounds_toArray, List.set_cons_zero, List.set_cons_succ]
    refine wpAnyH_take (i := 9) (oi := { dst := some 14, op := Op.move (Operand.tmp 13), type := 4, pos := "mem.go:42", after := #[{ on := 8, ground := Ground.data }, { on := 8, ground := Ground.chain }], guard := none }) (v := .bool true) rfl (by kernel_rfl) (by kernel_rfl) (by kernel_rfl) (fun _ _ _ h => h) (Or.inl ⟨by rfl, by intro w hSw; go_simp⟩) (by assumption) ?_
    simp only [Act.put, List.setIfInBounds_toArray, List.set_cons_zero, List.set_cons_succ]
    refine wpAnyH_take (i := 10) (oi := { dst := some 15, op := Op.move (Operand.tmp 0), type := 24, pos := "mem.go:42", after := #[{ on := 9, ground := Ground.guard }], guard := some (9, true) }) (v := .pointer (some ⟨f.gm, 0, none⟩)) rfl (by kernel_rfl) (by kernel_rfl) (by kernel_rfl) (fun _ _ _ h => h) (Or.inl ⟨by rfl, by intro w hSw; go_simp⟩) (by assumption) ?_
    simp only [Act.put, List.setIfInBounds_toArray, List.set_cons_zero, List.set_cons_succ]
    refine wpAnyH_take (i := 11) (oi := { dst := some 16, op := Op.nilCheck (Operand.tmp 15), type := 0, pos := "mem.go:42", after := #[{ on := 10, ground := Ground.data }, { on := 9, ground := Ground.guard }], guard := some (9, true) }) (v := .pointer (some ⟨f.gm, 0, none⟩)) rfl (by kernel_rfl) (by kernel_rfl) (by kernel_rfl) (fun _ _ _ h => h) (Or.inl ⟨by rfl, by intro w hSw; go_simp⟩) (by assumption) ?_
    simp only [Act.put, List.setIfInBounds_toArray, List.set_cons_zero, List.set_cons_succ]
    refine wpAnyH_take (i := 12) (oi := { dst := some 17, op := Op.fieldAddr 98 (Operand.tmp 16) 1, type := 0, pos := "mem.go:42", after := #[{ on := 11, ground := Ground.data }, { on := 9, ground := Ground.guard }], guard := some (9, true) }) (v := .pointer (some ⟨f.gm, 1, none⟩)) rfl (by kernel_rfl) (by kernel_rfl) (by kernel_rfl) (fun _ _ _ h => h) (Or.inl ⟨by rfl, by intro w hSw; go_simp⟩) (by assumption) ?_
    simp only [Act.put, List.setIfInBounds_toArray, List.set_cons_zero, List.set_cons_succ]
    refine wpAnyH_take (i := 13) (oi := { dst := some 18, op := Op.load 95 (Operand.tmp 17), type := 95, pos := "mem.go:42", after := #[{ on := 12, ground := Ground.data }, { on := 9, ground := Ground.guard }], guard := some (9, true) }) (v := .slice (some ⟨f.gi, 0, none⟩) n2 n2) rfl (by kernel_rfl) (by kernel_rfl) (by kernel_rfl) (fun _ _ _ h => h) (Or.inl ⟨by rfl, by intro w hSw; have hcc := (HX.out w hSw).2; go_simp⟩) (by assumption) ?_
    simp only [Act.put, List.setIfInBounds_toArray, List.set_cons_zero, List.set_cons_succ]
    refine wpAnyH_take (i := 14) (oi := { dst := some 19, op := Op.move (Operand.tmp 1), type := 24, pos := "mem.go:42", after := #[{ on := 9, ground := Ground.guard }], guard := some (9, true) }) (v := .pointer (some ⟨f'.gm, 0, none⟩)) rfl (by kernel_rfl) (by kernel_rfl) (by kernel_rfl) (fun _ _ _ h => h) (Or.inl ⟨by rfl, by intro w hSw; go_simp⟩) (by assumption) ?_
    simp only [Act.put, List.setIfInBounds_toArray, List.set_cons_zero, List.set_cons_succ]
    refine wpAnyH_take (i := 15) (oi := { dst := some 20, op := Op.nilCheck (Operand.tmp 19), type := 0, pos := "mem.go:42", after := #[{ on := 14, ground := Ground.data }, { on := 9, ground := Ground.guard }], guard := some (9, true) }) (v := .pointer (some ⟨f'.gm, 0, none⟩)) rfl (by kernel_rfl) (by kernel_rfl) (by kernel_rfl) (fun _ _ _ h => h) (Or.inl ⟨by rfl, by intro w hSw; go_simp⟩) (by assumption) ?_
    simp only [Act.put, List.setIfInBounds_toArray, List.set_cons_zero, List.set_cons_succ]
    refine wpAnyH_take (i := 16) (oi := { dst := some 21, op := Op.fieldAddr 98 (Operand.tmp 20) 1, type := 0, pos := "mem.go:42", after := #[{ on := 15, ground := Ground.data }, { on := 9, ground := Ground.guard }], guard := some (9, true) }) (v := .pointer (some ⟨f'.gm, 1, none⟩)) rfl (by kernel_rfl) (by kernel_rfl) (by kernel_rfl) (fun _ _ _ h => h) (Or.inl ⟨by rfl, by intro w hSw; go_simp⟩) (by assumption) ?_
    simp only [Act.put, List.setIfInBounds_toArray, List.set_cons_zero, List.set_cons_succ]
    refine wpAnyH_take (i := 17) (oi := { dst := some 22, op := Op.load 95 (Operand.tmp 21), type := 95, pos := "mem.go:42", after := #[{ on := 16, ground := Ground.data }, { on := 9, ground := Ground.guard }], guard := some (9, true) }) (v := (.slice (some ⟨f'.gi, 0, none⟩) n3 n3)) rfl (by kernel_rfl) (by kernel_rfl) (by kernel_rfl) (fun _ _ _ h => h) (Or.inl ⟨by rfl, by intro w hSw; have hcc := (HX'.out w hSw).2; go_simp⟩) (by assumption) ?_
    simp only [Act.put, List.setIfInBounds_toArray, List.set_cons_zero, List.set_cons_succ]
    refine wpAnyH_ready (rs := [18]) (by kernel_rfl) (by simp) (AllReadyH.cons (o := { dst := some 23, op := Op.call { callee := Callee.value (Operand.func 49), args := #[Operand.tmp 18, Operand.tmp 22], argTypes := #[95, 95] }, type := 4, pos := "mem.go:42", after := #[{ on := 13, ground := Ground.data }, { on := 17, ground := Ground.data }, { on := 9, ground := Ground.chain }, { on := 9, ground := Ground.guard }], guard := some (9, true) }) rfl (fun KQ hK => ?_) AllReadyH.nil)
    go_simp
    refine (F2.out _ hS1).mono ?_
    rintro x wb ⟨rfl, hbb⟩
    have hS2 := below_on hS1 hbb
    go_wp2_with fail
    refine hK.out _ _ hS2 (fun hHeld => ?_)
    clear hK KQ
    try simp only [Act.put, List.setIfInBounds_toArray, List.set_cons_zero, List.set_cons_succ]
    refine wpAnyH_take (i := 19) (oi := { dst := some 24, op := Op.pick (Operand.tmp 14) (Operand.tmp 23) (Operand.const (Value.bool false)), type := 4, pos := "mem.go:42", after := #[{ on := 9, ground := Ground.data }, { on := 18, ground := Ground.data }], guard := none }) (v := .bool b2) rfl (by kernel_rfl) (by kernel_rfl) (by kernel_rfl) (fun _ _ _ h => h) (Or.inl ⟨by rfl, by intro w hSw; go_simp⟩) (by assumption) ?_
    simp only [Act.put, List.setIfInBounds_toArray, List.set_cons_zero, List.set_cons_succ]
    refine wpAnyH_ready (rs := [20]) (by kernel_rfl) (by simp) (AllReadyH.cons (o := { dst := some 4, op := Op.assign (Operand.tmp 24), type := 4, pos := "mem.go:42", after := #[{ on := 19, ground := Ground.data }, { on := 18, ground := Ground.chain }, { on := 0, ground := Ground.phase }, { on := 1, ground := Ground.phase }, { on := 2, ground := Ground.phase }, { on := 3, ground := Ground.phase }, { on := 4, ground := Ground.phase }, { on := 5, ground := Ground.phase }, { on := 6, ground := Ground.phase }, { on := 7, ground := Ground.phase }, { on := 8, ground := Ground.phase }, { on := 9, ground := Ground.phase }, { on := 10, ground := Ground.phase }, { on := 11, ground := Ground.phase }, { on := 12, ground := Ground.phase }, { on := 13, ground := Ground.phase }, { on := 14, ground := Ground.phase }, { on := 15, ground := Ground.phase }, { on := 16, ground := Ground.phase }, { on := 17, ground := Ground.phase }, { on := 18, ground := Ground.phase }, { on := 19, ground := Ground.phase }], guard := none }) rfl (fun KQ hK => ?_) AllReadyH.nil)
    go_simp
    refine hK.out _ _ hS2 (fun hHeld => ?_)
    clear hK KQ
    try simp only [Act.put, List.setIfInBounds_toArray, List.set_cons_zero, List.set_cons_succ]
    refine wpAnyH_done (by kernel_rfl) ?_ _
    clear hHeld
    have HB := hid hS2
    clear F1 F2 HX HX'
    go_wp2_with fail
    go_ret
    exact ⟨ret_bool (by simp), HB.out⟩
end Go.Proofs.Ytajkhkaidjjioaa
