/- The law's whole 38. The law's fresh 31. -/
import Derived.Test.YtajkhkaidjjioaaT7
namespace Go.Proofs.Ytajkhkaidjjioaa
open Go.RowKit
set_option maxHeartbeats 4000000
set_option maxRecDepth 100000
structure WH (W w : World) (p : Dp) (r : Rp) (d : DS) (g : Nat) : Prop where
  own : DB w p d
  doc : RDB w r d
  bl : Below W.heap.size W w
  box : Cel w g 68 [.pointer (some ⟨p.g, 0, none⟩), .pointer (some ⟨r.g, 0, none⟩)]
theorem WH.on {W w w' : World} {p : Dp} {r : Rp} {d : DS} {g : Nat} (h : WH W w p r d g) (hb : Below w.heap.size w w') : WH W w' p r d g := ⟨h.own.on hb, h.doc.on hb, below_on h.bl hb, h.box.on hb⟩
theorem WH.hold {W w : World} {p : Dp} {r : Rp} {d : DS} {g : Nat} (h : WH W w p r d g) : Cel w g 68 [.pointer (some ⟨p.g, 0, none⟩), .pointer (some ⟨r.g, 0, none⟩)] ∧ w.cell? ⟨r.g, 0, none⟩ = some (.pointer (some ⟨r.r.g, 0, none⟩)) := ⟨h.box, h.doc.c0⟩
theorem WH.pair {W w : World} {p : Dp} {r : Rp} {d : DS} {g : Nat} (h : WH W w p r d g) : w.cell? ⟨g, 0, none⟩ = some (.pointer (some ⟨p.g, 0, none⟩)) ∧ w.cell? ⟨g, 1, none⟩ = some (.pointer (some ⟨r.g, 0, none⟩)) := ⟨h.box.cell 0, h.box.cell 1⟩
theorem whole_any (W : World) (p : Dp) (r : Rp) (d : DS) (h : DB W p d) (h' : RDB W r d) :
    Calls Try.prog 38 #[.agg #[ptr p.g, ptr r.g]] W fun x W' => x = .returned (.bool true) ∧ Below W.heap.size W W' := by
  have T0 : Hid (WH W (W.alloc (.cells #[.pointer (some ⟨p.g, 0, none⟩), .pointer (some ⟨r.g, 0, none⟩)] 68)) p r d W.heap.size) := hid ⟨h.on (below_one _ _), h'.on (below_one _ _), below_one _ _, Cel.new W 68 [.pointer (some ⟨p.g, 0, none⟩), .pointer (some ⟨r.g, 0, none⟩)]⟩
  have HR := hid (fun w (hw : RDB w r d) => rwords_any w r d hw)
  have HA := hid (fun w (hw : DB w p d) => words_any w p d hw)
  have HWs : Hid (d.ws.length = 1 + 2 * d.m.ns) := hid (d.ws_len h.ok)
  have HRg := hid (DS.ws_rg h.ok)
  have HSm : Hid (∀ w ao bo c c' n, WL w ao n d.ws → WL w bo n d.ws → n ≤ 1000000 → Calls Try.prog 15 #[.slice ao n c, .slice bo n c'] w fun e W' => e = .returned (.bool true) ∧ Below w.heap.size w W') := hid (fun w ao bo c c' n hA hB hn => by
    have := sameWords_any w ao bo n n c c' d.ws d.ws hA hB hn
    rw [decide_eq_true rfl] at this
    exact this)
  have HN6 : Hid (1 + 2 * d.m.ns ≤ 1000000) := hid (by have := h.ok.n64; omega)
  have HN64 : Hid (d.m.ns ≤ 64) := hid h.ok.n64
  have HF := hid (fun w (hw : DB w p d) => free_any w p d hw)
  have HRF := hid (fun w (hw : RDB w r d) => rfree_any w r d hw)
  have HB := hid (fun w (hw : DB w p d) => births_any w p d hw)
  have HRB := hid (fun w (hw : RDB w r d) => rbirths_any w r d hw)
  have HPg := hid (fun w (hw : DB w p d) => pages_any w p d hw)
  have HRP := hid (fun w (hw : RDB w r d) => rpages_any w r d hw)
  have HM := hid (fun w (hw : DB w p d) => memory_any w p d hw)
  have HMt := hid (fun w (hw : DB w p d) => meter_any w p.f d.m hw.mem)
  have HRM := hid (fun w (hw : RDB w r d) => rmeter_any w r.r d.m hw.mem)
  have HSc := hid (fun w (hw : DB w p d) => secure_any w p.f d.m hw.mem)
  have HRS := hid (fun w (hw : RDB w r d) => rsecure_any w r.r d.m hw.mem)
  have HPk := hid (fun w (hw : DB w p d) (a b : Int) => peek_any w p.f d.m hw.mem true a b)
  have HRK := hid (fun w (hw : RDB w r d) (a b : Int) => rpeek_any w r.r d.m hw.mem true a b)
  clear h h'
  simp only [ptr, fr] at *
  go_enter Try.func38, Try.ntmps38
  go_upto_region 1 with fail
  generalize W.alloc _ = X at *
  generalize hg1 : W.heap.size = g1 at T0 ⊢
  have HG1 := hid hg1
  clear hg1
  generalize d.free = fz at *
  generalize hn : d.m.ns = n at *
  clear hn
  have T1 := hid (T0.out.on (Below.refl _ _).drew)
  clear T0
  refine wp_region_held_drew (S := fun w => Cel w g1 68 [.pointer (some ⟨p.g, 0, none⟩), .pointer (some ⟨r.g, 0, none⟩)] ∧ w.cell? ⟨r.g, 0, none⟩ = some (.pointer (some ⟨r.r.g, 0, none⟩))) (by kernel_rfl) T1.out.hold (fun hHeld => ?_)
  generalize World.drew _ = w1 at *
  refine wpAnyH_take (i := 0) (oi := { dst := some 8, op := Op.fieldAddr 68 (Operand.tmp 1) 0, type := 0, pos := "law.go:91", after := #[], guard := none }) (v := .pointer (some ⟨g1, 0, none⟩)) rfl (by kernel_rfl) (by kernel_rfl) (by kernel_rfl) (fun _ _ _ h => h) (Or.inl ⟨by rfl, by intro w hSw; go_simp⟩) (by assumption) ?_
  simp only [Act.put, List.setIfInBounds_toArray, List.set_cons_zero, List.set_cons_succ]
  refine wpAnyH_take (i := 1) (oi := { dst := some 9, op := Op.load 23 (Operand.tmp 8), type := 23, pos := "law.go:91", after := #[{ on := 0, ground := Ground.data }], guard := none }) (v := .pointer (some ⟨p.g, 0, none⟩)) rfl (by kernel_rfl) (by kernel_rfl) (by kernel_rfl) (fun _ _ _ h => h) (Or.inl ⟨by rfl, by intro w hSw; have hc : w.cell? ⟨g1, 0, none⟩ = some (.pointer (some ⟨p.g, 0, none⟩)) := hSw.1.cell 0; go_simp⟩) (by assumption) ?_
  simp only [Act.put, List.setIfInBounds_toArray, List.set_cons_zero, List.set_cons_succ]
  refine wpAnyH_take (i := 3) (oi := { dst := some 11, op := Op.fieldAddr 68 (Operand.tmp 1) 1, type := 0, pos := "law.go:91", after := #[], guard := none }) (v := .pointer (some ⟨g1, 1, none⟩)) rfl (by kernel_rfl) (by kernel_rfl) (by kernel_rfl) (fun _ _ _ h => h) (Or.inl ⟨by rfl, by intro w hSw; go_simp⟩) (by assumption) ?_
  simp only [Act.put, List.setIfInBounds_toArray, List.set_cons_zero, List.set_cons_succ]
  refine wpAnyH_take (i := 4) (oi := { dst := some 12, op := Op.load 66 (Operand.tmp 11), type := 66, pos := "law.go:91", after := #[{ on := 3, ground := Ground.data }], guard := none }) (v := .pointer (some ⟨r.g, 0, none⟩)) rfl (by kernel_rfl) (by kernel_rfl) (by kernel_rfl) (fun _ _ _ h => h) (Or.inl ⟨by rfl, by intro w hSw; have hc : w.cell? ⟨g1, 1, none⟩ = some (.pointer (some ⟨r.g, 0, none⟩)) := hSw.1.cell 1; go_simp⟩) (by assumption) ?_
  simp only [Act.put, List.setIfInBounds_toArray, List.set_cons_zero, List.set_cons_succ]
  refine wpAnyH_ready (rs := [2]) (by kernel_rfl) (by simp) (AllReadyH.cons (o := { dst := some 10, op := Op.call { callee := Callee.value (Operand.func 46), args := #[Operand.tmp 9], argTypes := #[23] }, type := 3, pos := "law.go:91", after := #[{ on := 1, ground := Ground.data }], guard := none }) rfl (fun KQ hK => ?_) AllReadyH.nil)
  go_simp
  refine (HPg.out _ T1.out.own).mono ?_
  rintro e wx ⟨rfl, hw⟩
  subst wx
  go_wp2_with fail
  refine hK.out _ _ T1.out.hold (fun hHeld => ?_)
  clear hK KQ
  try simp only [Act.put, List.setIfInBounds_toArray, List.set_cons_zero, List.set_cons_succ]
  refine wpAnyH_ready (rs := [5]) (by kernel_rfl) (by simp) (AllReadyH.cons (o := { dst := some 13, op := Op.call { callee := Callee.value (Operand.func 82), args := #[Operand.tmp 12], argTypes := #[66] }, type := 3, pos := "law.go:91", after := #[{ on := 4, ground := Ground.data }, { on := 2, ground := Ground.chain }], guard := none }) rfl (fun KQ hK => ?_) AllReadyH.nil)
  go_simp
  refine (HRP.out _ T1.out.doc).mono ?_
  rintro e wx ⟨rfl, hw⟩
  subst wx
  go_wp2_with fail
  refine hK.out _ _ T1.out.hold (fun hHeld => ?_)
  clear hK KQ
  try simp only [Act.put, List.setIfInBounds_toArray, List.set_cons_zero, List.set_cons_succ]
  refine wpAnyH_take (i := 6) (oi := { dst := some 14, op := Op.binOp BinOp.neq 3 (Operand.tmp 10) (Operand.tmp 13) 3, type := 4, pos := "law.go:91", after := #[{ on := 2, ground := Ground.data }, { on := 5, ground := Ground.data }], guard := none }) (v := .bool false) rfl (by kernel_rfl) (by kernel_rfl) (by kernel_rfl) (fun _ _ _ h => h) (Or.inl ⟨by rfl, by intro w hSw; go_simp⟩) (by assumption) ?_
  simp only [Act.put, List.setIfInBounds_toArray, List.set_cons_zero, List.set_cons_succ]
  refine wpAnyH_take (i := 7) (oi := { dst := some 15, op := Op.move (Operand.tmp 14), type := 4, pos := "law.go:91", after := #[{ on := 6, ground := Ground.data }, { on := 5, ground := Ground.chain }], guard := none }) (v := .bool false) rfl (by kernel_rfl) (by kernel_rfl) (by kernel_rfl) (fun _ _ _ h => h) (Or.inl ⟨by rfl, by intro w hSw; go_simp⟩) (by assumption) ?_
  simp only [Act.put, List.setIfInBounds_toArray, List.set_cons_zero, List.set_cons_succ]
  refine wpAnyH_take (i := 8) (oi := { dst := some 16, op := Op.fieldAddr 68 (Operand.tmp 1) 0, type := 0, pos := "law.go:91", after := #[{ on := 7, ground := Ground.guard }], guard := some (7, false) }) (v := .pointer (some ⟨g1, 0, none⟩)) rfl (by kernel_rfl) (by kernel_rfl) (by kernel_rfl) (fun _ _ _ h => h) (Or.inl ⟨by rfl, by intro w hSw; go_simp⟩) (by assumption) ?_
  simp only [Act.put, List.setIfInBounds_toArray, List.set_cons_zero, List.set_cons_succ]
  refine wpAnyH_take (i := 9) (oi := { dst := some 17, op := Op.load 23 (Operand.tmp 16), type := 23, pos := "law.go:91", after := #[{ on := 8, ground := Ground.data }, { on := 7, ground := Ground.guard }], guard := some (7, false) }) (v := .pointer (some ⟨p.g, 0, none⟩)) rfl (by kernel_rfl) (by kernel_rfl) (by kernel_rfl) (fun _ _ _ h => h) (Or.inl ⟨by rfl, by intro w hSw; have hc : w.cell? ⟨g1, 0, none⟩ = some (.pointer (some ⟨p.g, 0, none⟩)) := hSw.1.cell 0; go_simp⟩) (by assumption) ?_
  simp only [Act.put, List.setIfInBounds_toArray, List.set_cons_zero, List.set_cons_succ]
  refine wpAnyH_take (i := 11) (oi := { dst := some 19, op := Op.fieldAddr 68 (Operand.tmp 1) 1, type := 0, pos := "law.go:91", after := #[{ on := 7, ground := Ground.guard }], guard := some (7, false) }) (v := .pointer (some ⟨g1, 1, none⟩)) rfl (by kernel_rfl) (by kernel_rfl) (by kernel_rfl) (fun _ _ _ h => h) (Or.inl ⟨by rfl, by intro w hSw; go_simp⟩) (by assumption) ?_
  simp only [Act.put, List.setIfInBounds_toArray, List.set_cons_zero, List.set_cons_succ]
  refine wpAnyH_take (i := 12) (oi := { dst := some 20, op := Op.load 66 (Operand.tmp 19), type := 66, pos := "law.go:91", after := #[{ on := 11, ground := Ground.data }, { on := 7, ground := Ground.guard }], guard := some (7, false) }) (v := .pointer (some ⟨r.g, 0, none⟩)) rfl (by kernel_rfl) (by kernel_rfl) (by kernel_rfl) (fun _ _ _ h => h) (Or.inl ⟨by rfl, by intro w hSw; have hc : w.cell? ⟨g1, 1, none⟩ = some (.pointer (some ⟨r.g, 0, none⟩)) := hSw.1.cell 1; go_simp⟩) (by assumption) ?_
  simp only [Act.put, List.setIfInBounds_toArray, List.set_cons_zero, List.set_cons_succ]
  refine wpAnyH_ready (rs := [10]) (by kernel_rfl) (by simp) (AllReadyH.cons (o := { dst := some 18, op := Op.call { callee := Callee.value (Operand.func 17), args := #[Operand.tmp 17], argTypes := #[23] }, type := 3, pos := "law.go:91", after := #[{ on := 9, ground := Ground.data }, { on := 7, ground := Ground.chain }, { on := 7, ground := Ground.guard }], guard := some (7, false) }) rfl (fun KQ hK => ?_) AllReadyH.nil)
  go_simp
  refine (HB.out _ T1.out.own).mono ?_
  rintro e wx ⟨rfl, hw⟩
  subst wx
  go_wp2_with fail
  refine hK.out _ _ T1.out.hold (fun hHeld => ?_)
  clear hK KQ
  try simp only [Act.put, List.setIfInBounds_toArray, List.set_cons_zero, List.set_cons_succ]
  refine wpAnyH_ready (rs := [13]) (by kernel_rfl) (by simp) (AllReadyH.cons (o := { dst := some 21, op := Op.call { callee := Callee.value (Operand.func 81), args := #[Operand.tmp 20], argTypes := #[66] }, type := 3, pos := "law.go:91", after := #[{ on := 12, ground := Ground.data }, { on := 10, ground := Ground.chain }, { on := 7, ground := Ground.guard }], guard := some (7, false) }) rfl (fun KQ hK => ?_) AllReadyH.nil)
  go_simp
  refine (HRB.out _ T1.out.doc).mono ?_
  rintro e wx ⟨rfl, hw⟩
  subst wx
  go_wp2_with fail
  refine hK.out _ _ T1.out.hold (fun hHeld => ?_)
  clear hK KQ
  try simp only [Act.put, List.setIfInBounds_toArray, List.set_cons_zero, List.set_cons_succ]
  refine wpAnyH_take (i := 14) (oi := { dst := some 22, op := Op.binOp BinOp.neq 3 (Operand.tmp 18) (Operand.tmp 21) 3, type := 4, pos := "law.go:91", after := #[{ on := 10, ground := Ground.data }, { on := 13, ground := Ground.data }, { on := 7, ground := Ground.guard }], guard := some (7, false) }) (v := .bool false) rfl (by kernel_rfl) (by kernel_rfl) (by kernel_rfl) (fun _ _ _ h => h) (Or.inl ⟨by rfl, by intro w hSw; go_simp⟩) (by assumption) ?_
  simp only [Act.put, List.setIfInBounds_toArray, List.set_cons_zero, List.set_cons_succ]
  refine wpAnyH_take (i := 15) (oi := { dst := some 23, op := Op.pick (Operand.tmp 15) (Operand.const (Value.bool true)) (Operand.tmp 22), type := 4, pos := "law.go:91", after := #[{ on := 7, ground := Ground.data }, { on := 14, ground := Ground.data }], guard := none }) (v := .bool false) rfl (by kernel_rfl) (by kernel_rfl) (by kernel_rfl) (fun _ _ _ h => h) (Or.inl ⟨by rfl, by intro w hSw; go_simp⟩) (by assumption) ?_
  simp only [Act.put, List.setIfInBounds_toArray, List.set_cons_zero, List.set_cons_succ]
  refine wpAnyH_take (i := 16) (oi := { dst := some 24, op := Op.move (Operand.tmp 23), type := 4, pos := "law.go:91", after := #[{ on := 15, ground := Ground.data }, { on := 13, ground := Ground.chain }], guard := none }) (v := .bool false) rfl (by kernel_rfl) (by kernel_rfl) (by kernel_rfl) (fun _ _ _ h => h) (Or.inl ⟨by rfl, by intro w hSw; go_simp⟩) (by assumption) ?_
  simp only [Act.put, List.setIfInBounds_toArray, List.set_cons_zero, List.set_cons_succ]
  refine wpAnyH_take (i := 17) (oi := { dst := some 25, op := Op.fieldAddr 68 (Operand.tmp 1) 0, type := 0, pos := "law.go:91", after := #[{ on := 16, ground := Ground.guard }], guard := some (16, false) }) (v := .pointer (some ⟨g1, 0, none⟩)) rfl (by kernel_rfl) (by kernel_rfl) (by kernel_rfl) (fun _ _ _ h => h) (Or.inl ⟨by rfl, by intro w hSw; go_simp⟩) (by assumption) ?_
  simp only [Act.put, List.setIfInBounds_toArray, List.set_cons_zero, List.set_cons_succ]
  refine wpAnyH_take (i := 18) (oi := { dst := some 26, op := Op.load 23 (Operand.tmp 25), type := 23, pos := "law.go:91", after := #[{ on := 17, ground := Ground.data }, { on := 16, ground := Ground.guard }], guard := some (16, false) }) (v := .pointer (some ⟨p.g, 0, none⟩)) rfl (by kernel_rfl) (by kernel_rfl) (by kernel_rfl) (fun _ _ _ h => h) (Or.inl ⟨by rfl, by intro w hSw; have hc : w.cell? ⟨g1, 0, none⟩ = some (.pointer (some ⟨p.g, 0, none⟩)) := hSw.1.cell 0; go_simp⟩) (by assumption) ?_
  simp only [Act.put, List.setIfInBounds_toArray, List.set_cons_zero, List.set_cons_succ]
  refine wpAnyH_take (i := 20) (oi := { dst := some 28, op := Op.fieldAddr 68 (Operand.tmp 1) 1, type := 0, pos := "law.go:91", after := #[{ on := 16, ground := Ground.guard }], guard := some (16, false) }) (v := .pointer (some ⟨g1, 1, none⟩)) rfl (by kernel_rfl) (by kernel_rfl) (by kernel_rfl) (fun _ _ _ h => h) (Or.inl ⟨by rfl, by intro w hSw; go_simp⟩) (by assumption) ?_
  simp only [Act.put, List.setIfInBounds_toArray, List.set_cons_zero, List.set_cons_succ]
  refine wpAnyH_take (i := 21) (oi := { dst := some 29, op := Op.load 66 (Operand.tmp 28), type := 66, pos := "law.go:91", after := #[{ on := 20, ground := Ground.data }, { on := 16, ground := Ground.guard }], guard := some (16, false) }) (v := .pointer (some ⟨r.g, 0, none⟩)) rfl (by kernel_rfl) (by kernel_rfl) (by kernel_rfl) (fun _ _ _ h => h) (Or.inl ⟨by rfl, by intro w hSw; have hc : w.cell? ⟨g1, 1, none⟩ = some (.pointer (some ⟨r.g, 0, none⟩)) := hSw.1.cell 1; go_simp⟩) (by assumption) ?_
  simp only [Act.put, List.setIfInBounds_toArray, List.set_cons_zero, List.set_cons_succ]
  refine wpAnyH_ready (rs := [19]) (by kernel_rfl) (by simp) (AllReadyH.cons (o := { dst := some 27, op := Op.call { callee := Callee.value (Operand.func 16), args := #[Operand.tmp 26], argTypes := #[23] }, type := 3, pos := "law.go:91", after := #[{ on := 18, ground := Ground.data }, { on := 16, ground := Ground.chain }, { on := 16, ground := Ground.guard }], guard := some (16, false) }) rfl (fun KQ hK => ?_) AllReadyH.nil)
  go_simp
  refine (HF.out _ T1.out.own).mono ?_
  rintro e w2 ⟨rfl, hb⟩
  have T2 := hid (T1.out.on hb)
  clear hb T1
  go_wp2_with fail
  refine hK.out _ _ T2.out.hold (fun hHeld => ?_)
  clear hK KQ
  try simp only [Act.put, List.setIfInBounds_toArray, List.set_cons_zero, List.set_cons_succ]
  refine wpAnyH_ready (rs := [22]) (by kernel_rfl) (by simp) (AllReadyH.cons (o := { dst := some 30, op := Op.call { callee := Callee.value (Operand.func 80), args := #[Operand.tmp 29], argTypes := #[66] }, type := 3, pos := "law.go:91", after := #[{ on := 21, ground := Ground.data }, { on := 19, ground := Ground.chain }, { on := 16, ground := Ground.guard }], guard := some (16, false) }) rfl (fun KQ hK => ?_) AllReadyH.nil)
  go_simp
  refine (HRF.out _ T2.out.doc).mono ?_
  rintro e wx ⟨rfl, hw⟩
  subst wx
  go_wp2_with fail
  refine hK.out _ _ T2.out.hold (fun hHeld => ?_)
  clear hK KQ
  try simp only [Act.put, List.setIfInBounds_toArray, List.set_cons_zero, List.set_cons_succ]
  refine wpAnyH_take (i := 23) (oi := { dst := some 31, op := Op.binOp BinOp.neq 3 (Operand.tmp 27) (Operand.tmp 30) 3, type := 4, pos := "law.go:91", after := #[{ on := 19, ground := Ground.data }, { on := 22, ground := Ground.data }, { on := 16, ground := Ground.guard }], guard := some (16, false) }) (v := .bool false) rfl (by kernel_rfl) (by kernel_rfl) (by kernel_rfl) (fun _ _ _ h => h) (Or.inl ⟨by rfl, by intro w hSw; go_simp⟩) (by assumption) ?_
  simp only [Act.put, List.setIfInBounds_toArray, List.set_cons_zero, List.set_cons_succ]
  refine wpAnyH_take (i := 24) (oi := { dst := some 32, op := Op.pick (Operand.tmp 24) (Operand.const (Value.bool true)) (Operand.tmp 31), type := 4, pos := "law.go:91", after := #[{ on := 16, ground := Ground.data }, { on := 23, ground := Ground.data }], guard := none }) (v := .bool false) rfl (by kernel_rfl) (by kernel_rfl) (by kernel_rfl) (fun _ _ _ h => h) (Or.inl ⟨by rfl, by intro w hSw; go_simp⟩) (by assumption) ?_
  simp only [Act.put, List.setIfInBounds_toArray, List.set_cons_zero, List.set_cons_succ]
  refine wpAnyH_done (by kernel_rfl) ?_ _
  obtain ⟨x0, x1⟩ := T2.out.pair
  go_upto_region 4 with (go_at_call 9; refine (HA.out _ T2.out.own).mono ?_; rintro e w3 ⟨gn, rfl, hc, hl, hb⟩; have NA := hid (WL.cel hc (fun _ _ h => h) HWs.out HRg.out); have T3 := hid (T2.out.on hb); clear hc hl hb T2 x0 x1)
  obtain ⟨x0, x1⟩ := T3.out.pair
  go_upto_region 5 with (go_at_call 65; refine (HR.out _ T3.out.doc).mono ?_; rintro e w4 ⟨v3, rfl, ho⟩; obtain ⟨bo, cb, rfl, hl⟩ := ho.wl HRg.out; rw [HWs.out] at hl; have NB := hid hl; have NA2 := hid (NA.out.on ho.below); have T4 := hid (T3.out.on ho.below); clear ho hl T3 NA x0 x1)
  rw [HWs.out]
  obtain ⟨x0, x1⟩ := T4.out.pair
  go_upto_region 6 with (go_at_call 13; refine (HM.out _ T4.out.own).mono ?_; rintro e wx ⟨rfl, hw⟩; subst wx)
  clear x0 x1
  have T5 := hid (T4.out.on (Below.refl _ _).drew)
  have NA3 := hid (NA2.out.on (Below.refl _ _).drew)
  have NB3 := hid (NB.out.on (Below.refl _ _).drew)
  clear T4 NA2 NB
  refine wp_region_held_drew (S := fun w => Cel w g1 68 [.pointer (some ⟨p.g, 0, none⟩), .pointer (some ⟨r.g, 0, none⟩)] ∧ w.cell? ⟨r.g, 0, none⟩ = some (.pointer (some ⟨r.r.g, 0, none⟩))) (by kernel_rfl) T5.out.hold (fun hHeld => ?_)
  generalize World.drew _ = w5 at *
  refine wpAnyH_take (i := 0) (oi := { dst := some 42, op := Op.move (Operand.tmp 3), type := 32, pos := "law.go:97", after := #[], guard := none }) (v := .slice (some ⟨gn, 0, none⟩) (1 + 2 * n) (1 + 2 * n)) rfl (by kernel_rfl) (by kernel_rfl) (by kernel_rfl) (fun _ _ _ h => h) (Or.inl ⟨by rfl, by intro w hSw; go_simp⟩) (by assumption) ?_
  simp only [Act.put, List.setIfInBounds_toArray, List.set_cons_zero, List.set_cons_succ]
  refine wpAnyH_take (i := 1) (oi := { dst := some 43, op := Op.move (Operand.tmp 4), type := 32, pos := "law.go:97", after := #[], guard := none }) (v := .slice bo (1 + 2 * n) cb) rfl (by kernel_rfl) (by kernel_rfl) (by kernel_rfl) (fun _ _ _ h => h) (Or.inl ⟨by rfl, by intro w hSw; go_simp⟩) (by assumption) ?_
  simp only [Act.put, List.setIfInBounds_toArray, List.set_cons_zero, List.set_cons_succ]
  refine wpAnyH_ready (rs := [2]) (by kernel_rfl) (by simp) (AllReadyH.cons (o := { dst := some 44, op := Op.call { callee := Callee.value (Operand.func 15), args := #[Operand.tmp 42, Operand.tmp 43], argTypes := #[32, 32] }, type := 4, pos := "law.go:97", after := #[{ on := 0, ground := Ground.data }, { on := 1, ground := Ground.data }], guard := none }) rfl (fun KQ hK => ?_) AllReadyH.nil)
  go_simp
  refine (HSm.out _ _ _ _ _ _ NA3.out NB3.out HN6.out).mono ?_
  rintro e w6 ⟨rfl, hb⟩
  have T6 := hid (T5.out.on hb)
  clear hb T5 NA3 NB3
  go_wp2_with fail
  refine hK.out _ _ T6.out.hold (fun hHeld => ?_)
  clear hK KQ
  try simp only [Act.put, List.setIfInBounds_toArray, List.set_cons_zero, List.set_cons_succ]
  refine wpAnyH_take (i := 3) (oi := { dst := some 45, op := Op.unOp UnOp.not 4 (Operand.tmp 44), type := 4, pos := "law.go:97", after := #[{ on := 2, ground := Ground.data }], guard := none }) (v := .bool false) rfl (by kernel_rfl) (by kernel_rfl) (by kernel_rfl) (fun _ _ _ h => h) (Or.inl ⟨by rfl, by intro w hSw; go_simp⟩) (by assumption) ?_
  simp only [Act.put, List.setIfInBounds_toArray, List.set_cons_zero, List.set_cons_succ]
  refine wpAnyH_take (i := 4) (oi := { dst := some 46, op := Op.move (Operand.tmp 45), type := 4, pos := "law.go:97", after := #[{ on := 3, ground := Ground.data }, { on := 2, ground := Ground.chain }], guard := none }) (v := .bool false) rfl (by kernel_rfl) (by kernel_rfl) (by kernel_rfl) (fun _ _ _ h => h) (Or.inl ⟨by rfl, by intro w hSw; go_simp⟩) (by assumption) ?_
  simp only [Act.put, List.setIfInBounds_toArray, List.set_cons_zero, List.set_cons_succ]
  refine wpAnyH_take (i := 5) (oi := { dst := some 47, op := Op.move (Operand.tmp 5), type := 24, pos := "law.go:97", after := #[{ on := 4, ground := Ground.guard }], guard := some (4, false) }) (v := .pointer (some ⟨p.f.gm, 0, none⟩)) rfl (by kernel_rfl) (by kernel_rfl) (by kernel_rfl) (fun _ _ _ h => h) (Or.inl ⟨by rfl, by intro w hSw; go_simp⟩) (by assumption) ?_
  simp only [Act.put, List.setIfInBounds_toArray, List.set_cons_zero, List.set_cons_succ]
  refine wpAnyH_take (i := 6) (oi := { dst := some 48, op := Op.binOp BinOp.eql 24 (Operand.tmp 47) (Operand.const (Value.pointer none)) 24, type := 4, pos := "law.go:97", after := #[{ on := 5, ground := Ground.data }, { on := 4, ground := Ground.guard }], guard := some (4, false) }) (v := .bool false) rfl (by kernel_rfl) (by kernel_rfl) (by kernel_rfl) (fun _ _ _ h => h) (Or.inl ⟨by rfl, by intro w hSw; go_simp⟩) (by assumption) ?_
  simp only [Act.put, List.setIfInBounds_toArray, List.set_cons_zero, List.set_cons_succ]
  refine wpAnyH_take (i := 7) (oi := { dst := some 49, op := Op.pick (Operand.tmp 46) (Operand.const (Value.bool true)) (Operand.tmp 48), type := 4, pos := "law.go:97", after := #[{ on := 4, ground := Ground.data }, { on := 6, ground := Ground.data }], guard := none }) (v := .bool false) rfl (by kernel_rfl) (by kernel_rfl) (by kernel_rfl) (fun _ _ _ h => h) (Or.inl ⟨by rfl, by intro w hSw; go_simp⟩) (by assumption) ?_
  simp only [Act.put, List.setIfInBounds_toArray, List.set_cons_zero, List.set_cons_succ]
  refine wpAnyH_take (i := 8) (oi := { dst := some 50, op := Op.move (Operand.tmp 49), type := 4, pos := "law.go:97", after := #[{ on := 7, ground := Ground.data }, { on := 4, ground := Ground.chain }], guard := none }) (v := .bool false) rfl (by kernel_rfl) (by kernel_rfl) (by kernel_rfl) (fun _ _ _ h => h) (Or.inl ⟨by rfl, by intro w hSw; go_simp⟩) (by assumption) ?_
  simp only [Act.put, List.setIfInBounds_toArray, List.set_cons_zero, List.set_cons_succ]
  refine wpAnyH_take (i := 9) (oi := { dst := some 51, op := Op.move (Operand.tmp 5), type := 24, pos := "law.go:97", after := #[{ on := 8, ground := Ground.guard }], guard := some (8, false) }) (v := .pointer (some ⟨p.f.gm, 0, none⟩)) rfl (by kernel_rfl) (by kernel_rfl) (by kernel_rfl) (fun _ _ _ h => h) (Or.inl ⟨by rfl, by intro w hSw; go_simp⟩) (by assumption) ?_
  simp only [Act.put, List.setIfInBounds_toArray, List.set_cons_zero, List.set_cons_succ]
  refine wpAnyH_take (i := 11) (oi := { dst := some 53, op := Op.fieldAddr 68 (Operand.tmp 1) 1, type := 0, pos := "law.go:97", after := #[{ on := 8, ground := Ground.guard }], guard := some (8, false) }) (v := .pointer (some ⟨g1, 1, none⟩)) rfl (by kernel_rfl) (by kernel_rfl) (by kernel_rfl) (fun _ _ _ h => h) (Or.inl ⟨by rfl, by intro w hSw; go_simp⟩) (by assumption) ?_
  simp only [Act.put, List.setIfInBounds_toArray, List.set_cons_zero, List.set_cons_succ]
  refine wpAnyH_take (i := 12) (oi := { dst := some 54, op := Op.load 66 (Operand.tmp 53), type := 66, pos := "law.go:97", after := #[{ on := 11, ground := Ground.data }, { on := 8, ground := Ground.guard }], guard := some (8, false) }) (v := .pointer (some ⟨r.g, 0, none⟩)) rfl (by kernel_rfl) (by kernel_rfl) (by kernel_rfl) (fun _ _ _ h => h) (Or.inl ⟨by rfl, by intro w hSw; have hc : w.cell? ⟨g1, 1, none⟩ = some (.pointer (some ⟨r.g, 0, none⟩)) := hSw.1.cell 1; go_simp⟩) (by assumption) ?_
  simp only [Act.put, List.setIfInBounds_toArray, List.set_cons_zero, List.set_cons_succ]
  refine wpAnyH_take (i := 13) (oi := { dst := some 55, op := Op.nilCheck (Operand.tmp 54), type := 0, pos := "law.go:97", after := #[{ on := 12, ground := Ground.data }, { on := 8, ground := Ground.guard }], guard := some (8, false) }) (v := .pointer (some ⟨r.g, 0, none⟩)) rfl (by kernel_rfl) (by kernel_rfl) (by kernel_rfl) (fun _ _ _ h => h) (Or.inl ⟨by rfl, by intro w hSw; go_simp⟩) (by assumption) ?_
  simp only [Act.put, List.setIfInBounds_toArray, List.set_cons_zero, List.set_cons_succ]
  refine wpAnyH_take (i := 14) (oi := { dst := some 56, op := Op.fieldAddr 80 (Operand.tmp 55) 0, type := 0, pos := "law.go:97", after := #[{ on := 13, ground := Ground.data }, { on := 8, ground := Ground.guard }], guard := some (8, false) }) (v := .pointer (some ⟨r.g, 0, none⟩)) rfl (by kernel_rfl) (by kernel_rfl) (by kernel_rfl) (fun _ _ _ h => h) (Or.inl ⟨by rfl, by intro w hSw; go_simp⟩) (by assumption) ?_
  simp only [Act.put, List.setIfInBounds_toArray, List.set_cons_zero, List.set_cons_succ]
  refine wpAnyH_take (i := 15) (oi := { dst := some 57, op := Op.load 77 (Operand.tmp 56), type := 77, pos := "law.go:97", after := #[{ on := 14, ground := Ground.data }, { on := 8, ground := Ground.guard }], guard := some (8, false) }) (v := .pointer (some ⟨r.r.g, 0, none⟩)) rfl (by kernel_rfl) (by kernel_rfl) (by kernel_rfl) (fun _ _ _ h => h) (Or.inl ⟨by rfl, by intro w hSw; have hc := hSw.2; go_simp⟩) (by assumption) ?_
  simp only [Act.put, List.setIfInBounds_toArray, List.set_cons_zero, List.set_cons_succ]
  refine wpAnyH_ready (rs := [10]) (by kernel_rfl) (by simp) (AllReadyH.cons (o := { dst := some 52, op := Op.call { callee := Callee.value (Operand.func 24), args := #[Operand.tmp 51], argTypes := #[24] }, type := 2, pos := "law.go:97", after := #[{ on := 9, ground := Ground.data }, { on := 8, ground := Ground.chain }, { on := 8, ground := Ground.guard }], guard := some (8, false) }) rfl (fun KQ hK => ?_) AllReadyH.nil)
  go_simp
  refine (HMt.out _ T6.out.own).mono ?_
  rintro e wx ⟨rfl, hw⟩
  subst wx
  go_wp2_with fail
  refine hK.out _ _ T6.out.hold (fun hHeld => ?_)
  clear hK KQ
  try simp only [Act.put, List.setIfInBounds_toArray, List.set_cons_zero, List.set_cons_succ]
  refine wpAnyH_ready (rs := [16]) (by kernel_rfl) (by simp) (AllReadyH.cons (o := { dst := some 58, op := Op.call { callee := Callee.value (Operand.func 83), args := #[Operand.tmp 57], argTypes := #[77] }, type := 2, pos := "law.go:97", after := #[{ on := 15, ground := Ground.data }, { on := 10, ground := Ground.chain }, { on := 8, ground := Ground.guard }], guard := some (8, false) }) rfl (fun KQ hK => ?_) AllReadyH.nil)
  go_simp
  refine (HRM.out _ T6.out.doc).mono ?_
  rintro e wx ⟨rfl, hw⟩
  subst wx
  go_wp2_with fail
  refine hK.out _ _ T6.out.hold (fun hHeld => ?_)
  clear hK KQ
  try simp only [Act.put, List.setIfInBounds_toArray, List.set_cons_zero, List.set_cons_succ]
  refine wpAnyH_take (i := 17) (oi := { dst := some 59, op := Op.binOp BinOp.neq 2 (Operand.tmp 52) (Operand.tmp 58) 2, type := 4, pos := "law.go:97", after := #[{ on := 10, ground := Ground.data }, { on := 16, ground := Ground.data }, { on := 8, ground := Ground.guard }], guard := some (8, false) }) (v := .bool false) rfl (by kernel_rfl) (by kernel_rfl) (by kernel_rfl) (fun _ _ _ h => h) (Or.inl ⟨by rfl, by intro w hSw; go_simp⟩) (by assumption) ?_
  simp only [Act.put, List.setIfInBounds_toArray, List.set_cons_zero, List.set_cons_succ]
  refine wpAnyH_take (i := 18) (oi := { dst := some 60, op := Op.pick (Operand.tmp 50) (Operand.const (Value.bool true)) (Operand.tmp 59), type := 4, pos := "law.go:97", after := #[{ on := 8, ground := Ground.data }, { on := 17, ground := Ground.data }], guard := none }) (v := .bool false) rfl (by kernel_rfl) (by kernel_rfl) (by kernel_rfl) (fun _ _ _ h => h) (Or.inl ⟨by rfl, by intro w hSw; go_simp⟩) (by assumption) ?_
  simp only [Act.put, List.setIfInBounds_toArray, List.set_cons_zero, List.set_cons_succ]
  refine wpAnyH_take (i := 19) (oi := { dst := some 61, op := Op.move (Operand.tmp 60), type := 4, pos := "law.go:97", after := #[{ on := 18, ground := Ground.data }, { on := 16, ground := Ground.chain }], guard := none }) (v := .bool false) rfl (by kernel_rfl) (by kernel_rfl) (by kernel_rfl) (fun _ _ _ h => h) (Or.inl ⟨by rfl, by intro w hSw; go_simp⟩) (by assumption) ?_
  simp only [Act.put, List.setIfInBounds_toArray, List.set_cons_zero, List.set_cons_succ]
  refine wpAnyH_take (i := 20) (oi := { dst := some 62, op := Op.move (Operand.tmp 5), type := 24, pos := "law.go:97", after := #[{ on := 19, ground := Ground.guard }], guard := some (19, false) }) (v := .pointer (some ⟨p.f.gm, 0, none⟩)) rfl (by kernel_rfl) (by kernel_rfl) (by kernel_rfl) (fun _ _ _ h => h) (Or.inl ⟨by rfl, by intro w hSw; go_simp⟩) (by assumption) ?_
  simp only [Act.put, List.setIfInBounds_toArray, List.set_cons_zero, List.set_cons_succ]
  refine wpAnyH_take (i := 22) (oi := { dst := some 64, op := Op.fieldAddr 68 (Operand.tmp 1) 1, type := 0, pos := "law.go:97", after := #[{ on := 19, ground := Ground.guard }], guard := some (19, false) }) (v := .pointer (some ⟨g1, 1, none⟩)) rfl (by kernel_rfl) (by kernel_rfl) (by kernel_rfl) (fun _ _ _ h => h) (Or.inl ⟨by rfl, by intro w hSw; go_simp⟩) (by assumption) ?_
  simp only [Act.put, List.setIfInBounds_toArray, List.set_cons_zero, List.set_cons_succ]
  refine wpAnyH_take (i := 23) (oi := { dst := some 65, op := Op.load 66 (Operand.tmp 64), type := 66, pos := "law.go:97", after := #[{ on := 22, ground := Ground.data }, { on := 19, ground := Ground.guard }], guard := some (19, false) }) (v := .pointer (some ⟨r.g, 0, none⟩)) rfl (by kernel_rfl) (by kernel_rfl) (by kernel_rfl) (fun _ _ _ h => h) (Or.inl ⟨by rfl, by intro w hSw; have hc : w.cell? ⟨g1, 1, none⟩ = some (.pointer (some ⟨r.g, 0, none⟩)) := hSw.1.cell 1; go_simp⟩) (by assumption) ?_
  simp only [Act.put, List.setIfInBounds_toArray, List.set_cons_zero, List.set_cons_succ]
  refine wpAnyH_take (i := 24) (oi := { dst := some 66, op := Op.nilCheck (Operand.tmp 65), type := 0, pos := "law.go:97", after := #[{ on := 23, ground := Ground.data }, { on := 19, ground := Ground.guard }], guard := some (19, false) }) (v := .pointer (some ⟨r.g, 0, none⟩)) rfl (by kernel_rfl) (by kernel_rfl) (by kernel_rfl) (fun _ _ _ h => h) (Or.inl ⟨by rfl, by intro w hSw; go_simp⟩) (by assumption) ?_
  simp only [Act.put, List.setIfInBounds_toArray, List.set_cons_zero, List.set_cons_succ]
  refine wpAnyH_take (i := 25) (oi := { dst := some 67, op := Op.fieldAddr 80 (Operand.tmp 66) 0, type := 0, pos := "law.go:97", after := #[{ on := 24, ground := Ground.data }, { on := 19, ground := Ground.guard }], guard := some (19, false) }) (v := .pointer (some ⟨r.g, 0, none⟩)) rfl (by kernel_rfl) (by kernel_rfl) (by kernel_rfl) (fun _ _ _ h => h) (Or.inl ⟨by rfl, by intro w hSw; go_simp⟩) (by assumption) ?_
  simp only [Act.put, List.setIfInBounds_toArray, List.set_cons_zero, List.set_cons_succ]
  refine wpAnyH_take (i := 26) (oi := { dst := some 68, op := Op.load 77 (Operand.tmp 67), type := 77, pos := "law.go:97", after := #[{ on := 25, ground := Ground.data }, { on := 19, ground := Ground.guard }], guard := some (19, false) }) (v := .pointer (some ⟨r.r.g, 0, none⟩)) rfl (by kernel_rfl) (by kernel_rfl) (by kernel_rfl) (fun _ _ _ h => h) (Or.inl ⟨by rfl, by intro w hSw; have hc := hSw.2; go_simp⟩) (by assumption) ?_
  simp only [Act.put, List.setIfInBounds_toArray, List.set_cons_zero, List.set_cons_succ]
  refine wpAnyH_ready (rs := [21]) (by kernel_rfl) (by simp) (AllReadyH.cons (o := { dst := some 63, op := Op.call { callee := Callee.value (Operand.func 84), args := #[Operand.tmp 62], argTypes := #[24] }, type := 3, pos := "law.go:97", after := #[{ on := 20, ground := Ground.data }, { on := 19, ground := Ground.chain }, { on := 19, ground := Ground.guard }], guard := some (19, false) }) rfl (fun KQ hK => ?_) AllReadyH.nil)
  go_simp
  refine (HSc.out _ T6.out.own).mono ?_
  rintro e wx ⟨rfl, hw⟩
  subst wx
  go_wp2_with fail
  refine hK.out _ _ T6.out.hold (fun hHeld => ?_)
  clear hK KQ
  try simp only [Act.put, List.setIfInBounds_toArray, List.set_cons_zero, List.set_cons_succ]
  refine wpAnyH_ready (rs := [27]) (by kernel_rfl) (by simp) (AllReadyH.cons (o := { dst := some 69, op := Op.call { callee := Callee.value (Operand.func 67), args := #[Operand.tmp 68], argTypes := #[77] }, type := 3, pos := "law.go:97", after := #[{ on := 26, ground := Ground.data }, { on := 21, ground := Ground.chain }, { on := 19, ground := Ground.guard }], guard := some (19, false) }) rfl (fun KQ hK => ?_) AllReadyH.nil)
  go_simp
  refine (HRS.out _ T6.out.doc).mono ?_
  rintro e wx ⟨rfl, hw⟩
  subst wx
  go_wp2_with fail
  refine hK.out _ _ T6.out.hold (fun hHeld => ?_)
  clear hK KQ
  try simp only [Act.put, List.setIfInBounds_toArray, List.set_cons_zero, List.set_cons_succ]
  refine wpAnyH_take (i := 28) (oi := { dst := some 70, op := Op.binOp BinOp.neq 3 (Operand.tmp 63) (Operand.tmp 69) 3, type := 4, pos := "law.go:97", after := #[{ on := 21, ground := Ground.data }, { on := 27, ground := Ground.data }, { on := 19, ground := Ground.guard }], guard := some (19, false) }) (v := .bool false) rfl (by kernel_rfl) (by kernel_rfl) (by kernel_rfl) (fun _ _ _ h => h) (Or.inl ⟨by rfl, by intro w hSw; go_simp⟩) (by assumption) ?_
  simp only [Act.put, List.setIfInBounds_toArray, List.set_cons_zero, List.set_cons_succ]
  refine wpAnyH_take (i := 29) (oi := { dst := some 71, op := Op.pick (Operand.tmp 61) (Operand.const (Value.bool true)) (Operand.tmp 70), type := 4, pos := "law.go:97", after := #[{ on := 19, ground := Ground.data }, { on := 28, ground := Ground.data }], guard := none }) (v := .bool false) rfl (by kernel_rfl) (by kernel_rfl) (by kernel_rfl) (fun _ _ _ h => h) (Or.inl ⟨by rfl, by intro w hSw; go_simp⟩) (by assumption) ?_
  simp only [Act.put, List.setIfInBounds_toArray, List.set_cons_zero, List.set_cons_succ]
  refine wpAnyH_done (by kernel_rfl) ?_ _
  go_upto_region 9 with fail
  go_loopw [6] (fun i wr => ∃ j : Nat, j ≤ n ∧ i = .int .i64 (j : Int) ∧ Hid (WH W wr p r d g1)) (fun i _ => n - (intOf i).toNat)
  case atStart => exact ⟨0, Nat.zero_le _, rfl, hid T6.out⟩
  case round =>
    obtain ⟨j, hj, rfl, HQ⟩ := hrel
    clear T6
    obtain ⟨x0, x1⟩ := HQ.out.pair
    by_cases hlt : j < n
    · have q1 : (j : Int) < (n : Int) := by omega
      have q2 : (j : Int) ≤ 64 := by have := HN64.out; omega
      have HJ := hid hlt
      clear hlt hj
      go_upto_region 12 with (go_at_call 82; refine (HRP.out _ HQ.out.doc).mono ?_; rintro e wx ⟨rfl, hw⟩; subst wx)
      clear x0 x1
      go_loopw [7] (fun i wr => ∃ k : Nat, k ≤ 1024 ∧ i = .int .i64 (k : Int) ∧ Hid (WH W wr p r d g1)) (fun i _ => 1024 - (intOf i).toNat)
      case atStart => exact ⟨0, Nat.zero_le _, rfl, hid HQ.out⟩
      case round =>
        obtain ⟨k, hk, rfl, HK⟩ := hrel
        clear HQ
        by_cases hlt : k < 1024
        · have q3 : (k : Int) < 1024 := by omega
          have HKK := hid hlt
          clear hlt hk
          go_upto_region 14 with fail
          have K1 := hid (HK.out.on (Below.refl _ _).drew)
          have HV := hid (And.intro (HPk.out · · (j : Int) (k : Int)) (HRK.out · · (j : Int) (k : Int)))
          generalize d.m.word true (j : Int) (k : Int) = V at *
          clear HK
          refine wp_region_held_drew (S := fun w => Cel w g1 68 [.pointer (some ⟨p.g, 0, none⟩), .pointer (some ⟨r.g, 0, none⟩)] ∧ w.cell? ⟨r.g, 0, none⟩ = some (.pointer (some ⟨r.r.g, 0, none⟩))) (by kernel_rfl) K1.out.hold (fun hHeld => ?_)
          generalize World.drew _ = wa at *
          refine wpAnyH_take (i := 0) (oi := { dst := some 83, op := Op.move (Operand.tmp 5), type := 24, pos := "law.go:102", after := #[], guard := none }) (v := .pointer (some ⟨p.f.gm, 0, none⟩)) rfl (by kernel_rfl) (by kernel_rfl) (by kernel_rfl) (fun _ _ _ h => h) (Or.inl ⟨by rfl, by intro w hSw; go_simp⟩) (by assumption) ?_
          simp only [Act.put, List.setIfInBounds_toArray, List.set_cons_zero, List.set_cons_succ]
          refine wpAnyH_take (i := 1) (oi := { dst := some 84, op := Op.move (Operand.tmp 6), type := 3, pos := "law.go:102", after := #[], guard := none }) (v := .int .i64 (j : Int)) rfl (by kernel_rfl) (by kernel_rfl) (by kernel_rfl) (fun _ _ _ h => h) (Or.inl ⟨by rfl, by intro w hSw; go_simp⟩) (by assumption) ?_
          simp only [Act.put, List.setIfInBounds_toArray, List.set_cons_zero, List.set_cons_succ]
          refine wpAnyH_take (i := 2) (oi := { dst := some 85, op := Op.build 54 #[(0, Operand.const (Value.bool true)), (1, Operand.tmp 84)], type := 54, pos := "law.go:102", after := #[{ on := 1, ground := Ground.data }], guard := none }) (v := .agg #[.bool true, .int .i64 (j : Int)]) rfl (by kernel_rfl) (by kernel_rfl) (by kernel_rfl) (fun _ _ _ h => h) (Or.inl ⟨by rfl, by intro w hSw; go_simp⟩) (by assumption) ?_
          simp only [Act.put, List.setIfInBounds_toArray, List.set_cons_zero, List.set_cons_succ]
          refine wpAnyH_take (i := 3) (oi := { dst := some 86, op := Op.move (Operand.tmp 7), type := 3, pos := "law.go:102", after := #[], guard := none }) (v := .int .i64 (k : Int)) rfl (by kernel_rfl) (by kernel_rfl) (by kernel_rfl) (fun _ _ _ h => h) (Or.inl ⟨by rfl, by intro w hSw; go_simp⟩) (by assumption) ?_
          simp only [Act.put, List.setIfInBounds_toArray, List.set_cons_zero, List.set_cons_succ]
          refine wpAnyH_take (i := 5) (oi := { dst := some 88, op := Op.fieldAddr 68 (Operand.tmp 1) 1, type := 0, pos := "law.go:102", after := #[], guard := none }) (v := .pointer (some ⟨g1, 1, none⟩)) rfl (by kernel_rfl) (by kernel_rfl) (by kernel_rfl) (fun _ _ _ h => h) (Or.inl ⟨by rfl, by intro w hSw; go_simp⟩) (by assumption) ?_
          simp only [Act.put, List.setIfInBounds_toArray, List.set_cons_zero, List.set_cons_succ]
          refine wpAnyH_take (i := 6) (oi := { dst := some 89, op := Op.load 66 (Operand.tmp 88), type := 66, pos := "law.go:102", after := #[{ on := 5, ground := Ground.data }], guard := none }) (v := .pointer (some ⟨r.g, 0, none⟩)) rfl (by kernel_rfl) (by kernel_rfl) (by kernel_rfl) (fun _ _ _ h => h) (Or.inl ⟨by rfl, by intro w hSw; have hc : w.cell? ⟨g1, 1, none⟩ = some (.pointer (some ⟨r.g, 0, none⟩)) := hSw.1.cell 1; go_simp⟩) (by assumption) ?_
          simp only [Act.put, List.setIfInBounds_toArray, List.set_cons_zero, List.set_cons_succ]
          refine wpAnyH_take (i := 7) (oi := { dst := some 90, op := Op.nilCheck (Operand.tmp 89), type := 0, pos := "law.go:102", after := #[{ on := 6, ground := Ground.data }], guard := none }) (v := .pointer (some ⟨r.g, 0, none⟩)) rfl (by kernel_rfl) (by kernel_rfl) (by kernel_rfl) (fun _ _ _ h => h) (Or.inl ⟨by rfl, by intro w hSw; go_simp⟩) (by assumption) ?_
          simp only [Act.put, List.setIfInBounds_toArray, List.set_cons_zero, List.set_cons_succ]
          refine wpAnyH_take (i := 8) (oi := { dst := some 91, op := Op.fieldAddr 80 (Operand.tmp 90) 0, type := 0, pos := "law.go:102", after := #[{ on := 7, ground := Ground.data }], guard := none }) (v := .pointer (some ⟨r.g, 0, none⟩)) rfl (by kernel_rfl) (by kernel_rfl) (by kernel_rfl) (fun _ _ _ h => h) (Or.inl ⟨by rfl, by intro w hSw; go_simp⟩) (by assumption) ?_
          simp only [Act.put, List.setIfInBounds_toArray, List.set_cons_zero, List.set_cons_succ]
          refine wpAnyH_take (i := 9) (oi := { dst := some 92, op := Op.load 77 (Operand.tmp 91), type := 77, pos := "law.go:102", after := #[{ on := 8, ground := Ground.data }], guard := none }) (v := .pointer (some ⟨r.r.g, 0, none⟩)) rfl (by kernel_rfl) (by kernel_rfl) (by kernel_rfl) (fun _ _ _ h => h) (Or.inl ⟨by rfl, by intro w hSw; have hc := hSw.2; go_simp⟩) (by assumption) ?_
          simp only [Act.put, List.setIfInBounds_toArray, List.set_cons_zero, List.set_cons_succ]
          refine wpAnyH_take (i := 10) (oi := { dst := some 93, op := Op.move (Operand.tmp 6), type := 3, pos := "law.go:102", after := #[], guard := none }) (v := .int .i64 (j : Int)) rfl (by kernel_rfl) (by kernel_rfl) (by kernel_rfl) (fun _ _ _ h => h) (Or.inl ⟨by rfl, by intro w hSw; go_simp⟩) (by assumption) ?_
          simp only [Act.put, List.setIfInBounds_toArray, List.set_cons_zero, List.set_cons_succ]
          refine wpAnyH_take (i := 11) (oi := { dst := some 94, op := Op.build 121 #[(0, Operand.const (Value.bool true)), (1, Operand.tmp 93)], type := 121, pos := "law.go:102", after := #[{ on := 10, ground := Ground.data }], guard := none }) (v := .agg #[.bool true, .int .i64 (j : Int)]) rfl (by kernel_rfl) (by kernel_rfl) (by kernel_rfl) (fun _ _ _ h => h) (Or.inl ⟨by rfl, by intro w hSw; go_simp⟩) (by assumption) ?_
          simp only [Act.put, List.setIfInBounds_toArray, List.set_cons_zero, List.set_cons_succ]
          refine wpAnyH_take (i := 12) (oi := { dst := some 95, op := Op.move (Operand.tmp 7), type := 3, pos := "law.go:102", after := #[], guard := none }) (v := .int .i64 (k : Int)) rfl (by kernel_rfl) (by kernel_rfl) (by kernel_rfl) (fun _ _ _ h => h) (Or.inl ⟨by rfl, by intro w hSw; go_simp⟩) (by assumption) ?_
          simp only [Act.put, List.setIfInBounds_toArray, List.set_cons_zero, List.set_cons_succ]
          refine wpAnyH_ready (rs := [4]) (by kernel_rfl) (by simp) (AllReadyH.cons (o := { dst := some 87, op := Op.call { callee := Callee.value (Operand.func 40), args := #[Operand.tmp 83, Operand.tmp 85, Operand.tmp 86], argTypes := #[24, 54, 3] }, type := 27, pos := "law.go:102", after := #[{ on := 0, ground := Ground.data }, { on := 2, ground := Ground.data }, { on := 3, ground := Ground.data }], guard := none }) rfl (fun KQ hK => ?_) AllReadyH.nil)
          go_simp
          refine (HV.out.1 _ K1.out.own).mono ?_
          rintro e wb ⟨rfl, hb⟩
          have K2 := hid (K1.out.on hb)
          clear hb K1
          go_wp2_with fail
          refine hK.out _ _ K2.out.hold (fun hHeld => ?_)
          clear hK KQ
          try simp only [Act.put, List.setIfInBounds_toArray, List.set_cons_zero, List.set_cons_succ]
          refine wpAnyH_ready (rs := [13]) (by kernel_rfl) (by simp) (AllReadyH.cons (o := { dst := some 96, op := Op.call { callee := Callee.value (Operand.func 85), args := #[Operand.tmp 92, Operand.tmp 94, Operand.tmp 95], argTypes := #[77, 121, 3] }, type := 27, pos := "law.go:102", after := #[{ on := 9, ground := Ground.data }, { on := 11, ground := Ground.data }, { on := 12, ground := Ground.data }, { on := 4, ground := Ground.chain }], guard := none }) rfl (fun KQ hK => ?_) AllReadyH.nil)
          go_simp
          refine (HV.out.2 _ K2.out.doc).mono ?_
          rintro e wc ⟨rfl, hb⟩
          have K3 := hid (K2.out.on hb)
          clear hb K2
          go_wp2_with fail
          refine hK.out _ _ K3.out.hold (fun hHeld => ?_)
          clear hK KQ
          try simp only [Act.put, List.setIfInBounds_toArray, List.set_cons_zero, List.set_cons_succ]
          refine wpAnyH_take (i := 14) (oi := { dst := some 97, op := Op.binOp BinOp.neq 27 (Operand.tmp 87) (Operand.tmp 96) 27, type := 4, pos := "law.go:102", after := #[{ on := 4, ground := Ground.data }, { on := 13, ground := Ground.data }], guard := none }) (v := .bool false) rfl (by kernel_rfl) (by kernel_rfl) (by kernel_rfl) (fun _ _ _ h => h) (Or.inl ⟨by rfl, by intro w hSw; go_simp⟩) (by assumption) ?_
          simp only [Act.put, List.setIfInBounds_toArray, List.set_cons_zero, List.set_cons_succ]
          refine wpAnyH_done (by kernel_rfl) ?_ _
          go_wp2_with fail
          go_roundw
          case measure => have := HKK.out; simp [intOf] <;> omega
          case rel => exact ⟨k + 1, HKK.out, by simp, hid K3.out⟩
        · have hk4 : k = 1024 := by omega
          subst hk4
          clear hlt hk
          go_wp2_with fail
          go_roundw
          case measure => have := HJ.out; simp [intOf] <;> omega
          case rel => exact ⟨j + 1, HJ.out, by simp, hid HK.out⟩
    · have hjn : j = n := by omega
      subst hjn
      clear hlt hj
      go_wp2_with (go_at_call 82; refine (HRP.out _ HQ.out.doc).mono ?_; rintro e wx ⟨rfl, hw⟩; subst wx)
      go_ret
      exact ⟨rfl, HQ.out.bl⟩
end Go.Proofs.Ytajkhkaidjjioaa
namespace Go.Proofs.Ytajkhkaidjjioaa
open Go.RowKit
set_option maxHeartbeats 4000000
set_option maxRecDepth 100000
theorem under68 : Try.prog.underlying 68 = some (.struct (Try.prog.fieldsOf 68)) := by kernel_rfl
theorem size68 : (Try.prog.info? 68).map (·.size) = some 2 := by kernel_rfl
/-- A pair of the call's own. -/
structure NewP (W w : World) (p : Dp) (r : Rp) (d : DS) : Prop where
  own : DB w p d
  doc : RDB w r d
  bl : Below W.heap.size W w
  pn : ∀ k ∈ p.all, W.heap.size ≤ k
  rn : ∀ k ∈ r.all, W.heap.size ≤ k
  ap : ∀ k ∈ p.all, k ∉ r.all
theorem NewP.on {W w w' : World} {p : Dp} {r : Rp} {d : DS} (h : NewP W w p r d) (hb : Below w.heap.size w w') : NewP W w' p r d := ⟨h.own.on hb, h.doc.on hb, below_on h.bl hb, h.pn, h.rn, h.ap⟩
theorem NewP.back {W X w : World} {p : Dp} {r : Rp} {d : DS} (h : NewP X w p r d) (hb : Below W.heap.size W X) : NewP W w p r d := ⟨h.own, h.doc, below_on hb h.bl, fun k hk => Nat.le_trans hb.size (h.pn k hk), fun k hk => Nat.le_trans hb.size (h.rn k hk), h.ap⟩
theorem pair_new {X w1 w2 w3 w4 : World} {f : Fp} {r : Rf} {g gw : Nat} {p : Rp} {m : MS} {d : DS} (h1 : NewMem X w1 f m) (h2 : NewR w1 w2 r m) (hd : DB w3 ⟨g, gw, f⟩ d) (hg : w2.heap.size ≤ g) (hgw : w2.heap.size ≤ gw) (hb : ButL f.w w2 w3) (hn : NewD w3 w4 r p d) : NewP X w4 ⟨g, gw, f⟩ p d := by
  have s1 := h1.below.size
  have s2 := h2.below.size
  have s3 := hb.size
  have hfl : ∀ k ∈ f.all, k < w1.heap.size := h1.mem.lt
  have hrl : ∀ k ∈ r.all, k < w2.heap.size := h2.mem.lt
  have hpall : ∀ k ∈ (Dp.mk g gw f).all, k = g ∨ k = gw ∨ k ∈ f.all := fun k hk => by
    simpa only [Dp.all, List.mem_cons] using hk
  have hball : ∀ k ∈ p.all, k = p.g ∨ k = p.ge ∨ k ∈ p.r.all := fun k hk => by
    simpa only [Rp.all, List.mem_cons] using hk
  have hoff : ∀ k ∈ (Dp.mk g gw f).all, k ∉ r.all := fun k hk hm => by
    have h3 := hrl k hm
    have h4 := h2.new k hm
    rcases hpall k hk with rfl | rfl | hk
    · omega
    · omega
    · have := hfl k hk; omega
  have b1 : Below X.heap.size X w3 := (below_on h1.below h2.below).trans (hb.below (B := X.heap.size) (fun k hk => h1.new k (Fp.w_all hk)) (by omega))
  have b2 : Below X.heap.size X w4 := b1.trans (hn.but.below (B := X.heap.size) (fun k hk => by have := h2.new k hk; omega) b1.size)
  refine ⟨hd.frame hn.but hoff, hn.db, b2, fun k hk => ?_, fun k hk => ?_, fun k hk hm => ?_⟩
  · rcases hpall k hk with rfl | rfl | hk
    · omega
    · omega
    · exact h1.new k hk
  · rcases hball k hk with rfl | rfl | hk
    · have := hn.g; omega
    · have := hn.ge; omega
    · rcases hn.sub k hk with hk | hk
      · have := h2.new k hk; omega
      · omega
  · have h3 := hd.lt k hk
    rcases hball k hm with rfl | rfl | hm
    · have := hn.g; omega
    · have := hn.ge; omega
    · rcases hn.sub k hm with hm | hm
      · exact hoff k hk hm
      · omega
theorem fresh_any (W : World) (s : Nat) (s1 : 1 ≤ s) (s2 : s ≤ 64) :
    Calls Try.prog 31 #[.int .i64 (s : Int)] W fun x W' => ∃ p r, x = .returned (.tuple #[.agg #[ptr p.g, ptr r.g], .bool true]) ∧ NewP W W' p r (DS.fresh (MS.new s 1)) := by
  have BB : Hid (Below W.heap.size W (W.alloc (.cells #[.pointer none, .pointer none] 68))) := hid (below_one _ _)
  have B0 : Hid (Cel (W.alloc (.cells #[.pointer none, .pointer none] 68)) W.heap.size 68 [.pointer none, .pointer none]) := hid (Cel.new W 68 [.pointer none, .pointer none])
  have H1 := hid (fun w => new_any w s 1 s1 s2 (by decide) (by decide))
  have H2 := hid (fun w => rnew_any w s 1 s1 s2 (by decide) (by decide))
  have H3 := hid (fun w f (hm : Mem w f (MS.new s 1)) => newDB_any w f (MS.new s 1) hm (by show s ≤ 64; exact s2))
  have H4 := hid (fun w r (hm : RMem w r (MS.new s 1)) => rnewDB_any w r (MS.new s 1) hm (by show s ≤ 64; exact s2) (by show 0 < s; omega))
  have H5 := hid (fun w p (d : DS) (hw : DB w p d) => memory_any w p d hw)
  clear s1 s2
  generalize MS.new s 1 = m at *
  generalize DS.fresh m = d at *
  simp only [ptr] at *
  go_enter Try.func31, Try.ntmps31
  go_upto_region 1 with fail
  generalize W.alloc _ = X at *
  generalize hg2 : W.heap.size = g2 at B0 ⊢
  have HG2 := hid hg2
  clear hg2
  go_upto_region 5 with (first | (go_at_call 39; refine (H1.out _).mono ?_; rintro e w1 ⟨f, rfl, h1⟩; have N1 := hid h1; clear h1) | (go_at_call 62; refine (H2.out _).mono ?_; rintro e w2 ⟨r, rfl, h2⟩; have N2 := hid h2; clear h2))
  have HM2 := hid (N1.out.mem.on N2.out.below)
  go_upto_region 6 with (first | (go_at_call 33; refine (H3.out _ _ HM2.out).mono ?_; rintro e w3 ⟨g, gw, rfl, hd, hg, hgw, hb⟩; have N3 := hid (And.intro hd (And.intro hg (And.intro hgw hb))); have R3 := hid (N2.out.mem.frame hb (fun k hk hm => by have a := N2.out.new k hk; have b := N1.out.mem.lt k (Fp.w_all hm); omega)); clear hd hg hgw hb) | (go_at_call 36; refine (H4.out _ _ R3.out).mono ?_; rintro e w4 ⟨q, rfl, hn⟩; have N4 := hid (pair_new N1.out N2.out N3.out.1 N3.out.2.1 N3.out.2.2.1 N3.out.2.2.2 hn); clear hn) | (refine wpList_store_st rfl 68 _ _ rfl w4.heap.size [.pointer (some ⟨g, 0, none⟩), .pointer (some ⟨q.g, 0, none⟩)] rfl rfl (Cel.new w4 68 [.pointer none, .pointer none]) size68 rfl rfl ?_; intro w5 hc hb hs; have N5 := hid (N4.out.on ((below_one w4 _).trans (hb.below (B := w4.heap.size) (by simp) (by simp)))); have C5 := hid (And.intro hc N4.out.bl.size); clear hc hb hs N4))
  clear N1 N2 N3 HM2 R3
  generalize w4.heap.size = g8 at *
  have N6 := hid (N5.out.on (Below.refl _ _).drew)
  have C6 := hid (And.intro (C5.out.1.on (Below.refl _ _).drew) (And.intro (B0.out.on N6.out.bl) (And.intro BB.out (And.intro C5.out.2 B0.out.lt))))
  clear N5 C5 B0 BB
  have hpe := ptr_eq_self ⟨f.gm, 0, none⟩
  refine wp_region_held_drew (S := fun w => Cel w g8 68 [.pointer (some ⟨g, 0, none⟩), .pointer (some ⟨q.g, 0, none⟩)]) (by kernel_rfl) C6.out.1 (fun hHeld => ?_)
  generalize World.drew _ = w6 at *
  refine wpAnyH_take (i := 0) (oi := { dst := some 27, op := Op.load 68 (Operand.tmp 8), type := 68, pos := "law.go:118", after := #[], guard := none }) (v := .agg #[.pointer (some ⟨g, 0, none⟩), .pointer (some ⟨q.g, 0, none⟩)]) rfl (by kernel_rfl) (by kernel_rfl) (by kernel_rfl) (fun _ _ _ h => h) (yieldsIf_load_mid (by rfl) _ _ rfl _ _ rfl _ _ (fun w hSw => hSw.range) under68 rfl (by rw [size68]; rfl)) (by assumption) ?_
  simp only [Act.put, List.setIfInBounds_toArray, List.set_cons_zero, List.set_cons_succ]
  refine wpAnyH_take (i := 1) (oi := { dst := some 28, op := Op.fieldAddr 68 (Operand.tmp 8) 0, type := 0, pos := "law.go:118", after := #[], guard := none }) (v := .pointer (some ⟨g8, 0, none⟩)) rfl (by kernel_rfl) (by kernel_rfl) (by kernel_rfl) (fun _ _ _ h => h) (Or.inl ⟨by rfl, by intro w hSw; go_simp⟩) (by assumption) ?_
  simp only [Act.put, List.setIfInBounds_toArray, List.set_cons_zero, List.set_cons_succ]
  refine wpAnyH_take (i := 2) (oi := { dst := some 29, op := Op.load 23 (Operand.tmp 28), type := 23, pos := "law.go:118", after := #[{ on := 1, ground := Ground.data }], guard := none }) (v := .pointer (some ⟨g, 0, none⟩)) rfl (by kernel_rfl) (by kernel_rfl) (by kernel_rfl) (fun _ _ _ h => h) (Or.inl ⟨by rfl, by intro w hSw; have hc : w.cell? ⟨g8, 0, none⟩ = some (.pointer (some ⟨g, 0, none⟩)) := hSw.cell 0; go_simp⟩) (by assumption) ?_
  simp only [Act.put, List.setIfInBounds_toArray, List.set_cons_zero, List.set_cons_succ]
  refine wpAnyH_take (i := 3) (oi := { dst := some 30, op := Op.binOp BinOp.neq 23 (Operand.tmp 29) (Operand.const (Value.pointer none)) 23, type := 4, pos := "law.go:118", after := #[{ on := 2, ground := Ground.data }], guard := none }) (v := .bool true) rfl (by kernel_rfl) (by kernel_rfl) (by kernel_rfl) (fun _ _ _ h => h) (Or.inl ⟨by rfl, by intro w hSw; go_simp⟩) (by assumption) ?_
  simp only [Act.put, List.setIfInBounds_toArray, List.set_cons_zero, List.set_cons_succ]
  refine wpAnyH_take (i := 4) (oi := { dst := some 31, op := Op.move (Operand.tmp 30), type := 4, pos := "law.go:118", after := #[{ on := 3, ground := Ground.data }], guard := none }) (v := .bool true) rfl (by kernel_rfl) (by kernel_rfl) (by kernel_rfl) (fun _ _ _ h => h) (Or.inl ⟨by rfl, by intro w hSw; go_simp⟩) (by assumption) ?_
  simp only [Act.put, List.setIfInBounds_toArray, List.set_cons_zero, List.set_cons_succ]
  refine wpAnyH_take (i := 5) (oi := { dst := some 32, op := Op.fieldAddr 68 (Operand.tmp 8) 0, type := 0, pos := "law.go:118", after := #[{ on := 4, ground := Ground.guard }], guard := some (4, true) }) (v := .pointer (some ⟨g8, 0, none⟩)) rfl (by kernel_rfl) (by kernel_rfl) (by kernel_rfl) (fun _ _ _ h => h) (Or.inl ⟨by rfl, by intro w hSw; go_simp⟩) (by assumption) ?_
  simp only [Act.put, List.setIfInBounds_toArray, List.set_cons_zero, List.set_cons_succ]
  refine wpAnyH_take (i := 6) (oi := { dst := some 33, op := Op.load 23 (Operand.tmp 32), type := 23, pos := "law.go:118", after := #[{ on := 5, ground := Ground.data }, { on := 4, ground := Ground.guard }], guard := some (4, true) }) (v := .pointer (some ⟨g, 0, none⟩)) rfl (by kernel_rfl) (by kernel_rfl) (by kernel_rfl) (fun _ _ _ h => h) (Or.inl ⟨by rfl, by intro w hSw; have hc : w.cell? ⟨g8, 0, none⟩ = some (.pointer (some ⟨g, 0, none⟩)) := hSw.cell 0; go_simp⟩) (by assumption) ?_
  simp only [Act.put, List.setIfInBounds_toArray, List.set_cons_zero, List.set_cons_succ]
  refine wpAnyH_take (i := 8) (oi := { dst := some 35, op := Op.move (Operand.tmp 4), type := 24, pos := "law.go:118", after := #[{ on := 4, ground := Ground.guard }, { on := 11, ground := Ground.gcOnly Departure.lateStores }], guard := some (4, true) }) (v := .pointer (some ⟨f.gm, 0, none⟩)) rfl (by kernel_rfl) (by kernel_rfl) (by kernel_rfl) (fun _ _ _ h => h) (Or.inl ⟨by rfl, by intro w hSw; go_simp⟩) (by assumption) ?_
  simp only [Act.put, List.setIfInBounds_toArray, List.set_cons_zero, List.set_cons_succ]
  refine wpAnyH_ready (rs := [7]) (by kernel_rfl) (by simp) (AllReadyH.cons (o := { dst := some 34, op := Op.call { callee := Callee.value (Operand.func 13), args := #[Operand.tmp 33], argTypes := #[23] }, type := 24, pos := "law.go:118", after := #[{ on := 6, ground := Ground.data }, { on := 4, ground := Ground.chain }, { on := 4, ground := Ground.guard }], guard := some (4, true) }) rfl (fun KQ hK => ?_) AllReadyH.nil)
  go_simp
  refine (H5.out _ _ _ N6.out.own).mono ?_
  rintro e wx ⟨rfl, hw⟩
  subst wx
  go_wp2_with fail
  refine hK.out _ _ C6.out.1 (fun hHeld => ?_)
  clear hK KQ
  try simp only [Act.put, List.setIfInBounds_toArray, List.set_cons_zero, List.set_cons_succ]
  refine wpAnyH_take (i := 9) (oi := { dst := some 36, op := Op.binOp BinOp.eql 24 (Operand.tmp 34) (Operand.tmp 35) 24, type := 4, pos := "law.go:118", after := #[{ on := 7, ground := Ground.data }, { on := 8, ground := Ground.data }, { on := 4, ground := Ground.guard }, { on := 11, ground := Ground.gcOnly Departure.lateStores }], guard := some (4, true) }) (v := .bool true) rfl (by kernel_rfl) (by kernel_rfl) (by kernel_rfl) (fun _ _ _ h => h) (Or.inl ⟨by rfl, by intro w hSw; go_simp⟩) (by assumption) ?_
  simp only [Act.put, List.setIfInBounds_toArray, List.set_cons_zero, List.set_cons_succ]
  refine wpAnyH_take (i := 10) (oi := { dst := some 37, op := Op.pick (Operand.tmp 31) (Operand.tmp 36) (Operand.const (Value.bool false)), type := 4, pos := "law.go:118", after := #[{ on := 4, ground := Ground.data }, { on := 9, ground := Ground.data }, { on := 11, ground := Ground.gcOnly Departure.lateStores }], guard := none }) (v := .bool true) rfl (by kernel_rfl) (by kernel_rfl) (by kernel_rfl) (fun _ _ _ h => h) (Or.inl ⟨by rfl, by intro w hSw; go_simp⟩) (by assumption) ?_
  simp only [Act.put, List.setIfInBounds_toArray, List.set_cons_zero, List.set_cons_succ]
  refine wpAnyH_ready (rs := [11]) (by kernel_rfl) (by simp) (AllReadyH.cons (o := { dst := none, op := Op.store 68 (Operand.tmp 2) (Operand.tmp 27), type := 0, pos := "law.go:118", after := #[{ on := 0, ground := Ground.data }, { on := 7, ground := Ground.chain }, { on := 0, ground := Ground.phase }, { on := 1, ground := Ground.textOnly Departure.lateStores }, { on := 2, ground := Ground.textOnly Departure.lateStores }, { on := 3, ground := Ground.textOnly Departure.lateStores }, { on := 4, ground := Ground.textOnly Departure.lateStores }, { on := 5, ground := Ground.textOnly Departure.lateStores }, { on := 6, ground := Ground.textOnly Departure.lateStores }, { on := 7, ground := Ground.textOnly Departure.lateStoresUnsure }, { on := 8, ground := Ground.textOnly Departure.lateStores }, { on := 9, ground := Ground.textOnly Departure.lateStores }, { on := 10, ground := Ground.textOnly Departure.lateStores }], guard := none }) rfl (fun KQ hK => ?_) AllReadyH.nil)
  rw [if_pos (by rfl)]
  refine wp_store_st 68 _ _ rfl g2 [.pointer (some ⟨g, 0, none⟩), .pointer (some ⟨q.g, 0, none⟩)] rfl rfl C6.out.2.1 size68 rfl rfl ?_
  intro w7 hc hb hs
  have HNE : g8 ∉ [g2] := by rw [List.mem_singleton]; have a := C6.out.2.2.2.1; have b := C6.out.2.2.2.2; omega
  have N7 := hid (NewP.mk (N6.out.own.frame hb (fun k hk hm => by rw [List.mem_singleton] at hm; have a := N6.out.pn k hk; have b := C6.out.2.2.2.2; omega)) (N6.out.doc.frame hb (fun k hk hm => by rw [List.mem_singleton] at hm; have a := N6.out.rn k hk; have b := C6.out.2.2.2.2; omega)) ((below_on C6.out.2.2.1 N6.out.bl).trans (hb.below (B := W.heap.size) (fun k hk => by rw [List.mem_singleton] at hk; have := HG2.out; omega) (below_on C6.out.2.2.1 N6.out.bl).size)) (fun k hk => Nat.le_trans C6.out.2.2.1.size (N6.out.pn k hk)) (fun k hk => Nat.le_trans C6.out.2.2.1.size (N6.out.rn k hk)) N6.out.ap)
  have C7 := hid hc
  have C8 := hid (C6.out.1.but hb HNE)
  clear hc hb hs N6 C6 HNE
  refine hK.out _ _ C8.out (fun hHeld => ?_)
  clear hK KQ
  try simp only [Act.put]
  refine wpAnyH_ready (rs := [12]) (by kernel_rfl) (by simp) (AllReadyH.cons (o := { dst := some 3, op := Op.assign (Operand.tmp 37), type := 4, pos := "law.go:118", after := #[{ on := 10, ground := Ground.data }, { on := 11, ground := Ground.chain }, { on := 0, ground := Ground.phase }, { on := 1, ground := Ground.phase }, { on := 2, ground := Ground.phase }, { on := 3, ground := Ground.phase }, { on := 4, ground := Ground.phase }, { on := 5, ground := Ground.phase }, { on := 6, ground := Ground.phase }, { on := 7, ground := Ground.phase }, { on := 8, ground := Ground.phase }, { on := 9, ground := Ground.phase }, { on := 10, ground := Ground.phase }, { on := 11, ground := Ground.phase }], guard := none }) rfl (fun KQ hK => ?_) AllReadyH.nil)
  go_simp
  refine hK.out _ _ C8.out (fun hHeld => ?_)
  clear hK KQ
  try simp only [Act.put, List.setIfInBounds_toArray, List.set_cons_zero, List.set_cons_succ]
  refine wpAnyH_done (by kernel_rfl) ?_ _
  go_wp2_with fail
  exact ret_st2 rfl rfl g2 _ rfl C7.out under68 rfl size68 ⟨⟨g, gw, f⟩, q, rfl, N7.out⟩
end Go.Proofs.Ytajkhkaidjjioaa
