/- CpuLocal 5: its second half. -/
import Derived.Test.YteldpapacdbbiaaDoorD5
namespace Go.Proofs.YteldpapacdbbiaaDoor
open Go.RowKit
set_option maxHeartbeats 8000000
set_option maxRecDepth 100000
attribute [-simp] Tryd.isAgg26 Tryd.sizeOf26 Tryd.isAgg24 Tryd.isAgg28 Tryd.sizeOf28
theorem local_t2 (W w : World) (hT : Tb W) (B g3 g4 g8 gA : Nat) (q : Mq) (fa fb fc : Fp) (m mo : MS) (s : Out) (ps : Bool) (pp po : Int) (v : Value) (RD : List Pl) (SS : Bool) (TT : Pl) (h : T3 W w B g3 q fa fb fc s.m m mo) (hV : V2 w B gA s.f s.k s.a) (hk : Ks W w g4 g8 fa fb fc ps pp po v RD SS TT) (hU : mo.U) (hF : q.f.U) (hB : B ≤ w.heap.size) (hs : (stp mo q.l q.f).f = s.f ∧ (stp mo q.l q.f).k = s.k ∧ (stp mo q.l q.f).a = s.a) (hc : (stp mo q.l q.f).m.c - mo.c = s.m.c - m.c) (hc0 : 0 ≤ mo.c ∧ mo.c ≤ 144115188075855880) (hc1 : 0 ≤ (stp mo q.l q.f).m.c ∧ (stp mo q.l q.f).m.c ≤ 144115188075855880) (hc2 : 0 ≤ s.m.c ∧ s.m.c ≤ 144115188075855880) (hc3 : 0 ≤ m.c ∧ m.c ≤ 144115188075855880) (he : SS = true → (stp mo q.l q.f).m.word TT.1 TT.2.1 TT.2.2 = s.m.word TT.1 TT.2.1 TT.2.2) (K : Act → World → Prop) (hK : ∀ a w, Code.wp Tryd.prog (sfx 12 (Tryd.f5.body.getD .skip)) (bodyPost Tryd.prog Tryd.f5 fun x w' => x = .returned (.bool true) ∧ Below W.heap.size W w') a w → K a w) (z0 z1 z2 z5 z6 z14 z15 z16 z17 z18 z19 z20 z21 z22 z23 z24 z25 z26 z27 z28 z29 z30 z31 z32 z33 z34 z35 z36 z37 z38 z39 z40 z41 z42 z43 z44 z45 z46 z47 z48 z49 z50 z51 z52 z53 z54 z55 z56 z57 z58 z59 z60 z61 z62 z63 z64 z65 z66 z67 z68 z69 z70 z71 z72 z73 z74 z75 z76 z77 z78 z79 z80 z81 z82 z83 z84 z85 z86 z87 z88 z89 z90 z91 z92 z93 z94 z95 z96 z97 z98 z99 z100 z101 z102 z103 z104 z105 z106 z107 z108 z109 z110 z111 z112 z113 z114 z115 z116 z117 z118 z119 z120 z121 z122 : Value) :
    Code.wp Tryd.prog (hdx 11 (Tryd.f5.body.getD .skip)) (Exit.then K (bodyPost Tryd.prog Tryd.f5 fun x w' => x = .returned (.bool true) ∧ Below W.heap.size W w')) { tmps := #[z0, z1, z2, .pointer (some ⟨g3, 0, none⟩), .pointer (some ⟨g4, 0, none⟩), z5, z6, .pointer (some ⟨fa.gm, 0, none⟩), .pointer (some ⟨g8, 0, none⟩), .pointer (some ⟨fb.gm, 0, none⟩), .pointer (some ⟨fc.gm, 0, none⟩), .int .i64 mo.c, .pointer (some ⟨gA, 0, none⟩), .pointer (some ⟨gA + 1, 0, none⟩), z14, z15, z16, z17, z18, z19, z20, z21, z22, z23, z24, z25, z26, z27, z28, z29, z30, z31, z32, z33, z34, z35, z36, z37, z38, z39, z40, z41, z42, z43, z44, z45, z46, z47, z48, z49, z50, z51, z52, z53, z54, z55, z56, z57, z58, z59, z60, z61, z62, z63, z64, z65, z66, z67, z68, z69, z70, z71, z72, z73, z74, z75, z76, z77, z78, z79, z80, z81, z82, z83, z84, z85, z86, z87, z88, z89, z90, z91, z92, z93, z94, z95, z96, z97, z98, z99, z100, z101, z102, z103, z104, z105, z106, z107, z108, z109, z110, z111, z112, z113, z114, z115, z116, z117, z118, z119, z120, z121, z122], defers := [] } w := by
  have HT := hid hT
  have HV := hid hV
  have H := hid h
  have HK := hid hk
  have HBB := hid hB
  have HS := hid (h.stepC hT hU q.l q.f hF)
  have HE := hid he
  have c3 : w.cell? ⟨g3, 3, none⟩ = some (.int .i64 q.l) := h.cq.cell 3
  clear hT hV h hk hU hF hB he
  generalize stp mo q.l q.f = o at *
  obtain ⟨e1, e2, e3⟩ := hs
  obtain ⟨of, ok, oa, om⟩ := o
  simp only at *
  subst e1 e2 e3
  obtain ⟨x0, x1⟩ := hc0
  obtain ⟨x2, x3⟩ := hc1
  obtain ⟨x4, x5⟩ := hc2
  obtain ⟨x6, x7⟩ := hc3
  have hcn : (om.c - mo.c != s.m.c - m.c) = false := by simp; omega
  clear hc
  unfold ptr at HS
  refine hd_walk 11 rfl (by simp only [hdx, sfx]; rfl) (by simp only [sfx]; rfl) hK ?_
  clear hK
  intro hK
  go_upto_region 15 with (first | (refine wpList_fa4 rfl _ rfl g3 rfl ?_) | (refine wpList_load_qf rfl _ rfl g3 q rfl H.out.cq ?_) | (go_at_call 11; refine HS.out.mono ?_; rintro e w1 ⟨rfl, ht1, hb1⟩; have H1 := hid ht1; have HV1 := hid (HV.out.but hb1 H.out.hw.2.2); have HK1 := hid (HK.out.bc hb1 H.out.lc); have HB1 : Hid (B ≤ w1.heap.size) := hid (Nat.le_trans HBB.out hb1.size); have HT1 := hid (Two.new w1); simp only [zf, evc] at HT1; clear ht1 hb1 c3; unfold Out.v) | (refine wpList_store_f rfl _ _ rfl w1.heap.size F.zero s.f rfl rfl HT1.out.c0 ?_; intro u1 hcu hbu hsu; have HU1 := hid (And.intro hcu hbu); have CU1 := hid (HT1.out.c1.but hbu (by simp)); clear hcu hbu hsu) | (refine wpList_store_st rfl 35 _ _ rfl (w1.heap.size + 1) (evc s.k s.a) rfl rfl CU1.out size35 rfl rfl ?_; intro v1 hcv hbv hsv; have HF1 := hid (HT1.out.fill (Nat.le_refl _) HU1.out.1 HU1.out.2 hcv hbv); clear hcv hbv hsv))
  try simp only [Act.put]
  have H2 := hid (H1.out.on HF1.out.below)
  have HV2 := hid (HV1.out.on HF1.out.below)
  have HK2 := hid (HK1.out.on HF1.out.below)
  have HX2 := hid (HF1.out.v2 HB1.out)
  clear H HV HK HS H1 HV1 HK1 HT1 HF1 HB1 HBB HU1 CU1 HT
  generalize w1.heap.size = gB at *
  have e0 : v1.cell? ⟨gB + 1, 0, none⟩ = some (.int .i64 s.k) := HX2.out.c1.cell 0
  have e1 : v1.cell? ⟨gB + 1, 1, none⟩ = some (.int .u32 s.a) := HX2.out.c1.cell 1
  have d0 : v1.cell? ⟨gA + 1, 0, none⟩ = some (.int .i64 s.k) := HV2.out.c1.cell 0
  have d1 : v1.cell? ⟨gA + 1, 1, none⟩ = some (.int .u32 s.a) := HV2.out.c1.cell 1
  have HMa := hid (fun x (hx : Mem x fa s.m) => meter_any x fa s.m hx)
  have HMb := hid (fun x (hx : Mem x fb m) => meter_any x fb m hx)
  have HMc := hid (fun x (hx : Mem x fc om) => meter_any x fc om hx)
  have HPa := hid (fun x (hx : Mem x fa s.m) => peek_any x fa s.m hx TT.1 TT.2.1 TT.2.2)
  have HPc := hid (fun x (hx : Mem x fc om) => peek_any x fc om hx TT.1 TT.2.1 TT.2.2)
  unfold ptr at HMa HMb HMc
  unfold ptr fr at HPa HPc
  go_upto_region 17 with (first | (refine wpList_load_f rfl _ rfl gB s.f rfl HX2.out.c0 ?_) | (refine wpList_load_f rfl _ rfl gA s.f rfl HV2.out.c0 ?_) | (refine wpList_neq_fg (by rfl) _ _ rfl s.f s.f rfl rfl false (by rw [F.same_self]; rfl) ?_) | (go_at_call 13; first | (refine (HMa.out _ H2.out.a).mono ?_; rintro e wq ⟨rfl, rfl⟩) | (refine (HMb.out _ H2.out.b).mono ?_; rintro e wq ⟨rfl, rfl⟩) | (refine (HMc.out _ H2.out.c).mono ?_; rintro e wq ⟨rfl, rfl⟩)))
  have HD := hid (And.intro (H2.out.on (Below.refl _ _).drew) (HK2.out.on (Below.refl _ _).drew))
  clear e0 e1 d0 d1 H2 HK2 HV2 HX2 HMa HMb HMc hcn x0 x1 x2 x3 x4 x5 x6 x7
  cases SS with
  | false =>
    refine wp_region_held_drew (S := fun x => Cel x g8 64 (rcs v false TT.1 TT.2.1 TT.2.2)) (by kernel_rfl) HD.out.2.c8 (fun hHeld => ?_)
    refine wpAnyH_take (i := 0) (oi := { dst := some 101, op := Op.fieldAddr 64 (Operand.tmp 8) 1, type := 0, pos := "outright.go:131", after := #[], guard := none }) (v := .pointer (some ⟨g8, 1, none⟩)) rfl (by kernel_rfl) (by kernel_rfl) (by kernel_rfl) (fun _ _ _ h => h) (Or.inl ⟨by rfl, by intro w hSw; go_simp⟩) (by assumption) ?_
    simp only [Act.put, List.setIfInBounds_toArray, List.set_cons_zero, List.set_cons_succ]
    refine wpAnyH_take (i := 1) (oi := { dst := some 102, op := Op.load 4 (Operand.tmp 101), type := 4, pos := "outright.go:131", after := #[{ on := 0, ground := Ground.data }], guard := none }) (v := .bool false) rfl (by kernel_rfl) (by kernel_rfl) (by kernel_rfl) (fun _ _ _ h => h) (Or.inl ⟨by rfl, by intro w hSw; have h1 := (cel5 hSw).2.1; have h2 := (cel5 hSw).2.2.1; have h3 := (cel5 hSw).2.2.2.1; have h4 := (cel5 hSw).2.2.2.2; go_simp⟩) (by assumption) ?_
    simp only [Act.put, List.setIfInBounds_toArray, List.set_cons_zero, List.set_cons_succ]
    refine wpAnyH_take (i := 2) (oi := { dst := some 103, op := Op.unOp UnOp.not 4 (Operand.tmp 102), type := 4, pos := "outright.go:131", after := #[{ on := 1, ground := Ground.data }], guard := none }) (v := .bool true) rfl (by kernel_rfl) (by kernel_rfl) (by kernel_rfl) (fun _ _ _ h => h) (Or.inl ⟨by rfl, by intro w hSw; go_simp⟩) (by assumption) ?_
    simp only [Act.put, List.setIfInBounds_toArray, List.set_cons_zero, List.set_cons_succ]
    refine wpAnyH_take (i := 3) (oi := { dst := some 104, op := Op.move (Operand.tmp 103), type := 4, pos := "outright.go:131", after := #[{ on := 2, ground := Ground.data }], guard := none }) (v := .bool true) rfl (by kernel_rfl) (by kernel_rfl) (by kernel_rfl) (fun _ _ _ h => h) (Or.inl ⟨by rfl, by intro w hSw; go_simp⟩) (by assumption) ?_
    simp only [Act.put, List.setIfInBounds_toArray, List.set_cons_zero, List.set_cons_succ]
    refine wpAnyH_take (i := 4) (oi := { dst := some 105, op := Op.move (Operand.tmp 10), type := 29, pos := "outright.go:131", after := #[{ on := 3, ground := Ground.guard }], guard := some (3, false) }) (v := undef) rfl (by kernel_rfl) (by kernel_rfl) (by kernel_rfl) (fun _ _ _ h => h) (Or.inr ⟨by rfl, rfl⟩) (by assumption) ?_
    simp only [Act.put, List.setIfInBounds_toArray, List.set_cons_zero, List.set_cons_succ]
    refine wpAnyH_take (i := 5) (oi := { dst := some 106, op := Op.fieldAddr 64 (Operand.tmp 8) 2, type := 0, pos := "outright.go:131", after := #[{ on := 3, ground := Ground.guard }], guard := some (3, false) }) (v := undef) rfl (by kernel_rfl) (by kernel_rfl) (by kernel_rfl) (fun _ _ _ h => h) (Or.inr ⟨by rfl, rfl⟩) (by assumption) ?_
    simp only [Act.put, List.setIfInBounds_toArray, List.set_cons_zero, List.set_cons_succ]
    refine wpAnyH_take (i := 6) (oi := { dst := some 107, op := Op.fieldAddr 48 (Operand.tmp 106) 0, type := 0, pos := "outright.go:131", after := #[{ on := 5, ground := Ground.data }, { on := 3, ground := Ground.guard }], guard := some (3, false) }) (v := undef) rfl (by kernel_rfl) (by kernel_rfl) (by kernel_rfl) (fun _ _ _ h => h) (Or.inr ⟨by rfl, rfl⟩) (by assumption) ?_
    simp only [Act.put, List.setIfInBounds_toArray, List.set_cons_zero, List.set_cons_succ]
    refine wpAnyH_take (i := 7) (oi := { dst := some 108, op := Op.load 46 (Operand.tmp 107), type := 46, pos := "outright.go:131", after := #[{ on := 6, ground := Ground.data }, { on := 3, ground := Ground.guard }], guard := some (3, false) }) (v := undef) rfl (by kernel_rfl) (by kernel_rfl) (by kernel_rfl) (fun _ _ _ h => h) (Or.inr ⟨by rfl, rfl⟩) (by assumption) ?_
    simp only [Act.put, List.setIfInBounds_toArray, List.set_cons_zero, List.set_cons_succ]
    refine wpAnyH_take (i := 8) (oi := { dst := some 109, op := Op.fieldAddr 64 (Operand.tmp 8) 2, type := 0, pos := "outright.go:131", after := #[{ on := 3, ground := Ground.guard }], guard := some (3, false) }) (v := undef) rfl (by kernel_rfl) (by kernel_rfl) (by kernel_rfl) (fun _ _ _ h => h) (Or.inr ⟨by rfl, rfl⟩) (by assumption) ?_
    simp only [Act.put, List.setIfInBounds_toArray, List.set_cons_zero, List.set_cons_succ]
    refine wpAnyH_take (i := 9) (oi := { dst := some 110, op := Op.fieldAddr 48 (Operand.tmp 109) 1, type := 0, pos := "outright.go:131", after := #[{ on := 8, ground := Ground.data }, { on := 3, ground := Ground.guard }], guard := some (3, false) }) (v := undef) rfl (by kernel_rfl) (by kernel_rfl) (by kernel_rfl) (fun _ _ _ h => h) (Or.inr ⟨by rfl, rfl⟩) (by assumption) ?_
    simp only [Act.put, List.setIfInBounds_toArray, List.set_cons_zero, List.set_cons_succ]
    refine wpAnyH_take (i := 10) (oi := { dst := some 111, op := Op.load 3 (Operand.tmp 110), type := 3, pos := "outright.go:131", after := #[{ on := 9, ground := Ground.data }, { on := 3, ground := Ground.guard }], guard := some (3, false) }) (v := undef) rfl (by kernel_rfl) (by kernel_rfl) (by kernel_rfl) (fun _ _ _ h => h) (Or.inr ⟨by rfl, rfl⟩) (by assumption) ?_
    simp only [Act.put, List.setIfInBounds_toArray, List.set_cons_zero, List.set_cons_succ]
    refine wpAnyH_take (i := 11) (oi := { dst := some 112, op := Op.call { callee := Callee.value (Operand.func 16), args := #[Operand.tmp 105, Operand.tmp 108, Operand.tmp 111], argTypes := #[29, 46, 3] }, type := 23, pos := "outright.go:131", after := #[{ on := 4, ground := Ground.data }, { on := 7, ground := Ground.data }, { on := 10, ground := Ground.data }, { on := 3, ground := Ground.chain }, { on := 3, ground := Ground.guard }], guard := some (3, false) }) (v := undef) rfl (by kernel_rfl) (by kernel_rfl) (by kernel_rfl) (fun _ _ _ h => h) (Or.inr ⟨by rfl, rfl⟩) (by assumption) ?_
    simp only [Act.put, List.setIfInBounds_toArray, List.set_cons_zero, List.set_cons_succ]
    refine wpAnyH_take (i := 12) (oi := { dst := some 113, op := Op.move (Operand.tmp 7), type := 29, pos := "outright.go:131", after := #[{ on := 3, ground := Ground.guard }], guard := some (3, false) }) (v := undef) rfl (by kernel_rfl) (by kernel_rfl) (by kernel_rfl) (fun _ _ _ h => h) (Or.inr ⟨by rfl, rfl⟩) (by assumption) ?_
    simp only [Act.put, List.setIfInBounds_toArray, List.set_cons_zero, List.set_cons_succ]
    refine wpAnyH_take (i := 13) (oi := { dst := some 114, op := Op.fieldAddr 64 (Operand.tmp 8) 2, type := 0, pos := "outright.go:131", after := #[{ on := 3, ground := Ground.guard }], guard := some (3, false) }) (v := undef) rfl (by kernel_rfl) (by kernel_rfl) (by kernel_rfl) (fun _ _ _ h => h) (Or.inr ⟨by rfl, rfl⟩) (by assumption) ?_
    simp only [Act.put, List.setIfInBounds_toArray, List.set_cons_zero, List.set_cons_succ]
    refine wpAnyH_take (i := 14) (oi := { dst := some 115, op := Op.fieldAddr 48 (Operand.tmp 114) 0, type := 0, pos := "outright.go:131", after := #[{ on := 13, ground := Ground.data }, { on := 3, ground := Ground.guard }], guard := some (3, false) }) (v := undef) rfl (by kernel_rfl) (by kernel_rfl) (by kernel_rfl) (fun _ _ _ h => h) (Or.inr ⟨by rfl, rfl⟩) (by assumption) ?_
    simp only [Act.put, List.setIfInBounds_toArray, List.set_cons_zero, List.set_cons_succ]
    refine wpAnyH_take (i := 15) (oi := { dst := some 116, op := Op.load 46 (Operand.tmp 115), type := 46, pos := "outright.go:131", after := #[{ on := 14, ground := Ground.data }, { on := 3, ground := Ground.guard }], guard := some (3, false) }) (v := undef) rfl (by kernel_rfl) (by kernel_rfl) (by kernel_rfl) (fun _ _ _ h => h) (Or.inr ⟨by rfl, rfl⟩) (by assumption) ?_
    simp only [Act.put, List.setIfInBounds_toArray, List.set_cons_zero, List.set_cons_succ]
    refine wpAnyH_take (i := 16) (oi := { dst := some 117, op := Op.fieldAddr 64 (Operand.tmp 8) 2, type := 0, pos := "outright.go:131", after := #[{ on := 3, ground := Ground.guard }], guard := some (3, false) }) (v := undef) rfl (by kernel_rfl) (by kernel_rfl) (by kernel_rfl) (fun _ _ _ h => h) (Or.inr ⟨by rfl, rfl⟩) (by assumption) ?_
    simp only [Act.put, List.setIfInBounds_toArray, List.set_cons_zero, List.set_cons_succ]
    refine wpAnyH_take (i := 17) (oi := { dst := some 118, op := Op.fieldAddr 48 (Operand.tmp 117) 1, type := 0, pos := "outright.go:131", after := #[{ on := 16, ground := Ground.data }, { on := 3, ground := Ground.guard }], guard := some (3, false) }) (v := undef) rfl (by kernel_rfl) (by kernel_rfl) (by kernel_rfl) (fun _ _ _ h => h) (Or.inr ⟨by rfl, rfl⟩) (by assumption) ?_
    simp only [Act.put, List.setIfInBounds_toArray, List.set_cons_zero, List.set_cons_succ]
    refine wpAnyH_take (i := 18) (oi := { dst := some 119, op := Op.load 3 (Operand.tmp 118), type := 3, pos := "outright.go:131", after := #[{ on := 17, ground := Ground.data }, { on := 3, ground := Ground.guard }], guard := some (3, false) }) (v := undef) rfl (by kernel_rfl) (by kernel_rfl) (by kernel_rfl) (fun _ _ _ h => h) (Or.inr ⟨by rfl, rfl⟩) (by assumption) ?_
    simp only [Act.put, List.setIfInBounds_toArray, List.set_cons_zero, List.set_cons_succ]
    refine wpAnyH_take (i := 19) (oi := { dst := some 120, op := Op.call { callee := Callee.value (Operand.func 16), args := #[Operand.tmp 113, Operand.tmp 116, Operand.tmp 119], argTypes := #[29, 46, 3] }, type := 23, pos := "outright.go:131", after := #[{ on := 12, ground := Ground.data }, { on := 15, ground := Ground.data }, { on := 18, ground := Ground.data }, { on := 11, ground := Ground.chain }, { on := 3, ground := Ground.guard }], guard := some (3, false) }) (v := undef) rfl (by kernel_rfl) (by kernel_rfl) (by kernel_rfl) (fun _ _ _ h => h) (Or.inr ⟨by rfl, rfl⟩) (by assumption) ?_
    simp only [Act.put, List.setIfInBounds_toArray, List.set_cons_zero, List.set_cons_succ]
    refine wpAnyH_take (i := 20) (oi := { dst := some 121, op := Op.binOp BinOp.eql 23 (Operand.tmp 112) (Operand.tmp 120) 23, type := 4, pos := "outright.go:131", after := #[{ on := 11, ground := Ground.data }, { on := 19, ground := Ground.data }, { on := 3, ground := Ground.guard }], guard := some (3, false) }) (v := undef) rfl (by kernel_rfl) (by kernel_rfl) (by kernel_rfl) (fun _ _ _ h => h) (Or.inr ⟨by rfl, rfl⟩) (by assumption) ?_
    simp only [Act.put, List.setIfInBounds_toArray, List.set_cons_zero, List.set_cons_succ]
    refine wpAnyH_take (i := 21) (oi := { dst := some 122, op := Op.pick (Operand.tmp 104) (Operand.const (Value.bool true)) (Operand.tmp 121), type := 4, pos := "outright.go:131", after := #[{ on := 3, ground := Ground.data }, { on := 20, ground := Ground.data }], guard := none }) (v := .bool true) rfl (by kernel_rfl) (by kernel_rfl) (by kernel_rfl) (fun _ _ _ h => h) (Or.inl ⟨by rfl, by intro w hSw; go_simp⟩) (by assumption) ?_
    simp only [Act.put, List.setIfInBounds_toArray, List.set_cons_zero, List.set_cons_succ]
    refine wpAnyH_ready (rs := [22]) (by kernel_rfl) (by simp) (AllReadyH.cons (o := { dst := some 6, op := Op.assign (Operand.tmp 122), type := 4, pos := "outright.go:131", after := #[{ on := 21, ground := Ground.data }, { on := 19, ground := Ground.chain }, { on := 0, ground := Ground.phase }, { on := 1, ground := Ground.phase }, { on := 2, ground := Ground.phase }, { on := 3, ground := Ground.phase }, { on := 4, ground := Ground.phase }, { on := 5, ground := Ground.phase }, { on := 6, ground := Ground.phase }, { on := 7, ground := Ground.phase }, { on := 8, ground := Ground.phase }, { on := 9, ground := Ground.phase }, { on := 10, ground := Ground.phase }, { on := 11, ground := Ground.phase }, { on := 12, ground := Ground.phase }, { on := 13, ground := Ground.phase }, { on := 14, ground := Ground.phase }, { on := 15, ground := Ground.phase }, { on := 16, ground := Ground.phase }, { on := 17, ground := Ground.phase }, { on := 18, ground := Ground.phase }, { on := 19, ground := Ground.phase }, { on := 20, ground := Ground.phase }, { on := 21, ground := Ground.phase }], guard := none }) rfl (fun KQ hK => ?_) AllReadyH.nil)
    go_simp
    refine hK.out _ _ HD.out.2.c8 (fun hHeld => ?_)
    clear hK KQ
    try simp only [Act.put, List.setIfInBounds_toArray, List.set_cons_zero, List.set_cons_succ]
    refine wpAnyH_done (by kernel_rfl) ?_ _
    go_wp2_with fail
    go_ret
    exact ⟨rfl, HD.out.1.below⟩
  | true =>
    have hE := HE.out rfl
    rw [hE] at HPc
    clear HE hE
    generalize s.m.word TT.1 TT.2.1 TT.2.2 = wv at *
    refine wp_region_held_drew (S := fun x => Cel x g8 64 (rcs v true TT.1 TT.2.1 TT.2.2)) (by kernel_rfl) HD.out.2.c8 (fun hHeld => ?_)
    refine wpAnyH_take (i := 0) (oi := { dst := some 101, op := Op.fieldAddr 64 (Operand.tmp 8) 1, type := 0, pos := "outright.go:131", after := #[], guard := none }) (v := .pointer (some ⟨g8, 1, none⟩)) rfl (by kernel_rfl) (by kernel_rfl) (by kernel_rfl) (fun _ _ _ h => h) (Or.inl ⟨by rfl, by intro w hSw; go_simp⟩) (by assumption) ?_
    simp only [Act.put, List.setIfInBounds_toArray, List.set_cons_zero, List.set_cons_succ]
    refine wpAnyH_take (i := 1) (oi := { dst := some 102, op := Op.load 4 (Operand.tmp 101), type := 4, pos := "outright.go:131", after := #[{ on := 0, ground := Ground.data }], guard := none }) (v := .bool true) rfl (by kernel_rfl) (by kernel_rfl) (by kernel_rfl) (fun _ _ _ h => h) (Or.inl ⟨by rfl, by intro w hSw; have h1 := (cel5 hSw).2.1; have h2 := (cel5 hSw).2.2.1; have h3 := (cel5 hSw).2.2.2.1; have h4 := (cel5 hSw).2.2.2.2; go_simp⟩) (by assumption) ?_
    simp only [Act.put, List.setIfInBounds_toArray, List.set_cons_zero, List.set_cons_succ]
    refine wpAnyH_take (i := 2) (oi := { dst := some 103, op := Op.unOp UnOp.not 4 (Operand.tmp 102), type := 4, pos := "outright.go:131", after := #[{ on := 1, ground := Ground.data }], guard := none }) (v := .bool false) rfl (by kernel_rfl) (by kernel_rfl) (by kernel_rfl) (fun _ _ _ h => h) (Or.inl ⟨by rfl, by intro w hSw; go_simp⟩) (by assumption) ?_
    simp only [Act.put, List.setIfInBounds_toArray, List.set_cons_zero, List.set_cons_succ]
    refine wpAnyH_take (i := 3) (oi := { dst := some 104, op := Op.move (Operand.tmp 103), type := 4, pos := "outright.go:131", after := #[{ on := 2, ground := Ground.data }], guard := none }) (v := .bool false) rfl (by kernel_rfl) (by kernel_rfl) (by kernel_rfl) (fun _ _ _ h => h) (Or.inl ⟨by rfl, by intro w hSw; go_simp⟩) (by assumption) ?_
    simp only [Act.put, List.setIfInBounds_toArray, List.set_cons_zero, List.set_cons_succ]
    refine wpAnyH_take (i := 4) (oi := { dst := some 105, op := Op.move (Operand.tmp 10), type := 29, pos := "outright.go:131", after := #[{ on := 3, ground := Ground.guard }], guard := some (3, false) }) (v := .pointer (some ⟨fc.gm, 0, none⟩)) rfl (by kernel_rfl) (by kernel_rfl) (by kernel_rfl) (fun _ _ _ h => h) (Or.inl ⟨by rfl, by intro w hSw; go_simp⟩) (by assumption) ?_
    simp only [Act.put, List.setIfInBounds_toArray, List.set_cons_zero, List.set_cons_succ]
    refine wpAnyH_take (i := 5) (oi := { dst := some 106, op := Op.fieldAddr 64 (Operand.tmp 8) 2, type := 0, pos := "outright.go:131", after := #[{ on := 3, ground := Ground.guard }], guard := some (3, false) }) (v := .pointer (some ⟨g8, 2, none⟩)) rfl (by kernel_rfl) (by kernel_rfl) (by kernel_rfl) (fun _ _ _ h => h) (Or.inl ⟨by rfl, by intro w hSw; go_simp⟩) (by assumption) ?_
    simp only [Act.put, List.setIfInBounds_toArray, List.set_cons_zero, List.set_cons_succ]
    refine wpAnyH_take (i := 6) (oi := { dst := some 107, op := Op.fieldAddr 48 (Operand.tmp 106) 0, type := 0, pos := "outright.go:131", after := #[{ on := 5, ground := Ground.data }, { on := 3, ground := Ground.guard }], guard := some (3, false) }) (v := .pointer (some ⟨g8, 2, none⟩)) rfl (by kernel_rfl) (by kernel_rfl) (by kernel_rfl) (fun _ _ _ h => h) (Or.inl ⟨by rfl, by intro w hSw; go_simp⟩) (by assumption) ?_
    simp only [Act.put, List.setIfInBounds_toArray, List.set_cons_zero, List.set_cons_succ]
    refine wpAnyH_take (i := 7) (oi := { dst := some 108, op := Op.load 46 (Operand.tmp 107), type := 46, pos := "outright.go:131", after := #[{ on := 6, ground := Ground.data }, { on := 3, ground := Ground.guard }], guard := some (3, false) }) (v := .agg #[.bool TT.1, .int .i64 TT.2.1]) rfl (by kernel_rfl) (by kernel_rfl) (by kernel_rfl) (fun _ _ _ h => h) (Or.inl ⟨by rfl, by intro w hSw; have h1 := (cel5 hSw).2.1; have h2 := (cel5 hSw).2.2.1; have h3 := (cel5 hSw).2.2.2.1; have h4 := (cel5 hSw).2.2.2.2; go_simp⟩) (by assumption) ?_
    simp only [Act.put, List.setIfInBounds_toArray, List.set_cons_zero, List.set_cons_succ]
    refine wpAnyH_take (i := 8) (oi := { dst := some 109, op := Op.fieldAddr 64 (Operand.tmp 8) 2, type := 0, pos := "outright.go:131", after := #[{ on := 3, ground := Ground.guard }], guard := some (3, false) }) (v := .pointer (some ⟨g8, 2, none⟩)) rfl (by kernel_rfl) (by kernel_rfl) (by kernel_rfl) (fun _ _ _ h => h) (Or.inl ⟨by rfl, by intro w hSw; go_simp⟩) (by assumption) ?_
    simp only [Act.put, List.setIfInBounds_toArray, List.set_cons_zero, List.set_cons_succ]
    refine wpAnyH_take (i := 9) (oi := { dst := some 110, op := Op.fieldAddr 48 (Operand.tmp 109) 1, type := 0, pos := "outright.go:131", after := #[{ on := 8, ground := Ground.data }, { on := 3, ground := Ground.guard }], guard := some (3, false) }) (v := .pointer (some ⟨g8, 4, none⟩)) rfl (by kernel_rfl) (by kernel_rfl) (by kernel_rfl) (fun _ _ _ h => h) (Or.inl ⟨by rfl, by intro w hSw; go_simp⟩) (by assumption) ?_
    simp only [Act.put, List.setIfInBounds_toArray, List.set_cons_zero, List.set_cons_succ]
    refine wpAnyH_take (i := 10) (oi := { dst := some 111, op := Op.load 3 (Operand.tmp 110), type := 3, pos := "outright.go:131", after := #[{ on := 9, ground := Ground.data }, { on := 3, ground := Ground.guard }], guard := some (3, false) }) (v := .int .i64 TT.2.2) rfl (by kernel_rfl) (by kernel_rfl) (by kernel_rfl) (fun _ _ _ h => h) (Or.inl ⟨by rfl, by intro w hSw; have h1 := (cel5 hSw).2.1; have h2 := (cel5 hSw).2.2.1; have h3 := (cel5 hSw).2.2.2.1; have h4 := (cel5 hSw).2.2.2.2; go_simp⟩) (by assumption) ?_
    simp only [Act.put, List.setIfInBounds_toArray, List.set_cons_zero, List.set_cons_succ]
    refine wpAnyH_take (i := 12) (oi := { dst := some 113, op := Op.move (Operand.tmp 7), type := 29, pos := "outright.go:131", after := #[{ on := 3, ground := Ground.guard }], guard := some (3, false) }) (v := .pointer (some ⟨fa.gm, 0, none⟩)) rfl (by kernel_rfl) (by kernel_rfl) (by kernel_rfl) (fun _ _ _ h => h) (Or.inl ⟨by rfl, by intro w hSw; go_simp⟩) (by assumption) ?_
    simp only [Act.put, List.setIfInBounds_toArray, List.set_cons_zero, List.set_cons_succ]
    refine wpAnyH_take (i := 13) (oi := { dst := some 114, op := Op.fieldAddr 64 (Operand.tmp 8) 2, type := 0, pos := "outright.go:131", after := #[{ on := 3, ground := Ground.guard }], guard := some (3, false) }) (v := .pointer (some ⟨g8, 2, none⟩)) rfl (by kernel_rfl) (by kernel_rfl) (by kernel_rfl) (fun _ _ _ h => h) (Or.inl ⟨by rfl, by intro w hSw; go_simp⟩) (by assumption) ?_
    simp only [Act.put, List.setIfInBounds_toArray, List.set_cons_zero, List.set_cons_succ]
    refine wpAnyH_take (i := 14) (oi := { dst := some 115, op := Op.fieldAddr 48 (Operand.tmp 114) 0, type := 0, pos := "outright.go:131", after := #[{ on := 13, ground := Ground.data }, { on := 3, ground := Ground.guard }], guard := some (3, false) }) (v := .pointer (some ⟨g8, 2, none⟩)) rfl (by kernel_rfl) (by kernel_rfl) (by kernel_rfl) (fun _ _ _ h => h) (Or.inl ⟨by rfl, by intro w hSw; go_simp⟩) (by assumption) ?_
    simp only [Act.put, List.setIfInBounds_toArray, List.set_cons_zero, List.set_cons_succ]
    refine wpAnyH_take (i := 15) (oi := { dst := some 116, op := Op.load 46 (Operand.tmp 115), type := 46, pos := "outright.go:131", after := #[{ on := 14, ground := Ground.data }, { on := 3, ground := Ground.guard }], guard := some (3, false) }) (v := .agg #[.bool TT.1, .int .i64 TT.2.1]) rfl (by kernel_rfl) (by kernel_rfl) (by kernel_rfl) (fun _ _ _ h => h) (Or.inl ⟨by rfl, by intro w hSw; have h1 := (cel5 hSw).2.1; have h2 := (cel5 hSw).2.2.1; have h3 := (cel5 hSw).2.2.2.1; have h4 := (cel5 hSw).2.2.2.2; go_simp⟩) (by assumption) ?_
    simp only [Act.put, List.setIfInBounds_toArray, List.set_cons_zero, List.set_cons_succ]
    refine wpAnyH_take (i := 16) (oi := { dst := some 117, op := Op.fieldAddr 64 (Operand.tmp 8) 2, type := 0, pos := "outright.go:131", after := #[{ on := 3, ground := Ground.guard }], guard := some (3, false) }) (v := .pointer (some ⟨g8, 2, none⟩)) rfl (by kernel_rfl) (by kernel_rfl) (by kernel_rfl) (fun _ _ _ h => h) (Or.inl ⟨by rfl, by intro w hSw; go_simp⟩) (by assumption) ?_
    simp only [Act.put, List.setIfInBounds_toArray, List.set_cons_zero, List.set_cons_succ]
    refine wpAnyH_take (i := 17) (oi := { dst := some 118, op := Op.fieldAddr 48 (Operand.tmp 117) 1, type := 0, pos := "outright.go:131", after := #[{ on := 16, ground := Ground.data }, { on := 3, ground := Ground.guard }], guard := some (3, false) }) (v := .pointer (some ⟨g8, 4, none⟩)) rfl (by kernel_rfl) (by kernel_rfl) (by kernel_rfl) (fun _ _ _ h => h) (Or.inl ⟨by rfl, by intro w hSw; go_simp⟩) (by assumption) ?_
    simp only [Act.put, List.setIfInBounds_toArray, List.set_cons_zero, List.set_cons_succ]
    refine wpAnyH_take (i := 18) (oi := { dst := some 119, op := Op.load 3 (Operand.tmp 118), type := 3, pos := "outright.go:131", after := #[{ on := 17, ground := Ground.data }, { on := 3, ground := Ground.guard }], guard := some (3, false) }) (v := .int .i64 TT.2.2) rfl (by kernel_rfl) (by kernel_rfl) (by kernel_rfl) (fun _ _ _ h => h) (Or.inl ⟨by rfl, by intro w hSw; have h1 := (cel5 hSw).2.1; have h2 := (cel5 hSw).2.2.1; have h3 := (cel5 hSw).2.2.2.1; have h4 := (cel5 hSw).2.2.2.2; go_simp⟩) (by assumption) ?_
    simp only [Act.put, List.setIfInBounds_toArray, List.set_cons_zero, List.set_cons_succ]
    refine wpAnyH_ready (rs := [11]) (by kernel_rfl) (by simp) (AllReadyH.cons (o := { dst := some 112, op := Op.call { callee := Callee.value (Operand.func 16), args := #[Operand.tmp 105, Operand.tmp 108, Operand.tmp 111], argTypes := #[29, 46, 3] }, type := 23, pos := "outright.go:131", after := #[{ on := 4, ground := Ground.data }, { on := 7, ground := Ground.data }, { on := 10, ground := Ground.data }, { on := 3, ground := Ground.chain }, { on := 3, ground := Ground.guard }], guard := some (3, false) }) rfl (fun KQ hK => ?_) AllReadyH.nil)
    go_simp
    refine (HPc.out _ HD.out.1.c).mono ?_
    rintro e w11 ⟨rfl, hb9⟩
    have Hw11 := hid (And.intro (HD.out.1.on hb9) (HD.out.2.on hb9))
    clear hb9
    go_wp2_with fail
    refine hK.out _ _ Hw11.out.2.c8 (fun hHeld => ?_)
    clear hK KQ
    try simp only [Act.put, List.setIfInBounds_toArray, List.set_cons_zero, List.set_cons_succ]
    refine wpAnyH_ready (rs := [19]) (by kernel_rfl) (by simp) (AllReadyH.cons (o := { dst := some 120, op := Op.call { callee := Callee.value (Operand.func 16), args := #[Operand.tmp 113, Operand.tmp 116, Operand.tmp 119], argTypes := #[29, 46, 3] }, type := 23, pos := "outright.go:131", after := #[{ on := 12, ground := Ground.data }, { on := 15, ground := Ground.data }, { on := 18, ground := Ground.data }, { on := 11, ground := Ground.chain }, { on := 3, ground := Ground.guard }], guard := some (3, false) }) rfl (fun KQ hK => ?_) AllReadyH.nil)
    go_simp
    refine (HPa.out _ Hw11.out.1.a).mono ?_
    rintro e w19 ⟨rfl, hb9⟩
    have Hw19 := hid (And.intro (Hw11.out.1.on hb9) (Hw11.out.2.on hb9))
    clear hb9
    go_wp2_with fail
    refine hK.out _ _ Hw19.out.2.c8 (fun hHeld => ?_)
    clear hK KQ
    try simp only [Act.put, List.setIfInBounds_toArray, List.set_cons_zero, List.set_cons_succ]
    refine wpAnyH_take (i := 20) (oi := { dst := some 121, op := Op.binOp BinOp.eql 23 (Operand.tmp 112) (Operand.tmp 120) 23, type := 4, pos := "outright.go:131", after := #[{ on := 11, ground := Ground.data }, { on := 19, ground := Ground.data }, { on := 3, ground := Ground.guard }], guard := some (3, false) }) (v := .bool true) rfl (by kernel_rfl) (by kernel_rfl) (by kernel_rfl) (fun _ _ _ h => h) (Or.inl ⟨by rfl, by intro w hSw; go_simp⟩) (by assumption) ?_
    simp only [Act.put, List.setIfInBounds_toArray, List.set_cons_zero, List.set_cons_succ]
    refine wpAnyH_take (i := 21) (oi := { dst := some 122, op := Op.pick (Operand.tmp 104) (Operand.const (Value.bool true)) (Operand.tmp 121), type := 4, pos := "outright.go:131", after := #[{ on := 3, ground := Ground.data }, { on := 20, ground := Ground.data }], guard := none }) (v := .bool true) rfl (by kernel_rfl) (by kernel_rfl) (by kernel_rfl) (fun _ _ _ h => h) (Or.inl ⟨by rfl, by intro w hSw; go_simp⟩) (by assumption) ?_
    simp only [Act.put, List.setIfInBounds_toArray, List.set_cons_zero, List.set_cons_succ]
    refine wpAnyH_ready (rs := [22]) (by kernel_rfl) (by simp) (AllReadyH.cons (o := { dst := some 6, op := Op.assign (Operand.tmp 122), type := 4, pos := "outright.go:131", after := #[{ on := 21, ground := Ground.data }, { on := 19, ground := Ground.chain }, { on := 0, ground := Ground.phase }, { on := 1, ground := Ground.phase }, { on := 2, ground := Ground.phase }, { on := 3, ground := Ground.phase }, { on := 4, ground := Ground.phase }, { on := 5, ground := Ground.phase }, { on := 6, ground := Ground.phase }, { on := 7, ground := Ground.phase }, { on := 8, ground := Ground.phase }, { on := 9, ground := Ground.phase }, { on := 10, ground := Ground.phase }, { on := 11, ground := Ground.phase }, { on := 12, ground := Ground.phase }, { on := 13, ground := Ground.phase }, { on := 14, ground := Ground.phase }, { on := 15, ground := Ground.phase }, { on := 16, ground := Ground.phase }, { on := 17, ground := Ground.phase }, { on := 18, ground := Ground.phase }, { on := 19, ground := Ground.phase }, { on := 20, ground := Ground.phase }, { on := 21, ground := Ground.phase }], guard := none }) rfl (fun KQ hK => ?_) AllReadyH.nil)
    go_simp
    refine hK.out _ _ Hw19.out.2.c8 (fun hHeld => ?_)
    clear hK KQ
    try simp only [Act.put, List.setIfInBounds_toArray, List.set_cons_zero, List.set_cons_succ]
    refine wpAnyH_done (by kernel_rfl) ?_ _
    go_wp2_with fail
    go_ret
    exact ⟨rfl, Hw19.out.1.below⟩
end Go.Proofs.YteldpapacdbbiaaDoor
