/- CpuPieces 3: its second half. -/
import Derived.Test.YteldpapacdbbiaaDoorCb
namespace Go.Proofs.YteldpapacdbbiaaDoor
open Go.RowKit
set_option maxHeartbeats 8000000
set_option maxRecDepth 100000
attribute [-simp] Tryd.isAgg26 Tryd.sizeOf26 Tryd.isAgg24 Tryd.isAgg28 Tryd.sizeOf28
theorem T3.lo {W x : World} {B g3 : Nat} {q : Mq} {fa fb fc : Fp} {ma mb mc : MS} (h : T3 W x B g3 q fa fb fc ma mb mc) (hz : 2 < W.heap.size) : (∀ k ∈ fa.w, 2 < k) ∧ (∀ k ∈ fb.w, 2 < k) ∧ ∀ k ∈ fc.w, 2 < k :=
  ⟨fun k hk => by have := h.la k (Fp.w_all hk); omega, fun k hk => by have := h.lb k (Fp.w_all hk); omega, fun k hk => by have := h.lc k (Fp.w_all hk); omega⟩
theorem T3.runC {W x : World} {B g3 : Nat} {q : Mq} {fa fb fc : Fp} {ma mb mc : MS} (h : T3 W x B g3 q fa fb fc ma mb mc) (hT : Tb W) (hU : mc.U) (l : Int) (f : F) (hF : f.U) (n : Nat) (hn : (n : Int) ≤ 100000) :
    Calls Tryd.prog 9 #[ptr fc.gm, .int .i64 l, f.v, .int .i64 (n : Int)] x fun e w' => e = .returned (rn l n 0 mc f).v ∧ T3 W w' B g3 q fa fb fc ma mb (rn l n 0 mc f).m ∧ ButL fc.w x w' :=
  (run_any x (hT.on h.below) fc mc h.c hU l f hF (h.lo hT.z).2.2 n hn).mono fun _ _ ⟨e, r⟩ => ⟨e, h.sc r, r.but⟩
theorem T3.runC_no {W x : World} {B g3 : Nat} {q : Mq} {fa fb fc : Fp} {ma mb mc : MS} (h : T3 W x B g3 q fa fb fc ma mb mc) (l : Int) (f : F) (n : Int) (hn : n < 0 ∨ 100000 < n) :
    Calls Tryd.prog 9 #[ptr fc.gm, .int .i64 l, f.v, .int .i64 n] x fun e w' => e = .returned (.tuple #[.agg F.zero.cs.toArray, .agg (evc 0 0).toArray, .int .i64 0, .int .i64 100]) ∧ T3 W w' B g3 q fa fb fc ma mb mc ∧ ButL fc.w x w' :=
  (run_no x fc mc h.c l f n hn).mono fun _ _ ⟨e, r⟩ => ⟨e, h.sc r, r.but⟩
theorem T3.runB {W x : World} {B g3 : Nat} {q : Mq} {fa fb fc : Fp} {ma mb mc : MS} (h : T3 W x B g3 q fa fb fc ma mb mc) (hT : Tb W) (hU : mb.U) (l : Int) (f : F) (hF : f.U) (n : Nat) (hn : (n : Int) ≤ 100000) :
    Calls Tryd.prog 9 #[ptr fb.gm, .int .i64 l, f.v, .int .i64 (n : Int)] x fun e w' => e = .returned (rn l n 0 mb f).v ∧ T3 W w' B g3 q fa fb fc ma (rn l n 0 mb f).m mc ∧ ButL fb.w x w' :=
  (run_any x (hT.on h.below) fb mb h.b hU l f hF (h.lo hT.z).2.1 n hn).mono fun _ _ ⟨e, r⟩ => ⟨e, h.sb r, r.but⟩
theorem T3.stepA {W x : World} {B g3 : Nat} {q : Mq} {fa fb fc : Fp} {ma mb mc : MS} (h : T3 W x B g3 q fa fb fc ma mb mc) (hT : Tb W) (hU : ma.U) (l : Int) (f : F) (hF : f.U) :
    Calls Tryd.prog 11 #[ptr fa.gm, .int .i64 l, f.v] x fun e w' => e = .returned (stp ma l f).v ∧ T3 W w' B g3 q fa fb fc (stp ma l f).m mb mc ∧ ButL fa.w x w' :=
  (step_any x (hT.on h.below) fa ma h.a hU l f hF (h.lo hT.z).1).mono fun _ _ ⟨e, r⟩ => ⟨e, h.sa r, r.but⟩
/-- A file and an event that lie above the memories. -/
structure V2 (x : World) (B g : Nat) (f : F) (k a : Int) : Prop where
  c0 : Cel x g 26 f.cs
  c1 : Cel x (g + 1) 35 (evc k a)
  l : B ≤ g
theorem V2.on {x x' : World} {B g : Nat} {f : F} {k a : Int} (h : V2 x B g f k a) (hb : Below x.heap.size x x') : V2 x' B g f k a := ⟨h.c0.on hb, h.c1.on hb, h.l⟩
theorem V2.but {x x' : World} {B g : Nat} {f : F} {k a : Int} {G : List Nat} (h : V2 x B g f k a) (hb : ButL G x x') (hG : ∀ k ∈ G, k < B) : V2 x' B g f k a := ⟨h.c0.but hb (fun hk => by have := hG _ hk; have := h.l; omega), h.c1.but hb (fun hk => by have := hG _ hk; have := h.l; omega), h.l⟩
theorem Full.v2 {w x : World} {B g : Nat} {f : F} {k a : Int} (h : Full w x g f k a) (hB : B ≤ g) : V2 x B g f k a := ⟨h.c0, h.c1, hB⟩
theorem T3.hw {W x : World} {B g3 : Nat} {q : Mq} {fa fb fc : Fp} {ma mb mc : MS} (h : T3 W x B g3 q fa fb fc ma mb mc) : (∀ k ∈ fa.w, k < B) ∧ (∀ k ∈ fb.w, k < B) ∧ ∀ k ∈ fc.w, k < B :=
  ⟨fun k hk => h.ha k (Fp.w_all hk), fun k hk => h.hb k (Fp.w_all hk), fun k hk => h.hc k (Fp.w_all hk)⟩
theorem pieces_t2 (W w : World) (hT : Tb W) (B g3 gA : Nat) (q : Mq) (fa fb fc : Fp) (m0 ma : MS) (a b : Nat) (ha : (a : Int) < 200) (hb : (b : Int) < 200) (hU : m0.U) (hF : q.f.U) (r : ROut) (hr : rn q.l (a + b) 0 m0 q.f = r) (h : T3 W w B g3 q fa fb fc ma r.m m0) (hV : V2 w B gA r.f r.k r.a) (hB : B ≤ w.heap.size) (hg : W.heap.size ≤ g3) (hgB : g3 < B) (K : Act → World → Prop) (hK : ∀ a w, Code.wp Tryd.prog (sfx 15 (Tryd.f3.body.getD .skip)) (bodyPost Tryd.prog Tryd.f3 fun x w' => x = .returned (.bool true) ∧ Below W.heap.size W w') a w → K a w) (z0 z4 z5 z6 z7 z13 z14 z15 z16 z17 z18 z19 z20 z21 z22 z23 z24 z25 z26 z27 z28 z29 z30 z31 z32 z33 z34 z35 z36 z37 z38 z39 z40 z41 z42 z43 z44 z45 z46 z47 z48 z49 z50 z51 z52 z53 z54 z55 z56 z57 z58 z59 z60 z61 z62 z63 z64 z65 z66 z67 z68 z69 z70 z71 z72 z73 z74 z75 z76 z77 z78 z79 z80 z81 z82 z83 z84 z85 z86 z87 z88 z89 z90 z91 z92 z93 z94 z95 z96 z97 z98 z99 z100 z101 z102 z103 z104 z105 z106 z107 z108 z109 z110 z111 z112 z113 z114 z115 z116 z117 z118 z119 z120 z121 z122 z123 z124 z125 z126 z127 z128 z129 z130 z131 z132 z133 z134 z135 z136 z137 z138 z139 z140 z141 z142 z143 z144 z145 z146 z147 z148 z149 z150 z151 z152 z153 z154 z155 z156 z157 z158 z159 z160 z161 z162 z163 z164 z165 z166 z167 z168 z169 z170 z171 z172 z173 z174 z175 z176 z177 z178 z179 z180 z181 z182 z183 z184 z185 z186 z187 z188 z189 z190 z191 z192 z193 z194 z195 z196 z197 z198 z199 z200 z201 z202 z203 z204 z205 z206 z207 z208 z209 z210 z211 z212 z213 z214 z215 z216 z217 z218 z219 z220 z221 z222 z223 z224 z225 : Value) :
    Code.wp Tryd.prog (hdx 14 (Tryd.f3.body.getD .skip)) (Exit.then K (bodyPost Tryd.prog Tryd.f3 fun x w' => x = .returned (.bool true) ∧ Below W.heap.size W w')) { tmps := #[z0, .int .i64 (a : Int), .int .i64 (b : Int), .pointer (some ⟨g3, 0, none⟩), z4, z5, z6, z7, .pointer (some ⟨fb.gm, 0, none⟩), .pointer (some ⟨fc.gm, 0, none⟩), .pointer (some ⟨gA, 0, none⟩), .pointer (some ⟨gA + 1, 0, none⟩), .int .i64 (r.u : Int), z13, z14, z15, z16, z17, z18, z19, z20, z21, z22, z23, z24, z25, z26, z27, z28, z29, z30, z31, z32, z33, z34, z35, z36, z37, z38, z39, z40, z41, z42, z43, z44, z45, z46, z47, z48, z49, z50, z51, z52, z53, z54, z55, z56, z57, z58, z59, z60, z61, z62, z63, z64, z65, z66, z67, z68, z69, z70, z71, z72, z73, z74, z75, z76, z77, z78, z79, z80, z81, z82, z83, z84, z85, z86, z87, z88, z89, z90, z91, z92, z93, z94, z95, z96, z97, z98, z99, z100, z101, z102, z103, z104, z105, z106, z107, z108, z109, z110, z111, z112, z113, z114, z115, z116, z117, z118, z119, z120, z121, z122, z123, z124, z125, z126, z127, z128, z129, z130, z131, z132, z133, z134, z135, z136, z137, z138, z139, z140, z141, z142, z143, z144, z145, z146, z147, z148, z149, z150, z151, z152, z153, z154, z155, z156, z157, z158, z159, z160, z161, z162, z163, z164, z165, z166, z167, z168, z169, z170, z171, z172, z173, z174, z175, z176, z177, z178, z179, z180, z181, z182, z183, z184, z185, z186, z187, z188, z189, z190, z191, z192, z193, z194, z195, z196, z197, z198, z199, z200, z201, z202, z203, z204, z205, z206, z207, z208, z209, z210, z211, z212, z213, z214, z215, z216, z217, z218, z219, z220, z221, z222, z223, z224, z225], defers := [] } w := by
  have HT := hid hT
  have HV := hid hV
  have H := hid h
  have HBB := hid hB
  have HR := hid (h.runC hT hU q.l q.f hF a (by omega))
  have HUU := hid (rn_U (l := q.l) a 0 hU hF)
  have HUb := hid (fun m f => rn_u q.l b 0 m f)
  have HGB := hid (And.intro hg hgB)
  have HS := hid (rn_stop q.l b a 0 m0 q.f)
  have HG := hid (rn_both q.l a b m0 q.f)
  rw [hr] at HS HG
  have c3 : w.cell? ⟨g3, 3, none⟩ = some (.int .i64 q.l) := h.cq.cell 3
  clear hT hV h hU hF hr hB hg hgB
  generalize rn q.l a 0 m0 q.f = r1 at *
  unfold ptr at HR
  refine hd_walk 14 rfl (by simp only [hdx, sfx]; rfl) (by simp only [sfx]; rfl) hK ?_
  clear hK
  intro hK
  go_upto_region 23 with (first | (refine wpList_fa4 rfl _ rfl g3 rfl ?_) | (refine wpList_load_qf rfl _ rfl g3 q rfl H.out.cq ?_) | (go_at_call 9; refine HR.out.mono ?_; rintro e w1 ⟨rfl, ht1, hb1⟩; have H1 := hid ht1; have HV1 := hid (HV.out.but hb1 H.out.hw.2.2); have HB1 : Hid (B ≤ w1.heap.size) := hid (Nat.le_trans HBB.out hb1.size); have HT1 := hid (Two.new w1); simp only [zf, evc] at HT1; clear ht1 hb1 c3; unfold ROut.v) | (refine wpList_store_f rfl _ _ rfl w1.heap.size F.zero r1.f rfl rfl HT1.out.c0 ?_; intro u1 hcu hbu hsu; have HU1 := hid (And.intro hcu hbu); have CU1 := hid (HT1.out.c1.but hbu (by simp)); clear hcu hbu hsu) | (refine wpList_store_st rfl 35 _ _ rfl (w1.heap.size + 1) (evc r1.k r1.a) rfl rfl CU1.out size35 rfl rfl ?_; intro v1 hcv hbv hsv; have HF1 := hid (HT1.out.fill (Nat.le_refl _) HU1.out.1 HU1.out.2 hcv hbv); clear hcv hbv hsv))
  try simp only [Act.put]
  have HVl := hid HV1.out.c1.lt
  have H2 := hid (H1.out.on HF1.out.below)
  have HV2 := hid (HV1.out.on HF1.out.below)
  have HX2 := hid (HF1.out.v2 HB1.out)
  have HB2 : Hid (B ≤ v1.heap.size) := hid (Nat.le_trans HB1.out HF1.out.below.size)
  clear H HV HR H1 HV1 HT1 HF1 HB1 HBB
  have HLt := hid HVl.out
  clear HVl
  generalize w1.heap.size = gB at *
  by_cases hk : r1.k = 5
  · obtain ⟨hu, hR⟩ := HG.out hk
    have hub := HUb.out r1.m r1.f
    have HR2 := hid (H2.out.runC HT.out HUU.out.1 q.l r1.f HUU.out.2 b (by omega))
    generalize rn q.l b 0 r1.m r1.f = r2 at *
    obtain ⟨f1, k1, a1, u1, m1⟩ := r1
    obtain ⟨f2, k2, a2, u2, m2⟩ := r2
    simp only [ROut.sh] at *
    subst hu hk hR
    simp only at *
    clear HS HG HUU HT HUb
    unfold ptr at HR2
    have e0 : v1.cell? ⟨gB + 1, 0, none⟩ = some (.int .i64 5) := HX2.out.c1.cell 0
    have c3 : v1.cell? ⟨g3, 3, none⟩ = some (.int .i64 q.l) := H2.out.cq.cell 3
    go_upto_region 29 with (go_at_call 10; refine (num_any _ _).mono ?_; rintro e wn ⟨rfl, rfl⟩)
    clear e0
    go_upto_region 30 with (first | (refine wpList_load_f rfl _ rfl gB f1 rfl HX2.out.c0 ?_) | (go_at_call 9; refine HR2.out.mono ?_; rintro e w3 ⟨rfl, ht3, hb3⟩; have H3 := hid ht3; have HV3 := hid (HV2.out.but hb3 H2.out.hw.2.2); have HX3 := hid (HX2.out.but hb3 H2.out.hw.2.2); have HB3 : Hid (B ≤ w3.heap.size) := hid (Nat.le_trans HB2.out hb3.size); clear ht3 hb3 c3; unfold ROut.v) | (refine wpList_store_f rfl _ _ rfl gB f1 f2 rfl rfl HX3.out.c0 ?_; intro u4 hcu hbu hsu; have HU4 := hid (And.intro hcu hbu); have CU4 := hid (HX3.out.c1.but hbu (by simp)); clear hcu hbu hsu) | (refine wpList_store_st rfl 35 _ _ rfl (gB + 1) (evc k2 a2) rfl rfl CU4.out size35 rfl rfl ?_; intro v4 hcv hbv hsv; have H4 := hid (And.intro hcv hbv); have HS4 := hid (Nat.le_of_eq hsv.symm); clear hcv hbv hsv))
    try simp only [Act.put]
    have HX4 : Hid (V2 v4 B gB f2 k2 a2) := hid ⟨HU4.out.1.but H4.out.2 (by simp), H4.out.1, HX3.out.l⟩
    have HV4 : Hid (V2 v4 B gA f2 k2 a2) := hid ⟨(HV3.out.c0.but HU4.out.2 (by have := HLt.out; simp; omega)).but H4.out.2 (by have := HLt.out; simp; omega), (HV3.out.c1.but HU4.out.2 (by have := HLt.out; simp; omega)).but H4.out.2 (by have := HLt.out; simp; omega), HV3.out.l⟩
    have H5 := hid ((H3.out.put HX3.out.l (by have := HGB.out; omega) HGB.out.2 HU4.out.2).put (Nat.le_succ_of_le HX3.out.l) (by have := HGB.out; omega) HGB.out.2 H4.out.2)
    have HB4 : Hid (B ≤ v4.heap.size) := hid (by have := HB3.out; have := HU4.out.2.size; have := H4.out.2.size; omega)
    clear H3 HV3 HX3 HU4 CU4 H4 HS4 HB3 HB2 H2 HV2 HX2 HR2
    have HRn := hid (H5.out.runC_no q.l f2 (-1) (by omega))
    unfold ptr at HRn
    have c3 : v4.cell? ⟨g3, 3, none⟩ = some (.int .i64 q.l) := H5.out.cq.cell 3
    go_upto_region 31 with (first | (refine wpList_load_f rfl _ rfl gB f2 rfl HX4.out.c0 ?_) | (go_at_call 9; refine HRn.out.mono ?_; rintro e w6 ⟨rfl, ht6, hb6⟩; have H6 := hid ht6; have HV6 := hid (HV4.out.but hb6 H5.out.hw.2.2); have HX6 := hid (HX4.out.but hb6 H5.out.hw.2.2); have HT6 := hid (Two.new w6); simp only [zf, evc] at HT6; clear ht6 hb6 c3; unfold evc) | (refine wpList_store_f rfl _ _ rfl w6.heap.size F.zero F.zero rfl rfl HT6.out.c0 ?_; intro u6 hcu hbu hsu; have HU6 := hid (And.intro hcu hbu); have CU6 := hid (HT6.out.c1.but hbu (by simp)); clear hcu hbu hsu) | (refine wpList_store_st rfl 35 _ _ rfl (w6.heap.size + 1) (evc 0 0) rfl rfl CU6.out size35 rfl rfl ?_; intro v6 hcv hbv hsv; have HF6 := hid (HT6.out.fill (Nat.le_refl _) HU6.out.1 HU6.out.2 hcv hbv); clear hcv hbv hsv))
    try simp only [Act.put]
    have H7 := hid (H6.out.on HF6.out.below)
    have HV7 := hid (HV6.out.on HF6.out.below)
    have HX7 := hid (HX6.out.on HF6.out.below)
    clear H5 H6 HV4 HV6 HX4 HX6 HT6 HF6 HU6 CU6 HRn
    generalize w6.heap.size = gC at *
    have HSm := hid (same_any _ fc m2 H7.out.c fb m2 H7.out.b)
    rw [MS.same_self] at HSm
    have HMc := hid (fun x (hx : Mem x fc m2) => meter_any x fc m2 hx)
    have HMb := hid (fun x (hx : Mem x fb m2) => meter_any x fb m2 hx)
    unfold ptr at HSm HMc HMb
    have e0 : v6.cell? ⟨gB + 1, 0, none⟩ = some (.int .i64 k2) := HX7.out.c1.cell 0
    have e1 : v6.cell? ⟨gB + 1, 1, none⟩ = some (.int .u32 a2) := HX7.out.c1.cell 1
    have d0 : v6.cell? ⟨gA + 1, 0, none⟩ = some (.int .i64 k2) := HV7.out.c1.cell 0
    have d1 : v6.cell? ⟨gA + 1, 1, none⟩ = some (.int .u32 a2) := HV7.out.c1.cell 1
    have hub2 : (u2 : Int) ≤ 200 := by omega
    have hub0 : (0 : Int) ≤ (u2 : Int) := by omega
    have hua0 : (0 : Int) ≤ (u1 : Int) := by omega
    have hcm : ((u1 : Int) + (u2 : Int) == ((u2 + u1 : Nat) : Int)) = true := by simp; omega
    have hcn : ((u1 : Int) + (u2 : Int) == (u2 : Int) + (u1 : Int)) = true := by simp; omega
    clear hub
    go_wp2_with (first | (go_at_call 10; refine (num_any _ _).mono ?_; rintro e wn ⟨rfl, rfl⟩) | (refine wpList_load_fg (by rfl) _ rfl gB f2 rfl HX7.out.c0 ?_) | (refine wpList_load_fg (by rfl) _ rfl gA f2 rfl HV7.out.c0 ?_) | (refine wpList_eql_fg (by rfl) _ _ rfl f2 f2 rfl rfl true (F.same_self _) ?_) | (go_at_call 12; refine HSm.out.mono ?_; rintro e w8 ⟨rfl, hb8⟩; have H8 := hid (H7.out.on hb8); clear hb8 e0 e1 d0 d1) | (go_at_call 13; first | (refine (HMc.out _ H8.out.c).mono ?_; rintro e wq ⟨rfl, rfl⟩) | (refine (HMb.out _ H8.out.b).mono ?_; rintro e wq ⟨rfl, rfl⟩)))
    go_ret
    exact ⟨rfl, H8.out.below⟩
  · have hR : r = r1 := HS.out hk
    subst hR
    clear HS HG HUU HT HUb
    have HSm := hid (same_any _ fc r.m H2.out.c fb r.m H2.out.b)
    rw [MS.same_self] at HSm
    unfold ptr at HSm
    have e0 : v1.cell? ⟨gB + 1, 0, none⟩ = some (.int .i64 r.k) := HX2.out.c1.cell 0
    have e1 : v1.cell? ⟨gB + 1, 1, none⟩ = some (.int .u32 r.a) := HX2.out.c1.cell 1
    have d0 : v1.cell? ⟨gA + 1, 0, none⟩ = some (.int .i64 r.k) := HV2.out.c1.cell 0
    have d1 : v1.cell? ⟨gA + 1, 1, none⟩ = some (.int .u32 r.a) := HV2.out.c1.cell 1
    have hk' : (r.k != 5) = true := by simpa using hk
    clear hk
    go_upto_region 26 with (go_at_call 10; refine (num_any _ _).mono ?_; rintro e wn ⟨rfl, rfl⟩)
    go_wp2_with (first | (refine wpList_load_f rfl _ rfl gB r.f rfl HX2.out.c0 ?_) | (refine wpList_load_f rfl _ rfl gA r.f rfl HV2.out.c0 ?_) | (refine wpList_eql_fg (by rfl) _ _ rfl r.f r.f rfl rfl true (F.same_self _) ?_) | (go_at_call 12; refine HSm.out.mono ?_; rintro e w5 ⟨rfl, hb5⟩; have HB5 := hid (below_on H2.out.below hb5); clear hb5))
    go_ret
    exact ⟨rfl, HB5.out⟩
end Go.Proofs.YteldpapacdbbiaaDoor
