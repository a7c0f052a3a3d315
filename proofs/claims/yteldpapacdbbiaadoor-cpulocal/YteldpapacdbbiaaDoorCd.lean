/- CpuPieces 3: steps one by one. -/
import Derived.Test.YteldpapacdbbiaaDoorCc
namespace Go.Proofs.YteldpapacdbbiaaDoor
open Go.RowKit
set_option maxHeartbeats 8000000
set_option maxRecDepth 100000
attribute [-simp] Tryd.isAgg26 Tryd.sizeOf26 Tryd.isAgg24 Tryd.isAgg28 Tryd.sizeOf28
theorem exec_neq_f {a : Act} {w : World} {o : Oper} (x y : Operand) (ho : o.op = .binOp .neq 26 x y 26) (f g : F) (hx : a.eval x = f.v) (hy : a.eval y = g.v) (b : Bool) (hb : (!f.same g) = b) :
    (execOp a.eval o).run Tryd.prog w = .ok (.value (.bool b)) w := by
  have hg : (eqGuard .neq 26 x y f.v g.v).run Tryd.prog w = .ok () w := run_eqGuard_agg w .neq 26 x y _ _ guard27
  have hr : (binOp .neq 26 f.v g.v).run Tryd.prog w = .ok (.bool (!f.same g)) w := by
    have := run_equalIn_f w 9996 f g
    rw [F.v, F.v] at this ⊢
    rw [run_neq_struct, this]; rfl
  unfold execOp
  simp only [ho, hx, hy, Sem.run_bind, Sem.run_pure, hg, hr, Result.andThen_ok, hb]
theorem wpList_neq_fg {ops : Array Oper} {rest : List Oper} {o : Oper} {a : Act} {w : World} {Q : Exit → Act → World → Prop} (hw : Region.wanted o (yielded ops a.tmps) = true) (x y : Operand) (ho : o.op = .binOp .neq 26 x y 26)
    (f g : F) (hx : a.eval x = f.v) (hy : a.eval y = g.v) (b : Bool) (hb : (!f.same g) = b)
    (h : wpList Tryd.prog ops Q rest (a.put o.dst (.bool b)) w) : wpList Tryd.prog ops Q (o :: rest) a w := by
  rw [wpList, if_pos hw]
  refine .inl ?_
  unfold Oper.wp
  rw [exec_neq_f x y ho f g hx hy b hb]
  exact h
/-- What the loop has when it is done with j steps. -/
def LoopOk (l : Int) (n : Nat) (r : ROut) (j : Nat) (m : MS) (f : F) (k a : Int) : Prop := (k = 5 ∧ a = 0 ∧ rn l (n - j) j m f = r) ∨ (k ≠ 5 ∧ ROut.mk f k a j m = r)
structure LI (W x : World) (B g3 gA gF : Nat) (q : Mq) (fa fb fc : Fp) (m0 : MS) (n : Nat) (r : ROut) (j : Nat) (m : MS) (f : F) (k a : Int) : Prop where
  t : T3 W x B g3 q fa fb fc m r.m m0
  v : V2 x B gF f k a
  va : V2 x B gA r.f r.k r.a
  um : m.U
  uf : f.U
  bx : B ≤ x.heap.size
  lt : gA + 1 < gF
  ok : LoopOk q.l n r j m f k a
theorem pieces_t1 (W w : World) (hT : Tb W) (B g3 gA : Nat) (q : Mq) (fa fb fc : Fp) (m0 : MS) (a b : Nat) (ha : (a : Int) < 200) (hb : (b : Int) < 200) (hU : m0.U) (hF : q.f.U) (r : ROut) (hr : rn q.l (a + b) 0 m0 q.f = r) (h : T3 W w B g3 q fa fb fc m0 r.m m0) (hV : V2 w B gA r.f r.k r.a) (hB : B ≤ w.heap.size) (hg : W.heap.size ≤ g3) (hgB : g3 < B) (K : Act → World → Prop) (hK : ∀ a w, Code.wp Tryd.prog (sfx 10 (Tryd.f3.body.getD .skip)) (bodyPost Tryd.prog Tryd.f3 fun x w' => x = .returned (.bool true) ∧ Below W.heap.size W w') a w → K a w) (z0 z4 z5 z6 z13 z14 z15 z16 z17 z18 z19 z20 z21 z22 z23 z24 z25 z26 z27 z28 z29 z30 z31 z32 z33 z34 z35 z36 z37 z38 z39 z40 z41 z42 z43 z44 z45 z46 z47 z48 z49 z50 z51 z52 z53 z54 z55 z56 z57 z58 z59 z60 z61 z62 z63 z64 z65 z66 z67 z68 z69 z70 z71 z72 z73 z74 z75 z76 z77 z78 z79 z80 z81 z82 z83 z84 z85 z86 z87 z88 z89 z90 z91 z92 z93 z94 z95 z96 z97 z98 z99 z100 z101 z102 z103 z104 z105 z106 z107 z108 z109 z110 z111 z112 z113 z114 z115 z116 z117 z118 z119 z120 z121 z122 z123 z124 z125 z126 z127 z128 z129 z130 z131 z132 z133 z134 z135 z136 z137 z138 z139 z140 z141 z142 z143 z144 z145 z146 z147 z148 z149 z150 z151 z152 z153 z154 z155 z156 z157 z158 z159 z160 z161 z162 z163 z164 z165 z166 z167 z168 z169 z170 z171 z172 z173 z174 z175 z176 z177 z178 z179 z180 z181 z182 z183 z184 z185 z186 z187 z188 z189 z190 z191 z192 z193 z194 z195 z196 z197 z198 z199 z200 z201 z202 z203 z204 z205 z206 z207 z208 z209 z210 z211 z212 z213 z214 z215 z216 z217 z218 z219 z220 z221 z222 z223 z224 z225 : Value) :
    Code.wp Tryd.prog (hdx 9 (Tryd.f3.body.getD .skip)) (Exit.then K (bodyPost Tryd.prog Tryd.f3 fun x w' => x = .returned (.bool true) ∧ Below W.heap.size W w')) { tmps := #[z0, .int .i64 (a : Int), .int .i64 (b : Int), .pointer (some ⟨g3, 0, none⟩), z4, z5, z6, .pointer (some ⟨fa.gm, 0, none⟩), .pointer (some ⟨fb.gm, 0, none⟩), .pointer (some ⟨fc.gm, 0, none⟩), .pointer (some ⟨gA, 0, none⟩), .pointer (some ⟨gA + 1, 0, none⟩), .int .i64 (r.u : Int), z13, z14, z15, z16, z17, z18, z19, z20, z21, z22, z23, z24, z25, z26, z27, z28, z29, z30, z31, z32, z33, z34, z35, z36, z37, z38, z39, z40, z41, z42, z43, z44, z45, z46, z47, z48, z49, z50, z51, z52, z53, z54, z55, z56, z57, z58, z59, z60, z61, z62, z63, z64, z65, z66, z67, z68, z69, z70, z71, z72, z73, z74, z75, z76, z77, z78, z79, z80, z81, z82, z83, z84, z85, z86, z87, z88, z89, z90, z91, z92, z93, z94, z95, z96, z97, z98, z99, z100, z101, z102, z103, z104, z105, z106, z107, z108, z109, z110, z111, z112, z113, z114, z115, z116, z117, z118, z119, z120, z121, z122, z123, z124, z125, z126, z127, z128, z129, z130, z131, z132, z133, z134, z135, z136, z137, z138, z139, z140, z141, z142, z143, z144, z145, z146, z147, z148, z149, z150, z151, z152, z153, z154, z155, z156, z157, z158, z159, z160, z161, z162, z163, z164, z165, z166, z167, z168, z169, z170, z171, z172, z173, z174, z175, z176, z177, z178, z179, z180, z181, z182, z183, z184, z185, z186, z187, z188, z189, z190, z191, z192, z193, z194, z195, z196, z197, z198, z199, z200, z201, z202, z203, z204, z205, z206, z207, z208, z209, z210, z211, z212, z213, z214, z215, z216, z217, z218, z219, z220, z221, z222, z223, z224, z225], defers := [] } w := by
  have HT := hid hT
  have HU := hid hU
  have HF := hid hF
  have HGB := hid (And.intro hg hgB)
  have HV := hid hV
  have H := hid h
  have HBB := hid hB
  have HRr := hid hr
  have HA := hid (And.intro ha hb)
  have hab : ((a : Int) + (b : Int)) < 400 := by omega
  have hab0 : (0 : Int) ≤ (a : Int) + (b : Int) := by omega
  clear hT hV h hU hF hr hB hg hgB
  refine hd_walk 9 rfl (by simp only [hdx, sfx]; rfl) (by simp only [sfx]; rfl) hK ?_
  clear hK
  intro hK
  go_upto_region 12 with (first | (refine wpList_fa4 rfl _ rfl g3 rfl ?_) | (refine wpList_load_qf rfl _ rfl g3 q rfl H.out.cq ?_) | (refine wpList_store_f rfl _ _ rfl w.heap.size F.zero q.f rfl rfl (by rw [zc]; exact Cel.new w 26 F.zero.cs) ?_; intro u1 hc1 hb1 hs1; have HC1 := hid hc1; have HB1 := hid hb1; have HS1 : Hid (u1.heap.size = w.heap.size + 1) := hid (by rw [hs1, World.size_alloc]); clear hc1 hb1 hs1))
  try simp only [Act.put]
  go_upto_region 13 with fail
  have HI : Hid (LI W (u1.alloc (.cells #[.int .i64 5, .int .u32 0] 35)) B g3 gA w.heap.size q fa fb fc m0 (a + b) r 0 m0 q.f 5 0) := hid ⟨((H.out.on (below_one w _)).put HBB.out (by have := HGB.out; omega) HGB.out.2 HB1.out).on (below_one _ _), ⟨HC1.out.on (below_one _ _), by rw [← HS1.out]; exact Cel.new u1 35 (evc 5 0), HBB.out⟩, ⟨((HV.out.c0.on (below_one w _)).but HB1.out (by have := HV.out.c0.lt; simp; omega)).on (below_one _ _), ((HV.out.c1.on (below_one w _)).but HB1.out (by have := HV.out.c1.lt; simp; omega)).on (below_one _ _), HV.out.l⟩, HU.out, HF.out, by rw [World.size_alloc, HS1.out]; have := HBB.out; omega, HV.out.c1.lt, .inl ⟨rfl, rfl, HRr.out⟩⟩
  rw [HS1.out]
  clear HV H HBB HC1 HB1 HS1
  generalize hX : u1.alloc _ = X2 at *
  clear hX
  generalize w.heap.size = gF at *
  go_wp2_with fail
  go_loopw [16] (fun i wr => ∃ (j : Nat) (m : MS) (f : F) (k c : Int), j ≤ a + b ∧ i = .int .i64 (j : Int) ∧ Hid (LI W wr B g3 gA gF q fa fb fc m0 (a + b) r j m f k c)) (fun i _ => a + b - (intOf i).toNat)
  case atStart => exact ⟨0, m0, q.f, 5, 0, Nat.zero_le _, rfl, HI⟩
  case round =>
    obtain ⟨j, m, f, k, c, hj, rfl, HL⟩ := hrel
    clear HI
    by_cases hc : k = 5 ∧ j < a + b
    · obtain ⟨hk, hlt⟩ := hc
      subst hk
      have q1 : (j : Int) < (a : Int) + (b : Int) := by omega
      have e0 : wr.cell? ⟨gF + 1, 0, none⟩ = some (.int .i64 5) := HL.out.v.c1.cell 0
      have c3 : wr.cell? ⟨g3, 3, none⟩ = some (.int .i64 q.l) := HL.out.t.cq.cell 3
      have HS := hid (HL.out.t.stepA HT.out HL.out.um q.l f HL.out.uf)
      have HUs := hid (stp_U HL.out.um q.l HL.out.uf)
      obtain ⟨d, hd⟩ : ∃ d, a + b - j = d + 1 := ⟨a + b - j - 1, by omega⟩
      have HRn : Hid ((if (stp m q.l f).k = 0 then rn q.l d (j + 1) (stp m q.l f).m (stp m q.l f).f else ⟨(stp m q.l f).f, (stp m q.l f).k, (stp m q.l f).a, j + 1, (stp m q.l f).m⟩) = r) := hid (by
        rcases HL.out.ok with ⟨_, _, h3⟩ | ⟨h3, _⟩
        · rw [hd, rn_succ] at h3; exact h3
        · exact absurd rfl h3)
      have HC0 : Hid (c = 0) := hid (by
        rcases HL.out.ok with ⟨_, h3, _⟩ | ⟨h3, _⟩
        · exact h3
        · exact absurd rfl h3)
      have HE : Hid (a + b - (j + 1) = d) := hid (by omega)
      have HK5 := hid (stp_k m q.l f)
      clear hd
      unfold ptr at HS
      generalize stp m q.l f = s at *
      go_upto_region 16 with (first | (refine wpList_load_f rfl _ rfl gF f rfl HL.out.v.c0 ?_) | (go_at_call 11; refine HS.out.mono ?_; rintro e w1 ⟨rfl, ht1, hb1⟩; have H1 := hid ht1; have HV1 := hid (HL.out.v.but hb1 HL.out.t.hw.1); have HA1 := hid (HL.out.va.but hb1 HL.out.t.hw.1); have HB1 : Hid (B ≤ w1.heap.size) := hid (Nat.le_trans HL.out.bx hb1.size); have HT1 := hid (Two.new w1); simp only [zf, evc] at HT1; clear ht1 hb1 c3 e0; unfold Out.v) | (refine wpList_store_f rfl _ _ rfl w1.heap.size F.zero s.f rfl rfl HT1.out.c0 ?_; intro u1 hcu hbu hsu; have HU1 := hid (And.intro hcu hbu); have CU1 := hid (HT1.out.c1.but hbu (by simp)); clear hcu hbu hsu) | (refine wpList_store_st rfl 35 _ _ rfl (w1.heap.size + 1) (evc s.k s.a) rfl rfl CU1.out size35 rfl rfl ?_; intro v1 hcv hbv hsv; have HF1 := hid (HT1.out.fill (Nat.le_refl _) HU1.out.1 HU1.out.2 hcv hbv); clear hcv hbv hsv))
      try simp only [Act.put]
      have H2 := hid (H1.out.on HF1.out.below)
      have HV2 := hid (HV1.out.on HF1.out.below)
      have HA2 := hid (HA1.out.on HF1.out.below)
      have HX2 := hid (HF1.out.v2 HB1.out)
      have HB2 : Hid (B ≤ v1.heap.size) := hid (Nat.le_trans HB1.out HF1.out.below.size)
      have HLt := hid HV1.out.c1.lt
      have HGA := hid HL.out.lt
      clear H1 HV1 HA1 HT1 HF1 HB1 HL HS CU1
      generalize w1.heap.size = gB at *
      go_upto_region 17 with (first | (refine wpList_load_f rfl _ rfl gB s.f rfl HX2.out.c0 ?_) | (refine wpList_store_f rfl _ _ rfl gF f s.f rfl rfl HV2.out.c0 ?_; intro u3 hc3 hb3 hs3; have HC3 := hid hc3; have HB3 := hid hb3; clear hc3 hb3 hs3))
      try simp only [Act.put]
      have H3 := hid (H2.out.put HV2.out.l (by have := HGB.out; omega) HGB.out.2 HB3.out)
      have HV3 : Hid (V2 u3 B gF s.f 5 c) := hid ⟨HC3.out, HV2.out.c1.but HB3.out (by simp), HV2.out.l⟩
      have HA3 : Hid (V2 u3 B gA r.f r.k r.a) := hid ⟨HA2.out.c0.but HB3.out (by have := HGA.out; simp; omega), HA2.out.c1.but HB3.out (by have := HGA.out; simp; omega), HA2.out.l⟩
      have HX3 : Hid (V2 u3 B gB s.f s.k s.a) := hid ⟨HX2.out.c0.but HB3.out (by have := HLt.out; simp; omega), HX2.out.c1.but HB3.out (by have := HLt.out; simp; omega), HX2.out.l⟩
      have HB4 : Hid (B ≤ u3.heap.size) := hid (Nat.le_trans HB2.out HB3.out.size)
      clear H2 HV2 HA2 HX2 HB2 HC3 HB3
      have e0 : u3.cell? ⟨gB + 1, 0, none⟩ = some (.int .i64 s.k) := HX3.out.c1.cell 0
      have e1 : u3.cell? ⟨gB + 1, 1, none⟩ = some (.int .u32 s.a) := HX3.out.c1.cell 1
      have HE0 := hid e0
      by_cases hk : s.k = 0
      · rw [hk] at e0
        go_wp2_with fail
        go_roundw
        case measure => simp [intOf] <;> omega
        case rel => exact ⟨j + 1, s.m, s.f, 5, c, by omega, by simp, hid ⟨H3.out, HV3.out, HA3.out, HUs.out.m, HUs.out.f, HB4.out, HGA.out, .inl ⟨rfl, HC0.out, by
          have h := HRn.out
          rw [if_pos hk] at h
          rw [HE.out]; exact h⟩⟩⟩
      · have hk1 : (s.k != 0) = true := by simpa using hk
        have HK0 := hid hk
        clear hk
        have y0 : u3.cell? ⟨gF + 1, 0, none⟩ = some (.int .i64 5) := HV3.out.c1.cell 0
        have y1 : u3.cell? ⟨gF + 1, 1, none⟩ = some (.int .u32 c) := HV3.out.c1.cell 1
        have f0 := HV3.out.c1.free 0
        have f1 := HV3.out.c1.free 1
        have HC6 : Hid (Cel ((u3.setCell ⟨gF + 1, 0, none⟩ (.int .i64 s.k)).setCell ⟨gF + 1, 1, none⟩ (.int .u32 s.a)) (gF + 1) 35 (evc s.k s.a)) := hid ((HV3.out.c1.setCell 0 _).setCell 1 _)
        have HB6 : Hid (ButL [gF + 1] u3 ((u3.setCell ⟨gF + 1, 0, none⟩ (.int .i64 s.k)).setCell ⟨gF + 1, 1, none⟩ (.int .u32 s.a))) := hid ((ButL.setCell u3 (gF + 1) 0 _ (by simp)).trans (.setCell _ (gF + 1) 1 _ (by simp)))
        have HL6 : Hid (LI W ((u3.setCell ⟨gF + 1, 0, none⟩ (.int .i64 s.k)).setCell ⟨gF + 1, 1, none⟩ (.int .u32 s.a)) B g3 gA gF q fa fb fc m0 (a + b) r (j + 1) s.m s.f s.k s.a) := hid ⟨H3.out.put (Nat.le_succ_of_le HV3.out.l) (by have := HGB.out; omega) HGB.out.2 HB6.out, ⟨HV3.out.c0.but HB6.out (by simp), HC6.out, HV3.out.l⟩, ⟨HA3.out.c0.but HB6.out (by have := HGA.out; simp; omega), HA3.out.c1.but HB6.out (by have := HGA.out; simp; omega), HA3.out.l⟩, HUs.out.m, HUs.out.f, Nat.le_trans HB4.out HB6.out.size, HGA.out, .inr ⟨HK5.out, by
          have h := HRn.out
          rw [if_neg HK0.out] at h
          exact h⟩⟩
        clear HC6 HB6 H3 HV3 HA3 HX3 HRn
        go_wp2_with fail
        exact ⟨⟨j + 1, s.m, s.f, s.k, s.a, by omega, by simp, HL6⟩, by simp [intOf]; omega⟩
    · have hrr : ROut.mk f k c j m = r := by
        rcases HL.out.ok with ⟨h1, h2, h3⟩ | ⟨_, h2⟩
        · have hjn : j = a + b := by
            by_cases hx : j < a + b
            · exact absurd ⟨h1, hx⟩ hc
            · omega
          rw [hjn, Nat.sub_self] at h3
          rw [← h3, h1, h2, hjn]
          rfl
        · exact h2
      subst hrr
      dsimp only
      have e0 : wr.cell? ⟨gF + 1, 0, none⟩ = some (.int .i64 k) := HL.out.v.c1.cell 0
      have e1 : wr.cell? ⟨gF + 1, 1, none⟩ = some (.int .u32 c) := HL.out.v.c1.cell 1
      have d0 : wr.cell? ⟨gA + 1, 0, none⟩ = some (.int .i64 k) := HL.out.va.c1.cell 0
      have d1 : wr.cell? ⟨gA + 1, 1, none⟩ = some (.int .u32 c) := HL.out.va.c1.cell 1
      have HSm := hid (same_any _ fa m HL.out.t.a fb m HL.out.t.b)
      rw [MS.same_self] at HSm
      have HMa := hid (fun x (hx : Mem x fa m) => meter_any x fa m hx)
      have HMb := hid (fun x (hx : Mem x fb m) => meter_any x fb m hx)
      unfold ptr at HSm HMa HMb
      have hcs : j < a + b ∧ k ≠ 5 ∨ j = a + b := by
        by_cases hx : j < a + b
        · exact .inl ⟨hx, fun hk => hc ⟨hk, hx⟩⟩
        · exact .inr (by omega)
      clear hc
      rcases hcs with ⟨hjl, hk⟩ | hjn
      · have q1 : (j : Int) < (a : Int) + (b : Int) := by omega
        have hk1 : (k == 5) = false := by simpa using hk
        clear hk hjl
        go_upto_region 20 with fail
        go_upto_region 22 with (first | (refine wpList_load_f rfl _ rfl gF f rfl HL.out.v.c0 ?_) | (refine wpList_load_f rfl _ rfl gA f rfl HL.out.va.c0 ?_) | (refine wpList_neq_fg (by rfl) _ _ rfl f f rfl rfl false (by rw [F.same_self]; rfl) ?_) | (go_at_call 12; refine HSm.out.mono ?_; rintro e w8 ⟨rfl, hb8⟩; have HL8 := hid (And.intro (HL.out.t.on hb8) (And.intro (HL.out.va.on hb8) (Nat.le_trans HL.out.bx hb8.size))); clear hb8 e0 e1 d0 d1) | (go_at_call 13; first | (refine (HMa.out _ HL8.out.1.a).mono ?_; rintro e wq ⟨rfl, rfl⟩) | (refine (HMb.out _ HL8.out.1.b).mono ?_; rintro e wq ⟨rfl, rfl⟩)))
        exact pieces_t2 W _ HT.out B g3 gA q fa fb fc m0 m a b HA.out.1 HA.out.2 HU.out HF.out ⟨f, k, c, j, m⟩ HRr.out HL8.out.1 HL8.out.2.1 HL8.out.2.2 HGB.out.1 HGB.out.2 _ ‹∀ (a : Act) (w : World), Code.wp Tryd.prog _ _ a w → _› _ _ _ _ _ _ _ _ _ _ _ _ _ _ _ _ _ _ _ _ _ _ _ _ _ _ _ _ _ _ _ _ _ _ _ _ _ _ _ _ _ _ _ _ _ _ _ _ _ _ _ _ _ _ _ _ _ _ _ _ _ _ _ _ _ _ _ _ _ _ _ _ _ _ _ _ _ _ _ _ _ _ _ _ _ _ _ _ _ _ _ _ _ _ _ _ _ _ _ _ _ _ _ _ _ _ _ _ _ _ _ _ _ _ _ _ _ _ _ _ _ _ _ _ _ _ _ _ _ _ _ _ _ _ _ _ _ _ _ _ _ _ _ _ _ _ _ _ _ _ _ _ _ _ _ _ _ _ _ _ _ _ _ _ _ _ _ _ _ _ _ _ _ _ _ _ _ _ _ _ _ _ _ _ _ _ _ _ _ _ _ _ _ _ _ _ _ _ _ _ _ _ _ _ _ _ _ _ _ _ _ _ _ _ _ _ _ _
      · have q1 : (j : Int) = (a : Int) + (b : Int) := by omega
        have HJ := hid q1
        have q2 : ¬ ((a : Int) + (b : Int) < (a : Int) + (b : Int)) := by omega
        rw [q1]
        clear q1 hjn
        go_upto_region 20 with fail
        rw [← HJ.out]
        go_upto_region 22 with (first | (refine wpList_load_f rfl _ rfl gF f rfl HL.out.v.c0 ?_) | (refine wpList_load_f rfl _ rfl gA f rfl HL.out.va.c0 ?_) | (refine wpList_neq_fg (by rfl) _ _ rfl f f rfl rfl false (by rw [F.same_self]; rfl) ?_) | (go_at_call 12; refine HSm.out.mono ?_; rintro e w8 ⟨rfl, hb8⟩; have HL8 := hid (And.intro (HL.out.t.on hb8) (And.intro (HL.out.va.on hb8) (Nat.le_trans HL.out.bx hb8.size))); clear hb8 e0 e1 d0 d1) | (go_at_call 13; first | (refine (HMa.out _ HL8.out.1.a).mono ?_; rintro e wq ⟨rfl, rfl⟩) | (refine (HMb.out _ HL8.out.1.b).mono ?_; rintro e wq ⟨rfl, rfl⟩)))
        exact pieces_t2 W _ HT.out B g3 gA q fa fb fc m0 m a b HA.out.1 HA.out.2 HU.out HF.out ⟨f, k, c, j, m⟩ HRr.out HL8.out.1 HL8.out.2.1 HL8.out.2.2 HGB.out.1 HGB.out.2 _ ‹∀ (a : Act) (w : World), Code.wp Tryd.prog _ _ a w → _› _ _ _ _ _ _ _ _ _ _ _ _ _ _ _ _ _ _ _ _ _ _ _ _ _ _ _ _ _ _ _ _ _ _ _ _ _ _ _ _ _ _ _ _ _ _ _ _ _ _ _ _ _ _ _ _ _ _ _ _ _ _ _ _ _ _ _ _ _ _ _ _ _ _ _ _ _ _ _ _ _ _ _ _ _ _ _ _ _ _ _ _ _ _ _ _ _ _ _ _ _ _ _ _ _ _ _ _ _ _ _ _ _ _ _ _ _ _ _ _ _ _ _ _ _ _ _ _ _ _ _ _ _ _ _ _ _ _ _ _ _ _ _ _ _ _ _ _ _ _ _ _ _ _ _ _ _ _ _ _ _ _ _ _ _ _ _ _ _ _ _ _ _ _ _ _ _ _ _ _ _ _ _ _ _ _ _ _ _ _ _ _ _ _ _ _ _ _ _ _ _ _ _ _ _ _ _ _ _ _ _ _ _ _ _ _ _ _

end Go.Proofs.YteldpapacdbbiaaDoor
