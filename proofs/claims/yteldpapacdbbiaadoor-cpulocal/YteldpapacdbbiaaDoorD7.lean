/- CpuLocal 5: its first Step. -/
import Derived.Test.YteldpapacdbbiaaDoorD6
namespace Go.Proofs.YteldpapacdbbiaaDoor
open Go.RowKit
set_option maxHeartbeats 8000000
set_option maxRecDepth 100000
attribute [-simp] Tryd.isAgg26 Tryd.sizeOf26 Tryd.isAgg24 Tryd.isAgg28 Tryd.sizeOf28
theorem local_t1 (W w : World) (hT : Tb W) (B g3 g4 g8 : Nat) (q : Mq) (fa fb fc : Fp) (m : MS) (ps : Bool) (pp po vv : Int) (vv0 : 0 ≤ vv) (vv1 : vv < 4294967296) (v : Value) (h : T3 W w B g3 q fa fb fc m m (m.write ps pp po vv)) (hk : Ks W w g4 g8 fa fb fc ps pp po v (rds m q.l q.f) (stS m q.l q.f) (stT m q.l q.f)) (hU : m.U) (hF : q.f.U) (hB : B ≤ w.heap.size) (hc0 : 0 ≤ m.c) (hc1 : m.c ≤ 144115188075855872) (K : Act → World → Prop) (hK : ∀ a w, Code.wp Tryd.prog (sfx 9 (Tryd.f5.body.getD .skip)) (bodyPost Tryd.prog Tryd.f5 fun x w' => x = .returned (.bool true) ∧ Below W.heap.size W w') a w → K a w) (z0 z1 z2 z5 z6 z12 z13 z14 z15 z16 z17 z18 z19 z20 z21 z22 z23 z24 z25 z26 z27 z28 z29 z30 z31 z32 z33 z34 z35 z36 z37 z38 z39 z40 z41 z42 z43 z44 z45 z46 z47 z48 z49 z50 z51 z52 z53 z54 z55 z56 z57 z58 z59 z60 z61 z62 z63 z64 z65 z66 z67 z68 z69 z70 z71 z72 z73 z74 z75 z76 z77 z78 z79 z80 z81 z82 z83 z84 z85 z86 z87 z88 z89 z90 z91 z92 z93 z94 z95 z96 z97 z98 z99 z100 z101 z102 z103 z104 z105 z106 z107 z108 z109 z110 z111 z112 z113 z114 z115 z116 z117 z118 z119 z120 z121 z122 : Value) :
    Code.wp Tryd.prog (hdx 8 (Tryd.f5.body.getD .skip)) (Exit.then K (bodyPost Tryd.prog Tryd.f5 fun x w' => x = .returned (.bool true) ∧ Below W.heap.size W w')) { tmps := #[z0, z1, z2, .pointer (some ⟨g3, 0, none⟩), .pointer (some ⟨g4, 0, none⟩), z5, z6, .pointer (some ⟨fa.gm, 0, none⟩), .pointer (some ⟨g8, 0, none⟩), .pointer (some ⟨fb.gm, 0, none⟩), .pointer (some ⟨fc.gm, 0, none⟩), .int .i64 (m.write ps pp po vv).c, z12, z13, z14, z15, z16, z17, z18, z19, z20, z21, z22, z23, z24, z25, z26, z27, z28, z29, z30, z31, z32, z33, z34, z35, z36, z37, z38, z39, z40, z41, z42, z43, z44, z45, z46, z47, z48, z49, z50, z51, z52, z53, z54, z55, z56, z57, z58, z59, z60, z61, z62, z63, z64, z65, z66, z67, z68, z69, z70, z71, z72, z73, z74, z75, z76, z77, z78, z79, z80, z81, z82, z83, z84, z85, z86, z87, z88, z89, z90, z91, z92, z93, z94, z95, z96, z97, z98, z99, z100, z101, z102, z103, z104, z105, z106, z107, z108, z109, z110, z111, z112, z113, z114, z115, z116, z117, z118, z119, z120, z121, z122], defers := [] } w := by
  have hco : 0 ≤ (m.write ps pp po vv).c ∧ (m.write ps pp po vv).c ≤ 144115188075855873 := by
    have := MS.write_c m ps pp po vv 144115188075855872 ⟨hc0, by omega⟩ (by omega)
    omega
  have HLe := hid (rds_len m q.l q.f)
  have hcs := stp_c (l := q.l) (f := q.f) hc0 (by omega)
  have hco2 := stp_c (m := m.write ps pp po vv) (l := q.l) (f := q.f) hco.1 (by omega)
  have hdr := stD_range m q.l q.f
  have HPt := hid (stp_parts (l := q.l) (f := q.f) h.a.ns0 hc0 (by omega))
  have HLo := hid (fun hn => @stp_local m h.a.ns0 ps pp po vv q.l q.f hn)
  have HEn := hid (fun hn hs => @local_end m h.a.ns0 h.a.full ps pp po vv q.l q.f h.c.ns0 h.c.full hn hc0 (by omega) hco.1 (by omega) hs)
  have HCo := hid (And.intro hco hco2)
  have HUo := hid (hU.write ps pp po vv vv0 vv1)
  have HC0 := hid (And.intro hc0 hc1)
  have HT := hid hT
  have H := hid h
  have HK := hid hk
  have HBB := hid hB
  have HF := hid hF
  have HS := hid (h.stepA hT hU q.l q.f hF)
  have c3 : w.cell? ⟨g3, 3, none⟩ = some (.int .i64 q.l) := h.cq.cell 3
  clear hT h hk hU hF hB hco hco2 vv0 vv1
  generalize rds m q.l q.f = RD at *
  generalize stS m q.l q.f = SS at *
  generalize stT m q.l q.f = TT at *
  generalize stD m q.l q.f = dd at *
  generalize stp m q.l q.f = s at *
  obtain ⟨ao, cp, hv⟩ := HK.out.hp.form
  subst hv
  obtain ⟨dd0, dd1⟩ := hdr
  have x0 : s.m.c ≤ 144115188075855880 := by omega
  have x1 : 0 ≤ s.m.c := by omega
  have x2 : ¬ (6 < s.m.c - m.c) := by omega
  have x3 : s.m.c - m.c ≤ 6 := by omega
  have HDd := hid hcs
  have HD0 := hid (And.intro dd0 dd1)
  clear hcs dd0 dd1
  unfold ptr at HS
  refine hd_walk 8 rfl (by simp only [hdx, sfx]; rfl) (by simp only [sfx]; rfl) hK ?_
  clear hK
  intro hK
  go_upto_region 10 with (first | (refine wpList_fa4 rfl _ rfl g3 rfl ?_) | (refine wpList_load_qf rfl _ rfl g3 q rfl H.out.cq ?_) | (go_at_call 11; refine HS.out.mono ?_; rintro e w1 ⟨rfl, ht1, hb1⟩; have H1 := hid ht1; have HK1 := hid (HK.out.ba hb1 H.out.la); have HB1 : Hid (B ≤ w1.heap.size) := hid (Nat.le_trans HBB.out hb1.size); have HT1 := hid (Two.new w1); simp only [zf, evc] at HT1; clear ht1 hb1 c3; unfold Out.v) | (refine wpList_store_f rfl _ _ rfl w1.heap.size F.zero s.f rfl rfl HT1.out.c0 ?_; intro u1 hcu hbu hsu; have HU1 := hid (And.intro hcu hbu); have CU1 := hid (HT1.out.c1.but hbu (by simp)); clear hcu hbu hsu) | (refine wpList_store_st rfl 35 _ _ rfl (w1.heap.size + 1) (evc s.k s.a) rfl rfl CU1.out size35 rfl rfl ?_; intro v1 hcv hbv hsv; have HF1 := hid (HT1.out.fill (Nat.le_refl _) HU1.out.1 HU1.out.2 hcv hbv); clear hcv hbv hsv))
  try simp only [Act.put]
  have H2 := hid (H1.out.on HF1.out.below)
  have HK2 := hid (HK1.out.on HF1.out.below)
  have HX2 := hid (HF1.out.v2 HB1.out)
  have HB2 : Hid (B ≤ v1.heap.size) := hid (Nat.le_trans HB1.out HF1.out.below.size)
  clear H HK HS H1 HK1 HT1 HF1 HB1 HBB HU1 CU1
  generalize w1.heap.size = gA at *
  have HMa := hid (fun x (hx : Mem x fa s.m) => meter_any x fa s.m hx)
  have HMb := hid (fun x (hx : Mem x fb m) => meter_any x fb m hx)
  have HBh := hid (behind_any v1 fb fa m s.m H2.out.b H2.out.a SS TT.1 TT.2.1 TT.2.2 HPt.out)
  simp only [plc] at HBh
  unfold ptr at HMa HMb HBh
  obtain ⟨y0, y1, y2, y3, y4⟩ := cel5 HK2.out.c8
  go_upto_region 12 with (first | (go_at_call 13; first | (refine (HMa.out _ H2.out.a).mono ?_; rintro e wq ⟨rfl, rfl⟩) | (refine (HMb.out _ H2.out.b).mono ?_; rintro e wq ⟨rfl, rfl⟩)) | (go_at_call 15; refine HBh.out.mono ?_; rintro e w3 ⟨rfl, hb3⟩; have H3 := hid (H2.out.on hb3); have HK3 := hid (HK2.out.on hb3); have HX3 := hid (HX2.out.on hb3); have HB3 := hid (Nat.le_trans HB2.out hb3.size); clear hb3))
  clear y0 y1 y2 y3 y4 H2 HK2 HX2 HB2 HMa HMb HBh HPt
  have y0 := (cel5 HK3.out.c8).1
  have p0 := HK3.out.c4.cell 0
  have p1 := HK3.out.c4.cell 1
  have p2 := HK3.out.c4.cell 2
  simp only [plc, List.getElem?_cons_zero, List.getElem?_cons_succ] at p0 p1 p2
  have HAm := hid (among_any W w3 (.slice ao RD.length cp) RD HK3.out.hp HLe.out ps pp po)
  simp only [plc] at HAm
  by_cases hin : (ps, pp, po) ∈ RD
  · rw [decide_eq_true hin] at HAm
    clear hin HLo HEn
    go_wp2_with (go_at_call 21; refine HAm.out.mono ?_; rintro e w4 ⟨rfl, hb4⟩; have HB4 := hid (below_on H3.out.below hb4); clear hb4)
    go_ret
    exact ⟨rfl, HB4.out⟩
  · rw [decide_eq_false hin] at HAm
    have HL1 := hid (HLo.out hin)
    have HE1 := hid (HEn.out hin)
    clear hin HLo HEn
    go_upto_region 14 with (go_at_call 21; refine HAm.out.mono ?_; rintro e w4 ⟨rfl, hb4⟩; have H4 := hid (H3.out.on hb4); have HK4 := hid (HK3.out.on hb4); have HX4 := hid (HX3.out.on hb4); have HB4 := hid (Nat.le_trans HB3.out hb4.size); clear hb4)
    exact local_t2 W _ HT.out B g3 g4 g8 gA q fa fb fc m (m.write ps pp po vv) s ps pp po _ RD SS TT H4.out HX4.out HK4.out HUo.out HF.out HB4.out HL1.out.1 (by have h1 := HCo.out.2; have h2 := HL1.out.2.1; have h3 := HDd.out; omega) (by have := HCo.out.1; omega) (by have h1 := HCo.out.2; have h2 := HL1.out.2.1; have h3 := HD0.out; have h4 := HCo.out.1; omega) ⟨x1, x0⟩ (by have := HC0.out; omega) HE1.out _ ‹∀ (a : Act) (w : World), Code.wp Tryd.prog _ _ a w → _› _ _ _ _ _ _ _ _ _ _ _ _ _ _ _ _ _ _ _ _ _ _ _ _ _ _ _ _ _ _ _ _ _ _ _ _ _ _ _ _ _ _ _ _ _ _ _ _ _ _ _ _ _ _ _ _ _ _ _ _ _ _ _ _ _ _ _ _ _ _ _ _ _ _ _ _ _ _ _ _ _ _ _ _ _ _ _ _ _ _ _ _ _ _ _ _ _ _ _ _ _ _ _ _ _ _ _ _ _ _ _ _ _ _
end Go.Proofs.YteldpapacdbbiaaDoor
