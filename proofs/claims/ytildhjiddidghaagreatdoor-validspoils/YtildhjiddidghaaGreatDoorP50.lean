import Derived.Test.YtildhjiddidghaaGreatDoorP49
namespace Go.Proofs.YtildhjiddidghaaGreatDoor
open Go.RowKit
set_option maxHeartbeats 8000000
set_option maxRecDepth 100000
theorem flat5 : ∀ (l : List Sq) (j : Nat), j < l.length → ∀ i, i < 5 → (l.flatMap Sq.cs)[j * 5 + i]? = (l.getD j sq0).cs[i]?
  | [], j, hj, _, _ => absurd hj (by simp)
  | a :: l, 0, _, i, hi => by
    rw [List.flatMap_cons, List.getElem?_append_left (by simp [Sq.cs]; omega), Nat.zero_mul, Nat.zero_add]; rfl
  | a :: l, j + 1, hj, i, hi => by
    have hl : a.cs.length = 5 := rfl
    rw [List.flatMap_cons, List.getElem?_append_right (by rw [hl]; omega), hl, show (j + 1) * 5 + i - 5 = j * 5 + i by omega, flat5 l j (by simpa using hj) i hi]
    simp
theorem underSq : Tryz.prog.underlying 24 = some (.struct (Tryz.prog.fieldsOf 24)) := by kernel_rfl
theorem sizeSq : (Tryz.prog.info? 24).map (·.size) = some 5 := by kernel_rfl
theorem tm_nat (o k : Nat) : ((o : Int)).tmod (k : Int) = ((o % k : Nat) : Int) := by
  rw [Int.tmod_eq_emod_of_nonneg (by omega)]; rfl
theorem spoils_l (W : World) (hT : H.Tab W) (hR : H.TabR W) (h2 : 2 < W.heap.size) (wh off v : Int) (v0 : 0 ≤ v) (v1 : v < 4294967296) :
    Calls Tryz.prog 3 #[.int .i64 wh, .int .i64 off, .int .u32 v] W fun e W' => e = .returned (.bool true) ∧ Below W.heap.size W W' := by
  have HTb := hid (fun w (hb : Below W.heap.size W w) => And.intro (hT.below hb h2) (And.intro (hR.below hb (by omega)) (show 2 < w.heap.size by have := hb.size; omega)))
  have HB0 := hid (fun w (hb : Below W.heap.size W w) => built_0 w (HTb.out w hb).1 (HTb.out w hb).2.1 (HTb.out w hb).2.2)
  have HB1 := hid (fun w (hb : Below W.heap.size W w) => built_1 w (HTb.out w hb).1 (HTb.out w hb).2.1 (HTb.out w hb).2.2)
  have HB2 := hid (fun w (hb : Below W.heap.size W w) => built_2 w (HTb.out w hb).1 (HTb.out w hb).2.1 (HTb.out w hb).2.2)
  have HBr := hid (fun w p d (h : DB w p d) (hu : d.m.U) (h0 : 0 < d.m.ns) => broken_v w p d h hu h0)
  obtain ⟨n1, n2, n3⟩ := or_one v v0 v1
  have a1 := Int.tmod_lt_of_pos off (show (0 : Int) < 900 by decide)
  have a2 : -900 < off.tmod 900 := by
    have := Int.lt_tmod_of_pos off (show (0 : Int) < 900 by decide)
    omega
  obtain ⟨o, ho1, ho2⟩ : ∃ o : Nat, (off.tmod 900 + 900).tmod 900 = (o : Int) ∧ o < 900 := by
    have h1 := Int.tmod_lt_of_pos (off.tmod 900 + 900) (show (0 : Int) < 900 by decide)
    have h3 := Int.tmod_nonneg 900 (show 0 ≤ off.tmod 900 + 900 by omega)
    exact ⟨((off.tmod 900 + 900).tmod 900).toNat, by omega, by omega⟩
  have a3 : IntKind.wrap .i64 (off.tmod 900 + 900) = off.tmod 900 + 900 := wr64 _ (by omega) (by omega)
  have c1 := Int.tmod_lt_of_pos wh (show (0 : Int) < 19 by decide)
  have c2 : -19 < wh.tmod 19 := by
    have := Int.lt_tmod_of_pos wh (show (0 : Int) < 19 by decide)
    omega
  obtain ⟨K, hK1, hK2⟩ : ∃ K : Nat, (wh.tmod 19 + 19).tmod 19 = (K : Int) ∧ K < 19 := by
    have h1 := Int.tmod_lt_of_pos (wh.tmod 19 + 19) (show (0 : Int) < 19 by decide)
    have h3 := Int.tmod_nonneg 19 (show 0 ≤ wh.tmod 19 + 19 by omega)
    exact ⟨((wh.tmod 19 + 19).tmod 19).toNat, by omega, by omega⟩
  have c3 : IntKind.wrap .i64 (wh.tmod 19 + 19) = wh.tmod 19 + 19 := wr64 _ (by omega) (by omega)
  obtain ⟨oo, hoo1, hoo2⟩ : ∃ oo : Nat, bits .and .i64 off 1023 = (oo : Int) ∧ oo < 1024 := by
    rw [i64_and1023]
    have h1 := Int.emod_lt_of_pos off (show (0 : Int) < 1024 by decide)
    have h3 := Int.emod_nonneg off (show (1024 : Int) ≠ 0 by decide)
    exact ⟨(off % 1024).toNat, by omega, by omega⟩
  obtain ⟨vm, hvm, m0, m1⟩ : ∃ vm : Int, v.tmod 1000 = vm ∧ 0 ≤ vm ∧ vm < 1000 := ⟨_, rfl, Int.tmod_nonneg 1000 v0, Int.tmod_lt_of_pos v (by decide)⟩
  obtain ⟨o17, e17, l17⟩ : ∃ k : Nat, ((o : Int)).tmod 17 = (k : Int) ∧ k < 17 := ⟨o % 17, tm_nat o 17, Nat.mod_lt _ (by decide)⟩
  obtain ⟨o26, e26, l26⟩ : ∃ k : Nat, ((o : Int)).tmod 26 = (k : Int) ∧ k < 26 := ⟨o % 26, tm_nat o 26, Nat.mod_lt _ (by decide)⟩
  obtain ⟨o768, e768, l768⟩ : ∃ k : Nat, ((o : Int)).tmod 768 = (k : Int) ∧ k < 768 := ⟨o % 768, tm_nat o 768, Nat.mod_lt _ (by decide)⟩
  obtain ⟨o200, e200, l200⟩ : ∃ k : Nat, ((o : Int)).tmod 200 = (k : Int) ∧ k < 200 := ⟨o % 200, tm_nat o 200, Nat.mod_lt _ (by decide)⟩
  have HSp := hid (spl_ok o o17 o26 o768 o200 (bits .or .u32 v 1) vm ho2 l17 l26 l768 l200 n1 n2 n3 m0 m1 K hK2)
  have H4 := hid (bs4_ok oo v hoo2 v0 v1)
  have u1 : IntKind.wrap .i64 (18 + (o : Int)) = 18 + (o : Int) := wr64 _ (by omega) (by omega)
  have u2 : IntKind.wrap .i64 (1 + (o17 : Int)) = 1 + (o17 : Int) := wr64 _ (by omega) (by omega)
  have u3 : IntKind.wrap .i64 (37 + (o : Int)) = 37 + (o : Int) := wr64 _ (by omega) (by omega)
  have u4 : IntKind.wrap .i64 (11 + (o26 : Int)) = 11 + (o26 : Int) := wr64 _ (by omega) (by omega)
  have u5 : IntKind.wrap .i64 (256 + (o768 : Int)) = 256 + (o768 : Int) := wr64 _ (by omega) (by omega)
  have u6 : IntKind.wrap .i64 (4 + (o200 : Int)) = 4 + (o200 : Int) := wr64 _ (by omega) (by omega)
  have u7 : IntKind.wrap .i64 (100 + (o : Int)) = 100 + (o : Int) := wr64 _ (by omega) (by omega)
  have u8 : IntKind.wrap .u32 (1 + vm) = 1 + vm := wr32 _ (by omega) (by omega)
  have u9 : IntKind.wrap .u32 (4097 + vm) = 4097 + vm := wr32 _ (by omega) (by omega)
  have ua : IntKind.wrap .u32 (2 + vm) = 2 + vm := wr32 _ (by omega) (by omega)
  have HK := hid hK2
  have kk1 : (K : Int) < 19 := by omega
  obtain ⟨one, hone⟩ : ∃ one, bits .or .u32 v 1 = one := ⟨_, rfl⟩
  rw [hone] at HSp
  obtain ⟨ox, hox⟩ : ∃ ox, off.tmod 900 = ox := ⟨_, rfl⟩
  obtain ⟨wx, hwx⟩ : ∃ wx, wh.tmod 19 = wx := ⟨_, rfl⟩
  rw [hox] at ho1 a3
  rw [hwx] at hK1 c3
  clear hT hR h2 v0 v1 n1 n2 n3 a1 a2 c1 c2 ho2 hK2 hoo2 m0 m1 l17 l26 l768 l200
  go_enter Tryz.func3, Tryz.ntmps3
  go_upto_region 3 with fail
  go_cut [9] (fun s x => ∃ gl, s = .slice (some ⟨gl, 0, none⟩) 19 19 ∧ Hid (Below W.heap.size W x ∧ Cel x gl 24 ((spl o o17 o26 o768 o200 one vm).flatMap Sq.cs)))
  case first =>
    go_wp2_with fail
    go_meet
    exact ⟨W.heap.size, rfl, hid ⟨below_one _ _, Cel.new W 24 ((spl o o17 o26 o768 o200 one vm).flatMap Sq.cs)⟩⟩
  case rest =>
    obtain ⟨gl, rfl, S0⟩ := hcut
    clear hone hvm hox ho1 a3 u1 u2 u3 u4 u5 u6 u7 u8 u9 ua e17 e26 e768 e200
    obtain ⟨x, hx⟩ : ∃ x, (spl o o17 o26 o768 o200 one vm).getD K sq0 = x := ⟨_, rfl⟩
    rw [hx] at HSp
    have HRow : Hid (∀ w, Cel w gl 24 ((spl o o17 o26 o768 o200 one vm).flatMap Sq.cs) → w.rangeAt gl (K * 5) [.int .i64 x.p, .int .i64 x.o, .int .u32 x.v, .int .i64 x.c, .int .i64 x.q]) := hid (fun w hc i u hu => by
      have hi : i < 5 := (List.getElem?_eq_some_iff.1 hu).1
      rw [hc.cell, flat5 (spl o o17 o26 o768 o200 one vm) K (show K < 19 from HK.out) i hi, hx]
      exact hu)
    generalize (spl o o17 o26 o768 o200 one vm).flatMap Sq.cs = LL at *
    clear hx
    go_upto_region 5 with fail
    go_loopw [10] (fun i wr => ∃ (j : Nat), j ≤ 3 ∧ i = .int .i64 (j : Int) ∧ Hid (Below W.heap.size W wr ∧ Cel wr gl 24 LL)) (fun i _ => 3 - (intOf i).toNat)
    case atStart => exact ⟨0, by omega, rfl, S0⟩
    case round =>
      obtain ⟨j, hj, rfl, HS⟩ := hrel
      clear S0
      by_cases hlt : j < 3
      · have HJ := hid hlt
        have HC : Hid (Calls Tryz.prog 6 #[.int .i64 (j : Int)] wr fun e w' => ∃ g p r d, e = .returned (.pointer (some ⟨g, 0, none⟩)) ∧ SS wr w' g p r d d ∧ d.fb 1 12 = (0, 0) ∧ d.m.U ∧ 0 < d.m.ns) := hid (by
          have h3 : j = 0 ∨ j = 1 ∨ j = 2 := by omega
          rcases h3 with rfl | rfl | rfl
          · exact (HB0.out _ HS.out.1).mono fun e w' ⟨g, p, r, he, hs⟩ => ⟨g, p, r, _, he, hs, bd_ok⟩
          · exact (HB1.out _ HS.out.1).mono fun e w' ⟨g, p, r, he, hs⟩ => ⟨g, p, r, _, he, hs, bs1_ok⟩
          · exact (HB2.out _ HS.out.1).mono fun e w' ⟨g, p, r, he, hs⟩ => ⟨g, p, r, _, he, hs, bs2_ok⟩)
        have q1 : (j : Int) < 3 := by omega
        clear hlt hj
        go_upto_region 10 with (go_at_call 6; refine HC.out.mono ?_; rintro e w3 ⟨g, p, r, d, rfl, hs, hf, hu, h0⟩; have S3 := hid hs; have HBd := hid (fun w (h : DB w p d) => HBr.out w p d h hu h0); rw [hf] at HBd; simp only at HBd; clear hs hf hu h0 HC)
        obtain ⟨x0, x1, x2⟩ := S3.out.c
        go_wp2_with (go_at_call 7; refine (HBd.out _ S3.out.own).mono ?_; rintro e w4 ⟨rfl, hb4⟩; have B4 := hid (below_on S3.out.bl hb4); clear hb4)
        go_roundw
        case measure => have := HJ.out; simp [intOf] <;> omega
        case rel => exact ⟨j + 1, HJ.out, by simp, hid ⟨below_on HS.out.1 B4.out, HS.out.2.on B4.out⟩⟩
      · obtain rfl : j = 3 := by omega
        clear hlt hj HB0
        go_upto_region 14 with (go_at_call 6; refine (HB1.out _ HS.out.1).mono ?_; rintro e w3 ⟨g, p, r, rfl, hs⟩; have S3 := hid hs; clear hs)
        have HRw := hid (HRow.out _ (HS.out.2.on S3.out.bl))
        have nz : ((19 : Int) == 0) = false := by decide
        go_upto_region 15 with (refine H.wpList_load_mid rfl 24 _ rfl gl (K * 5) rfl _ _ HRw.out underSq rfl (by rw [sizeSq]; rfl) ?_)
        have S4 := hid ((SB.mk (L := []) S3.out (by simp) (by simp)).cons 24 [.int .i64 x.p, .int .i64 x.o, .int .u32 x.v, .int .i64 x.c, .int .i64 x.q] rfl)
        clear HRw HRow S3
        simp only [List.toArray] at S4
        generalize World.alloc _ _ = w4 at *
        generalize w3.heap.size = g15 at *
        have y0 := (S4.out.get 0 rfl).cell 0
        have y1 := (S4.out.get 0 rfl).cell 1
        have y2 := (S4.out.get 0 rfl).cell 2
        simp only [List.getElem?_cons_zero, List.getElem?_cons_succ] at y0 y1 y2
        have HWr := hid (write_b _ _ g p r bs1 _ S4.out x.p x.o x.v)
        have HBw : Hid ({ bs1 with m := bs1.m.write true x.p x.o x.v } = bs1w x) := hid rfl
        rw [HBw.out] at HWr
        go_upto_region 17 with (go_at_call 8; refine HWr.out.mono ?_; rintro e w5 ⟨rfl, r5, hs5⟩; have S5 := hid hs5; clear hs5 HWr S4 y0 y1 y2)
        have HBd := hid (fun w (h : DB w p (bs1w x)) => HBr.out w p _ h HSp.out.2.1 HSp.out.2.2)
        rw [HSp.out.1] at HBd
        simp only at HBd
        obtain ⟨x0, x1, x2⟩ := S5.out.ss.c
        go_upto_region 18 with (go_at_call 7; refine (HBd.out _ S5.out.ss.own).mono ?_; rintro e w6 ⟨rfl, hb6⟩; have S6 := hid (S5.out.on hb6); clear hb6)
        clear x0 x1 x2 S5
        have y3 := (S6.out.get 0 rfl).cell 3
        have y4 := (S6.out.get 0 rfl).cell 4
        simp only [List.getElem?_cons_zero, List.getElem?_cons_succ] at y3 y4
        have B6 := hid (below_on HS.out.1 S6.out.ss.bl)
        go_upto_region 20 with fail
        clear y3 y4 S6 HS HSp HBd
        go_upto_region 21 with (go_at_call 6; refine (HB2.out _ B6.out).mono ?_; rintro e w7 ⟨g7, p7, r7, rfl, hs7⟩; have S7 := hid hs7; clear hs7)
        have HW1 := hid (write_l _ _ g7 p7 r7 bs2 S7.out 1 (oo : Int) v)
        have HD4 : Hid (({ bs2 with m := (((bs2.m.write true 1 (oo : Int) v).write true 2 (oo : Int) v).write true 3 (oo : Int) v).write true 0 0 v } : DS) = bs4 (oo : Int) v) := hid rfl
        go_wp2_with fail
        refine HW1.out.mono ?_
        rintro e w8 ⟨rfl, r8, hs8⟩
        have HW2 := hid (write_l _ _ g7 p7 r8 _ hs8 2 (oo : Int) v)
        clear hs8 HW1
        go_wp2_with fail
        refine HW2.out.mono ?_
        rintro e w9 ⟨rfl, r9, hs9⟩
        have HW3 := hid (write_l _ _ g7 p7 r9 _ hs9 3 (oo : Int) v)
        clear hs9 HW2
        go_wp2_with fail
        refine HW3.out.mono ?_
        rintro e wa ⟨rfl, ra, hsa⟩
        have HW4 := hid (write_l _ _ g7 p7 ra _ hsa 0 0 v)
        clear hsa HW3
        go_wp2_with fail
        refine HW4.out.mono ?_
        rintro e wb ⟨rfl, rb, hsb⟩
        rw [HD4.out] at hsb
        have SB4 := hid hsb
        clear hsb HW4
        go_upto_region 23 with fail
        have HBd := hid (fun w (h : DB w p7 (bs4 (oo : Int) v)) => HBr.out w p7 _ h H4.out.2.1 H4.out.2.2)
        rw [H4.out.1] at HBd
        simp only at HBd
        obtain ⟨x0, x1, x2⟩ := SB4.out.c
        go_wp2_with (go_at_call 7; refine (HBd.out _ SB4.out.own).mono ?_; rintro e wd ⟨rfl, hbd⟩; have BD := hid (below_on (below_on B6.out SB4.out.bl) hbd); clear hbd)
        go_ret
        first | exact ⟨rfl, BD.out⟩ | exact ⟨by simp, BD.out⟩
end Go.Proofs.YtildhjiddidghaaGreatDoor
