import Derived.Test.YtdfnbcbnmiohnaaGreatDoorP51
namespace Go.Proofs.YtdfnbcbnmiohnaaGreatDoor
open Go.RowKit
set_option maxRecDepth 100000
set_option maxHeartbeats 8000000
/-- The database, a clone of it as it was, a clone of its memory, a box. -/
structure LR (W w : World) (p po : Dp) (f' : Fp) (d d0 : DS) (g3 : Nat) (cs : List Value) : Prop where
  o : OD W w p d
  old : DB w po d0
  was : Mem w f' d0.m
  box : Cel w g3 48 cs
  a1 : ∀ k ∈ p.all, k ∉ po.all
  a2 : ∀ k ∈ p.all, k ∉ f'.all
  a3 : g3 ∉ p.all
theorem LR.on {W w w' : World} {p po : Dp} {f' : Fp} {d d0 : DS} {g3 : Nat} {cs : List Value} (h : LR W w p po f' d d0 g3 cs) (hb : Below w.heap.size w w') : LR W w' p po f' d d0 g3 cs := ⟨h.o.on hb, h.old.on hb, h.was.on hb, h.box.on hb, h.a1, h.a2, h.a3⟩
theorem LR.step {W w w' : World} {p po : Dp} {f' : Fp} {d d' d0 : DS} {g3 : Nat} {cs : List Value} (h : LR W w p po f' d d0 g3 cs) (hd : DB w' p d') (hb : ButL p.w w w') : LR W w' p po f' d' d0 g3 cs :=
  ⟨h.o.step hd hb, h.old.frame hb (fun k hk hm => h.a1 k (p.w_all' k hm) hk), h.was.frame hb (fun k hk hm => h.a2 k (p.w_all' k hm) hk), h.box.but hb (fun hm => h.a3 (p.w_all' _ hm)), h.a1, h.a2, h.a3⟩
theorem LR.of {W w w1 w2 : World} {p po : Dp} {f' : Fp} {d : DS} {g3 : Nat} {cs : List Value} (h : OD W w p d) (hn : NewDB w w1 po d) (hm : NewMem w1 w2 f' d.m) (hc : Cel w g3 48 cs) (hg : g3 < W.heap.size) : LR W w2 p po f' d d g3 cs :=
  ⟨(h.on hn.below).on hm.below, hn.db.on hm.below, hm.mem, (hc.on hn.below).on hm.below,
   fun k hk hm' => by have := hn.new k hm'; have := h.db.lt k hk; omega,
   fun k hk hm' => by have := hm.new k hm'; have := h.db.lt k hk; have := hn.below.size; omega,
   fun hk => by have := h.own g3 hk; omega⟩
/-- A page that neither is named nor counts: the same. -/
structure PG (c : Int) (N C : Bool) (d d0 : DS) (x : Int) : Prop where
  w : (c = 0 → N = false) → ∀ o, d.m.word true x o = d0.m.word true x o
  e : (c = 0 → N = false) → d.ent x = d0.ent x ∨ (c = 0 ∧ C = true ∧ (d.ent x).t = 1)
theorem pg_of {n : Nat} {d0 d' D : DS} (h : GI n d0) (hk : d0.Ok) (hw : d0.m.Whole) (k a b : Int) (k1 : 5 ≤ k) (k2 : k ≤ 8) (a0 : 0 ≤ a) (b0 : 0 ≤ b) (c : Int) (hc : d0.lfC k a b = c) (hD : d0.lfD k a b = D) (hS : DS.Sim D d') (x : Int) (x0 : 0 ≤ x) (x1 : x < 8) :
    PG c (decide (x = a ∨ (x = b ∧ k = 5))) (decide (x = (d0.ent (a.tmod 8)).o ∧ k = 8)) d' d0 x := by
  by_cases e : c = 0
  · subst e
    obtain ⟨ha, hb, hl⟩ := lf_yes h hk hw k a b k1 k2 a0 b0 hc
    rw [hD] at hl
    have hl' := hl.sim hS
    have hm : a.tmod 8 = a := by rw [Int.tmod_eq_emod_of_nonneg a0]; omega
    rw [hm]
    have go : ((0 : Int) = 0 → decide (x = a ∨ (x = b ∧ k = 5)) = false) → x ≠ a ∧ ¬ (k = 5 ∧ x = b) := fun hh => by
      have := hh rfl
      simp only [decide_eq_false_iff_not, not_or, not_and] at this
      exact ⟨this.1, fun y => this.2 y.2 y.1⟩
    refine ⟨fun hh => (hl'.oth x x0 x1 (go hh).1 (go hh).2).2, fun hh => ?_⟩
    rcases (hl'.oth x x0 x1 (go hh).1 (go hh).2).1 with e | ⟨e1, e2, e3⟩
    · exact .inl e
    · exact .inr ⟨rfl, by simp [e1, e2], e3⟩
  · have : d0.lfD k a b = d0 := lf_no (by rw [hc]; exact e)
    rw [← hD, this] at hS
    exact ⟨fun _ o => hS.word true x o, fun _ => .inl (hS.ent x)⟩
theorem size30 : (Tryz.prog.info? 30).map (·.size) = some 5 := by kernel_rfl
theorem refuses_l (W : World) (ao : Option Addr) (n cp : Nat) (q : Nat → Oq) (hq : OpsAt W ao n q) (hn : (n : Int) ≤ 4611686018427387904) (k a b t f v : Int) (hx : (Oq.mk k a b t f v).Ok) (hT : H.Tab W) (hs : 1 < W.heap.size) :
    Calls Tryz.prog 6 #[.slice ao n cp, opV k a b t f v] W fun x W' => x = .returned (.bool true) ∧ Below W.heap.size W W' := by
  have B0 := hid (below_one W (.cells #[.int .i64 k, .int .u32 a, .int .u32 b, .int .i64 t, .int .i64 f, .int .u32 v] 48))
  have C0 := hid (Cel.new W 48 [.int .i64 k, .int .u32 a, .int .u32 b, .int .i64 t, .int .i64 f, .int .u32 v])
  have HS0 : Hid (1 < (W.alloc (.cells #[.int .i64 k, .int .u32 a, .int .u32 b, .int .i64 t, .int .i64 f, .int .u32 v] 48)).heap.size) := hid (by have := B0.out.size; omega)
  have HT0 := hid (hT.below B0.out hs)
  have HQ0 : Hid (OpsAt (W.alloc (.cells #[.int .i64 k, .int .u32 a, .int .u32 b, .int .i64 t, .int .i64 f, .int .u32 v] 48)) ao n q) := hid ⟨fun h => by obtain ⟨g, off, e, hg, hr⟩ := hq.at_ h; exact ⟨g, off, e, by have := B0.out.size; omega, fun j hj => rangeAt_on (hr j hj) hg B0.out⟩, hq.v⟩
  have HLt : Hid (W.heap.size < (W.alloc (.cells #[.int .i64 k, .int .u32 a, .int .u32 b, .int .i64 t, .int .i64 f, .int .u32 v] 48)).heap.size) := hid C0.out.lt
  have HX := hid hx
  clear hq hT hs hx
  simp only [opV, opC] at *
  go_enter Tryz.func6, Tryz.ntmps6
  go_upto_region 1 with fail
  generalize World.alloc _ _ = X at *
  have HG := hid (grown_any X ao n cp q HQ0.out hn HT0.out HS0.out)
  have HK := hid (fun w (hb : Below X.heap.size X w) => known_any w (HT0.out.below hb HS0.out) (by have := hb.size; have := HS0.out; omega))
  clear HQ0
  generalize hg3 : W.heap.size = g3 at C0 HLt
  clear hg3
  go_upto_region 2 with (go_at_call 8; refine HG.out.mono ?_; rintro e w1 ⟨p, n0, d0, rfl, hn0, hR⟩; have R1 := hid hR; have HN0 := hid hn0; have C1 := hid (C0.out.on hR.o.bl); clear hR hn0 HG C0)
  have c0 := C1.out.cell 0
  simp only [List.getElem?_cons_zero] at c0
  by_cases k1 : k < 5
  · go_upto_region 3 with (go_at_call 12; revert R1; intro R1; refine (HK.out _ R1.out.o.bl).mono ?_; rintro e w2 ⟨rfl, hb⟩; have R2 := hid (R1.out.on hb); have C2 := hid (C1.out.on hb); clear hb R1 C1; have c02 := C2.out.cell 0; simp only [List.getElem?_cons_zero] at c02)
    go_wp2_with (go_at_call 12; revert R2; intro R2; refine (HK.out _ R2.out.o.bl).mono ?_; rintro e w3 ⟨rfl, hb⟩; have R3 := hid (below_on B0.out (below_on R2.out.o.bl hb)); clear hb)
    go_ret
    exact ⟨rfl, R3.out⟩
  by_cases k2 : 8 < k
  · have k3 : 5 ≤ k := by omega
    clear k1
    go_upto_region 3 with (go_at_call 12; revert R1; intro R1; refine (HK.out _ R1.out.o.bl).mono ?_; rintro e w2 ⟨rfl, hb⟩; have R2 := hid (R1.out.on hb); have C2 := hid (C1.out.on hb); clear hb R1 C1; have c02 := C2.out.cell 0; simp only [List.getElem?_cons_zero] at c02)
    go_wp2_with (go_at_call 12; revert R2; intro R2; refine (HK.out _ R2.out.o.bl).mono ?_; rintro e w3 ⟨rfl, hb⟩; have R3 := hid (below_on B0.out (below_on R2.out.o.bl hb)); clear hb)
    go_ret
    exact ⟨rfl, R3.out⟩
  have k3 : 5 ≤ k := by omega
  have k4 : k ≤ 8 := by omega
  clear k1 k2
  go_upto_region 4 with (go_at_call 12; revert R1; intro R1; refine (HK.out _ R1.out.o.bl).mono ?_; rintro e w2 ⟨rfl, hb⟩; have R2 := hid (R1.out.on hb); have C2 := hid (C1.out.on hb); clear hb R1 C1; have c02 := C2.out.cell 0; simp only [List.getElem?_cons_zero] at c02)
  clear c0 c02 HK
  have HCl := hid (fun w (h : OD X w p d0) => dclone_any w p d0 h.db)
  have HMe := hid (fun w (h : DB w p d0) => memory_any w p d0 h)
  have HCm := hid (fun w (h : Mem w p.f d0.m) => clone_any w p.f d0.m h)
  simp only [ptr] at HCl HMe HCm
  go_upto_region 5 with (go_at_call 27; refine (HCl.out _ R2.out.o).mono ?_; rintro e w3 ⟨po, rfl, hN⟩; have N3 := hid hN; clear hN)
  go_upto_region 6 with (first | (go_at_call 28; refine (HMe.out _ (R2.out.o.db.on N3.out.below)).mono ?_; rintro e wx ⟨rfl, hw⟩; subst wx) | (go_at_call 21; refine (HCm.out _ (R2.out.o.db.on N3.out.below).mem).mono ?_; rintro e w4 ⟨f', rfl, hM⟩; have L4 := hid (LR.of R2.out.o N3.out hM C2.out HLt.out); clear hM))
  have HGI := hid (And.intro (R2.out.g (by have := HN0.out; omega)) (And.intro R2.out.o.db.ok (R2.out.wh)))
  have HHn := hid (show n0 ≤ 41 by have := HN0.out; omega)
  clear N3 C2 R2 HCl HMe HCm HN0
  obtain ⟨c, hc⟩ : ∃ c, d0.lfC k a b = c := ⟨_, rfl⟩
  obtain ⟨D, hD⟩ : ∃ D, d0.lfD k a b = D := ⟨_, rfl⟩
  have HCO := hid (fun w (h : LR X w p po f' d0 d0 g3 [.int .i64 k, .int .u32 a, .int .u32 b, .int .i64 t, .int .i64 f, .int .u32 v]) => callOwn_any w p d0 h.o.db HGI.out.1.U (h.o.gl HT0.out HS0.out) k a b t f v HX.out.a0 HX.out.a1 HX.out.b0 HX.out.b1 c hc D hD)
  have HWh := hid (fun w (h : DB w po d0) => why_any w po d0 h k a b t f v HX.out.a0 HX.out.a1 HX.out.b0 HX.out.b1 c ((HGI.out.1.why HHn.out k a b k3 k4 HX.out.a0 HX.out.b0).symm.trans hc))
  have HPG := hid (fun d' hS x x0 x1 => pg_of HGI.out.1 HGI.out.2.1 HGI.out.2.2 (d' := d') k a b k3 k4 HX.out.a0 HX.out.b0 c hc hD hS x x0 x1)
  have HLE := hid (fun d' (hS : DS.Sim D d') (e : c = 0) => (show a < 8 ∧ (k = 5 → b < 8 ∧ a ≠ b) ∧ LE d0 d' k a b from by
    obtain ⟨h1, h2, h3⟩ := lf_yes HGI.out.1 HGI.out.2.1 HGI.out.2.2 k a b k3 k4 HX.out.a0 HX.out.b0 (hc.trans e)
    rw [hD] at h3
    exact ⟨h1, h2, h3.sim hS⟩))
  clear hc hD HGI HHn HT0 HS0
  simp only [ptr, opV, opC] at HCO HWh
  go_upto_region 7 with (first | (refine wpList_load_mid rfl 48 _ rfl g3 0 rfl _ _ L4.out.box.range under48 rfl (by rw [size48]; rfl) ?_) | (go_at_call 33; refine (HCO.out _ L4.out).mono ?_; rintro e w5 ⟨d', rfl, hS, hd, hb⟩; have L5 := hid (L4.out.step hd hb); have HSim := hid hS; clear hd hb hS))
  clear L4 HCO
  have HPg := hid (fun x x0 x1 => HPG.out d' HSim.out x x0 x1)
  have HLe := hid (fun e => HLE.out d' HSim.out e)
  clear HPG HLE HSim
  go_upto_region 9 with (first | (refine wpList_load_mid rfl 48 _ rfl g3 0 rfl _ _ L5.out.box.range under48 rfl (by rw [size48]; rfl) ?_) | (go_at_call 34; refine (HWh.out _ L5.out.old).mono ?_; rintro e w6 ⟨rfl, hb⟩; have L6 := hid (L5.out.on hb); clear hb))
  clear L5 HWh
  have h5 : decide (k < 5) = false := by simp; omega
  have h8 : decide (8 < k) = false := by simp; omega
  simp only [h5, h8, Bool.or_false]
  clear h5 h8 HLt
  have HAd := hid (fun w (h : DB w p d') x => at_l w p d' h x)
  have HAo := hid (fun w (h : DB w po d0) x => at_l w po d0 h x)
  have HMe := hid (fun w (h : DB w p d') => memory_any w p d' h)
  have HSa := hid (fun w (h : LR X w p po f' d' d0 g3 [.int .i64 k, .int .u32 a, .int .u32 b, .int .i64 t, .int .i64 f, .int .u32 v]) x x0 x1 he => samePage_yes w p.f f' d'.m d0.m h.o.db.mem h.was x x0 x1 he)
  have HSz := hid (And.intro HX.out.a0 (And.intro HX.out.a1 (And.intro HX.out.b0 HX.out.b1)))
  clear HX
  simp only [ptr, En.v, En.cs] at HAd HAo HMe HSa
  go_upto_region 10 with fail
  go_loopw [9] (fun i wr => ∃ (j : Nat), j ≤ 8 ∧ i = .int .i64 (j : Int) ∧ Hid (LR X wr p po f' d' d0 g3 [.int .i64 k, .int .u32 a, .int .u32 b, .int .i64 t, .int .i64 f, .int .u32 v])) (fun i _ => 8 - (intOf i).toNat)
  case atStart => exact ⟨0, by omega, rfl, L6⟩
  case round =>
    obtain ⟨j, hj, rfl, HL⟩ := hrel
    clear L6
    by_cases hlt : j < 8
    · have q2 : (j : Int) < 8 := by omega
      have q0 : (0 : Int) ≤ (j : Int) := by omega
      have HJ := hid hlt
      have HP := hid (HPg.out (j : Int) q0 q2)
      have HAdx := hid (fun w h => HAd.out w h (j : Int))
      have HAox := hid (fun w h => HAo.out w h (j : Int))
      have HSax := hid (fun w h he => HSa.out w h (j : Int) q0 (by omega) he)
      have HAa := hid (fun w h => HAo.out w h (a.tmod 8))
      have wj : IntKind.wrap .u32 (j : Int) = (j : Int) := wr32 _ q0 (by omega)
      have wa : IntKind.wrap .i64 (a.tmod 8) = a.tmod 8 := by
        have := HSz.out.1
        have e : a.tmod 8 = a % 8 := Int.tmod_eq_emod_of_nonneg this
        rw [e]
        exact wr64 _ (by omega) (by omega)
      clear hlt hj HPg HLe HAd HAo HSa
      obtain ⟨x, hx⟩ : ∃ x : Int, x = (j : Int) := ⟨_, rfl⟩
      have c0 := HL.out.box.cell 0
      have c1 := HL.out.box.cell 1
      have c2 := HL.out.box.cell 2
      simp only [List.getElem?_cons_zero, List.getElem?_cons_succ] at c0 c1 c2
      obtain ⟨N, hN⟩ : ∃ N, decide ((j : Int) = a ∨ (j : Int) = b ∧ k = 5) = N := ⟨_, rfl⟩
      rw [hN] at HP
      have HNN := hid hN
      clear hN hx
      go_upto_region 12 with fail
      go_cut [10] (fun v w => v = .bool N ∧ wr = w)
      case first =>
        by_cases e1 : (j : Int) = a
        · have n1 : ((j : Int) == a) = true := by simpa using e1
          have HE := hid e1
          clear e1
          go_wp2_with fail
          go_meet
          exact ⟨by rw [← HNN.out]; simp [HE.out], rfl⟩
        have n1 : ((j : Int) == a) = false := by simpa using e1
        by_cases e2 : (j : Int) = b
        · have n2 : ((j : Int) == b) = true := by simpa using e2
          by_cases e3 : k = 5
          · have n3 : (k == 5) = true := by simpa using e3
            have HE := hid (And.intro e1 (And.intro e2 e3))
            clear e1 e2 e3
            go_wp2_with fail
            go_meet
            exact ⟨by rw [← HNN.out]; simp [HE.out.2.1, HE.out.2.2], rfl⟩
          have n3 : (k == 5) = false := by simpa using e3
          have HE := hid (And.intro e1 (And.intro e2 e3))
          clear e1 e2 e3
          go_wp2_with fail
          go_meet
          exact ⟨by rw [← HNN.out]; simp [HE.out.1, HE.out.2.2], rfl⟩
        have n2 : ((j : Int) == b) = false := by simpa using e2
        have HE := hid (And.intro e1 e2)
        clear e1 e2
        go_wp2_with fail
        go_meet
        exact ⟨by rw [← HNN.out]; simp [HE.out.1, HE.out.2], rfl⟩
      case rest =>
        obtain ⟨rfl, rfl⟩ := hcut
        clear HNN
        go_upto_region 13 with fail
        obtain ⟨C, hC⟩ : ∃ C, decide ((j : Int) = (d0.ent (a.tmod 8)).o ∧ k = 8) = C := ⟨_, rfl⟩
        rw [hC] at HP
        have HCC := hid hC
        clear hC
        generalize d0.ent (a.tmod 8) = ea at *
        obtain ⟨eat, eao, ear, eas, eae⟩ := ea
        have hfe : ∀ w, (Instr.field 30 (.agg #[.int .i64 eat, .int .i64 eao, .int .i64 ear, .int .i64 eas, .bool eae]) 1).run Tryz.prog w = .ok (.int .i64 eao) w := fun w => by kernel_rfl
        go_cut [11] (fun vv w => vv = .bool C ∧ Hid (LR X w p po f' d' d0 g3 [.int .i64 k, .int .u32 a, .int .u32 b, .int .i64 t, .int .i64 f, .int .u32 v]))
        case first =>
          simp only at HAa HCC
          by_cases e1 : (j : Int) = eao
          · have n1 : ((j : Int) == eao) = true := by simpa using e1
            by_cases e3 : k = 8
            · have n3 : (k == 8) = true := by simpa using e3
              have HE := hid (And.intro e1 e3)
              clear e1 e3
              go_wp2_with (go_at_call 10; refine (HAa.out _ HL.out.old).mono ?_; rintro e w7 ⟨rfl, hb⟩; have L7 := hid (HL.out.on hb); clear hb; have c7 := L7.out.box.cell 0; simp only [List.getElem?_cons_zero] at c7)
              go_meet
              exact ⟨by rw [← HCC.out]; simp [HE.out.1, HE.out.2], L7⟩
            have n3 : (k == 8) = false := by simpa using e3
            have HE := hid (And.intro e1 e3)
            clear e1 e3
            go_wp2_with (go_at_call 10; refine (HAa.out _ HL.out.old).mono ?_; rintro e w7 ⟨rfl, hb⟩; have L7 := hid (HL.out.on hb); clear hb; have c7 := L7.out.box.cell 0; simp only [List.getElem?_cons_zero] at c7)
            go_meet
            exact ⟨by rw [← HCC.out]; simp [HE.out.2], L7⟩
          have n1 : ((j : Int) == eao) = false := by simpa using e1
          have HE := hid e1
          clear e1
          go_wp2_with (go_at_call 10; refine (HAa.out _ HL.out.old).mono ?_; rintro e w7 ⟨rfl, hb⟩; have L7 := hid (HL.out.on hb); clear hb; have c7 := L7.out.box.cell 0; simp only [List.getElem?_cons_zero] at c7)
          go_meet
          exact ⟨by rw [← HCC.out]; simp [HE.out], L7⟩
        case rest =>
          obtain ⟨rfl, L8⟩ := hcut
          clear HAa HCC hfe HL c0 c1 c2
          by_cases hc0 : c = 0
          · subst hc0
            cases N with
            | true =>
              go_wp2_with fail
              go_roundw
              case measure => have := HJ.out; simp [intOf] <;> omega
              case rel => exact ⟨j + 1, HJ.out, by simp, L8⟩
            | false =>
              have HW := hid (HP.out.w (fun _ => rfl))
              have HE := hid (HP.out.e (fun _ => rfl))
              clear HP
              cases C with
              | true =>
                by_cases t1 : (d'.ent (j : Int)).t = 1
                · generalize d'.ent (j : Int) = E1 at *
                  have hf1 : ∀ w, (Instr.field 30 (.agg #[.int .i64 E1.t, .int .i64 E1.o, .int .i64 E1.r, .int .i64 E1.s, .bool E1.e]) 0).run Tryz.prog w = .ok (.int .i64 1) w := fun w => by rw [t1]; kernel_rfl
                  clear t1 HE HAox
                  go_wp2_with (first | (go_at_call 10; revert L8; intro L8; refine (HAdx.out _ L8.out.o.db).mono ?_; rintro e wa ⟨rfl, hb⟩; have La := hid (L8.out.on hb); clear hb L8) | (go_at_call 28; revert La; intro La; refine (HMe.out _ La.out.o.db).mono ?_; rintro e wx ⟨rfl, hw⟩; subst wx) | (go_at_call 31; revert La; intro La; refine (HSax.out _ La.out (fun o _ _ => HW.out o)).mono ?_; rintro e wc ⟨rfl, hb⟩; have Lc := hid (La.out.on hb); clear hb La))
                  go_roundw
                  case measure => have := HJ.out; simp [intOf] <;> omega
                  case rel => exact ⟨j + 1, HJ.out, by simp, Lc⟩
                have hE : d'.ent (j : Int) = d0.ent (j : Int) := by
                  rcases HE.out with h | h
                  · exact h
                  · exact absurd h.2.2 t1
                rw [hE] at HAdx t1
                generalize d0.ent (j : Int) = E1 at *
                have HEq := hid (fun w => (show (Op.equalIn 10000 30 (.agg #[.int .i64 E1.t, .int .i64 E1.o, .int .i64 E1.r, .int .i64 E1.s, .bool E1.e]) (.agg #[.int .i64 E1.t, .int .i64 E1.o, .int .i64 E1.r, .int .i64 E1.s, .bool E1.e])).run Tryz.prog w = .ok true w from by have := eqE w 9996 E1 E1; rw [En.same_self] at this; exact this))
                have n9 : (E1.t == 1) = false := by simpa using t1
                have hf1 : ∀ w, (Instr.field 30 (.agg #[.int .i64 E1.t, .int .i64 E1.o, .int .i64 E1.r, .int .i64 E1.s, .bool E1.e]) 0).run Tryz.prog w = .ok (.int .i64 E1.t) w := fun w => by kernel_rfl
                clear t1 hE HE
                go_upto_region 15 with (go_at_call 10; revert L8; intro L8; refine (HAdx.out _ L8.out.o.db).mono ?_; rintro e w9 ⟨rfl, hb⟩; have L9 := hid (L8.out.on hb); clear hb L8)
                go_wp2_with (first | (go_at_call 10; revert L9; intro L9; refine (HAdx.out _ L9.out.o.db).mono ?_; rintro e wa ⟨rfl, hb⟩; have La := hid (L9.out.on hb); clear hb L9) | (go_at_call 10; revert La; intro La; refine (HAox.out _ La.out.old).mono ?_; rintro e wb ⟨rfl, hb⟩; have Lb := hid (La.out.on hb); clear hb La) | (refine wpList_ne (by rfl) 30 _ _ rfl _ _ rfl rfl guardE true (HEq.out _) ?_) | (go_at_call 28; revert Lb; intro Lb; refine (HMe.out _ Lb.out.o.db).mono ?_; rintro e wx ⟨rfl, hw⟩; subst wx) | (go_at_call 31; revert Lb; intro Lb; refine (HSax.out _ Lb.out (fun o _ _ => HW.out o)).mono ?_; rintro e wc ⟨rfl, hb⟩; have Lc := hid (Lb.out.on hb); clear hb Lb))
                go_roundw
                case measure => have := HJ.out; simp [intOf] <;> omega
                case rel => exact ⟨j + 1, HJ.out, by simp, Lc⟩
              | false =>
                have hE : d'.ent (j : Int) = d0.ent (j : Int) := by
                  rcases HE.out with h | h
                  · exact h
                  · exact absurd h.2.1 (by decide)
                rw [hE] at HAdx
                generalize d0.ent (j : Int) = E1 at *
                have HEq := hid (fun w => (show (Op.equalIn 10000 30 (.agg #[.int .i64 E1.t, .int .i64 E1.o, .int .i64 E1.r, .int .i64 E1.s, .bool E1.e]) (.agg #[.int .i64 E1.t, .int .i64 E1.o, .int .i64 E1.r, .int .i64 E1.s, .bool E1.e])).run Tryz.prog w = .ok true w from by have := eqE w 9996 E1 E1; rw [En.same_self] at this; exact this))
                clear hE HE
                go_upto_region 15 with fail
                go_wp2_with (first | (go_at_call 10; revert L8; intro L8; refine (HAdx.out _ L8.out.o.db).mono ?_; rintro e wa ⟨rfl, hb⟩; have La := hid (L8.out.on hb); clear hb L8) | (go_at_call 10; revert La; intro La; refine (HAox.out _ La.out.old).mono ?_; rintro e wb ⟨rfl, hb⟩; have Lb := hid (La.out.on hb); clear hb La) | (refine wpList_ne (by rfl) 30 _ _ rfl _ _ rfl rfl guardE true (HEq.out _) ?_) | (go_at_call 28; revert Lb; intro Lb; refine (HMe.out _ Lb.out.o.db).mono ?_; rintro e wx ⟨rfl, hw⟩; subst wx) | (go_at_call 31; revert Lb; intro Lb; refine (HSax.out _ Lb.out (fun o _ _ => HW.out o)).mono ?_; rintro e wc ⟨rfl, hb⟩; have Lc := hid (Lb.out.on hb); clear hb Lb))
                go_roundw
                case measure => have := HJ.out; simp [intOf] <;> omega
                case rel => exact ⟨j + 1, HJ.out, by simp, Lc⟩
          · have nc : (c == 0) = false := by simpa using hc0
            have HW := hid (HP.out.w (fun h => absurd h hc0))
            have HE := hid (HP.out.e (fun h => absurd h hc0))
            have hE : d'.ent (j : Int) = d0.ent (j : Int) := by
              rcases HE.out with h | h
              · exact h
              · exact absurd h.1 hc0
            rw [hE] at HAdx
            clear HP HE hE hc0
            generalize d0.ent (j : Int) = E1 at *
            have HEq := hid (fun w => (show (Op.equalIn 10000 30 (.agg #[.int .i64 E1.t, .int .i64 E1.o, .int .i64 E1.r, .int .i64 E1.s, .bool E1.e]) (.agg #[.int .i64 E1.t, .int .i64 E1.o, .int .i64 E1.r, .int .i64 E1.s, .bool E1.e])).run Tryz.prog w = .ok true w from by have := eqE w 9996 E1 E1; rw [En.same_self] at this; exact this))
            go_upto_region 15 with fail
            go_wp2_with (first | (go_at_call 10; revert L8; intro L8; refine (HAdx.out _ L8.out.o.db).mono ?_; rintro e wa ⟨rfl, hb⟩; have La := hid (L8.out.on hb); clear hb L8) | (go_at_call 10; revert La; intro La; refine (HAox.out _ La.out.old).mono ?_; rintro e wb ⟨rfl, hb⟩; have Lb := hid (La.out.on hb); clear hb La) | (refine wpList_ne (by rfl) 30 _ _ rfl _ _ rfl rfl guardE true (HEq.out _) ?_) | (go_at_call 28; revert Lb; intro Lb; refine (HMe.out _ Lb.out.o.db).mono ?_; rintro e wx ⟨rfl, hw⟩; subst wx) | (go_at_call 31; revert Lb; intro Lb; refine (HSax.out _ Lb.out (fun o _ _ => HW.out o)).mono ?_; rintro e wc ⟨rfl, hb⟩; have Lc := hid (Lb.out.on hb); clear hb Lb))
            go_roundw
            case measure => have := HJ.out; simp [intOf] <;> omega
            case rel => exact ⟨j + 1, HJ.out, by simp, Lc⟩
    · obtain rfl : j = 8 := by omega
      clear HPg hj hlt
      by_cases hc0 : c = 0
      · subst hc0
        obtain ⟨ha, hb8, hle⟩ := HLe.out rfl
        have HLE := hid hle
        have HB8 := hid hb8
        have HA8 := hid ha
        clear hle hb8 HLe
        obtain ⟨a0, a1, b0, b1⟩ := HSz.out
        have wa : IntKind.wrap .i64 a = a := wr64 _ (by omega) (by omega)
        have wb : IntKind.wrap .i64 b = b := wr64 _ (by omega) (by omega)
        have HEok : Hid ((d0.ent a).ok = true) := hid (by unfold DS.ent; split; exact HL.out.old.ok.ok _ (there_lt ‹_›).2.1; exact zero_ok)
        have HAa := hid (fun w h => HAd.out w h a)
        have HAb := hid (fun w h => HAd.out w h b)
        have HOa := hid (fun w h => HAo.out w h a)
        have HSaa := hid (fun w h he => HSa.out w h a a0 a1 he)
        have HSab := hid (fun w h he => HSa.out w h b b0 b1 he)
        have HFr := hid (fun w => lframe_any w a a0 a1)
        have c1 := HL.out.box.cell 1
        simp only [List.getElem?_cons_zero, List.getElem?_cons_succ] at c1
        clear HAd HAo HSa ha
        generalize hE : d'.ent a = E at *
        have HEE := hid hE
        clear hE
        go_upto_region 20 with (go_at_call 10; refine (HAa.out _ HL.out.o.db).mono ?_; rintro e w7 ⟨rfl, hb⟩; have L7 := hid (HL.out.on hb); clear hb HAa)
        have L8 := hid (L7.out.on (below_one w7 (.cells #[.int .i64 E.t, .int .i64 E.o, .int .i64 E.r, .int .i64 E.s, .bool E.e] 30)))
        have E8 := hid (Cel.new w7 30 [.int .i64 E.t, .int .i64 E.o, .int .i64 E.r, .int .i64 E.s, .bool E.e])
        have HG12 : Hid (w7.heap.size ∉ p.all) := hid (fun hk => by have := L7.out.o.db.lt _ hk; omega)
        clear L7 HL c1
        generalize World.alloc _ _ = Y at *
        generalize w7.heap.size = g12 at *
        have c0 := L8.out.box.cell 0
        simp only [List.getElem?_cons_zero] at c0
        have hk4 : k = 5 ∨ k = 6 ∨ k = 7 ∨ k = 8 := by omega
        rcases hk4 with rfl | rfl | rfl | rfl
        · go_upto_region 22 with fail
          have hsp := HLE.out.sp rfl
          rw [HEE.out] at hsp
          have hr := hsp.2.1
          rw [hsp.1] at HAb
          generalize hE0 : d0.ent a = E0 at *
          clear hE0
          have hw1 : IntKind.wrap .i64 (E0.r + 1) = E0.r + 1 := by
            have := (En.ok_iff _).1 HEok.out
            have h1 := this.r0
            have h2 := this.r1
            exact wr64 _ (by omega) (by omega)
          have hfd : ∀ w, (Instr.field 30 (.agg #[.int .i64 E0.t, .int .i64 E0.o, .int .i64 E0.r, .int .i64 E0.s, .bool E0.e]) 2).run Tryz.prog w = .ok (.int .i64 E0.r) w := fun w => by kernel_rfl
          have hbt := built_T 6 a
          simp only [enT, En.cs] at hbt
          have LD := hid (And.intro (L8.out.on (Below.refl _ _).drew) (E8.out.on (Below.refl _ _).drew))
          refine wp_region_held_drew (S := fun w => Cel w g12 30 [.int .i64 E.t, .int .i64 E.o, .int .i64 E.r, .int .i64 E.s, .bool E.e] ∧ Cel w g3 48 [.int .i64 5, .int .u32 a, .int .u32 b, .int .i64 t, .int .i64 f, .int .u32 v]) (by kernel_rfl) (And.intro LD.out.2 LD.out.1.box) (fun hHeld => ?_)
          generalize World.drew _ = wd at *
          refine wpAnyH_take (i := 0) (oi := { dst := some 134, op := Op.move (Operand.tmp 5), type := 23, pos := "outright.go:150", after := #[], guard := none }) (v := .pointer (some ⟨p.g, 0, none⟩)) rfl (by kernel_rfl) (by kernel_rfl) (by kernel_rfl) (fun _ _ _ h => h) (Or.inl ⟨by rfl, by intro w hSw; go_simp⟩) (by assumption) ?_
          simp only [Act.put, List.setIfInBounds_toArray, List.set_cons_zero, List.set_cons_succ]
          refine wpAnyH_take (i := 1) (oi := { dst := some 135, op := Op.fieldAddr 48 (Operand.tmp 3) 2, type := 0, pos := "outright.go:150", after := #[], guard := none }) (v := .pointer (some ⟨g3, 2, none⟩)) rfl (by kernel_rfl) (by kernel_rfl) (by kernel_rfl) (fun _ _ _ h => h) (Or.inl ⟨by rfl, by intro w hSw; go_simp⟩) (by assumption) ?_
          simp only [Act.put, List.setIfInBounds_toArray, List.set_cons_zero, List.set_cons_succ]
          refine wpAnyH_take (i := 2) (oi := { dst := some 136, op := Op.load 43 (Operand.tmp 135), type := 43, pos := "outright.go:150", after := #[{ on := 1, ground := Ground.data }], guard := none }) (v := .int .u32 b) rfl (by kernel_rfl) (by kernel_rfl) (by kernel_rfl) (fun _ _ _ h => h) (Or.inl ⟨by rfl, by intro w hSw; have hc := hSw.2.cell 2; simp only [List.getElem?_cons_zero, List.getElem?_cons_succ] at hc; go_simp⟩) (by assumption) ?_
          simp only [Act.put, List.setIfInBounds_toArray, List.set_cons_zero, List.set_cons_succ]
          refine wpAnyH_take (i := 3) (oi := { dst := some 137, op := Op.convert 43 3 (Operand.tmp 136), type := 3, pos := "outright.go:150", after := #[{ on := 2, ground := Ground.data }], guard := none }) (v := .int .i64 b) rfl (by kernel_rfl) (by kernel_rfl) (by kernel_rfl) (fun _ _ _ h => h) (Or.inl ⟨by rfl, by intro w hSw; go_simp⟩) (by assumption) ?_
          simp only [Act.put, List.setIfInBounds_toArray, List.set_cons_zero, List.set_cons_succ]
          refine wpAnyH_take (i := 5) (oi := { dst := some 139, op := Op.fieldAddr 48 (Operand.tmp 3) 1, type := 0, pos := "outright.go:150", after := #[], guard := none }) (v := .pointer (some ⟨g3, 1, none⟩)) rfl (by kernel_rfl) (by kernel_rfl) (by kernel_rfl) (fun _ _ _ h => h) (Or.inl ⟨by rfl, by intro w hSw; go_simp⟩) (by assumption) ?_
          simp only [Act.put, List.setIfInBounds_toArray, List.set_cons_zero, List.set_cons_succ]
          refine wpAnyH_take (i := 6) (oi := { dst := some 140, op := Op.load 43 (Operand.tmp 139), type := 43, pos := "outright.go:150", after := #[{ on := 5, ground := Ground.data }], guard := none }) (v := .int .u32 a) rfl (by kernel_rfl) (by kernel_rfl) (by kernel_rfl) (fun _ _ _ h => h) (Or.inl ⟨by rfl, by intro w hSw; have hc := hSw.2.cell 1; simp only [List.getElem?_cons_zero, List.getElem?_cons_succ] at hc; go_simp⟩) (by assumption) ?_
          simp only [Act.put, List.setIfInBounds_toArray, List.set_cons_zero, List.set_cons_succ]
          refine wpAnyH_take (i := 7) (oi := { dst := some 141, op := Op.convert 43 3 (Operand.tmp 140), type := 3, pos := "outright.go:150", after := #[{ on := 6, ground := Ground.data }], guard := none }) (v := .int .i64 a) rfl (by kernel_rfl) (by kernel_rfl) (by kernel_rfl) (fun _ _ _ h => h) (Or.inl ⟨by rfl, by intro w hSw; go_simp⟩) (by assumption) ?_
          simp only [Act.put, List.setIfInBounds_toArray, List.set_cons_zero, List.set_cons_succ]
          refine wpAnyH_take (i := 8) (oi := { dst := some 142, op := Op.build 30 #[(0, Operand.const (Value.int IntKind.i64 6)), (1, Operand.tmp 141)], type := 30, pos := "outright.go:150", after := #[{ on := 7, ground := Ground.data }], guard := none }) (v := .agg #[.int .i64 6, .int .i64 a, .int .i64 0, .int .i64 0, .bool false]) rfl (by kernel_rfl) (by kernel_rfl) (by kernel_rfl) (fun _ _ _ h => h) (Or.inl ⟨by rfl, by intro w hSw; go_simp⟩) (by assumption) ?_
          simp only [Act.put, List.setIfInBounds_toArray, List.set_cons_zero, List.set_cons_succ]
          refine wpAnyH_ready (rs := [4]) (by kernel_rfl) (by simp) (AllReadyH.cons (o := { dst := some 138, op := Op.call { callee := Callee.value (Operand.func 10), args := #[Operand.tmp 134, Operand.tmp 137], argTypes := #[23, 3] }, type := 30, pos := "outright.go:150", after := #[{ on := 0, ground := Ground.data }, { on := 3, ground := Ground.data }], guard := none }) rfl (fun KQ hK => ?_) AllReadyH.nil)
          go_simp
          refine (HAb.out _ LD.out.1.o.db).mono ?_
          rintro e x1 ⟨rfl, hb⟩
          have L1 := hid (And.intro (LD.out.1.on hb) (LD.out.2.on hb))
          clear hb
          go_wp2_with fail
          refine hK.out _ _ (And.intro L1.out.2 L1.out.1.box) (fun hHeld => ?_)
          clear hK KQ
          try simp only [Act.put, List.setIfInBounds_toArray, List.set_cons_zero, List.set_cons_succ]
          refine wpAnyH_take (i := 9) (oi := { dst := some 143, op := Op.binOp BinOp.eql 30 (Operand.tmp 138) (Operand.tmp 142) 30, type := 4, pos := "outright.go:150", after := #[{ on := 4, ground := Ground.data }, { on := 8, ground := Ground.data }], guard := none }) (v := .bool true) rfl (by kernel_rfl) (by kernel_rfl) (by kernel_rfl) (fun _ _ _ h => h) (Or.inl ⟨by rfl, fun w hSw => exec_eqV 30 _ _ rfl _ _ rfl rfl guardE _ _ (eqE w 9996 (enT 6 a) (enT 6 a)) (En.same_self _)⟩) (by assumption) ?_
          simp only [Act.put, List.setIfInBounds_toArray, List.set_cons_zero, List.set_cons_succ]
          refine wpAnyH_take (i := 10) (oi := { dst := some 144, op := Op.move (Operand.tmp 143), type := 4, pos := "outright.go:150", after := #[{ on := 9, ground := Ground.data }, { on := 4, ground := Ground.chain }], guard := none }) (v := .bool true) rfl (by kernel_rfl) (by kernel_rfl) (by kernel_rfl) (fun _ _ _ h => h) (Or.inl ⟨by rfl, by intro w hSw; go_simp⟩) (by assumption) ?_
          simp only [Act.put, List.setIfInBounds_toArray, List.set_cons_zero, List.set_cons_succ]
          refine wpAnyH_take (i := 11) (oi := { dst := some 145, op := Op.fieldAddr 30 (Operand.tmp 12) 2, type := 0, pos := "outright.go:150", after := #[{ on := 10, ground := Ground.guard }], guard := some (10, true) }) (v := .pointer (some ⟨g12, 2, none⟩)) rfl (by kernel_rfl) (by kernel_rfl) (by kernel_rfl) (fun _ _ _ h => h) (Or.inl ⟨by rfl, by intro w hSw; go_simp⟩) (by assumption) ?_
          simp only [Act.put, List.setIfInBounds_toArray, List.set_cons_zero, List.set_cons_succ]
          refine wpAnyH_take (i := 12) (oi := { dst := some 146, op := Op.load 3 (Operand.tmp 145), type := 3, pos := "outright.go:150", after := #[{ on := 11, ground := Ground.data }, { on := 10, ground := Ground.guard }], guard := some (10, true) }) (v := .int .i64 (E0.r + 1)) rfl (by kernel_rfl) (by kernel_rfl) (by kernel_rfl) (fun _ _ _ h => h) (Or.inl ⟨by rfl, by intro w hSw; have hc := hSw.1.cell 2; simp only [List.getElem?_cons_zero, List.getElem?_cons_succ, hr] at hc; go_simp⟩) (by assumption) ?_
          simp only [Act.put, List.setIfInBounds_toArray, List.set_cons_zero, List.set_cons_succ]
          refine wpAnyH_take (i := 13) (oi := { dst := some 147, op := Op.move (Operand.tmp 6), type := 23, pos := "outright.go:150", after := #[{ on := 10, ground := Ground.guard }], guard := some (10, true) }) (v := .pointer (some ⟨po.g, 0, none⟩)) rfl (by kernel_rfl) (by kernel_rfl) (by kernel_rfl) (fun _ _ _ h => h) (Or.inl ⟨by rfl, by intro w hSw; go_simp⟩) (by assumption) ?_
          simp only [Act.put, List.setIfInBounds_toArray, List.set_cons_zero, List.set_cons_succ]
          refine wpAnyH_take (i := 14) (oi := { dst := some 148, op := Op.fieldAddr 48 (Operand.tmp 3) 1, type := 0, pos := "outright.go:150", after := #[{ on := 10, ground := Ground.guard }], guard := some (10, true) }) (v := .pointer (some ⟨g3, 1, none⟩)) rfl (by kernel_rfl) (by kernel_rfl) (by kernel_rfl) (fun _ _ _ h => h) (Or.inl ⟨by rfl, by intro w hSw; go_simp⟩) (by assumption) ?_
          simp only [Act.put, List.setIfInBounds_toArray, List.set_cons_zero, List.set_cons_succ]
          refine wpAnyH_take (i := 15) (oi := { dst := some 149, op := Op.load 43 (Operand.tmp 148), type := 43, pos := "outright.go:150", after := #[{ on := 14, ground := Ground.data }, { on := 10, ground := Ground.guard }], guard := some (10, true) }) (v := .int .u32 a) rfl (by kernel_rfl) (by kernel_rfl) (by kernel_rfl) (fun _ _ _ h => h) (Or.inl ⟨by rfl, by intro w hSw; have hc := hSw.2.cell 1; simp only [List.getElem?_cons_zero, List.getElem?_cons_succ] at hc; go_simp⟩) (by assumption) ?_
          simp only [Act.put, List.setIfInBounds_toArray, List.set_cons_zero, List.set_cons_succ]
          refine wpAnyH_take (i := 16) (oi := { dst := some 150, op := Op.convert 43 3 (Operand.tmp 149), type := 3, pos := "outright.go:150", after := #[{ on := 15, ground := Ground.data }, { on := 10, ground := Ground.guard }], guard := some (10, true) }) (v := .int .i64 a) rfl (by kernel_rfl) (by kernel_rfl) (by kernel_rfl) (fun _ _ _ h => h) (Or.inl ⟨by rfl, by intro w hSw; go_simp⟩) (by assumption) ?_
          simp only [Act.put, List.setIfInBounds_toArray, List.set_cons_zero, List.set_cons_succ]
          refine wpAnyH_ready (rs := [17]) (by kernel_rfl) (by simp) (AllReadyH.cons (o := { dst := some 151, op := Op.call { callee := Callee.value (Operand.func 10), args := #[Operand.tmp 147, Operand.tmp 150], argTypes := #[23, 3] }, type := 30, pos := "outright.go:150", after := #[{ on := 13, ground := Ground.data }, { on := 16, ground := Ground.data }, { on := 10, ground := Ground.chain }, { on := 10, ground := Ground.guard }], guard := some (10, true) }) rfl (fun KQ hK => ?_) AllReadyH.nil)
          go_simp
          refine (HOa.out _ L1.out.1.old).mono ?_
          rintro e x2 ⟨rfl, hb⟩
          have L2 := hid (And.intro (L1.out.1.on hb) (L1.out.2.on hb))
          clear hb
          go_wp2_with fail
          refine hK.out _ _ (And.intro L2.out.2 L2.out.1.box) (fun hHeld => ?_)
          clear hK KQ
          try simp only [Act.put, List.setIfInBounds_toArray, List.set_cons_zero, List.set_cons_succ]
          refine wpAnyH_take (i := 18) (oi := { dst := some 152, op := Op.field 30 (Operand.tmp 151) 2, type := 3, pos := "outright.go:150", after := #[{ on := 17, ground := Ground.data }, { on := 10, ground := Ground.guard }], guard := some (10, true) }) (v := .int .i64 E0.r) rfl (by kernel_rfl) (by kernel_rfl) (by kernel_rfl) (fun _ _ _ h => h) (Or.inl ⟨by rfl, by intro w hSw; go_simp⟩) (by assumption) ?_
          simp only [Act.put, List.setIfInBounds_toArray, List.set_cons_zero, List.set_cons_succ]
          refine wpAnyH_take (i := 19) (oi := { dst := some 153, op := Op.binOp BinOp.add 3 (Operand.tmp 152) (Operand.const (Value.int IntKind.i64 1)) 3, type := 3, pos := "outright.go:150", after := #[{ on := 18, ground := Ground.data }, { on := 10, ground := Ground.guard }], guard := some (10, true) }) (v := .int .i64 (E0.r + 1)) rfl (by kernel_rfl) (by kernel_rfl) (by kernel_rfl) (fun _ _ _ h => h) (Or.inl ⟨by rfl, by intro w hSw; go_simp⟩) (by assumption) ?_
          simp only [Act.put, List.setIfInBounds_toArray, List.set_cons_zero, List.set_cons_succ]
          refine wpAnyH_take (i := 20) (oi := { dst := some 154, op := Op.binOp BinOp.eql 3 (Operand.tmp 146) (Operand.tmp 153) 3, type := 4, pos := "outright.go:150", after := #[{ on := 12, ground := Ground.data }, { on := 19, ground := Ground.data }, { on := 10, ground := Ground.guard }], guard := some (10, true) }) (v := .bool true) rfl (by kernel_rfl) (by kernel_rfl) (by kernel_rfl) (fun _ _ _ h => h) (Or.inl ⟨by rfl, by intro w hSw; go_simp⟩) (by assumption) ?_
          simp only [Act.put, List.setIfInBounds_toArray, List.set_cons_zero, List.set_cons_succ]
          refine wpAnyH_take (i := 21) (oi := { dst := some 155, op := Op.pick (Operand.tmp 144) (Operand.tmp 154) (Operand.const (Value.bool false)), type := 4, pos := "outright.go:150", after := #[{ on := 10, ground := Ground.data }, { on := 20, ground := Ground.data }], guard := none }) (v := .bool true) rfl (by kernel_rfl) (by kernel_rfl) (by kernel_rfl) (fun _ _ _ h => h) (Or.inl ⟨by rfl, by intro w hSw; go_simp⟩) (by assumption) ?_
          simp only [Act.put, List.setIfInBounds_toArray, List.set_cons_zero, List.set_cons_succ]
          refine wpAnyH_take (i := 22) (oi := { dst := some 156, op := Op.move (Operand.tmp 155), type := 4, pos := "outright.go:150", after := #[{ on := 21, ground := Ground.data }, { on := 17, ground := Ground.chain }], guard := none }) (v := .bool true) rfl (by kernel_rfl) (by kernel_rfl) (by kernel_rfl) (fun _ _ _ h => h) (Or.inl ⟨by rfl, by intro w hSw; go_simp⟩) (by assumption) ?_
          simp only [Act.put, List.setIfInBounds_toArray, List.set_cons_zero, List.set_cons_succ]
          refine wpAnyH_take (i := 23) (oi := { dst := some 157, op := Op.move (Operand.tmp 5), type := 23, pos := "outright.go:150", after := #[{ on := 22, ground := Ground.guard }], guard := some (22, true) }) (v := .pointer (some ⟨p.g, 0, none⟩)) rfl (by kernel_rfl) (by kernel_rfl) (by kernel_rfl) (fun _ _ _ h => h) (Or.inl ⟨by rfl, by intro w hSw; go_simp⟩) (by assumption) ?_
          simp only [Act.put, List.setIfInBounds_toArray, List.set_cons_zero, List.set_cons_succ]
          refine wpAnyH_take (i := 25) (oi := { dst := some 159, op := Op.move (Operand.tmp 7), type := 36, pos := "outright.go:150", after := #[{ on := 22, ground := Ground.guard }], guard := some (22, true) }) (v := .pointer (some ⟨f'.gm, 0, none⟩)) rfl (by kernel_rfl) (by kernel_rfl) (by kernel_rfl) (fun _ _ _ h => h) (Or.inl ⟨by rfl, by intro w hSw; go_simp⟩) (by assumption) ?_
          simp only [Act.put, List.setIfInBounds_toArray, List.set_cons_zero, List.set_cons_succ]
          refine wpAnyH_take (i := 26) (oi := { dst := some 160, op := Op.fieldAddr 48 (Operand.tmp 3) 1, type := 0, pos := "outright.go:150", after := #[{ on := 22, ground := Ground.guard }], guard := some (22, true) }) (v := .pointer (some ⟨g3, 1, none⟩)) rfl (by kernel_rfl) (by kernel_rfl) (by kernel_rfl) (fun _ _ _ h => h) (Or.inl ⟨by rfl, by intro w hSw; go_simp⟩) (by assumption) ?_
          simp only [Act.put, List.setIfInBounds_toArray, List.set_cons_zero, List.set_cons_succ]
          refine wpAnyH_take (i := 27) (oi := { dst := some 161, op := Op.load 43 (Operand.tmp 160), type := 43, pos := "outright.go:150", after := #[{ on := 26, ground := Ground.data }, { on := 22, ground := Ground.guard }], guard := some (22, true) }) (v := .int .u32 a) rfl (by kernel_rfl) (by kernel_rfl) (by kernel_rfl) (fun _ _ _ h => h) (Or.inl ⟨by rfl, by intro w hSw; have hc := hSw.2.cell 1; simp only [List.getElem?_cons_zero, List.getElem?_cons_succ] at hc; go_simp⟩) (by assumption) ?_
          simp only [Act.put, List.setIfInBounds_toArray, List.set_cons_zero, List.set_cons_succ]
          refine wpAnyH_take (i := 28) (oi := { dst := some 162, op := Op.convert 43 3 (Operand.tmp 161), type := 3, pos := "outright.go:150", after := #[{ on := 27, ground := Ground.data }, { on := 22, ground := Ground.guard }], guard := some (22, true) }) (v := .int .i64 a) rfl (by kernel_rfl) (by kernel_rfl) (by kernel_rfl) (fun _ _ _ h => h) (Or.inl ⟨by rfl, by intro w hSw; go_simp⟩) (by assumption) ?_
          simp only [Act.put, List.setIfInBounds_toArray, List.set_cons_zero, List.set_cons_succ]
          refine wpAnyH_ready (rs := [24]) (by kernel_rfl) (by simp) (AllReadyH.cons (o := { dst := some 158, op := Op.call { callee := Callee.value (Operand.func 28), args := #[Operand.tmp 157], argTypes := #[23] }, type := 36, pos := "outright.go:150", after := #[{ on := 23, ground := Ground.data }, { on := 22, ground := Ground.chain }, { on := 22, ground := Ground.guard }], guard := some (22, true) }) rfl (fun KQ hK => ?_) AllReadyH.nil)
          go_simp
          refine (HMe.out _ L2.out.1.o.db).mono ?_
          rintro e wx ⟨rfl, hw⟩
          subst wx
          go_wp2_with fail
          refine hK.out _ _ (And.intro L2.out.2 L2.out.1.box) (fun hHeld => ?_)
          clear hK KQ
          try simp only [Act.put, List.setIfInBounds_toArray, List.set_cons_zero, List.set_cons_succ]
          refine wpAnyH_ready (rs := [29]) (by kernel_rfl) (by simp) (AllReadyH.cons (o := { dst := some 163, op := Op.call { callee := Callee.value (Operand.func 31), args := #[Operand.tmp 158, Operand.tmp 159, Operand.tmp 162], argTypes := #[36, 36, 3] }, type := 4, pos := "outright.go:150", after := #[{ on := 24, ground := Ground.data }, { on := 25, ground := Ground.data }, { on := 28, ground := Ground.data }, { on := 24, ground := Ground.chain }, { on := 22, ground := Ground.guard }], guard := some (22, true) }) rfl (fun KQ hK => ?_) AllReadyH.nil)
          go_simp
          refine (HSaa.out _ L2.out.1 (fun o _ _ => hsp.2.2 _ o)).mono ?_
          rintro e x3 ⟨rfl, hb⟩
          have L3 := hid (And.intro (L2.out.1.on hb) (L2.out.2.on hb))
          clear hb
          go_wp2_with fail
          refine hK.out _ _ (And.intro L3.out.2 L3.out.1.box) (fun hHeld => ?_)
          clear hK KQ
          try simp only [Act.put, List.setIfInBounds_toArray, List.set_cons_zero, List.set_cons_succ]
          refine wpAnyH_take (i := 30) (oi := { dst := some 164, op := Op.pick (Operand.tmp 156) (Operand.tmp 163) (Operand.const (Value.bool false)), type := 4, pos := "outright.go:150", after := #[{ on := 22, ground := Ground.data }, { on := 29, ground := Ground.data }], guard := none }) (v := .bool true) rfl (by kernel_rfl) (by kernel_rfl) (by kernel_rfl) (fun _ _ _ h => h) (Or.inl ⟨by rfl, by intro w hSw; go_simp⟩) (by assumption) ?_
          simp only [Act.put, List.setIfInBounds_toArray, List.set_cons_zero, List.set_cons_succ]
          refine wpAnyH_take (i := 31) (oi := { dst := some 165, op := Op.move (Operand.tmp 164), type := 4, pos := "outright.go:150", after := #[{ on := 30, ground := Ground.data }, { on := 29, ground := Ground.chain }], guard := none }) (v := .bool true) rfl (by kernel_rfl) (by kernel_rfl) (by kernel_rfl) (fun _ _ _ h => h) (Or.inl ⟨by rfl, by intro w hSw; go_simp⟩) (by assumption) ?_
          simp only [Act.put, List.setIfInBounds_toArray, List.set_cons_zero, List.set_cons_succ]
          refine wpAnyH_take (i := 32) (oi := { dst := some 166, op := Op.move (Operand.tmp 5), type := 23, pos := "outright.go:150", after := #[{ on := 31, ground := Ground.guard }], guard := some (31, true) }) (v := .pointer (some ⟨p.g, 0, none⟩)) rfl (by kernel_rfl) (by kernel_rfl) (by kernel_rfl) (fun _ _ _ h => h) (Or.inl ⟨by rfl, by intro w hSw; go_simp⟩) (by assumption) ?_
          simp only [Act.put, List.setIfInBounds_toArray, List.set_cons_zero, List.set_cons_succ]
          refine wpAnyH_take (i := 34) (oi := { dst := some 168, op := Op.move (Operand.tmp 7), type := 36, pos := "outright.go:150", after := #[{ on := 31, ground := Ground.guard }], guard := some (31, true) }) (v := .pointer (some ⟨f'.gm, 0, none⟩)) rfl (by kernel_rfl) (by kernel_rfl) (by kernel_rfl) (fun _ _ _ h => h) (Or.inl ⟨by rfl, by intro w hSw; go_simp⟩) (by assumption) ?_
          simp only [Act.put, List.setIfInBounds_toArray, List.set_cons_zero, List.set_cons_succ]
          refine wpAnyH_take (i := 35) (oi := { dst := some 169, op := Op.fieldAddr 48 (Operand.tmp 3) 2, type := 0, pos := "outright.go:150", after := #[{ on := 31, ground := Ground.guard }], guard := some (31, true) }) (v := .pointer (some ⟨g3, 2, none⟩)) rfl (by kernel_rfl) (by kernel_rfl) (by kernel_rfl) (fun _ _ _ h => h) (Or.inl ⟨by rfl, by intro w hSw; go_simp⟩) (by assumption) ?_
          simp only [Act.put, List.setIfInBounds_toArray, List.set_cons_zero, List.set_cons_succ]
          refine wpAnyH_take (i := 36) (oi := { dst := some 170, op := Op.load 43 (Operand.tmp 169), type := 43, pos := "outright.go:150", after := #[{ on := 35, ground := Ground.data }, { on := 31, ground := Ground.guard }], guard := some (31, true) }) (v := .int .u32 b) rfl (by kernel_rfl) (by kernel_rfl) (by kernel_rfl) (fun _ _ _ h => h) (Or.inl ⟨by rfl, by intro w hSw; have hc := hSw.2.cell 2; simp only [List.getElem?_cons_zero, List.getElem?_cons_succ] at hc; go_simp⟩) (by assumption) ?_
          simp only [Act.put, List.setIfInBounds_toArray, List.set_cons_zero, List.set_cons_succ]
          refine wpAnyH_take (i := 37) (oi := { dst := some 171, op := Op.convert 43 3 (Operand.tmp 170), type := 3, pos := "outright.go:150", after := #[{ on := 36, ground := Ground.data }, { on := 31, ground := Ground.guard }], guard := some (31, true) }) (v := .int .i64 b) rfl (by kernel_rfl) (by kernel_rfl) (by kernel_rfl) (fun _ _ _ h => h) (Or.inl ⟨by rfl, by intro w hSw; go_simp⟩) (by assumption) ?_
          simp only [Act.put, List.setIfInBounds_toArray, List.set_cons_zero, List.set_cons_succ]
          refine wpAnyH_ready (rs := [33]) (by kernel_rfl) (by simp) (AllReadyH.cons (o := { dst := some 167, op := Op.call { callee := Callee.value (Operand.func 28), args := #[Operand.tmp 166], argTypes := #[23] }, type := 36, pos := "outright.go:150", after := #[{ on := 32, ground := Ground.data }, { on := 31, ground := Ground.chain }, { on := 31, ground := Ground.guard }], guard := some (31, true) }) rfl (fun KQ hK => ?_) AllReadyH.nil)
          go_simp
          refine (HMe.out _ L3.out.1.o.db).mono ?_
          rintro e wx ⟨rfl, hw⟩
          subst wx
          go_wp2_with fail
          refine hK.out _ _ (And.intro L3.out.2 L3.out.1.box) (fun hHeld => ?_)
          clear hK KQ
          try simp only [Act.put, List.setIfInBounds_toArray, List.set_cons_zero, List.set_cons_succ]
          refine wpAnyH_ready (rs := [38]) (by kernel_rfl) (by simp) (AllReadyH.cons (o := { dst := some 172, op := Op.call { callee := Callee.value (Operand.func 31), args := #[Operand.tmp 167, Operand.tmp 168, Operand.tmp 171], argTypes := #[36, 36, 3] }, type := 4, pos := "outright.go:150", after := #[{ on := 33, ground := Ground.data }, { on := 34, ground := Ground.data }, { on := 37, ground := Ground.data }, { on := 33, ground := Ground.chain }, { on := 31, ground := Ground.guard }], guard := some (31, true) }) rfl (fun KQ hK => ?_) AllReadyH.nil)
          go_simp
          refine (HSab.out _ L3.out.1 (fun o _ _ => hsp.2.2 _ o)).mono ?_
          rintro e x4 ⟨rfl, hb⟩
          have L4 := hid (And.intro (L3.out.1.on hb) (L3.out.2.on hb))
          clear hb
          go_wp2_with fail
          refine hK.out _ _ (And.intro L4.out.2 L4.out.1.box) (fun hHeld => ?_)
          clear hK KQ
          try simp only [Act.put, List.setIfInBounds_toArray, List.set_cons_zero, List.set_cons_succ]
          refine wpAnyH_take (i := 39) (oi := { dst := some 173, op := Op.pick (Operand.tmp 165) (Operand.tmp 172) (Operand.const (Value.bool false)), type := 4, pos := "outright.go:150", after := #[{ on := 31, ground := Ground.data }, { on := 38, ground := Ground.data }], guard := none }) (v := .bool true) rfl (by kernel_rfl) (by kernel_rfl) (by kernel_rfl) (fun _ _ _ h => h) (Or.inl ⟨by rfl, by intro w hSw; go_simp⟩) (by assumption) ?_
          simp only [Act.put, List.setIfInBounds_toArray, List.set_cons_zero, List.set_cons_succ]
          refine wpAnyH_ready (rs := [40]) (by kernel_rfl) (by simp) (AllReadyH.cons (o := { dst := some 4, op := Op.assign (Operand.tmp 173), type := 4, pos := "outright.go:150", after := #[{ on := 39, ground := Ground.data }, { on := 38, ground := Ground.chain }, { on := 0, ground := Ground.phase }, { on := 1, ground := Ground.phase }, { on := 2, ground := Ground.phase }, { on := 3, ground := Ground.phase }, { on := 4, ground := Ground.phase }, { on := 5, ground := Ground.phase }, { on := 6, ground := Ground.phase }, { on := 7, ground := Ground.phase }, { on := 8, ground := Ground.phase }, { on := 9, ground := Ground.phase }, { on := 10, ground := Ground.phase }, { on := 11, ground := Ground.phase }, { on := 12, ground := Ground.phase }, { on := 13, ground := Ground.phase }, { on := 14, ground := Ground.phase }, { on := 15, ground := Ground.phase }, { on := 16, ground := Ground.phase }, { on := 17, ground := Ground.phase }, { on := 18, ground := Ground.phase }, { on := 19, ground := Ground.phase }, { on := 20, ground := Ground.phase }, { on := 21, ground := Ground.phase }, { on := 22, ground := Ground.phase }, { on := 23, ground := Ground.phase }, { on := 24, ground := Ground.phase }, { on := 25, ground := Ground.phase }, { on := 26, ground := Ground.phase }, { on := 27, ground := Ground.phase }, { on := 28, ground := Ground.phase }, { on := 29, ground := Ground.phase }, { on := 30, ground := Ground.phase }, { on := 31, ground := Ground.phase }, { on := 32, ground := Ground.phase }, { on := 33, ground := Ground.phase }, { on := 34, ground := Ground.phase }, { on := 35, ground := Ground.phase }, { on := 36, ground := Ground.phase }, { on := 37, ground := Ground.phase }, { on := 38, ground := Ground.phase }, { on := 39, ground := Ground.phase }], guard := none }) rfl (fun KQ hK => ?_) AllReadyH.nil)
          go_simp
          refine hK.out _ _ (And.intro L4.out.2 L4.out.1.box) (fun hHeld => ?_)
          clear hK KQ
          try simp only [Act.put, List.setIfInBounds_toArray, List.set_cons_zero, List.set_cons_succ]
          refine wpAnyH_done (by kernel_rfl) ?_ _

          go_wp2_with fail
          go_ret
          exact ⟨rfl, below_on B0.out L4.out.1.o.bl⟩
        · have hs := HLE.out.fi rfl
          rw [HEE.out] at hs
          have z3 := E8.out.cell 3
          simp only [List.getElem?_cons_zero, List.getElem?_cons_succ, hs] at z3
          go_wp2_with fail
          go_ret
          exact ⟨rfl, below_on B0.out L8.out.o.bl⟩
        · go_upto_region 26 with fail
          have hso := HLE.out.so rfl
          rw [HEE.out] at hso
          have hs := hso.1
          have LD := hid (And.intro (L8.out.on (Below.refl _ _).drew) (E8.out.on (Below.refl _ _).drew))
          refine wp_region_held_drew (S := fun w => Cel w g12 30 [.int .i64 E.t, .int .i64 E.o, .int .i64 E.r, .int .i64 E.s, .bool E.e] ∧ Cel w g3 48 [.int .i64 7, .int .u32 a, .int .u32 b, .int .i64 t, .int .i64 f, .int .u32 v]) (by kernel_rfl) (And.intro LD.out.2 LD.out.1.box) (fun hHeld => ?_)
          generalize World.drew _ = wd at *
          refine wpAnyH_take (i := 0) (oi := { dst := some 181, op := Op.fieldAddr 30 (Operand.tmp 12) 3, type := 0, pos := "outright.go:154", after := #[], guard := none }) (v := .pointer (some ⟨g12, 3, none⟩)) rfl (by kernel_rfl) (by kernel_rfl) (by kernel_rfl) (fun _ _ _ h => h) (Or.inl ⟨by rfl, by intro w hSw; go_simp⟩) (by assumption) ?_
          simp only [Act.put, List.setIfInBounds_toArray, List.set_cons_zero, List.set_cons_succ]
          refine wpAnyH_take (i := 1) (oi := { dst := some 182, op := Op.load 28 (Operand.tmp 181), type := 28, pos := "outright.go:154", after := #[{ on := 0, ground := Ground.data }], guard := none }) (v := .int .i64 3) rfl (by kernel_rfl) (by kernel_rfl) (by kernel_rfl) (fun _ _ _ h => h) (Or.inl ⟨by rfl, by intro w hSw; have hc := hSw.1.cell 3; simp only [List.getElem?_cons_zero, List.getElem?_cons_succ, hs] at hc; go_simp⟩) (by assumption) ?_
          simp only [Act.put, List.setIfInBounds_toArray, List.set_cons_zero, List.set_cons_succ]
          refine wpAnyH_take (i := 2) (oi := { dst := some 183, op := Op.binOp BinOp.eql 28 (Operand.tmp 182) (Operand.const (Value.int IntKind.i64 3)) 28, type := 4, pos := "outright.go:154", after := #[{ on := 1, ground := Ground.data }], guard := none }) (v := .bool true) rfl (by kernel_rfl) (by kernel_rfl) (by kernel_rfl) (fun _ _ _ h => h) (Or.inl ⟨by rfl, by intro w hSw; go_simp⟩) (by assumption) ?_
          simp only [Act.put, List.setIfInBounds_toArray, List.set_cons_zero, List.set_cons_succ]
          refine wpAnyH_take (i := 3) (oi := { dst := some 184, op := Op.move (Operand.tmp 183), type := 4, pos := "outright.go:154", after := #[{ on := 2, ground := Ground.data }], guard := none }) (v := .bool true) rfl (by kernel_rfl) (by kernel_rfl) (by kernel_rfl) (fun _ _ _ h => h) (Or.inl ⟨by rfl, by intro w hSw; go_simp⟩) (by assumption) ?_
          simp only [Act.put, List.setIfInBounds_toArray, List.set_cons_zero, List.set_cons_succ]
          refine wpAnyH_take (i := 4) (oi := { dst := some 185, op := Op.move (Operand.tmp 5), type := 23, pos := "outright.go:154", after := #[{ on := 3, ground := Ground.guard }], guard := some (3, true) }) (v := .pointer (some ⟨p.g, 0, none⟩)) rfl (by kernel_rfl) (by kernel_rfl) (by kernel_rfl) (fun _ _ _ h => h) (Or.inl ⟨by rfl, by intro w hSw; go_simp⟩) (by assumption) ?_
          simp only [Act.put, List.setIfInBounds_toArray, List.set_cons_zero, List.set_cons_succ]
          refine wpAnyH_take (i := 6) (oi := { dst := some 187, op := Op.move (Operand.tmp 7), type := 36, pos := "outright.go:154", after := #[{ on := 3, ground := Ground.guard }], guard := some (3, true) }) (v := .pointer (some ⟨f'.gm, 0, none⟩)) rfl (by kernel_rfl) (by kernel_rfl) (by kernel_rfl) (fun _ _ _ h => h) (Or.inl ⟨by rfl, by intro w hSw; go_simp⟩) (by assumption) ?_
          simp only [Act.put, List.setIfInBounds_toArray, List.set_cons_zero, List.set_cons_succ]
          refine wpAnyH_take (i := 7) (oi := { dst := some 188, op := Op.fieldAddr 48 (Operand.tmp 3) 1, type := 0, pos := "outright.go:154", after := #[{ on := 3, ground := Ground.guard }], guard := some (3, true) }) (v := .pointer (some ⟨g3, 1, none⟩)) rfl (by kernel_rfl) (by kernel_rfl) (by kernel_rfl) (fun _ _ _ h => h) (Or.inl ⟨by rfl, by intro w hSw; go_simp⟩) (by assumption) ?_
          simp only [Act.put, List.setIfInBounds_toArray, List.set_cons_zero, List.set_cons_succ]
          refine wpAnyH_take (i := 8) (oi := { dst := some 189, op := Op.load 43 (Operand.tmp 188), type := 43, pos := "outright.go:154", after := #[{ on := 7, ground := Ground.data }, { on := 3, ground := Ground.guard }], guard := some (3, true) }) (v := .int .u32 a) rfl (by kernel_rfl) (by kernel_rfl) (by kernel_rfl) (fun _ _ _ h => h) (Or.inl ⟨by rfl, by intro w hSw; have hc := hSw.2.cell 1; simp only [List.getElem?_cons_zero, List.getElem?_cons_succ] at hc; go_simp⟩) (by assumption) ?_
          simp only [Act.put, List.setIfInBounds_toArray, List.set_cons_zero, List.set_cons_succ]
          refine wpAnyH_take (i := 9) (oi := { dst := some 190, op := Op.convert 43 3 (Operand.tmp 189), type := 3, pos := "outright.go:154", after := #[{ on := 8, ground := Ground.data }, { on := 3, ground := Ground.guard }], guard := some (3, true) }) (v := .int .i64 a) rfl (by kernel_rfl) (by kernel_rfl) (by kernel_rfl) (fun _ _ _ h => h) (Or.inl ⟨by rfl, by intro w hSw; go_simp⟩) (by assumption) ?_
          simp only [Act.put, List.setIfInBounds_toArray, List.set_cons_zero, List.set_cons_succ]
          refine wpAnyH_ready (rs := [5]) (by kernel_rfl) (by simp) (AllReadyH.cons (o := { dst := some 186, op := Op.call { callee := Callee.value (Operand.func 28), args := #[Operand.tmp 185], argTypes := #[23] }, type := 36, pos := "outright.go:154", after := #[{ on := 4, ground := Ground.data }, { on := 3, ground := Ground.chain }, { on := 3, ground := Ground.guard }], guard := some (3, true) }) rfl (fun KQ hK => ?_) AllReadyH.nil)
          go_simp
          refine (HMe.out _ LD.out.1.o.db).mono ?_
          rintro e wx ⟨rfl, hw⟩
          subst wx
          go_wp2_with fail
          refine hK.out _ _ (And.intro LD.out.2 LD.out.1.box) (fun hHeld => ?_)
          clear hK KQ
          try simp only [Act.put, List.setIfInBounds_toArray, List.set_cons_zero, List.set_cons_succ]
          refine wpAnyH_ready (rs := [10]) (by kernel_rfl) (by simp) (AllReadyH.cons (o := { dst := some 191, op := Op.call { callee := Callee.value (Operand.func 31), args := #[Operand.tmp 186, Operand.tmp 187, Operand.tmp 190], argTypes := #[36, 36, 3] }, type := 4, pos := "outright.go:154", after := #[{ on := 5, ground := Ground.data }, { on := 6, ground := Ground.data }, { on := 9, ground := Ground.data }, { on := 5, ground := Ground.chain }, { on := 3, ground := Ground.guard }], guard := some (3, true) }) rfl (fun KQ hK => ?_) AllReadyH.nil)
          go_simp
          refine (HSaa.out _ LD.out.1 (fun o _ _ => hso.2 o)).mono ?_
          rintro e wf ⟨rfl, hb⟩
          have LF := hid (And.intro (LD.out.1.on hb) (LD.out.2.on hb))
          clear hb
          go_wp2_with fail
          refine hK.out _ _ (And.intro LF.out.2 LF.out.1.box) (fun hHeld => ?_)
          clear hK KQ
          try simp only [Act.put, List.setIfInBounds_toArray, List.set_cons_zero, List.set_cons_succ]
          refine wpAnyH_take (i := 11) (oi := { dst := some 192, op := Op.pick (Operand.tmp 184) (Operand.tmp 191) (Operand.const (Value.bool false)), type := 4, pos := "outright.go:154", after := #[{ on := 3, ground := Ground.data }, { on := 10, ground := Ground.data }], guard := none }) (v := .bool true) rfl (by kernel_rfl) (by kernel_rfl) (by kernel_rfl) (fun _ _ _ h => h) (Or.inl ⟨by rfl, by intro w hSw; go_simp⟩) (by assumption) ?_
          simp only [Act.put, List.setIfInBounds_toArray, List.set_cons_zero, List.set_cons_succ]
          refine wpAnyH_ready (rs := [12]) (by kernel_rfl) (by simp) (AllReadyH.cons (o := { dst := some 4, op := Op.assign (Operand.tmp 192), type := 4, pos := "outright.go:154", after := #[{ on := 11, ground := Ground.data }, { on := 10, ground := Ground.chain }, { on := 0, ground := Ground.phase }, { on := 1, ground := Ground.phase }, { on := 2, ground := Ground.phase }, { on := 3, ground := Ground.phase }, { on := 4, ground := Ground.phase }, { on := 5, ground := Ground.phase }, { on := 6, ground := Ground.phase }, { on := 7, ground := Ground.phase }, { on := 8, ground := Ground.phase }, { on := 9, ground := Ground.phase }, { on := 10, ground := Ground.phase }, { on := 11, ground := Ground.phase }], guard := none }) rfl (fun KQ hK => ?_) AllReadyH.nil)
          go_simp
          refine hK.out _ _ (And.intro LF.out.2 LF.out.1.box) (fun hHeld => ?_)
          clear hK KQ
          try simp only [Act.put, List.setIfInBounds_toArray, List.set_cons_zero, List.set_cons_succ]
          refine wpAnyH_done (by kernel_rfl) ?_ _

          go_wp2_with fail
          go_ret
          exact ⟨rfl, below_on B0.out LF.out.1.o.bl⟩
        · go_upto_region 27 with fail
          obtain ⟨hrm, i, hi, hz⟩ := HLE.out.rm rfl
          rw [HEE.out] at hrm
          have HRM := hid hrm
          clear hrm
          have HBl := hid (fun w (hm : Mem w p.f d'.m) => blank_yes w p.f d'.m hm a i hi hz)
          clear hi hz
          simp only [ptr, fr] at HBl HFr
          have LD := hid (And.intro (L8.out.on (Below.refl _ _).drew) (E8.out.on (Below.refl _ _).drew))
          refine wp_region_held_drew (S := fun w => Cel w g12 30 [.int .i64 E.t, .int .i64 E.o, .int .i64 E.r, .int .i64 E.s, .bool E.e] ∧ Cel w g3 48 [.int .i64 8, .int .u32 a, .int .u32 b, .int .i64 t, .int .i64 f, .int .u32 v]) (by kernel_rfl) (And.intro LD.out.2 LD.out.1.box) (fun hHeld => ?_)
          generalize World.drew _ = wd at *
          refine wpAnyH_take (i := 0) (oi := { dst := some 194, op := Op.move (Operand.tmp 5), type := 23, pos := "outright.go:156", after := #[], guard := none }) (v := .pointer (some ⟨p.g, 0, none⟩)) rfl (by kernel_rfl) (by kernel_rfl) (by kernel_rfl) (fun _ _ _ h => h) (Or.inl ⟨by rfl, by intro w hSw; go_simp⟩) (by assumption) ?_
          simp only [Act.put, List.setIfInBounds_toArray, List.set_cons_zero, List.set_cons_succ]
          refine wpAnyH_take (i := 2) (oi := { dst := some 196, op := Op.fieldAddr 48 (Operand.tmp 3) 1, type := 0, pos := "outright.go:156", after := #[], guard := none }) (v := .pointer (some ⟨g3, 1, none⟩)) rfl (by kernel_rfl) (by kernel_rfl) (by kernel_rfl) (fun _ _ _ h => h) (Or.inl ⟨by rfl, by intro w hSw; go_simp⟩) (by assumption) ?_
          simp only [Act.put, List.setIfInBounds_toArray, List.set_cons_zero, List.set_cons_succ]
          refine wpAnyH_take (i := 3) (oi := { dst := some 197, op := Op.load 43 (Operand.tmp 196), type := 43, pos := "outright.go:156", after := #[{ on := 2, ground := Ground.data }], guard := none }) (v := .int .u32 a) rfl (by kernel_rfl) (by kernel_rfl) (by kernel_rfl) (fun _ _ _ h => h) (Or.inl ⟨by rfl, by intro w hSw; have hc := hSw.2.cell 1; simp only [List.getElem?_cons_zero, List.getElem?_cons_succ] at hc; go_simp⟩) (by assumption) ?_
          simp only [Act.put, List.setIfInBounds_toArray, List.set_cons_zero, List.set_cons_succ]
          refine wpAnyH_ready (rs := [1]) (by kernel_rfl) (by simp) (AllReadyH.cons (o := { dst := some 195, op := Op.call { callee := Callee.value (Operand.func 28), args := #[Operand.tmp 194], argTypes := #[23] }, type := 36, pos := "outright.go:156", after := #[{ on := 0, ground := Ground.data }], guard := none }) rfl (fun KQ hK => ?_) AllReadyH.nil)
          go_simp
          refine (HMe.out _ LD.out.1.o.db).mono ?_
          rintro e wx ⟨rfl, hw⟩
          subst wx
          go_wp2_with fail
          refine hK.out _ _ (And.intro LD.out.2 LD.out.1.box) (fun hHeld => ?_)
          clear hK KQ
          try simp only [Act.put, List.setIfInBounds_toArray, List.set_cons_zero, List.set_cons_succ]
          refine wpAnyH_ready (rs := [4]) (by kernel_rfl) (by simp) (AllReadyH.cons (o := { dst := some 198, op := Op.call { callee := Callee.value (Operand.func 26), args := #[Operand.tmp 197], argTypes := #[43] }, type := 64, pos := "outright.go:156", after := #[{ on := 3, ground := Ground.data }, { on := 1, ground := Ground.chain }], guard := none }) rfl (fun KQ hK => ?_) AllReadyH.nil)
          go_simp
          refine (HFr.out _).mono ?_
          rintro e wf ⟨rfl, hb⟩
          have LF := hid (And.intro (LD.out.1.on hb) (LD.out.2.on hb))
          clear hb
          go_wp2_with fail
          refine hK.out _ _ (And.intro LF.out.2 LF.out.1.box) (fun hHeld => ?_)
          clear hK KQ
          try simp only [Act.put, List.setIfInBounds_toArray, List.set_cons_zero, List.set_cons_succ]
          refine wpAnyH_ready (rs := [5]) (by kernel_rfl) (by simp) (AllReadyH.cons (o := { dst := some 199, op := Op.call { callee := Callee.value (Operand.func 30), args := #[Operand.tmp 195, Operand.tmp 198], argTypes := #[36, 64] }, type := 69, pos := "outright.go:156", after := #[{ on := 1, ground := Ground.data }, { on := 4, ground := Ground.data }, { on := 4, ground := Ground.chain }], guard := none }) rfl (fun KQ hK => ?_) AllReadyH.nil)
          go_simp
          refine (HBl.out _ LF.out.1.o.db.mem).mono ?_
          rintro e wg ⟨rfl, hm, hb⟩
          have LG := hid (And.intro (LF.out.1.step (LF.out.1.o.db.memory hm hb rfl) (hb.mono p.fw_w)) (LF.out.2.but hb (fun hh => HG12.out (p.w_all' _ (p.fw_w _ hh)))))
          clear hm hb
          go_wp2_with fail
          refine hK.out _ _ (And.intro LG.out.2 LG.out.1.box) (fun hHeld => ?_)
          clear hK KQ
          try simp only [Act.put, List.setIfInBounds_toArray, List.set_cons_zero, List.set_cons_succ]
          refine wpAnyH_take (i := 6) (oi := { dst := some 193, op := Op.move (Operand.tmp 199), type := 69, pos := "outright.go:156", after := #[{ on := 5, ground := Ground.data }], guard := none }) (v := .tuple #[.bool true, .int .i64 0]) rfl (by kernel_rfl) (by kernel_rfl) (by kernel_rfl) (fun _ _ _ h => h) (Or.inl ⟨by rfl, by intro w hSw; go_simp⟩) (by assumption) ?_
          simp only [Act.put, List.setIfInBounds_toArray, List.set_cons_zero, List.set_cons_succ]
          refine wpAnyH_take (i := 7) (oi := { dst := some 200, op := Op.extract (Operand.tmp 193) 0, type := 4, pos := "outright.go:156", after := #[{ on := 6, ground := Ground.data }], guard := none }) (v := .bool true) rfl (by kernel_rfl) (by kernel_rfl) (by kernel_rfl) (fun _ _ _ h => h) (Or.inl ⟨by rfl, by intro w hSw; go_simp⟩) (by assumption) ?_
          simp only [Act.put, List.setIfInBounds_toArray, List.set_cons_zero, List.set_cons_succ]
          refine wpAnyH_take (i := 8) (oi := { dst := some 201, op := Op.extract (Operand.tmp 193) 1, type := 37, pos := "outright.go:156", after := #[{ on := 6, ground := Ground.data }, { on := 9, ground := Ground.gcOnly Departure.lateStores }], guard := none }) (v := .int .i64 0) rfl (by kernel_rfl) (by kernel_rfl) (by kernel_rfl) (fun _ _ _ h => h) (Or.inl ⟨by rfl, by intro w hSw; go_simp⟩) (by assumption) ?_
          simp only [Act.put, List.setIfInBounds_toArray, List.set_cons_zero, List.set_cons_succ]
          refine wpAnyH_ready (rs := [9]) (by kernel_rfl) (by simp) (AllReadyH.cons (o := { dst := some 13, op := Op.assign (Operand.tmp 200), type := 4, pos := "outright.go:156", after := #[{ on := 7, ground := Ground.data }, { on := 5, ground := Ground.chain }, { on := 0, ground := Ground.phase }, { on := 1, ground := Ground.phase }, { on := 2, ground := Ground.phase }, { on := 3, ground := Ground.phase }, { on := 4, ground := Ground.phase }, { on := 5, ground := Ground.phase }, { on := 6, ground := Ground.phase }, { on := 7, ground := Ground.phase }, { on := 8, ground := Ground.textOnly Departure.lateStores }], guard := none }) rfl (fun KQ hK => ?_) AllReadyH.nil)
          go_simp
          refine hK.out _ _ (And.intro LG.out.2 LG.out.1.box) (fun hHeld => ?_)
          clear hK KQ
          try simp only [Act.put, List.setIfInBounds_toArray, List.set_cons_zero, List.set_cons_succ]
          refine wpAnyH_ready (rs := [10]) (by kernel_rfl) (by simp) (AllReadyH.cons (o := { dst := some 14, op := Op.assign (Operand.tmp 201), type := 37, pos := "outright.go:156", after := #[{ on := 8, ground := Ground.data }, { on := 9, ground := Ground.chain }, { on := 0, ground := Ground.phase }, { on := 1, ground := Ground.phase }, { on := 2, ground := Ground.phase }, { on := 3, ground := Ground.phase }, { on := 4, ground := Ground.phase }, { on := 5, ground := Ground.phase }, { on := 6, ground := Ground.phase }, { on := 7, ground := Ground.phase }, { on := 8, ground := Ground.phase }, { on := 9, ground := Ground.phase }], guard := none }) rfl (fun KQ hK => ?_) AllReadyH.nil)
          go_simp
          refine hK.out _ _ (And.intro LG.out.2 LG.out.1.box) (fun hHeld => ?_)
          clear hK KQ
          try simp only [Act.put, List.setIfInBounds_toArray, List.set_cons_zero, List.set_cons_succ]
          refine wpAnyH_done (by kernel_rfl) ?_ _

          go_upto_region 28 with fail
          have GE : Hid (Cel wg g12 30 En.zero.cs) := hid (by have := LG.out.2; rw [HRM.out] at this; exact this)
          have HZe := hid (fun w => (show (Op.equalIn 10000 30 (.agg #[.int .i64 0, .int .i64 0, .int .i64 0, .int .i64 0, .bool false]) (.agg #[.int .i64 0, .int .i64 0, .int .i64 0, .int .i64 0, .bool false])).run Tryz.prog w = .ok true w from by have := eqE w 9996 En.zero En.zero; rw [En.same_self] at this; exact this))
          go_wp2_with (first | (refine wpList_load_mid rfl 30 _ rfl g12 0 rfl _ _ GE.out.range underE rfl (by rw [size30]; rfl) ?_) | (refine wpList_eq (by rfl) 30 _ _ rfl _ _ rfl rfl guardE true (HZe.out _) ?_))
          go_ret
          exact ⟨rfl, below_on B0.out LG.out.1.o.bl⟩
      · have nc : (c != 0) = true := by simpa using hc0
        clear hc0
        go_wp2_with fail
        go_ret
        exact ⟨rfl, below_on B0.out HL.out.o.bl⟩
end Go.Proofs.YtdfnbcbnmiohnaaGreatDoor
