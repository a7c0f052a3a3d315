import Derived.Test.YtllcbgdcepfdkaaGreatDoorP35
namespace Go.Proofs.YtllcbgdcepfdkaaGreatDoor
open Go.RowKit
set_option maxRecDepth 100000
set_option maxHeartbeats 8000000
theorem size59 : (Tryz.prog.info? 59).map (·.size) = some 26 := by kernel_rfl
theorem under59 : Tryz.prog.underlying 59 = some (.array 26 29) := by kernel_rfl
theorem size54 : (Tryz.prog.info? 54).map (·.size) = some 3 := by kernel_rfl
theorem under54 : Tryz.prog.underlying 54 = some (.struct (Tryz.prog.fieldsOf 54)) := by kernel_rfl
attribute [-simp] Tryz.isAgg59 Tryz.sizeOf59 Tryz.zeroValue59
theorem extended_any (W : World) (p : Dp) (d : DS) (h : DB W p d) (hU : d.m.U) (hG : Gl W p) (s : Int) (o : Q.MOp) (ho : o.Ok) (ao : Option Addr) (c : Nat) (hat : ∀ w, ButL p.f.w W w → H.At w .u32 ao o.ws) :
    Calls Tryz.prog 156 #[stV p s, o.v ao c] W fun e W' => ∃ d', DS.Sim d d' ∧ DB W' p d' ∧ ButL p.f.w W W' ∧
      ((H.LoadOk (d.st s) ∧ ∃ g, e = .returned (.slice (some ⟨g, 0, none⟩) 26 26) ∧ W.heap.size ≤ g ∧ Cel W' g 59 (u32s (Q.exS (d.st s) o.wds))) ∨ (¬ H.LoadOk (d.st s) ∧ e = .panicked (pn 4))) := by
  have D0 := hid (((DG.startw h).new 148 (stC p s)).new 54 [.int .i64 o.k, .int .u32 o.a, .slice ao o.ws.length c])
  obtain ⟨Z, hZ⟩ : ∃ Z : List Int, Z = List.replicate 26 0 := ⟨_, rfl⟩
  have hZl : Z.length = 26 := by rw [hZ]; simp
  have hz : ∀ w, (zeroValue 59).run Tryz.prog w = .ok (.agg (Z.map (Value.int .u32)).toArray) w := fun w => by rw [Tryz.zeroValue59, hZ]; rfl
  clear hZ
  have HSt := hid (fun w => Q.start_any w)
  have hSl : (H.saveOf []).length = 26 := H.saveOf_length _
  have HRd := hid (fun w d' (hs : DS.Sim d d') (hw : DB w p d') (off : Int) => (read_any w p.f d'.m hw.mem true s off))
  have HMm := hid (fun w d' (hw : DB w p d') => memory_any w p d' hw)
  have HFr := hid (fun w => sframe_any w s)
  have HA := hid hat
  have hL := d.st_length s
  have hW := DS.st_wds hU s
  have HGt := hid (fun j hj => d.st_get s j hj)
  have HX1 := hid (fun (w : World) (hw : Gl w p) (hk : H.LoadOk (d.st s)) (ha : H.At w .u32 ao o.ws) => Q.extend_gen w hw.tab hw.sz (d.st s) hL hW hk o ho ao c ha)
  have HX2 := hid (fun (w : World) (hk : ¬ H.LoadOk (d.st s)) => Q.extend_no w (d.st s) hL hW hk o ho ao c)
  have hXl : (Q.exS (d.st s) o.wds).length = 26 := Q.exS_len hL
  have HGl := hid hG
  have HS0 := hid (DS.Sim.refl d)
  have HWF := hid (fun k (hk : k ∈ p.f.w) => (show k ∈ p.all from by simp only [Dp.all, List.mem_cons]; exact Or.inr (Or.inr (Fp.w_all hk))))
  have HWd := hid (fun e (he : DS.Sim d e) (j : Nat) => he.word true s (11 + (j : Int)))
  clear h hU hG ho hat hW
  generalize H.saveOf [] = S0 at *
  generalize Q.exS (d.st s) o.wds = XS at *
  generalize d.st s = S at *
  obtain ⟨ok, oa, ows⟩ := o
  simp only at *
  simp only [stV, stC, Q.MOp.v, ptr, fr, H.Ag] at *
  go_enter Tryz.func156, Tryz.ntmps156
  go_upto_region 1 with fail
  generalize (World.alloc _ _).alloc _ = X at *
  have hX1 : (W.alloc (.cells #[.pointer (some ⟨p.g, 0, none⟩), .int .i64 s] 148)).heap.size = W.heap.size + 1 := by simp
  rw [hX1] at D0
  clear hX1
  generalize hg2 : W.heap.size = g2 at D0 ⊢
  have HG2 := hid hg2
  clear hg2
  go_upto_region 3 with (first | (go_at_call 47; refine (HSt.out _).mono ?_; rintro e w1 ⟨rfl, hb⟩; have D1 := hid (D0.out.on hb); clear hb) | (refine wpList_store_st rfl 59 _ _ rfl w1.heap.size (u32s S0) rfl rfl (Cel.new w1 59 (u32s Z)) (by rw [u32s, List.length_map, hSl]; exact size59) (by simp [u32s, hZl, hSl]) (List.all_eq_true.2 (fun v hv => by simp only [u32s, List.mem_map] at hv; obtain ⟨x, _, rfl⟩ := hv; rfl)) ?_; intro w2 hc hb hs; have D2 := hid (D1.out.add hc hb); have HN : Hid (g2 + 1 < w1.heap.size) := hid (D1.out.get 0 rfl).lt; clear hc hb hs))
  generalize w1.heap.size = g5 at *
  clear D0 D1 HSt
  go_loopw [10] (fun i wr => ∃ j : Nat, j ≤ 26 ∧ i = .int .i64 (j : Int) ∧ Hid (∃ d', DS.Sim d d' ∧ DG W wr p d' p.f.w [(g5, 59, u32s (mix S S0 j)), (g2 + 1, 54, [.int .i64 ok, .int .u32 oa, .slice ao ows.length c]), (g2, 148, [.pointer (some ⟨p.g, 0, none⟩), .int .i64 s])])) (fun i _ => 26 - (intOf i).toNat)
  case atStart => exact ⟨0, Nat.zero_le _, rfl, hid ⟨d, HS0.out, by rw [mix_zero]; exact D2.out⟩⟩
  case round =>
    obtain ⟨j, hj, rfl, HQ⟩ := hrel
    clear D2
    by_cases hlt : j < 26
    · have q1 : (j : Int) < 26 := by omega
      have kw : IntKind.wrap .i64 (11 + (j : Int)) = 11 + (j : Int) := by rw [IntKind.wrap_i64]; omega
      have kw2 : IntKind.wrap .i64 ((j : Int) + 1) = (j : Int) + 1 := by rw [IntKind.wrap_i64]; omega
      have HJ := hid hlt
      have HG1 := hid (HGt.out j hlt)
      clear hlt hj
      obtain ⟨d1, hs1, hD⟩ := HQ.out
      have E0 := hid hD
      have S1 := hid hs1
      have HW1 := hid (HWd.out d1 hs1 j)
      clear HQ hs1 hD
      generalize d.m.word true s (11 + (j : Int)) = wd at *
      go_upto_region 5 with fail
      have E1 := hid (E0.out.on (Below.refl _ _).drew)
      clear E0
      refine wp_region_held_drew (S := fun w => Cel w g2 148 [.pointer (some ⟨p.g, 0, none⟩), .int .i64 s]) (by kernel_rfl) (E1.out.get 2 rfl) (fun hHeld => ?_)
      generalize World.drew _ = w3 at *
      refine wpAnyH_take (i := 0) (oi := { dst := some 14, op := Op.move (Operand.tmp 6), type := 3, pos := "digest.go:13", after := #[], guard := none }) (v := .int .i64 (j : Int)) rfl (by kernel_rfl) (by kernel_rfl) (by kernel_rfl) (fun _ _ _ h => h) (Or.inl ⟨by rfl, by intro w hSw; go_simp⟩) (by assumption) ?_
      simp only [Act.put, List.setIfInBounds_toArray, List.set_cons_zero, List.set_cons_succ]
      refine wpAnyH_take (i := 1) (oi := { dst := some 15, op := Op.fieldAddr 148 (Operand.tmp 2) 0, type := 0, pos := "digest.go:13", after := #[], guard := none }) (v := .pointer (some ⟨g2, 0, none⟩)) rfl (by kernel_rfl) (by kernel_rfl) (by kernel_rfl) (fun _ _ _ h => h) (Or.inl ⟨by rfl, by intro w hSw; go_simp⟩) (by assumption) ?_
      simp only [Act.put, List.setIfInBounds_toArray, List.set_cons_zero, List.set_cons_succ]
      refine wpAnyH_take (i := 2) (oi := { dst := some 16, op := Op.load 25 (Operand.tmp 15), type := 25, pos := "digest.go:13", after := #[{ on := 1, ground := Ground.data }], guard := none }) (v := .pointer (some ⟨p.g, 0, none⟩)) rfl (by kernel_rfl) (by kernel_rfl) (by kernel_rfl) (fun _ _ _ h => h) (Or.inl ⟨by rfl, by intro w hSw; have hc := hSw.cell 0; simp only [List.getElem?_cons_zero] at hc; go_simp⟩) (by assumption) ?_
      simp only [Act.put, List.setIfInBounds_toArray, List.set_cons_zero, List.set_cons_succ]
      refine wpAnyH_take (i := 4) (oi := { dst := some 18, op := Op.fieldAddr 148 (Operand.tmp 2) 1, type := 0, pos := "digest.go:13", after := #[], guard := none }) (v := .pointer (some ⟨g2, 1, none⟩)) rfl (by kernel_rfl) (by kernel_rfl) (by kernel_rfl) (fun _ _ _ h => h) (Or.inl ⟨by rfl, by intro w hSw; go_simp⟩) (by assumption) ?_
      simp only [Act.put, List.setIfInBounds_toArray, List.set_cons_zero, List.set_cons_succ]
      refine wpAnyH_take (i := 5) (oi := { dst := some 19, op := Op.load 3 (Operand.tmp 18), type := 3, pos := "digest.go:13", after := #[{ on := 4, ground := Ground.data }], guard := none }) (v := .int .i64 s) rfl (by kernel_rfl) (by kernel_rfl) (by kernel_rfl) (fun _ _ _ h => h) (Or.inl ⟨by rfl, by intro w hSw; have hc := hSw.cell 1; simp only [List.getElem?_cons_succ, List.getElem?_cons_zero] at hc; go_simp⟩) (by assumption) ?_
      simp only [Act.put, List.setIfInBounds_toArray, List.set_cons_zero, List.set_cons_succ]
      refine wpAnyH_take (i := 7) (oi := { dst := some 21, op := Op.move (Operand.tmp 6), type := 3, pos := "digest.go:13", after := #[], guard := none }) (v := .int .i64 (j : Int)) rfl (by kernel_rfl) (by kernel_rfl) (by kernel_rfl) (fun _ _ _ h => h) (Or.inl ⟨by rfl, by intro w hSw; go_simp⟩) (by assumption) ?_
      simp only [Act.put, List.setIfInBounds_toArray, List.set_cons_zero, List.set_cons_succ]
      refine wpAnyH_take (i := 8) (oi := { dst := some 22, op := Op.binOp BinOp.add 3 (Operand.const (Value.int IntKind.i64 11)) (Operand.tmp 21) 3, type := 3, pos := "digest.go:13", after := #[{ on := 7, ground := Ground.data }], guard := none }) (v := .int .i64 (11 + (j : Int))) rfl (by kernel_rfl) (by kernel_rfl) (by kernel_rfl) (fun _ _ _ h => h) (Or.inl ⟨by rfl, by intro w hSw; go_simp⟩) (by assumption) ?_
      simp only [Act.put, List.setIfInBounds_toArray, List.set_cons_zero, List.set_cons_succ]
      refine wpAnyH_ready (rs := [3]) (by kernel_rfl) (by simp) (AllReadyH.cons (o := { dst := some 17, op := Op.call { callee := Callee.value (Operand.func 25), args := #[Operand.tmp 16], argTypes := #[25] }, type := 67, pos := "digest.go:13", after := #[{ on := 2, ground := Ground.data }], guard := none }) rfl (fun KQ hK => ?_) AllReadyH.nil)
      go_simp
      refine (HMm.out _ _ E1.out.db).mono ?_
      rintro e w4 ⟨rfl, rfl⟩
      go_wp2_with fail
      refine hK.out _ _ (E1.out.get 2 rfl) (fun hHeld => ?_)
      clear hK KQ
      try simp only [Act.put, List.setIfInBounds_toArray, List.set_cons_zero, List.set_cons_succ]
      refine wpAnyH_ready (rs := [6]) (by kernel_rfl) (by simp) (AllReadyH.cons (o := { dst := some 20, op := Op.call { callee := Callee.value (Operand.func 158), args := #[Operand.tmp 19], argTypes := #[3] }, type := 82, pos := "digest.go:13", after := #[{ on := 5, ground := Ground.data }, { on := 3, ground := Ground.chain }], guard := none }) rfl (fun KQ hK => ?_) AllReadyH.nil)
      go_simp
      refine (HFr.out _).mono ?_
      rintro e w4 ⟨rfl, hb⟩
      have E2 := hid (E1.out.on hb)
      clear hb E1
      go_wp2_with fail
      refine hK.out _ _ (E2.out.get 2 rfl) (fun hHeld => ?_)
      clear hK KQ
      try simp only [Act.put, List.setIfInBounds_toArray, List.set_cons_zero, List.set_cons_succ]
      refine wpAnyH_ready (rs := [9]) (by kernel_rfl) (by simp) (AllReadyH.cons (o := { dst := some 23, op := Op.call { callee := Callee.value (Operand.func 171), args := #[Operand.tmp 17, Operand.tmp 20, Operand.tmp 22], argTypes := #[67, 82, 3] }, type := 166, pos := "digest.go:13", after := #[{ on := 3, ground := Ground.data }, { on := 6, ground := Ground.data }, { on := 8, ground := Ground.data }, { on := 6, ground := Ground.chain }], guard := none }) rfl (fun KQ hK => ?_) AllReadyH.nil)
      go_simp
      refine (HRd.out _ _ S1.out E2.out.db _).mono ?_
      rintro e w5 ⟨rfl, hm, hb⟩
      have E3 := hid (E2.out.mem hm hb (MS.read_ns ..))
      have S2 := hid (S1.out.trans (DS.Sim.read _ true s (11 + (j : Int))))
      clear hm hb E2 S1
      rw [HW1.out]
      generalize MS.err _ true s (11 + (j : Int)) = ee at *
      go_wp2_with fail
      refine hK.out _ _ (E3.out.get 2 rfl) (fun hHeld => ?_)
      clear hK KQ
      try simp only [Act.put, List.setIfInBounds_toArray, List.set_cons_zero, List.set_cons_succ]
      refine wpAnyH_take (i := 10) (oi := { dst := some 13, op := Op.move (Operand.tmp 23), type := 166, pos := "digest.go:13", after := #[{ on := 9, ground := Ground.data }], guard := none }) (v := .tuple #[.int .u32 wd, .int .i64 ee]) rfl (by kernel_rfl) (by kernel_rfl) (by kernel_rfl) (fun _ _ _ h => h) (Or.inl ⟨by rfl, by intro w hSw; go_simp⟩) (by assumption) ?_
      simp only [Act.put, List.setIfInBounds_toArray, List.set_cons_zero, List.set_cons_succ]
      refine wpAnyH_take (i := 11) (oi := { dst := some 24, op := Op.extract (Operand.tmp 13) 0, type := 29, pos := "digest.go:13", after := #[{ on := 10, ground := Ground.data }], guard := none }) (v := .int .u32 wd) rfl (by kernel_rfl) (by kernel_rfl) (by kernel_rfl) (fun _ _ _ h => h) (Or.inl ⟨by rfl, by intro w hSw; go_simp⟩) (by assumption) ?_
      simp only [Act.put, List.setIfInBounds_toArray, List.set_cons_zero, List.set_cons_succ]
      refine wpAnyH_take (i := 12) (oi := { dst := some 25, op := Op.extract (Operand.tmp 13) 1, type := 39, pos := "digest.go:13", after := #[{ on := 10, ground := Ground.data }, { on := 14, ground := Ground.gcOnly Departure.lateStores }], guard := none }) (v := .int .i64 ee) rfl (by kernel_rfl) (by kernel_rfl) (by kernel_rfl) (fun _ _ _ h => h) (Or.inl ⟨by rfl, by intro w hSw; go_simp⟩) (by assumption) ?_
      simp only [Act.put, List.setIfInBounds_toArray, List.set_cons_zero, List.set_cons_succ]
      refine wpAnyH_take (i := 13) (oi := { dst := some 26, op := Op.indexAddr 59 (Operand.tmp 5) (Operand.tmp 14), type := 0, pos := "digest.go:13", after := #[{ on := 0, ground := Ground.data }, { on := 0, ground := Ground.phase }, { on := 1, ground := Ground.phase }, { on := 2, ground := Ground.phase }, { on := 3, ground := Ground.phase }, { on := 4, ground := Ground.phase }, { on := 5, ground := Ground.phase }, { on := 6, ground := Ground.phase }, { on := 7, ground := Ground.phase }, { on := 8, ground := Ground.phase }, { on := 9, ground := Ground.phase }, { on := 10, ground := Ground.phase }, { on := 11, ground := Ground.phase }, { on := 12, ground := Ground.textOnly Departure.lateStores }], guard := none }) (v := .pointer (some ⟨g5, j, none⟩)) rfl (by kernel_rfl) (by kernel_rfl) (by kernel_rfl) (fun _ _ _ h => h) (Or.inl ⟨by rfl, by intro w hSw; go_simp⟩) (by assumption) ?_
      simp only [Act.put, List.setIfInBounds_toArray, List.set_cons_zero, List.set_cons_succ]
      refine wpAnyH_ready (rs := [14]) (by kernel_rfl) (by simp) (AllReadyH.cons (o := { dst := none, op := Op.store 29 (Operand.tmp 26) (Operand.tmp 24), type := 0, pos := "digest.go:13", after := #[{ on := 13, ground := Ground.data }, { on := 11, ground := Ground.data }, { on := 9, ground := Ground.chain }, { on := 0, ground := Ground.phase }, { on := 1, ground := Ground.phase }, { on := 2, ground := Ground.phase }, { on := 3, ground := Ground.phase }, { on := 4, ground := Ground.phase }, { on := 5, ground := Ground.phase }, { on := 6, ground := Ground.phase }, { on := 7, ground := Ground.phase }, { on := 8, ground := Ground.phase }, { on := 9, ground := Ground.phase }, { on := 10, ground := Ground.phase }, { on := 11, ground := Ground.phase }, { on := 12, ground := Ground.textOnly Departure.lateStores }], guard := none }) rfl (fun KQ hK => ?_) AllReadyH.nil)
      (obtain ⟨y, z0⟩ := mix_cell (E3.out.get 0 rfl) (by have := HJ.out; omega) (by omega); have z1 := (E3.out.get 0 rfl).free j; go_simp)
      have E4 := hid (E3.out.put (fun q hq => by simp only [List.mem_cons, List.not_mem_nil, or_false] at hq; rcases hq with rfl | rfl <;> (have := HN.out; simp only; omega)) ((E3.out.get 0 rfl).setCell j (.int .u32 wd)) (.setCell _ _ _ _ (by simp)))
      rw [mix_set S S0 j wd (by have := HJ.out; omega) (by omega) HG1.out] at E4
      have E5 := hid E4.out
      clear E4 E3 z0 z1
      generalize World.setCell _ _ _ = w7 at *
      refine hK.out _ _ (E5.out.get 2 rfl) (fun hHeld => ?_)
      clear hK KQ
      try simp only [Act.put]
      refine wpAnyH_done (by kernel_rfl) ?_ _
      go_wp2_with fail
      go_roundw
      case measure => have := HJ.out; simp [intOf] <;> omega
      case rel => exact ⟨j + 1, HJ.out, by simp, hid ⟨_, S2.out, E5.out⟩⟩
    · obtain rfl : j = 26 := by omega
      clear hlt hj
      obtain ⟨d1, hs1, hD⟩ := HQ.out
      rw [show mix S S0 26 = S from by rw [← hL]; exact mix_all S S0 (by omega)] at hD
      have E0 := hid hD
      have S1 := hid hs1
      clear HQ hs1 hD
      by_cases hk : H.LoadOk S
      · have HX := hid (HX1.out · · hk)
        have HK := hid hk
        clear HX1 HX2 hk
        go_upto_region 8 with (first | (revert E0; intro E0; refine wpList_load_gm rfl 59 _ rfl g5 0 rfl _ _ (E0.out.get 0 rfl).range under59 rfl (by rw [u32s, List.length_map, hL]; exact size59) ?_) | (revert E0; intro E0; refine wpList_load_gm rfl 54 _ rfl (g2 + 1) 0 rfl _ _ (E0.out.get 1 rfl).range under54 rfl size54 ?_) | (go_at_call 54; refine (HX.out _ (HGl.out.step E0.out.but HWF.out) (HA.out _ E0.out.but)).mono ?_; rintro e w3 ⟨rfl, hb⟩; have E1 := hid (E0.out.on hb); clear hb E0) | (refine wpList_store_st rfl 59 _ _ rfl w3.heap.size (u32s XS) rfl rfl (Cel.new w3 59 (u32s Z)) (by rw [u32s, List.length_map, hXl]; exact size59) (by simp [u32s, hZl, hXl]) (List.all_eq_true.2 (fun v hv => by simp only [u32s, List.mem_map] at hv; obtain ⟨x, _, rfl⟩ := hv; rfl)) ?_; intro w4 hc hb hs; have E2 := hid (E1.out.add hc hb); have HN3 : Hid (g2 ≤ w3.heap.size) := hid (by have := (E1.out.get 1 rfl).lt; omega); clear hc hb hs))
        generalize w3.heap.size = g7 at *
        go_wp2_with (first | (go_at_call 152; refine (insist_yes _ 4).mono ?_; rintro e w5 ⟨rfl, rfl⟩))
        go_ret
        exact ⟨d1, S1.out, E2.out.db, E2.out.but, Or.inl ⟨HK.out, g7, rfl, by have := HG2.out; have := HN3.out; omega, E2.out.get 0 rfl⟩⟩
      · have HX := hid (HX2.out · hk)
        have HK := hid hk
        clear HX1 HX2 hk
        have HZ0 := hid (show (List.replicate 26 (0 : Int)).length = 26 by simp)
        generalize List.replicate 26 (0 : Int) = Z0 at *
        go_upto_region 8 with (first | (revert E0; intro E0; refine wpList_load_gm rfl 59 _ rfl g5 0 rfl _ _ (E0.out.get 0 rfl).range under59 rfl (by rw [u32s, List.length_map, hL]; exact size59) ?_) | (revert E0; intro E0; refine wpList_load_gm rfl 54 _ rfl (g2 + 1) 0 rfl _ _ (E0.out.get 1 rfl).range under54 rfl size54 ?_) | (go_at_call 54; refine (HX.out _).mono ?_; rintro e w3 ⟨rfl, hb⟩; have E1 := hid (E0.out.on hb); clear hb E0) | (refine wpList_store_st rfl 59 _ _ rfl w3.heap.size (u32s Z0) rfl rfl (Cel.new w3 59 (u32s Z)) (by rw [u32s, List.length_map, HZ0.out]; exact size59) (by simp [u32s, hZl, HZ0.out]) (List.all_eq_true.2 (fun v hv => by simp only [u32s, List.mem_map] at hv; obtain ⟨x, _, rfl⟩ := hv; rfl)) ?_; intro w4 hc hb hs; have E2 := hid (E1.out.add hc hb); clear hc hb hs))
        go_wp2_with (first | (go_at_call 152; refine (insist_no _ 4).mono ?_; rintro e w5 ⟨rfl, rfl⟩))
        exact ⟨rfl, d1, S1.out, E2.out.db, E2.out.but, Or.inr ⟨HK.out, rfl⟩⟩
end Go.Proofs.YtllcbgdcepfdkaaGreatDoor
