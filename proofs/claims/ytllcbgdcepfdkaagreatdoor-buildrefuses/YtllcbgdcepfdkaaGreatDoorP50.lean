import Derived.Test.YtllcbgdcepfdkaaGreatDoorP49
namespace Go.Proofs.YtllcbgdcepfdkaaGreatDoor
open Go.RowKit
set_option maxRecDepth 100000
set_option maxHeartbeats 4000000
attribute [-simp] Tryz.isAgg59 Tryz.sizeOf59 Tryz.zeroValue59
theorem hand3 (W : World) (p : Dp) (d : DS) (h : DB W p d) (hU : d.m.U) (hG : Gl W p) (a b c f : Int) (hw : W5 a b c f) (hE : d.takeE b 4 a = 0) (hA : (d.take b 4 a).addE a c b = 0) (hk : H.LoadOk (d.st a)) (hst : ((d.take b 4 a).add a c b).st a = d.st a) :
    Calls Tryz.prog 15 #[ptr p.g, opV 3 a b c f] W fun e W' => ∃ d', e = .returned (.bool true) ∧ DS.Sim (d.tbD a b c) d' ∧ DB W' p d' ∧ ButL p.w W W' := by
  have D0 := hid ((DG.startp h).new 31 (opC 3 a b c f))
  have HGl := hid (fun w L d' (k : DG W w p d' p.w L) => hG.step k.but p.w_all')
  obtain ⟨a0, a1, b0, b1, c0, c1, f0, f1⟩ := hw
  have kwa : wrap64 a = a := by unfold wrap64; omega
  have kwb : wrap64 b = b := by unfold wrap64; omega
  have kxa : IntKind.wrap .i64 a = a := by rw [IntKind.wrap_i64]; omega
  have kxb : IntKind.wrap .i64 b = b := by rw [IntKind.wrap_i64]; omega
  have HPa := hid (fun w => parse_any w c c0 c1)
  have HT := hid (fun w (hw : DB w p d) => take_any w p d hw b 4 a)
  rw [hE] at HT
  have HAd := hid (fun w (hw : DB w p (d.take b 4 a)) => addTable_any w p (d.take b 4 a) hw (by rw [DS.take_m]; exact hU) a c b)
  rw [hA] at HAd
  have HDi := hid (fun w (hw : DB w p ((d.take b 4 a).add a c b)) => (by have := digest_any w p _ hw a; rw [hst] at this; exact this : Calls Tryz.prog 19 #[ptr p.g, .int .i64 a] w fun e W' => e = .returned (.agg (u32s (d.st a)).toArray) ∧ Below w.heap.size w W'))
  have HOp := hid (fun w (hw : DB w p ((d.take b 4 a).add a c b)) => opOf_any w p _ hw 3 a b c f ⟨a0, a1, b0, b1, c0, c1, f0, f1⟩ (fun h => by cases h))
  have hL := d.st_length a
  have hW := DS.st_wds hU a
  have HEx := hid (fun (w : World) ao cc (hw : Gl w p) (ha : H.At w .u32 ao []) => Q.extend_gen w hw.tab hw.sz (d.st a) hL hW hk ⟨2, c, []⟩ (okK 2 c (by decide) (by decide) rfl) ao cc ha)
  have hXl : (Q.exS (d.st a) [2, c]).length = 26 := Q.exS_len hL
  have HLa := hid (fun w e (hw : DB w p e) => lawLay_any w p e hw a (Q.exS (d.st a) [2, c]) hXl)
  have HDt : Hid (d.tbD a b c = ((d.take b 4 a).addS a c b).dig a (Q.exS (d.st a) [2, c]) 26) := hid rfl
  rw [HDt.out]
  have HSd := hid (fun (e : DS) (hs : DS.Sim ((d.take b 4 a).add a c b) e) => ((DS.Sim.add (d.take b 4 a) a c b).trans hs).dig a (Q.exS (d.st a) [2, c]) 26)
  have kwc : wrap64 c = c := by unfold wrap64; omega
  have kxc : IntKind.wrap .i64 c = c := by rw [IntKind.wrap_i64]; omega
  obtain ⟨Z, hZ⟩ : ∃ Z : List Int, Z = List.replicate 26 0 := ⟨_, rfl⟩
  have hZl : Z.length = 26 := by rw [hZ]; simp
  have hz : ∀ w, (zeroValue 59).run Tryz.prog w = .ok (.agg (u32s Z).toArray) w := fun w => by rw [Tryz.zeroValue59, hZ]; rfl
  have hm2 : ∀ e : DS, e.mop 3 b c f = ⟨2, c, []⟩ := fun _ => rfl
  simp only [hm2] at HOp
  clear h hU hG hE hA hk hst hZ HDt hW hm2 a0 a1 b0 b1 c0 c1 f0 f1
  generalize gP c = mm at *
  generalize gPE c = me at *
  obtain ⟨va, mw, mx⟩ := mm
  simp only [opV, opC, ptr, Gm.v, H.Ag, Q.MOp.v, Q.MOp.wds, List.length_nil] at *
  have hu : ∀ L : List Int, L.map (Value.int .u32) = u32s L := fun _ => rfl
  simp only [hu] at *
  clear hu
  generalize (((d.take b 4 a).addS a c b).dig a (Q.exS (d.st a) [2, c]) 26) = dO at *
  generalize Q.exS (d.st a) [2, c] = XS at *
  generalize d.st a = ST at *
  generalize (d.take b 4 a).add a c b = e2 at *
  generalize d.take b 4 a = dT at *
  go_enter Tryz.func15, Tryz.ntmps15
  go_upto_region 1 with fail
  generalize World.alloc _ _ = X at *
  generalize hg : W.heap.size = g3 at D0 ⊢
  have HG := hid hg
  clear hg
  have D1 := hid (D0.out.on (Below.refl _ _).drew)
  clear D0
  refine wp_region_held_drew (S := fun w => Cel w g3 31 [.int .i64 3, .int .u32 a, .int .u32 b, .int .u32 c, .int .u32 f]) (by kernel_rfl) (D1.out.get 0 rfl) (fun hHeld => ?_)
  generalize World.drew _ = w3 at *
  refine wpAnyH_take (i := 0) (oi := { dst := some 13, op := Op.fieldAddr 31 (Operand.tmp 3) 1, type := 0, pos := "outright.go:63", after := #[], guard := none }) (v := .pointer (some ⟨g3, 1, none⟩)) rfl (by kernel_rfl) (by kernel_rfl) (by kernel_rfl) (fun _ _ _ h => h) (Or.inl ⟨by rfl, by intro w hSw; go_simp⟩) (by assumption) ?_
  simp only [Act.put, List.setIfInBounds_toArray, List.set_cons_zero, List.set_cons_succ]
  refine wpAnyH_take (i := 1) (oi := { dst := some 14, op := Op.load 29 (Operand.tmp 13), type := 29, pos := "outright.go:63", after := #[{ on := 0, ground := Ground.data }], guard := none }) (v := .int .u32 a) rfl (by kernel_rfl) (by kernel_rfl) (by kernel_rfl) (fun _ _ _ h => h) (Or.inl ⟨by rfl, by intro w hSw; have hc : w.cell? ⟨g3, 1, none⟩ = some (.int .u32 a) := hSw.cell 1; go_simp⟩) (by assumption) ?_
  simp only [Act.put, List.setIfInBounds_toArray, List.set_cons_zero, List.set_cons_succ]
  refine wpAnyH_take (i := 2) (oi := { dst := some 15, op := Op.convert 29 3 (Operand.tmp 14), type := 3, pos := "outright.go:63", after := #[{ on := 1, ground := Ground.data }], guard := none }) (v := .int .i64 a) rfl (by kernel_rfl) (by kernel_rfl) (by kernel_rfl) (fun _ _ _ h => h) (Or.inl ⟨by rfl, by intro w hSw; go_simp⟩) (by assumption) ?_
  simp only [Act.put, List.setIfInBounds_toArray, List.set_cons_zero, List.set_cons_succ]
  refine wpAnyH_take (i := 3) (oi := { dst := some 16, op := Op.fieldAddr 31 (Operand.tmp 3) 2, type := 0, pos := "outright.go:63", after := #[{ on := 6, ground := Ground.gcOnly Departure.lateStores }], guard := none }) (v := .pointer (some ⟨g3, 2, none⟩)) rfl (by kernel_rfl) (by kernel_rfl) (by kernel_rfl) (fun _ _ _ h => h) (Or.inl ⟨by rfl, by intro w hSw; go_simp⟩) (by assumption) ?_
  simp only [Act.put, List.setIfInBounds_toArray, List.set_cons_zero, List.set_cons_succ]
  refine wpAnyH_take (i := 4) (oi := { dst := some 17, op := Op.load 29 (Operand.tmp 16), type := 29, pos := "outright.go:63", after := #[{ on := 3, ground := Ground.data }, { on := 6, ground := Ground.gcOnly Departure.lateStores }], guard := none }) (v := .int .u32 b) rfl (by kernel_rfl) (by kernel_rfl) (by kernel_rfl) (fun _ _ _ h => h) (Or.inl ⟨by rfl, by intro w hSw; have hc : w.cell? ⟨g3, 2, none⟩ = some (.int .u32 b) := hSw.cell 2; go_simp⟩) (by assumption) ?_
  simp only [Act.put, List.setIfInBounds_toArray, List.set_cons_zero, List.set_cons_succ]
  refine wpAnyH_take (i := 5) (oi := { dst := some 18, op := Op.convert 29 3 (Operand.tmp 17), type := 3, pos := "outright.go:63", after := #[{ on := 4, ground := Ground.data }, { on := 6, ground := Ground.gcOnly Departure.lateStores }], guard := none }) (v := .int .i64 b) rfl (by kernel_rfl) (by kernel_rfl) (by kernel_rfl) (fun _ _ _ h => h) (Or.inl ⟨by rfl, by intro w hSw; go_simp⟩) (by assumption) ?_
  simp only [Act.put, List.setIfInBounds_toArray, List.set_cons_zero, List.set_cons_succ]
  refine wpAnyH_ready (rs := [6]) (by kernel_rfl) (by simp) (AllReadyH.cons (o := { dst := some 5, op := Op.assign (Operand.tmp 15), type := 3, pos := "outright.go:63", after := #[{ on := 2, ground := Ground.data }, { on := 0, ground := Ground.phase }, { on := 1, ground := Ground.phase }, { on := 2, ground := Ground.phase }, { on := 3, ground := Ground.textOnly Departure.lateStores }, { on := 4, ground := Ground.textOnly Departure.lateStores }, { on := 5, ground := Ground.textOnly Departure.lateStores }], guard := none }) rfl (fun KQ hK => ?_) AllReadyH.nil)
  go_simp
  refine hK.out _ _ (D1.out.get 0 rfl) (fun hHeld => ?_)
  clear hK KQ
  try simp only [Act.put, List.setIfInBounds_toArray, List.set_cons_zero, List.set_cons_succ]
  refine wpAnyH_ready (rs := [7]) (by kernel_rfl) (by simp) (AllReadyH.cons (o := { dst := some 6, op := Op.assign (Operand.tmp 18), type := 3, pos := "outright.go:63", after := #[{ on := 5, ground := Ground.data }, { on := 6, ground := Ground.chain }, { on := 0, ground := Ground.phase }, { on := 1, ground := Ground.phase }, { on := 2, ground := Ground.phase }, { on := 3, ground := Ground.phase }, { on := 4, ground := Ground.phase }, { on := 5, ground := Ground.phase }, { on := 6, ground := Ground.phase }], guard := none }) rfl (fun KQ hK => ?_) AllReadyH.nil)
  go_simp
  refine hK.out _ _ (D1.out.get 0 rfl) (fun hHeld => ?_)
  clear hK KQ
  try simp only [Act.put, List.setIfInBounds_toArray, List.set_cons_zero, List.set_cons_succ]
  refine wpAnyH_done (by kernel_rfl) ?_ _
  have c0 := (D1.out.get 0 rfl).cell 0
  simp only [List.getElem?_cons_zero] at c0
  have c3 := (D1.out.get 0 rfl).cell 3
  simp only [List.getElem?_cons_zero, List.getElem?_cons_succ] at c3
  go_upto_region 8 with (first | (go_at_call 48; refine (HPa.out _).mono ?_; rintro e w4 ⟨rfl, hb⟩; have D2 := hid (D1.out.on hb); clear hb c0 c3) | (refine wpList_store_st rfl 100 _ _ rfl w4.heap.size [.int .u32 va, .bool mw, .bool mx] rfl rfl (Cel.new w4 100 [.int .u32 0, .bool false, .bool false]) size26 rfl rfl ?_; intro w5 hc hb hs; have D3 := hid (D2.out.add hc hb); clear hc hb hs))
  generalize w4.heap.size = g8 at *
  have k0 := (D3.out.get 1 rfl).cell 0
  simp only [List.getElem?_cons_zero] at k0
  go_upto_region 22 with (first | (go_at_call 49; refine (HT.out _ D3.out.db).mono ?_; rintro e w6 ⟨rfl, hd, hb⟩; have D4 := hid (D3.out.step hd hb (fun _ hk => hk)); have k3 := (D4.out.get 1 rfl).cell 3; simp only [List.getElem?_cons_zero, List.getElem?_cons_succ] at k3; clear hd hb k0) | (go_at_call 50; refine (HAd.out _ D4.out.db).mono ?_; rintro e w7 ⟨rfl, hd, hb⟩; have D6 := hid (D4.out.step hd hb p.fw_w); clear hd hb k3))
  have E0 := hid (D6.out.on (Below.refl _ _).drew)
  clear D1 D2 D3 D4 D6
  refine wp_region_held_drew (S := fun w => Cel w g3 31 [.int .i64 3, .int .u32 a, .int .u32 b, .int .u32 c, .int .u32 f]) (by kernel_rfl) (E0.out.get 1 rfl) (fun hHeld => ?_)
  generalize World.drew _ = x99 at *
  refine wpAnyH_take (i := 0) (oi := { dst := some 152, op := Op.move (Operand.tmp 0), type := 25, pos := "outright.go:86", after := #[], guard := none }) (v := .pointer (some ⟨p.g, 0, none⟩)) rfl (by kernel_rfl) (by kernel_rfl) (by kernel_rfl) (fun _ _ _ h => h) (Or.inl ⟨by rfl, by intro w hSw; go_simp⟩) (by assumption) ?_
  simp only [Act.put, List.setIfInBounds_toArray, List.set_cons_zero, List.set_cons_succ]
  refine wpAnyH_take (i := 1) (oi := { dst := some 153, op := Op.move (Operand.tmp 5), type := 3, pos := "outright.go:86", after := #[], guard := none }) (v := .int .i64 a) rfl (by kernel_rfl) (by kernel_rfl) (by kernel_rfl) (fun _ _ _ h => h) (Or.inl ⟨by rfl, by intro w hSw; go_simp⟩) (by assumption) ?_
  simp only [Act.put, List.setIfInBounds_toArray, List.set_cons_zero, List.set_cons_succ]
  refine wpAnyH_take (i := 3) (oi := { dst := some 155, op := Op.move (Operand.tmp 0), type := 25, pos := "outright.go:86", after := #[], guard := none }) (v := .pointer (some ⟨p.g, 0, none⟩)) rfl (by kernel_rfl) (by kernel_rfl) (by kernel_rfl) (fun _ _ _ h => h) (Or.inl ⟨by rfl, by intro w hSw; go_simp⟩) (by assumption) ?_
  simp only [Act.put, List.setIfInBounds_toArray, List.set_cons_zero, List.set_cons_succ]
  refine wpAnyH_take (i := 4) (oi := { dst := some 156, op := Op.load 31 (Operand.tmp 3), type := 31, pos := "outright.go:86", after := #[], guard := none }) (v := .agg #[.int .i64 3, .int .u32 a, .int .u32 b, .int .u32 c, .int .u32 f]) rfl (by kernel_rfl) (by kernel_rfl) (by kernel_rfl) (fun _ _ _ h => h) (yieldsIf_load_mid (by rfl) _ _ rfl _ _ rfl _ _ (fun w hSw => hSw.range) under31 rfl (by rw [size31]; rfl)) (by assumption) ?_
  simp only [Act.put, List.setIfInBounds_toArray, List.set_cons_zero, List.set_cons_succ]
  refine wpAnyH_ready (rs := [2, 10]) (by kernel_rfl) (by simp) (AllReadyH.cons (o := { dst := some 154, op := Op.call { callee := Callee.value (Operand.func 19), args := #[Operand.tmp 152, Operand.tmp 153], argTypes := #[25, 3] }, type := 59, pos := "outright.go:86", after := #[{ on := 0, ground := Ground.data }, { on := 1, ground := Ground.data }], guard := none }) rfl (fun KQ hK => ?_) (AllReadyH.cons (o := { dst := some 11, op := Op.alloc 59, type := 0, pos := "outright.go:86", after := #[], guard := none }) rfl (fun KQ hK => ?_) AllReadyH.nil))
  · go_simp
    refine (HDi.out _ E0.out.db).mono ?_
    rintro e x101 ⟨rfl, hb⟩
    have E101 := hid (E0.out.on hb)
    clear hb E0
    go_wp2_with fail
    refine hK.out _ _ (E101.out.get 1 rfl) (fun hHeld => ?_)
    clear hK KQ
    try simp only [Act.put, List.setIfInBounds_toArray, List.set_cons_zero, List.set_cons_succ]
    refine wpAnyH_ready (rs := [5, 10]) (by kernel_rfl) (by simp) (AllReadyH.cons (o := { dst := some 157, op := Op.call { callee := Callee.value (Operand.func 17), args := #[Operand.tmp 155, Operand.tmp 156], argTypes := #[25, 31] }, type := 54, pos := "outright.go:86", after := #[{ on := 3, ground := Ground.data }, { on := 4, ground := Ground.data }, { on := 2, ground := Ground.chain }], guard := none }) rfl (fun KQ hK => ?_) (AllReadyH.cons (o := { dst := some 11, op := Op.alloc 59, type := 0, pos := "outright.go:86", after := #[], guard := none }) rfl (fun KQ hK => ?_) AllReadyH.nil))
    · go_simp
      refine (HOp.out _ E101.out.db).mono ?_
      rintro e x102 ⟨d9, ao, cc, rfl, hs, ha, hd, hb⟩
      have E102 := hid (E101.out.step hd hb (fun _ hk => hk))
      have A102 := hid ha
      have S9 := hid hs
      clear hs ha hd hb E101
      go_wp2_with fail
      refine hK.out _ _ (E102.out.get 1 rfl) (fun hHeld => ?_)
      clear hK KQ
      try simp only [Act.put, List.setIfInBounds_toArray, List.set_cons_zero, List.set_cons_succ]
      refine wpAnyH_ready (rs := [6, 10]) (by kernel_rfl) (by simp) (AllReadyH.cons (o := { dst := some 158, op := Op.call { callee := Callee.value (Operand.func 54), args := #[Operand.tmp 154, Operand.tmp 157], argTypes := #[59, 54] }, type := 109, pos := "outright.go:86", after := #[{ on := 2, ground := Ground.data }, { on := 5, ground := Ground.data }, { on := 5, ground := Ground.chain }], guard := none }) rfl (fun KQ hK => ?_) (AllReadyH.cons (o := { dst := some 11, op := Op.alloc 59, type := 0, pos := "outright.go:86", after := #[], guard := none }) rfl (fun KQ hK => ?_) AllReadyH.nil))
      · go_simp
        refine (HEx.out _ ao cc (HGl.out _ _ _ E102.out) (A102.out _ (.refl _ _))).mono ?_
        rintro e x103 ⟨rfl, hb⟩
        have E103 := hid (E102.out.on hb)
        clear hb E102
        go_wp2_with fail
        refine hK.out _ _ (E103.out.get 1 rfl) (fun hHeld => ?_)
        clear hK KQ
        try simp only [Act.put, List.setIfInBounds_toArray, List.set_cons_zero, List.set_cons_succ]
        refine wpAnyH_take (i := 7) (oi := { dst := some 151, op := Op.move (Operand.tmp 158), type := 109, pos := "outright.go:86", after := #[{ on := 6, ground := Ground.data }], guard := none }) (v := .tuple #[.agg (u32s XS).toArray, .int .i64 0]) rfl (by kernel_rfl) (by kernel_rfl) (by kernel_rfl) (fun _ _ _ h => h) (Or.inl ⟨by rfl, by intro w hSw; go_simp⟩) (by assumption) ?_
        simp only [Act.put, List.setIfInBounds_toArray, List.set_cons_zero, List.set_cons_succ]
        refine wpAnyH_take (i := 8) (oi := { dst := some 159, op := Op.extract (Operand.tmp 151) 0, type := 59, pos := "outright.go:86", after := #[{ on := 7, ground := Ground.data }], guard := none }) (v := .agg (u32s XS).toArray) rfl (by kernel_rfl) (by kernel_rfl) (by kernel_rfl) (fun _ _ _ h => h) (Or.inl ⟨by rfl, by intro w hSw; go_simp⟩) (by assumption) ?_
        simp only [Act.put, List.setIfInBounds_toArray, List.set_cons_zero, List.set_cons_succ]
        refine wpAnyH_take (i := 9) (oi := { dst := some 160, op := Op.extract (Operand.tmp 151) 1, type := 39, pos := "outright.go:86", after := #[{ on := 7, ground := Ground.data }, { on := 11, ground := Ground.gcOnly Departure.lateStores }], guard := none }) (v := .int .i64 0) rfl (by kernel_rfl) (by kernel_rfl) (by kernel_rfl) (fun _ _ _ h => h) (Or.inl ⟨by rfl, by intro w hSw; go_simp⟩) (by assumption) ?_
        simp only [Act.put, List.setIfInBounds_toArray, List.set_cons_zero, List.set_cons_succ]
        refine wpAnyH_ready (rs := [10]) (by kernel_rfl) (by simp) (AllReadyH.cons (o := { dst := some 11, op := Op.alloc 59, type := 0, pos := "outright.go:86", after := #[], guard := none }) rfl (fun KQ hK => ?_) AllReadyH.nil)
        go_simp
        have HLt : Hid (g8 < x103.heap.size ∧ g3 < x103.heap.size) := hid ⟨(E103.out.get 0 rfl).lt, (E103.out.get 1 rfl).lt⟩
        have E104 := hid (E103.out.new 59 (u32s Z))
        have AB104 : Hid (ButL p.w x103 (x103.alloc (.cells (u32s Z).toArray 59))) := hid (.of (below_one _ _))
        clear E103
        generalize World.alloc _ _ = x104 at *
        generalize x103.heap.size = g11 at *
        refine hK.out _ _ (E104.out.get 2 rfl) (fun hHeld => ?_)
        clear hK KQ
        try simp only [Act.put, List.setIfInBounds_toArray, List.set_cons_zero, List.set_cons_succ]
        refine wpAnyH_ready (rs := [11]) (by kernel_rfl) (by simp) (AllReadyH.cons (o := { dst := none, op := Op.store 59 (Operand.tmp 11) (Operand.tmp 159), type := 0, pos := "outright.go:86", after := #[{ on := 10, ground := Ground.data }, { on := 8, ground := Ground.data }, { on := 6, ground := Ground.chain }, { on := 0, ground := Ground.phase }, { on := 1, ground := Ground.phase }, { on := 2, ground := Ground.phase }, { on := 3, ground := Ground.phase }, { on := 4, ground := Ground.phase }, { on := 5, ground := Ground.phase }, { on := 6, ground := Ground.phase }, { on := 7, ground := Ground.phase }, { on := 8, ground := Ground.phase }, { on := 9, ground := Ground.textOnly Departure.lateStores }, { on := 10, ground := Ground.phase }], guard := none }) rfl (fun KQ hK => ?_) AllReadyH.nil)
        rw [if_pos (by rfl)]
        refine wp_store_st 59 _ _ rfl g11 (u32s XS) rfl rfl (E104.out.get 0 rfl) (by rw [u32s, List.length_map, hXl]; exact size59) (by simp [u32s, hZl, hXl]) (u32sA XS) ?_
        intro x105 hc hb hs
        have E105 := hid (E104.out.put (fun q hq => by simp only [List.mem_cons, List.not_mem_nil, or_false] at hq; rcases hq with rfl | rfl <;> (have := HLt.out; simp only; omega)) hc hb)
        clear hc hb hs E104
        refine hK.out _ _ (E105.out.get 2 rfl) (fun hHeld => ?_)
        clear hK KQ
        try simp only [Act.put]
        refine wpAnyH_ready (rs := [12]) (by kernel_rfl) (by simp) (AllReadyH.cons (o := { dst := some 12, op := Op.assign (Operand.tmp 160), type := 39, pos := "outright.go:86", after := #[{ on := 9, ground := Ground.data }, { on := 11, ground := Ground.chain }, { on := 0, ground := Ground.phase }, { on := 1, ground := Ground.phase }, { on := 2, ground := Ground.phase }, { on := 3, ground := Ground.phase }, { on := 4, ground := Ground.phase }, { on := 5, ground := Ground.phase }, { on := 6, ground := Ground.phase }, { on := 7, ground := Ground.phase }, { on := 8, ground := Ground.phase }, { on := 9, ground := Ground.phase }, { on := 10, ground := Ground.phase }, { on := 11, ground := Ground.phase }], guard := none }) rfl (fun KQ hK => ?_) AllReadyH.nil)
        go_simp
        refine hK.out _ _ (E105.out.get 2 rfl) (fun hHeld => ?_)
        clear hK KQ
        try simp only [Act.put, List.setIfInBounds_toArray, List.set_cons_zero, List.set_cons_succ]
        refine wpAnyH_done (by kernel_rfl) ?_ _
        go_upto_region 24 with (first | (refine wpList_load_gm rfl 59 _ rfl g11 0 rfl _ _ (E105.out.get 0 rfl).range under59 rfl (by rw [u32s, List.length_map, hXl]; exact size59) ?_) | (go_at_call 46; refine (HLa.out _ _ E105.out.db).mono ?_; rintro e y1 ⟨rfl, hd, hb⟩; have EZ := hid (E105.out.step hd hb p.fw_w); clear hd hb))
        go_wp2_with fail
        go_returns
        exact ⟨_, rfl, HSd.out _ S9.out, EZ.out.db, EZ.out.but⟩
      · go_simp
        have HLt : Hid (g8 < x102.heap.size ∧ g3 < x102.heap.size) := hid ⟨(E102.out.get 0 rfl).lt, (E102.out.get 1 rfl).lt⟩
        have E106 := hid (E102.out.new 59 (u32s Z))
        have AB106 : Hid (ButL p.w x102 (x102.alloc (.cells (u32s Z).toArray 59))) := hid (.of (below_one _ _))
        clear E102
        generalize World.alloc _ _ = x106 at *
        generalize x102.heap.size = g11 at *
        refine hK.out _ _ (E106.out.get 2 rfl) (fun hHeld => ?_)
        clear hK KQ
        try simp only [Act.put, List.setIfInBounds_toArray, List.set_cons_zero, List.set_cons_succ]
        refine wpAnyH_ready (rs := [6]) (by kernel_rfl) (by simp) (AllReadyH.cons (o := { dst := some 158, op := Op.call { callee := Callee.value (Operand.func 54), args := #[Operand.tmp 154, Operand.tmp 157], argTypes := #[59, 54] }, type := 109, pos := "outright.go:86", after := #[{ on := 2, ground := Ground.data }, { on := 5, ground := Ground.data }, { on := 5, ground := Ground.chain }], guard := none }) rfl (fun KQ hK => ?_) AllReadyH.nil)
        go_simp
        refine (HEx.out _ ao cc (HGl.out _ _ _ E106.out) (A102.out _ AB106.out)).mono ?_
        rintro e x107 ⟨rfl, hb⟩
        have E107 := hid (E106.out.on hb)
        clear hb E106
        go_wp2_with fail
        refine hK.out _ _ (E107.out.get 2 rfl) (fun hHeld => ?_)
        clear hK KQ
        try simp only [Act.put, List.setIfInBounds_toArray, List.set_cons_zero, List.set_cons_succ]
        refine wpAnyH_take (i := 7) (oi := { dst := some 151, op := Op.move (Operand.tmp 158), type := 109, pos := "outright.go:86", after := #[{ on := 6, ground := Ground.data }], guard := none }) (v := .tuple #[.agg (u32s XS).toArray, .int .i64 0]) rfl (by kernel_rfl) (by kernel_rfl) (by kernel_rfl) (fun _ _ _ h => h) (Or.inl ⟨by rfl, by intro w hSw; go_simp⟩) (by assumption) ?_
        simp only [Act.put, List.setIfInBounds_toArray, List.set_cons_zero, List.set_cons_succ]
        refine wpAnyH_take (i := 8) (oi := { dst := some 159, op := Op.extract (Operand.tmp 151) 0, type := 59, pos := "outright.go:86", after := #[{ on := 7, ground := Ground.data }], guard := none }) (v := .agg (u32s XS).toArray) rfl (by kernel_rfl) (by kernel_rfl) (by kernel_rfl) (fun _ _ _ h => h) (Or.inl ⟨by rfl, by intro w hSw; go_simp⟩) (by assumption) ?_
        simp only [Act.put, List.setIfInBounds_toArray, List.set_cons_zero, List.set_cons_succ]
        refine wpAnyH_take (i := 9) (oi := { dst := some 160, op := Op.extract (Operand.tmp 151) 1, type := 39, pos := "outright.go:86", after := #[{ on := 7, ground := Ground.data }, { on := 11, ground := Ground.gcOnly Departure.lateStores }], guard := none }) (v := .int .i64 0) rfl (by kernel_rfl) (by kernel_rfl) (by kernel_rfl) (fun _ _ _ h => h) (Or.inl ⟨by rfl, by intro w hSw; go_simp⟩) (by assumption) ?_
        simp only [Act.put, List.setIfInBounds_toArray, List.set_cons_zero, List.set_cons_succ]
        refine wpAnyH_ready (rs := [11]) (by kernel_rfl) (by simp) (AllReadyH.cons (o := { dst := none, op := Op.store 59 (Operand.tmp 11) (Operand.tmp 159), type := 0, pos := "outright.go:86", after := #[{ on := 10, ground := Ground.data }, { on := 8, ground := Ground.data }, { on := 6, ground := Ground.chain }, { on := 0, ground := Ground.phase }, { on := 1, ground := Ground.phase }, { on := 2, ground := Ground.phase }, { on := 3, ground := Ground.phase }, { on := 4, ground := Ground.phase }, { on := 5, ground := Ground.phase }, { on := 6, ground := Ground.phase }, { on := 7, ground := Ground.phase }, { on := 8, ground := Ground.phase }, { on := 9, ground := Ground.textOnly Departure.lateStores }, { on := 10, ground := Ground.phase }], guard := none }) rfl (fun KQ hK => ?_) AllReadyH.nil)
        rw [if_pos (by rfl)]
        refine wp_store_st 59 _ _ rfl g11 (u32s XS) rfl rfl (E107.out.get 0 rfl) (by rw [u32s, List.length_map, hXl]; exact size59) (by simp [u32s, hZl, hXl]) (u32sA XS) ?_
        intro x108 hc hb hs
        have E108 := hid (E107.out.put (fun q hq => by simp only [List.mem_cons, List.not_mem_nil, or_false] at hq; rcases hq with rfl | rfl <;> (have := HLt.out; simp only; omega)) hc hb)
        clear hc hb hs E107
        refine hK.out _ _ (E108.out.get 2 rfl) (fun hHeld => ?_)
        clear hK KQ
        try simp only [Act.put]
        refine wpAnyH_ready (rs := [12]) (by kernel_rfl) (by simp) (AllReadyH.cons (o := { dst := some 12, op := Op.assign (Operand.tmp 160), type := 39, pos := "outright.go:86", after := #[{ on := 9, ground := Ground.data }, { on := 11, ground := Ground.chain }, { on := 0, ground := Ground.phase }, { on := 1, ground := Ground.phase }, { on := 2, ground := Ground.phase }, { on := 3, ground := Ground.phase }, { on := 4, ground := Ground.phase }, { on := 5, ground := Ground.phase }, { on := 6, ground := Ground.phase }, { on := 7, ground := Ground.phase }, { on := 8, ground := Ground.phase }, { on := 9, ground := Ground.phase }, { on := 10, ground := Ground.phase }, { on := 11, ground := Ground.phase }], guard := none }) rfl (fun KQ hK => ?_) AllReadyH.nil)
        go_simp
        refine hK.out _ _ (E108.out.get 2 rfl) (fun hHeld => ?_)
        clear hK KQ
        try simp only [Act.put, List.setIfInBounds_toArray, List.set_cons_zero, List.set_cons_succ]
        refine wpAnyH_done (by kernel_rfl) ?_ _
        go_upto_region 24 with (first | (refine wpList_load_gm rfl 59 _ rfl g11 0 rfl _ _ (E108.out.get 0 rfl).range under59 rfl (by rw [u32s, List.length_map, hXl]; exact size59) ?_) | (go_at_call 46; refine (HLa.out _ _ E108.out.db).mono ?_; rintro e y1 ⟨rfl, hd, hb⟩; have EZ := hid (E108.out.step hd hb p.fw_w); clear hd hb))
        go_wp2_with fail
        go_returns
        exact ⟨_, rfl, HSd.out _ S9.out, EZ.out.db, EZ.out.but⟩
    · go_simp
      have HLt : Hid (g8 < x101.heap.size ∧ g3 < x101.heap.size) := hid ⟨(E101.out.get 0 rfl).lt, (E101.out.get 1 rfl).lt⟩
      have E109 := hid (E101.out.new 59 (u32s Z))
      clear E101
      generalize World.alloc _ _ = x109 at *
      generalize x101.heap.size = g11 at *
      refine hK.out _ _ (E109.out.get 2 rfl) (fun hHeld => ?_)
      clear hK KQ
      try simp only [Act.put, List.setIfInBounds_toArray, List.set_cons_zero, List.set_cons_succ]
      refine wpAnyH_ready (rs := [5]) (by kernel_rfl) (by simp) (AllReadyH.cons (o := { dst := some 157, op := Op.call { callee := Callee.value (Operand.func 17), args := #[Operand.tmp 155, Operand.tmp 156], argTypes := #[25, 31] }, type := 54, pos := "outright.go:86", after := #[{ on := 3, ground := Ground.data }, { on := 4, ground := Ground.data }, { on := 2, ground := Ground.chain }], guard := none }) rfl (fun KQ hK => ?_) AllReadyH.nil)
      go_simp
      refine (HOp.out _ E109.out.db).mono ?_
      rintro e x110 ⟨d9, ao, cc, rfl, hs, ha, hd, hb⟩
      have E110 := hid (E109.out.step hd hb (fun _ hk => hk))
      have A110 := hid ha
      have S9 := hid hs
      clear hs ha hd hb E109
      go_wp2_with fail
      refine hK.out _ _ (E110.out.get 2 rfl) (fun hHeld => ?_)
      clear hK KQ
      try simp only [Act.put, List.setIfInBounds_toArray, List.set_cons_zero, List.set_cons_succ]
      refine wpAnyH_ready (rs := [6]) (by kernel_rfl) (by simp) (AllReadyH.cons (o := { dst := some 158, op := Op.call { callee := Callee.value (Operand.func 54), args := #[Operand.tmp 154, Operand.tmp 157], argTypes := #[59, 54] }, type := 109, pos := "outright.go:86", after := #[{ on := 2, ground := Ground.data }, { on := 5, ground := Ground.data }, { on := 5, ground := Ground.chain }], guard := none }) rfl (fun KQ hK => ?_) AllReadyH.nil)
      go_simp
      refine (HEx.out _ ao cc (HGl.out _ _ _ E110.out) (A110.out _ (.refl _ _))).mono ?_
      rintro e x111 ⟨rfl, hb⟩
      have E111 := hid (E110.out.on hb)
      clear hb E110
      go_wp2_with fail
      refine hK.out _ _ (E111.out.get 2 rfl) (fun hHeld => ?_)
      clear hK KQ
      try simp only [Act.put, List.setIfInBounds_toArray, List.set_cons_zero, List.set_cons_succ]
      refine wpAnyH_take (i := 7) (oi := { dst := some 151, op := Op.move (Operand.tmp 158), type := 109, pos := "outright.go:86", after := #[{ on := 6, ground := Ground.data }], guard := none }) (v := .tuple #[.agg (u32s XS).toArray, .int .i64 0]) rfl (by kernel_rfl) (by kernel_rfl) (by kernel_rfl) (fun _ _ _ h => h) (Or.inl ⟨by rfl, by intro w hSw; go_simp⟩) (by assumption) ?_
      simp only [Act.put, List.setIfInBounds_toArray, List.set_cons_zero, List.set_cons_succ]
      refine wpAnyH_take (i := 8) (oi := { dst := some 159, op := Op.extract (Operand.tmp 151) 0, type := 59, pos := "outright.go:86", after := #[{ on := 7, ground := Ground.data }], guard := none }) (v := .agg (u32s XS).toArray) rfl (by kernel_rfl) (by kernel_rfl) (by kernel_rfl) (fun _ _ _ h => h) (Or.inl ⟨by rfl, by intro w hSw; go_simp⟩) (by assumption) ?_
      simp only [Act.put, List.setIfInBounds_toArray, List.set_cons_zero, List.set_cons_succ]
      refine wpAnyH_take (i := 9) (oi := { dst := some 160, op := Op.extract (Operand.tmp 151) 1, type := 39, pos := "outright.go:86", after := #[{ on := 7, ground := Ground.data }, { on := 11, ground := Ground.gcOnly Departure.lateStores }], guard := none }) (v := .int .i64 0) rfl (by kernel_rfl) (by kernel_rfl) (by kernel_rfl) (fun _ _ _ h => h) (Or.inl ⟨by rfl, by intro w hSw; go_simp⟩) (by assumption) ?_
      simp only [Act.put, List.setIfInBounds_toArray, List.set_cons_zero, List.set_cons_succ]
      refine wpAnyH_ready (rs := [11]) (by kernel_rfl) (by simp) (AllReadyH.cons (o := { dst := none, op := Op.store 59 (Operand.tmp 11) (Operand.tmp 159), type := 0, pos := "outright.go:86", after := #[{ on := 10, ground := Ground.data }, { on := 8, ground := Ground.data }, { on := 6, ground := Ground.chain }, { on := 0, ground := Ground.phase }, { on := 1, ground := Ground.phase }, { on := 2, ground := Ground.phase }, { on := 3, ground := Ground.phase }, { on := 4, ground := Ground.phase }, { on := 5, ground := Ground.phase }, { on := 6, ground := Ground.phase }, { on := 7, ground := Ground.phase }, { on := 8, ground := Ground.phase }, { on := 9, ground := Ground.textOnly Departure.lateStores }, { on := 10, ground := Ground.phase }], guard := none }) rfl (fun KQ hK => ?_) AllReadyH.nil)
      rw [if_pos (by rfl)]
      refine wp_store_st 59 _ _ rfl g11 (u32s XS) rfl rfl (E111.out.get 0 rfl) (by rw [u32s, List.length_map, hXl]; exact size59) (by simp [u32s, hZl, hXl]) (u32sA XS) ?_
      intro x112 hc hb hs
      have E112 := hid (E111.out.put (fun q hq => by simp only [List.mem_cons, List.not_mem_nil, or_false] at hq; rcases hq with rfl | rfl <;> (have := HLt.out; simp only; omega)) hc hb)
      clear hc hb hs E111
      refine hK.out _ _ (E112.out.get 2 rfl) (fun hHeld => ?_)
      clear hK KQ
      try simp only [Act.put]
      refine wpAnyH_ready (rs := [12]) (by kernel_rfl) (by simp) (AllReadyH.cons (o := { dst := some 12, op := Op.assign (Operand.tmp 160), type := 39, pos := "outright.go:86", after := #[{ on := 9, ground := Ground.data }, { on := 11, ground := Ground.chain }, { on := 0, ground := Ground.phase }, { on := 1, ground := Ground.phase }, { on := 2, ground := Ground.phase }, { on := 3, ground := Ground.phase }, { on := 4, ground := Ground.phase }, { on := 5, ground := Ground.phase }, { on := 6, ground := Ground.phase }, { on := 7, ground := Ground.phase }, { on := 8, ground := Ground.phase }, { on := 9, ground := Ground.phase }, { on := 10, ground := Ground.phase }, { on := 11, ground := Ground.phase }], guard := none }) rfl (fun KQ hK => ?_) AllReadyH.nil)
      go_simp
      refine hK.out _ _ (E112.out.get 2 rfl) (fun hHeld => ?_)
      clear hK KQ
      try simp only [Act.put, List.setIfInBounds_toArray, List.set_cons_zero, List.set_cons_succ]
      refine wpAnyH_done (by kernel_rfl) ?_ _
      go_upto_region 24 with (first | (refine wpList_load_gm rfl 59 _ rfl g11 0 rfl _ _ (E112.out.get 0 rfl).range under59 rfl (by rw [u32s, List.length_map, hXl]; exact size59) ?_) | (go_at_call 46; refine (HLa.out _ _ E112.out.db).mono ?_; rintro e y1 ⟨rfl, hd, hb⟩; have EZ := hid (E112.out.step hd hb p.fw_w); clear hd hb))
      go_wp2_with fail
      go_returns
      exact ⟨_, rfl, HSd.out _ S9.out, EZ.out.db, EZ.out.but⟩
  · go_simp
    have HLt : Hid (g8 < x99.heap.size ∧ g3 < x99.heap.size) := hid ⟨(E0.out.get 0 rfl).lt, (E0.out.get 1 rfl).lt⟩
    have E113 := hid (E0.out.new 59 (u32s Z))
    clear E0
    generalize World.alloc _ _ = x113 at *
    generalize x99.heap.size = g11 at *
    refine hK.out _ _ (E113.out.get 2 rfl) (fun hHeld => ?_)
    clear hK KQ
    try simp only [Act.put, List.setIfInBounds_toArray, List.set_cons_zero, List.set_cons_succ]
    refine wpAnyH_ready (rs := [2]) (by kernel_rfl) (by simp) (AllReadyH.cons (o := { dst := some 154, op := Op.call { callee := Callee.value (Operand.func 19), args := #[Operand.tmp 152, Operand.tmp 153], argTypes := #[25, 3] }, type := 59, pos := "outright.go:86", after := #[{ on := 0, ground := Ground.data }, { on := 1, ground := Ground.data }], guard := none }) rfl (fun KQ hK => ?_) AllReadyH.nil)
    go_simp
    refine (HDi.out _ E113.out.db).mono ?_
    rintro e x114 ⟨rfl, hb⟩
    have E114 := hid (E113.out.on hb)
    clear hb E113
    go_wp2_with fail
    refine hK.out _ _ (E114.out.get 2 rfl) (fun hHeld => ?_)
    clear hK KQ
    try simp only [Act.put, List.setIfInBounds_toArray, List.set_cons_zero, List.set_cons_succ]
    refine wpAnyH_ready (rs := [5]) (by kernel_rfl) (by simp) (AllReadyH.cons (o := { dst := some 157, op := Op.call { callee := Callee.value (Operand.func 17), args := #[Operand.tmp 155, Operand.tmp 156], argTypes := #[25, 31] }, type := 54, pos := "outright.go:86", after := #[{ on := 3, ground := Ground.data }, { on := 4, ground := Ground.data }, { on := 2, ground := Ground.chain }], guard := none }) rfl (fun KQ hK => ?_) AllReadyH.nil)
    go_simp
    refine (HOp.out _ E114.out.db).mono ?_
    rintro e x115 ⟨d9, ao, cc, rfl, hs, ha, hd, hb⟩
    have E115 := hid (E114.out.step hd hb (fun _ hk => hk))
    have A115 := hid ha
    have S9 := hid hs
    clear hs ha hd hb E114
    go_wp2_with fail
    refine hK.out _ _ (E115.out.get 2 rfl) (fun hHeld => ?_)
    clear hK KQ
    try simp only [Act.put, List.setIfInBounds_toArray, List.set_cons_zero, List.set_cons_succ]
    refine wpAnyH_ready (rs := [6]) (by kernel_rfl) (by simp) (AllReadyH.cons (o := { dst := some 158, op := Op.call { callee := Callee.value (Operand.func 54), args := #[Operand.tmp 154, Operand.tmp 157], argTypes := #[59, 54] }, type := 109, pos := "outright.go:86", after := #[{ on := 2, ground := Ground.data }, { on := 5, ground := Ground.data }, { on := 5, ground := Ground.chain }], guard := none }) rfl (fun KQ hK => ?_) AllReadyH.nil)
    go_simp
    refine (HEx.out _ ao cc (HGl.out _ _ _ E115.out) (A115.out _ (.refl _ _))).mono ?_
    rintro e x116 ⟨rfl, hb⟩
    have E116 := hid (E115.out.on hb)
    clear hb E115
    go_wp2_with fail
    refine hK.out _ _ (E116.out.get 2 rfl) (fun hHeld => ?_)
    clear hK KQ
    try simp only [Act.put, List.setIfInBounds_toArray, List.set_cons_zero, List.set_cons_succ]
    refine wpAnyH_take (i := 7) (oi := { dst := some 151, op := Op.move (Operand.tmp 158), type := 109, pos := "outright.go:86", after := #[{ on := 6, ground := Ground.data }], guard := none }) (v := .tuple #[.agg (u32s XS).toArray, .int .i64 0]) rfl (by kernel_rfl) (by kernel_rfl) (by kernel_rfl) (fun _ _ _ h => h) (Or.inl ⟨by rfl, by intro w hSw; go_simp⟩) (by assumption) ?_
    simp only [Act.put, List.setIfInBounds_toArray, List.set_cons_zero, List.set_cons_succ]
    refine wpAnyH_take (i := 8) (oi := { dst := some 159, op := Op.extract (Operand.tmp 151) 0, type := 59, pos := "outright.go:86", after := #[{ on := 7, ground := Ground.data }], guard := none }) (v := .agg (u32s XS).toArray) rfl (by kernel_rfl) (by kernel_rfl) (by kernel_rfl) (fun _ _ _ h => h) (Or.inl ⟨by rfl, by intro w hSw; go_simp⟩) (by assumption) ?_
    simp only [Act.put, List.setIfInBounds_toArray, List.set_cons_zero, List.set_cons_succ]
    refine wpAnyH_take (i := 9) (oi := { dst := some 160, op := Op.extract (Operand.tmp 151) 1, type := 39, pos := "outright.go:86", after := #[{ on := 7, ground := Ground.data }, { on := 11, ground := Ground.gcOnly Departure.lateStores }], guard := none }) (v := .int .i64 0) rfl (by kernel_rfl) (by kernel_rfl) (by kernel_rfl) (fun _ _ _ h => h) (Or.inl ⟨by rfl, by intro w hSw; go_simp⟩) (by assumption) ?_
    simp only [Act.put, List.setIfInBounds_toArray, List.set_cons_zero, List.set_cons_succ]
    refine wpAnyH_ready (rs := [11]) (by kernel_rfl) (by simp) (AllReadyH.cons (o := { dst := none, op := Op.store 59 (Operand.tmp 11) (Operand.tmp 159), type := 0, pos := "outright.go:86", after := #[{ on := 10, ground := Ground.data }, { on := 8, ground := Ground.data }, { on := 6, ground := Ground.chain }, { on := 0, ground := Ground.phase }, { on := 1, ground := Ground.phase }, { on := 2, ground := Ground.phase }, { on := 3, ground := Ground.phase }, { on := 4, ground := Ground.phase }, { on := 5, ground := Ground.phase }, { on := 6, ground := Ground.phase }, { on := 7, ground := Ground.phase }, { on := 8, ground := Ground.phase }, { on := 9, ground := Ground.textOnly Departure.lateStores }, { on := 10, ground := Ground.phase }], guard := none }) rfl (fun KQ hK => ?_) AllReadyH.nil)
    rw [if_pos (by rfl)]
    refine wp_store_st 59 _ _ rfl g11 (u32s XS) rfl rfl (E116.out.get 0 rfl) (by rw [u32s, List.length_map, hXl]; exact size59) (by simp [u32s, hZl, hXl]) (u32sA XS) ?_
    intro x117 hc hb hs
    have E117 := hid (E116.out.put (fun q hq => by simp only [List.mem_cons, List.not_mem_nil, or_false] at hq; rcases hq with rfl | rfl <;> (have := HLt.out; simp only; omega)) hc hb)
    clear hc hb hs E116
    refine hK.out _ _ (E117.out.get 2 rfl) (fun hHeld => ?_)
    clear hK KQ
    try simp only [Act.put]
    refine wpAnyH_ready (rs := [12]) (by kernel_rfl) (by simp) (AllReadyH.cons (o := { dst := some 12, op := Op.assign (Operand.tmp 160), type := 39, pos := "outright.go:86", after := #[{ on := 9, ground := Ground.data }, { on := 11, ground := Ground.chain }, { on := 0, ground := Ground.phase }, { on := 1, ground := Ground.phase }, { on := 2, ground := Ground.phase }, { on := 3, ground := Ground.phase }, { on := 4, ground := Ground.phase }, { on := 5, ground := Ground.phase }, { on := 6, ground := Ground.phase }, { on := 7, ground := Ground.phase }, { on := 8, ground := Ground.phase }, { on := 9, ground := Ground.phase }, { on := 10, ground := Ground.phase }, { on := 11, ground := Ground.phase }], guard := none }) rfl (fun KQ hK => ?_) AllReadyH.nil)
    go_simp
    refine hK.out _ _ (E117.out.get 2 rfl) (fun hHeld => ?_)
    clear hK KQ
    try simp only [Act.put, List.setIfInBounds_toArray, List.set_cons_zero, List.set_cons_succ]
    refine wpAnyH_done (by kernel_rfl) ?_ _
    go_upto_region 24 with (first | (refine wpList_load_gm rfl 59 _ rfl g11 0 rfl _ _ (E117.out.get 0 rfl).range under59 rfl (by rw [u32s, List.length_map, hXl]; exact size59) ?_) | (go_at_call 46; refine (HLa.out _ _ E117.out.db).mono ?_; rintro e y1 ⟨rfl, hd, hb⟩; have EZ := hid (E117.out.step hd hb p.fw_w); clear hd hb))
    go_wp2_with fail
    go_returns
    exact ⟨_, rfl, HSd.out _ S9.out, EZ.out.db, EZ.out.but⟩
end Go.Proofs.YtllcbgdcepfdkaaGreatDoor
