import Derived.Test.YtllcbgdcepfdkaaGreatDoorP47
namespace Go.Proofs.YtllcbgdcepfdkaaGreatDoor
open Go.RowKit
set_option maxRecDepth 100000
set_option maxHeartbeats 4000000
def DS.mop (d : DS) (k b c f : Int) : Q.MOp := if k = 2 then ⟨1, c, []⟩ else if k = 3 then ⟨2, c, []⟩ else if k = 4 then ⟨3, c, d.m.pageI f⟩ else ⟨4, b, []⟩
theorem atw {p : Dp} {W : World} {g : Nat} {L : List Int} (hc : Cel W g 29 (u32s L)) (hg : g ∉ p.w) : ∀ w, ButL p.w W w → H.At w .u32 (some ⟨g, 0, none⟩) L := fun w hb => by
  have h1 := hc.but hb hg
  refine .inr ⟨g, 0, rfl, h1.lt, fun i hi => ?_⟩
  rw [Nat.zero_add, h1.cell, u32s, List.getElem?_map, List.getD_eq_getElem?_getD, List.getElem?_eq_getElem hi]
  rfl
theorem DG.notinw {W w : World} {p : Dp} {d : DS} {G : List Nat} {L : List (Nat × TypeId × List Value)} (h : DG W w p d G L) {g : Nat} (hg : W.heap.size ≤ g) : g ∉ p.w := fun hm => by have := h.old g (Dp.w_all hm); omega
theorem opOf_any (W : World) (p : Dp) (d : DS) (h : DB W p d) (k a b c f : Int) (hw : W5 a b c f) (hf : k = 4 → f < (d.ni : Int)) :
    Calls Tryz.prog 17 #[ptr p.g, opV k a b c f] W fun e W' => ∃ d' ao cc, e = .returned ((d.mop k b c f).v ao cc) ∧ DS.Sim d d' ∧ (∀ w, ButL p.w W' w → H.At w .u32 ao (d.mop k b c f).ws) ∧ DB W' p d' ∧ ButL p.w W W' := by
  have D0 := hid (((DG.startp h).new 31 (opC k a b c f)).new 54 [.int .i64 0, .int .u32 0, .slice none 0 0])
  obtain ⟨_, _, _, _, _, _, f0, f1⟩ := hw
  have HS0 := hid (DS.Sim.refl d)
  by_cases k4 : k = 4
  · have hu := hf k4
    subst k4
    have hLl : (d.m.pageI f).length = 1024 := by
      refine h.mem.full _ ?_
      have := h.mem.ns0
      unfold DS.ni at hu
      omega
    have HPg := hid (fun W hw => pageS p d f f0 hu W hw)
    have HS1 := hid (DS.Sim.tk d false f 1024)
    have HMm := hid (fun w (hw : DB w p d) => memory_any w p d hw)
    have kw : wrap64 f = f := by unfold wrap64; omega
    have kx : IntKind.wrap .i64 f = f := by rw [IntKind.wrap_i64]; omega
    have hM : d.mop 4 b c f = ⟨3, c, d.m.pageI f⟩ := rfl
    rw [hM]
    have HA := hid (fun (w : World) g (hc : Cel w g 29 (u32s (d.m.pageI f))) (hg : g ∉ p.w) w' (hb : ButL p.w w w') => (show H.At w' .u32 (some ⟨g, 0, none⟩) (d.m.pageI f) from atw hc hg w' hb))
    clear h hf hu hM f0 f1
    generalize d.m.pageI f = L at *
    generalize { d with m := d.m.tk false f 1024 : DS } = d7 at *
    simp only [opV, opC, ptr, fr, Q.MOp.v, hLl] at *
    clear hLl
    go_enter Tryz.func17, Tryz.ntmps17
    go_upto_region 1 with fail
    generalize (World.alloc _ _).alloc _ = X at *
    simp only [World.size_alloc] at D0
    generalize hg : W.heap.size = g3 at D0 ⊢
    have HG := hid hg
    clear hg
    have c0 := (D0.out.get 1 rfl).cell 0
    have c2 := (D0.out.get 1 rfl).cell 2
    have c3 := (D0.out.get 1 rfl).cell 3
    have c4 := (D0.out.get 1 rfl).cell 4
    simp only [List.getElem?_cons_zero, List.getElem?_cons_succ] at c0 c2 c3 c4
    go_upto_region 7 with fail
    have D1 := hid (D0.out.on (Below.refl _ _).drew)
    clear D0 c0 c2 c3 c4
    refine wp_region_held_drew (S := fun w => Cel w g3 31 [.int .i64 4, .int .u32 a, .int .u32 b, .int .u32 c, .int .u32 f]) (by kernel_rfl) (D1.out.get 1 rfl) (fun hHeld => ?_)
    generalize World.drew _ = w3 at *
    refine wpAnyH_take (i := 0) (oi := { dst := some 22, op := Op.move (Operand.tmp 0), type := 25, pos := "outright.go:55", after := #[], guard := none }) (v := .pointer (some ⟨p.g, 0, none⟩)) rfl (by kernel_rfl) (by kernel_rfl) (by kernel_rfl) (fun _ _ _ h => h) (Or.inl ⟨by rfl, by intro w hSw; go_simp⟩) (by assumption) ?_
    simp only [Act.put, List.setIfInBounds_toArray, List.set_cons_zero, List.set_cons_succ]
    refine wpAnyH_take (i := 2) (oi := { dst := some 24, op := Op.fieldAddr 31 (Operand.tmp 3) 4, type := 0, pos := "outright.go:55", after := #[], guard := none }) (v := .pointer (some ⟨g3, 4, none⟩)) rfl (by kernel_rfl) (by kernel_rfl) (by kernel_rfl) (fun _ _ _ h => h) (Or.inl ⟨by rfl, by intro w hSw; go_simp⟩) (by assumption) ?_
    simp only [Act.put, List.setIfInBounds_toArray, List.set_cons_zero, List.set_cons_succ]
    refine wpAnyH_take (i := 3) (oi := { dst := some 25, op := Op.load 29 (Operand.tmp 24), type := 29, pos := "outright.go:55", after := #[{ on := 2, ground := Ground.data }], guard := none }) (v := .int .u32 f) rfl (by kernel_rfl) (by kernel_rfl) (by kernel_rfl) (fun _ _ _ h => h) (Or.inl ⟨by rfl, by intro w hSw; have hc : w.cell? ⟨g3, 4, none⟩ = some (.int .u32 f) := hSw.cell 4; go_simp⟩) (by assumption) ?_
    simp only [Act.put, List.setIfInBounds_toArray, List.set_cons_zero, List.set_cons_succ]
    refine wpAnyH_take (i := 4) (oi := { dst := some 26, op := Op.convert 29 3 (Operand.tmp 25), type := 3, pos := "outright.go:55", after := #[{ on := 3, ground := Ground.data }], guard := none }) (v := .int .i64 f) rfl (by kernel_rfl) (by kernel_rfl) (by kernel_rfl) (fun _ _ _ h => h) (Or.inl ⟨by rfl, by intro w hSw; go_simp⟩) (by assumption) ?_
    simp only [Act.put, List.setIfInBounds_toArray, List.set_cons_zero, List.set_cons_succ]
    refine wpAnyH_take (i := 5) (oi := { dst := some 27, op := Op.build 82 #[(1, Operand.tmp 26)], type := 82, pos := "outright.go:55", after := #[{ on := 4, ground := Ground.data }], guard := none }) (v := .agg #[.bool false, .int .i64 f]) rfl (by kernel_rfl) (by kernel_rfl) (by kernel_rfl) (fun _ _ _ h => h) (Or.inl ⟨by rfl, by intro w hSw; go_simp⟩) (by assumption) ?_
    simp only [Act.put, List.setIfInBounds_toArray, List.set_cons_zero, List.set_cons_succ]
    refine wpAnyH_ready (rs := [1]) (by kernel_rfl) (by simp) (AllReadyH.cons (o := { dst := some 23, op := Op.call { callee := Callee.value (Operand.func 25), args := #[Operand.tmp 22], argTypes := #[25] }, type := 67, pos := "outright.go:55", after := #[{ on := 0, ground := Ground.data }], guard := none }) rfl (fun KQ hK => ?_) AllReadyH.nil)
    go_simp
    refine (HMm.out _ D1.out.db).mono ?_
    rintro e w4 ⟨rfl, rfl⟩
    go_wp2_with fail
    refine hK.out _ _ (D1.out.get 1 rfl) (fun hHeld => ?_)
    clear hK KQ
    try simp only [Act.put, List.setIfInBounds_toArray, List.set_cons_zero, List.set_cons_succ]
    refine wpAnyH_ready (rs := [6]) (by kernel_rfl) (by simp) (AllReadyH.cons (o := { dst := some 28, op := Op.call { callee := Callee.value (Operand.func 55), args := #[Operand.tmp 23, Operand.tmp 27], argTypes := #[67, 82] }, type := 111, pos := "outright.go:55", after := #[{ on := 1, ground := Ground.data }, { on := 5, ground := Ground.data }, { on := 1, ground := Ground.chain }], guard := none }) rfl (fun KQ hK => ?_) AllReadyH.nil)
    go_simp
    refine (HPg.out _ D1.out.db).mono ?_
    rintro e w5 ⟨gp, pe, rfl, hd1, hb1, hg1, hc1⟩
    have D2 := hid (D1.out.step hd1 hb1 p.fw_w)
    have HP := hid (And.intro hc1 (Nat.le_trans D1.out.low hg1))
    have HPy := hid (D1.out.notinw (Nat.le_trans D1.out.low hg1))
    have HPl : Hid (g3 + 1 < gp) := hid (by have := (D1.out.get 0 rfl).lt; omega)
    clear hd1 hb1 hg1 hc1 D1
    go_wp2_with fail
    refine hK.out _ _ (D2.out.get 1 rfl) (fun hHeld => ?_)
    clear hK KQ
    try simp only [Act.put, List.setIfInBounds_toArray, List.set_cons_zero, List.set_cons_succ]
    refine wpAnyH_take (i := 7) (oi := { dst := some 21, op := Op.move (Operand.tmp 28), type := 111, pos := "outright.go:55", after := #[{ on := 6, ground := Ground.data }], guard := none }) (v := .tuple #[.slice (some ⟨gp, 0, none⟩) 1024 1024, .int .i64 pe]) rfl (by kernel_rfl) (by kernel_rfl) (by kernel_rfl) (fun _ _ _ h => h) (Or.inl ⟨by rfl, by intro w hSw; go_simp⟩) (by assumption) ?_
    simp only [Act.put, List.setIfInBounds_toArray, List.set_cons_zero, List.set_cons_succ]
    refine wpAnyH_take (i := 8) (oi := { dst := some 29, op := Op.extract (Operand.tmp 21) 0, type := 52, pos := "outright.go:55", after := #[{ on := 7, ground := Ground.data }], guard := none }) (v := .slice (some ⟨gp, 0, none⟩) 1024 1024) rfl (by kernel_rfl) (by kernel_rfl) (by kernel_rfl) (fun _ _ _ h => h) (Or.inl ⟨by rfl, by intro w hSw; go_simp⟩) (by assumption) ?_
    simp only [Act.put, List.setIfInBounds_toArray, List.set_cons_zero, List.set_cons_succ]
    refine wpAnyH_take (i := 9) (oi := { dst := some 30, op := Op.extract (Operand.tmp 21) 1, type := 39, pos := "outright.go:55", after := #[{ on := 7, ground := Ground.data }, { on := 10, ground := Ground.gcOnly Departure.lateStores }], guard := none }) (v := .int .i64 pe) rfl (by kernel_rfl) (by kernel_rfl) (by kernel_rfl) (fun _ _ _ h => h) (Or.inl ⟨by rfl, by intro w hSw; go_simp⟩) (by assumption) ?_
    simp only [Act.put, List.setIfInBounds_toArray, List.set_cons_zero, List.set_cons_succ]
    refine wpAnyH_ready (rs := [10]) (by kernel_rfl) (by simp) (AllReadyH.cons (o := { dst := some 5, op := Op.assign (Operand.tmp 29), type := 52, pos := "outright.go:55", after := #[{ on := 8, ground := Ground.data }, { on := 6, ground := Ground.chain }, { on := 0, ground := Ground.phase }, { on := 1, ground := Ground.phase }, { on := 2, ground := Ground.phase }, { on := 3, ground := Ground.phase }, { on := 4, ground := Ground.phase }, { on := 5, ground := Ground.phase }, { on := 6, ground := Ground.phase }, { on := 7, ground := Ground.phase }, { on := 8, ground := Ground.phase }, { on := 9, ground := Ground.textOnly Departure.lateStores }], guard := none }) rfl (fun KQ hK => ?_) AllReadyH.nil)
    go_simp
    refine hK.out _ _ (D2.out.get 1 rfl) (fun hHeld => ?_)
    clear hK KQ
    try simp only [Act.put, List.setIfInBounds_toArray, List.set_cons_zero, List.set_cons_succ]
    refine wpAnyH_ready (rs := [11]) (by kernel_rfl) (by simp) (AllReadyH.cons (o := { dst := some 6, op := Op.assign (Operand.tmp 30), type := 39, pos := "outright.go:55", after := #[{ on := 9, ground := Ground.data }, { on := 10, ground := Ground.chain }, { on := 0, ground := Ground.phase }, { on := 1, ground := Ground.phase }, { on := 2, ground := Ground.phase }, { on := 3, ground := Ground.phase }, { on := 4, ground := Ground.phase }, { on := 5, ground := Ground.phase }, { on := 6, ground := Ground.phase }, { on := 7, ground := Ground.phase }, { on := 8, ground := Ground.phase }, { on := 9, ground := Ground.phase }, { on := 10, ground := Ground.phase }], guard := none }) rfl (fun KQ hK => ?_) AllReadyH.nil)
    go_simp
    refine hK.out _ _ (D2.out.get 1 rfl) (fun hHeld => ?_)
    clear hK KQ
    try simp only [Act.put, List.setIfInBounds_toArray, List.set_cons_zero, List.set_cons_succ]
    refine wpAnyH_done (by kernel_rfl) ?_ _
    have c3 := (D2.out.get 1 rfl).cell 3
    simp only [List.getElem?_cons_zero, List.getElem?_cons_succ] at c3
    go_wp2_with (first | (refine wpList_build_f rfl 54 _ rfl _ rfl _ (built54d c gp) ?_) | (refine wpList_store_st rfl 54 _ _ rfl (g3 + 1) [.int .i64 3, .int .u32 c, .slice (some ⟨gp, 0, none⟩) 1024 1024] rfl rfl (D2.out.get 0 rfl) size54 rfl rfl ?_; intro w9 hc hb hs; have HC := hid hc; have HP9 := hid (HP.out.1.but hb (by simp only [List.mem_singleton]; have := HPl.out; omega)); have DZ := hid (D2.out.put (by simp) hc hb); clear hc hb hs))
    exact ret_st rfl rfl (g3 + 1) _ rfl HC.out under54 rfl size54 ⟨d7, some ⟨gp, 0, none⟩, 1024, rfl, HS1.out, fun w hw => HA.out _ gp HP9.out HPy.out w hw, DZ.out.db, DZ.out.but⟩
  by_cases k2 : k = 2
  · subst k2
    have hM : d.mop 2 b c f = ⟨1, c, []⟩ := rfl
    rw [hM]
    clear h hf hM f0 f1 k4
    simp only [opV, opC, ptr, Q.MOp.v, List.length_nil] at *
    go_enter Tryz.func17, Tryz.ntmps17
    go_upto_region 1 with fail
    generalize (World.alloc _ _).alloc _ = X at *
    simp only [World.size_alloc] at D0
    generalize hg : W.heap.size = g3 at D0 ⊢
    have HG := hid hg
    clear hg
    have c0 := (D0.out.get 1 rfl).cell 0
    have c2 := (D0.out.get 1 rfl).cell 2
    have c3 := (D0.out.get 1 rfl).cell 3
    have c4 := (D0.out.get 1 rfl).cell 4
    simp only [List.getElem?_cons_zero, List.getElem?_cons_succ] at c0 c2 c3 c4
    go_wp2_with (first | (refine wpList_build_f rfl 54 _ rfl _ rfl _ (built54 1 c) ?_) | (refine wpList_store_st rfl 54 _ _ rfl (g3 + 1) [.int .i64 1, .int .u32 c, .slice none 0 0] rfl rfl (D0.out.get 0 rfl) size54 rfl rfl ?_; intro w9 hc hb hs; have HC := hid hc; have DZ := hid (D0.out.put (by simp) hc hb); clear hc hb hs))
    exact ret_st rfl rfl (g3 + 1) _ rfl HC.out under54 rfl size54 ⟨d, none, 0, rfl, HS0.out, fun w hw => .inl rfl, DZ.out.db, DZ.out.but⟩
  by_cases k3 : k = 3
  · subst k3
    have hM : d.mop 3 b c f = ⟨2, c, []⟩ := rfl
    rw [hM]
    clear h hf hM f0 f1 k4 k2
    simp only [opV, opC, ptr, Q.MOp.v, List.length_nil] at *
    go_enter Tryz.func17, Tryz.ntmps17
    go_upto_region 1 with fail
    generalize (World.alloc _ _).alloc _ = X at *
    simp only [World.size_alloc] at D0
    generalize hg : W.heap.size = g3 at D0 ⊢
    have HG := hid hg
    clear hg
    have c0 := (D0.out.get 1 rfl).cell 0
    have c2 := (D0.out.get 1 rfl).cell 2
    have c3 := (D0.out.get 1 rfl).cell 3
    have c4 := (D0.out.get 1 rfl).cell 4
    simp only [List.getElem?_cons_zero, List.getElem?_cons_succ] at c0 c2 c3 c4
    go_wp2_with (first | (refine wpList_build_f rfl 54 _ rfl _ rfl _ (built54 2 c) ?_) | (refine wpList_store_st rfl 54 _ _ rfl (g3 + 1) [.int .i64 2, .int .u32 c, .slice none 0 0] rfl rfl (D0.out.get 0 rfl) size54 rfl rfl ?_; intro w9 hc hb hs; have HC := hid hc; have DZ := hid (D0.out.put (by simp) hc hb); clear hc hb hs))
    exact ret_st rfl rfl (g3 + 1) _ rfl HC.out under54 rfl size54 ⟨d, none, 0, rfl, HS0.out, fun w hw => .inl rfl, DZ.out.db, DZ.out.but⟩
  have hM : d.mop k b c f = ⟨4, b, []⟩ := by unfold DS.mop; rw [if_neg k2, if_neg k3, if_neg k4]
  rw [hM]
  have n2 : (k == 2) = false := by simpa using k2
  have n3 : (k == 3) = false := by simpa using k3
  have n4 : (k == 4) = false := by simpa using k4
  clear h hf hM f0 f1 k4 k2 k3
  simp only [opV, opC, ptr, Q.MOp.v, List.length_nil] at *
  go_enter Tryz.func17, Tryz.ntmps17
  go_upto_region 1 with fail
  generalize (World.alloc _ _).alloc _ = X at *
  simp only [World.size_alloc] at D0
  generalize hg : W.heap.size = g3 at D0 ⊢
  have HG := hid hg
  clear hg
  have c0 := (D0.out.get 1 rfl).cell 0
  have c2 := (D0.out.get 1 rfl).cell 2
  have c3 := (D0.out.get 1 rfl).cell 3
  have c4 := (D0.out.get 1 rfl).cell 4
  simp only [List.getElem?_cons_zero, List.getElem?_cons_succ] at c0 c2 c3 c4
  go_wp2_with (first | (refine wpList_build_f rfl 54 _ rfl _ rfl _ (built54 4 b) ?_) | (refine wpList_store_st rfl 54 _ _ rfl (g3 + 1) [.int .i64 4, .int .u32 b, .slice none 0 0] rfl rfl (D0.out.get 0 rfl) size54 rfl rfl ?_; intro w9 hc hb hs; have HC := hid hc; have DZ := hid (D0.out.put (by simp) hc hb); clear hc hb hs))
  exact ret_st rfl rfl (g3 + 1) _ rfl HC.out under54 rfl size54 ⟨d, none, 0, rfl, HS0.out, fun w hw => .inl rfl, DZ.out.db, DZ.out.but⟩
end Go.Proofs.YtllcbgdcepfdkaaGreatDoor
namespace Go.Proofs.YtllcbgdcepfdkaaGreatDoor
open Go.RowKit
set_option maxRecDepth 100000
set_option maxHeartbeats 4000000
theorem hand1 (W : World) (p : Dp) (d : DS) (h : DB W p d) (_hU : d.m.U) (hG : Gl W p) (a b c f : Int) (hw : W5 a b c f) (hE : d.bearE a b = 0) :
    Calls Tryz.prog 15 #[ptr p.g, opV 1 a b c f] W fun e W' => ∃ d', e = .returned (.bool true) ∧ DS.Sim (d.spD a b) d' ∧ DB W' p d' ∧ ButL p.w W W' := by
  have D0 := hid ((DG.startp h).new 31 (opC 1 a b c f))
  have HGl := hid (fun w L d' (k : DG W w p d' p.w L) => hG.step k.but p.w_all')
  obtain ⟨a0, a1, b0, b1, c0, c1, f0, f1⟩ := hw
  have kwa : wrap64 a = a := by unfold wrap64; omega
  have kwb : wrap64 b = b := by unfold wrap64; omega
  have kxa : IntKind.wrap .i64 a = a := by rw [IntKind.wrap_i64]; omega
  have kxb : IntKind.wrap .i64 b = b := by rw [IntKind.wrap_i64]; omega
  have HT := hid (fun w (hw : DB w p d) => takeSpace_any w p d hw a b)
  rw [hE] at HT
  have HSt := hid (fun w => Q.start_any w)
  have hSl : (H.saveOf []).length = 26 := H.saveOf_length _
  have HL := hid (fun w e L (hw : DB w p e) (hL : L.length = 26) => lawLay_any w p e hw a L hL)
  have HDt : Hid (d.spD a b = (d.takeSpace a b).dig a (H.saveOf []) 26) := hid rfl
  rw [HDt.out]
  clear h hG hE a0 a1 b0 b1 c0 c1 f0 f1 HDt
  generalize d.takeSpace a b = dT at *
  generalize H.saveOf [] = S0 at *
  have hS : H.Ag S0 = .agg (u32s S0).toArray := rfl
  rw [hS] at HSt
  clear hS
  have HS0 := hid (DS.Sim.refl (dT.dig a S0 26))
  simp only [opV, opC, ptr] at *
  go_enter Tryz.func15, Tryz.ntmps15
  go_upto_region 1 with fail
  generalize World.alloc _ _ = X at *
  generalize hg : W.heap.size = g3 at D0 ⊢
  have HG := hid hg
  clear hg
  have D1 := hid (D0.out.on (Below.refl _ _).drew)
  clear D0
  refine wp_region_held_drew (S := fun w => Cel w g3 31 [.int .i64 1, .int .u32 a, .int .u32 b, .int .u32 c, .int .u32 f]) (by kernel_rfl) (D1.out.get 0 rfl) (fun hHeld => ?_)
  generalize World.drew _ = w3 at *
  refine wpAnyH_take (i := 0) (oi := { dst := some 13, op := Op.fieldAddr 31 (Operand.tmp 3) 1, type := 0, pos := "outright.go:63", after := #[], guard := none }) (v := .pointer (some ⟨g3, 1, none⟩)) rfl (by kernel_rfl) (by kernel_rfl) (by kernel_rfl) (fun _ _ _ h => h) (Or.inl ⟨by rfl, by intro w hSw; go_simp⟩) (by assumption) ?_
  simp only [Act.put, List.setIfInBounds_toArray, List.set_cons_zero, List.set_cons_succ]
  refine wpAnyH_take (i := 1) (oi := { dst := some 14, op := Op.load 29 (Operand.tmp 13), type := 29, pos := "outright.go:63", after := #[{ on := 0, ground := Ground.data }], guard := none }) (v := .int .u32 a) rfl (by kernel_rfl) (by kernel_rfl) (by kernel_rfl) (fun _ _ _ h => h) (Or.inl ⟨by rfl, by intro w hSw; have hc : w.cell? ⟨g3, 1, none⟩ = some (.int .u32 a) := hSw.cell 1; go_simp⟩) (by assumption) ?_
  simp only [Act.put, List.setIfInBounds_toArray, List.set_cons_zero, List.set_cons_succ]
  refine wpAnyH_take (i := 2) (oi := { dst := some 15, op := Op.convert 29 3 (Operand.tmp 14), type := 3, pos := "outright.go:63", after := #[{ on := 1, ground := Ground.data }], guard := none }) (v := .int .i64 a) rfl (by kernel_rfl) (by kernel_rfl) (by kernel_rfl) (fun _ _ _ h => h) (Or.inl ⟨by rfl, by intro w hSw; go_simp⟩) (by assumption) ?_
  simp only [Act.put, List.setIfInBounds_toArray, List.set_cons_zero, List.set_cons_succ]
  refine wpAnyH_take (i := 3) (oi := { dst := some 16, op := Op.fieldAddr 31 (Operand.tmp 3) 2, type := 0, pos := "outright.go:63", after := #[{ on := 6, ground := Ground.gcOnly Departure.lateStores }], guard := none }) (v := .pointer (some ⟨g3, 2, none⟩)) rfl (by kernel_rfl) (by kernel_rfl) (by kernel_rfl) (fun _ _ _ h => h) (Or.inl ⟨by rfl, by intro w hSw; go_simp⟩) (by assumption) ?_
  simp only [Act.put, List.setIfInBounds_toArray, List.set_cons_zero, List.set_cons_succ]
  refine wpAnyH_take (i := 4) (oi := { dst := some 17, op := Op.load 29 (Operand.tmp 16), type := 29, pos := "outright.go:63", after := #[{ on := 3, ground := Ground.data }, { on := 6, ground := Ground.gcOnly Departure.lateStores }], guard := none }) (v := .int .u32 b) rfl (by kernel_rfl) (by kernel_rfl) (by kernel_rfl) (fun _ _ _ h => h) (Or.inl ⟨by rfl, by intro w hSw; have hc : w.cell? ⟨g3, 2, none⟩ = some (.int .u32 b) := hSw.cell 2; go_simp⟩) (by assumption) ?_
  simp only [Act.put, List.setIfInBounds_toArray, List.set_cons_zero, List.set_cons_succ]
  refine wpAnyH_take (i := 5) (oi := { dst := some 18, op := Op.convert 29 3 (Operand.tmp 17), type := 3, pos := "outright.go:63", after := #[{ on := 4, ground := Ground.data }, { on := 6, ground := Ground.gcOnly Departure.lateStores }], guard := none }) (v := .int .i64 b) rfl (by kernel_rfl) (by kernel_rfl) (by kernel_rfl) (fun _ _ _ h => h) (Or.inl ⟨by rfl, by intro w hSw; go_simp⟩) (by assumption) ?_
  simp only [Act.put, List.setIfInBounds_toArray, List.set_cons_zero, List.set_cons_succ]
  refine wpAnyH_ready (rs := [6]) (by kernel_rfl) (by simp) (AllReadyH.cons (o := { dst := some 5, op := Op.assign (Operand.tmp 15), type := 3, pos := "outright.go:63", after := #[{ on := 2, ground := Ground.data }, { on := 0, ground := Ground.phase }, { on := 1, ground := Ground.phase }, { on := 2, ground := Ground.phase }, { on := 3, ground := Ground.textOnly Departure.lateStores }, { on := 4, ground := Ground.textOnly Departure.lateStores }, { on := 5, ground := Ground.textOnly Departure.lateStores }], guard := none }) rfl (fun KQ hK => ?_) AllReadyH.nil)
  go_simp
  refine hK.out _ _ (D1.out.get 0 rfl) (fun hHeld => ?_)
  clear hK KQ
  try simp only [Act.put, List.setIfInBounds_toArray, List.set_cons_zero, List.set_cons_succ]
  refine wpAnyH_ready (rs := [7]) (by kernel_rfl) (by simp) (AllReadyH.cons (o := { dst := some 6, op := Op.assign (Operand.tmp 18), type := 3, pos := "outright.go:63", after := #[{ on := 5, ground := Ground.data }, { on := 6, ground := Ground.chain }, { on := 0, ground := Ground.phase }, { on := 1, ground := Ground.phase }, { on := 2, ground := Ground.phase }, { on := 3, ground := Ground.phase }, { on := 4, ground := Ground.phase }, { on := 5, ground := Ground.phase }, { on := 6, ground := Ground.phase }], guard := none }) rfl (fun KQ hK => ?_) AllReadyH.nil)
  go_simp
  refine hK.out _ _ (D1.out.get 0 rfl) (fun hHeld => ?_)
  clear hK KQ
  try simp only [Act.put, List.setIfInBounds_toArray, List.set_cons_zero, List.set_cons_succ]
  refine wpAnyH_done (by kernel_rfl) ?_ _
  have c0 := (D1.out.get 0 rfl).cell 0
  simp only [List.getElem?_cons_zero] at c0
  go_upto_region 4 with (first | (go_at_call 45; refine (HT.out _ D1.out.db).mono ?_; rintro e w4 ⟨rfl, hd, hb⟩; have D2 := hid (D1.out.step hd hb (fun _ hk => hk)); clear hd hb c0))
  go_upto_region 5 with (first | (go_at_call 47; refine (HSt.out _).mono ?_; rintro e w5 ⟨rfl, hb⟩; have D3 := hid (D2.out.on hb); clear hb) | (go_at_call 46; refine (HL.out _ _ S0 D3.out.db hSl).mono ?_; rintro e w6 ⟨rfl, hd, hb⟩; have D4 := hid (D3.out.step hd hb p.fw_w); clear hd hb))
  go_wp2_with fail
  go_returns
  exact ⟨_, rfl, HS0.out, D4.out.db, D4.out.but⟩
end Go.Proofs.YtllcbgdcepfdkaaGreatDoor
