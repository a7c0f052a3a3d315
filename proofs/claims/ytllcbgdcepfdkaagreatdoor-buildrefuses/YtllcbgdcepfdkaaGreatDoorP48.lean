import Derived.Test.YtllcbgdcepfdkaaGreatDoorP47
namespace Go.Proofs.YtllcbgdcepfdkaaGreatDoor
open Go.RowKit
set_option maxRecDepth 100000
set_option maxHeartbeats 4000000
theorem hand1 (W : World) (p : Dp) (d : DS) (h : DB W p d) (_hU : d.m.U) (hG : Gl W p) (a b c f : Int) (hw : W5 a b c f) (hE : d.bearE a b = 0) :
    Calls Tryz.prog 15 #[ptr p.g, opV 1 a b c f] W fun e W' => ∃ d', e = .returned (.bool true) ∧ DS.Sim (d.spD a b) d' ∧ DB W' p d' ∧ ButL p.w W W' := by
  have D0 := hid ((DG.startp h).new 31 (opC 1 a b c f))
  have HGl := hid (fun w L d' (k : DG W w p d' p.w L) => hG.step k.but p.w_all')
  obtain ⟨a0, a1, b0, b1, c0, c1, f0, f1⟩ := hw
  have kwa : wrap64 a = a := by unfold wrap64; omega
  have kwb : wrap64 b = b := by unfold wrap64; omega
  have kxa : IntKind.wrap .i64 a = a := by rw [IntKind.wrap_i64]; omega
  have kxb : IntKind.wrap .i64 b = b := by rw [IntKind.wrap_i64]; omega
  have HT := hid (fun w (hw : DB w p d) => takeSpace_any w p d hw a b)
  rw [hE] at HT
  have HSt := hid (fun w => Q.start_any w)
  have hSl : (H.saveOf []).length = 26 := H.saveOf_length _
  have HL := hid (fun w e L (hw : DB w p e) (hL : L.length = 26) => lawLay_any w p e hw a L hL)
  have HDt : Hid (d.spD a b = (d.takeSpace a b).dig a (H.saveOf []) 26) := hid rfl
  rw [HDt.out]
  clear h hG hE a0 a1 b0 b1 c0 c1 f0 f1 HDt
  generalize d.takeSpace a b = dT at *
  generalize H.saveOf [] = S0 at *
  have hS : H.Ag S0 = .agg (u32s S0).toArray := rfl
  rw [hS] at HSt
  clear hS
  have HS0 := hid (DS.Sim.refl (dT.dig a S0 26))
  simp only [opV, opC, ptr] at *
  go_enter Tryz.func15, Tryz.ntmps15
  go_upto_region 1 with fail
  generalize World.alloc _ _ = X at *
  generalize hg : W.heap.size = g3 at D0 ⊢
  have HG := hid hg
  clear hg
  have D1 := hid (D0.out.on (Below.refl _ _).drew)
  clear D0
  refine wp_region_held_drew (S := fun w => Cel w g3 31 [.int .i64 1, .int .u32 a, .int .u32 b, .int .u32 c, .int .u32 f]) (by kernel_rfl) (D1.out.get 0 rfl) (fun hHeld => ?_)
  generalize World.drew _ = w3 at *
  refine wpAnyH_take (i := 0) (oi := { dst := some 13, op := Op.fieldAddr 31 (Operand.tmp 3) 1, type := 0, pos := "outright.go:63", after := #[], guard := none }) (v := .pointer (some ⟨g3, 1, none⟩)) rfl (by kernel_rfl) (by kernel_rfl) (by kernel_rfl) (fun _ _ _ h => h) (Or.inl ⟨by rfl, by intro w hSw; go_simp⟩) (by assumption) ?_
  simp only [Act.put, List.setIfInBounds_toArray, List.set_cons_zero, List.set_cons_succ]
  refine wpAnyH_take (i := 1) (oi := { dst := some 14, op := Op.load 29 (Operand.tmp 13), type := 29, pos := "outright.go:63", after := #[{ on := 0, ground := Ground.data }], guard := none }) (v := .int .u32 a) rfl (by kernel_rfl) (by kernel_rfl) (by kernel_rfl) (fun _ _ _ h => h) (Or.inl ⟨by rfl, by intro w hSw; have hc : w.cell? ⟨g3, 1, none⟩ = some (.int .u32 a) := hSw.cell 1; go_simp⟩) (by assumption) ?_
  simp only [Act.put, List.setIfInBounds_toArray, List.set_cons_zero, List.set_cons_succ]
  refine wpAnyH_take (i := 2) (oi := { dst := some 15, op := Op.convert 29 3 (Operand.tmp 14), type := 3, pos := "outright.go:63", after := #[{ on := 1, ground := Ground.data }], guard := none }) (v := .int .i64 a) rfl (by kernel_rfl) (by kernel_rfl) (by kernel_rfl) (fun _ _ _ h => h) (Or.inl ⟨by rfl, by intro w hSw; go_simp⟩) (by assumption) ?_
  simp only [Act.put, List.setIfInBounds_toArray, List.set_cons_zero, List.set_cons_succ]
  refine wpAnyH_take (i := 3) (oi := { dst := some 16, op := Op.fieldAddr 31 (Operand.tmp 3) 2, type := 0, pos := "outright.go:63", after := #[{ on := 6, ground := Ground.gcOnly Departure.lateStores }], guard := none }) (v := .pointer (some ⟨g3, 2, none⟩)) rfl (by kernel_rfl) (by kernel_rfl) (by kernel_rfl) (fun _ _ _ h => h) (Or.inl ⟨by rfl, by intro w hSw; go_simp⟩) (by assumption) ?_
  simp only [Act.put, List.setIfInBounds_toArray, List.set_cons_zero, List.set_cons_succ]
  refine wpAnyH_take (i := 4) (oi := { dst := some 17, op := Op.load 29 (Operand.tmp 16), type := 29, pos := "outright.go:63", after := #[{ on := 3, ground := Ground.data }, { on := 6, ground := Ground.gcOnly Departure.lateStores }], guard := none }) (v := .int .u32 b) rfl (by kernel_rfl) (by kernel_rfl) (by kernel_rfl) (fun _ _ _ h => h) (Or.inl ⟨by rfl, by intro w hSw; have hc : w.cell? ⟨g3, 2, none⟩ = some (.int .u32 b) := hSw.cell 2; go_simp⟩) (by assumption) ?_
  simp only [Act.put, List.setIfInBounds_toArray, List.set_cons_zero, List.set_cons_succ]
  refine wpAnyH_take (i := 5) (oi := { dst := some 18, op := Op.convert 29 3 (Operand.tmp 17), type := 3, pos := "outright.go:63", after := #[{ on := 4, ground := Ground.data }, { on := 6, ground := Ground.gcOnly Departure.lateStores }], guard := none }) (v := .int .i64 b) rfl (by kernel_rfl) (by kernel_rfl) (by kernel_rfl) (fun _ _ _ h => h) (Or.inl ⟨by rfl, by intro w hSw; go_simp⟩) (by assumption) ?_
  simp only [Act.put, List.setIfInBounds_toArray, List.set_cons_zero, List.set_cons_succ]
  refine wpAnyH_ready (rs := [6]) (by kernel_rfl) (by simp) (AllReadyH.cons (o := { dst := some 5, op := Op.assign (Operand.tmp 15), type := 3, pos := "outright.go:63", after := #[{ on := 2, ground := Ground.data }, { on := 0, ground := Ground.phase }, { on := 1, ground := Ground.phase }, { on := 2, ground := Ground.phase }, { on := 3, ground := Ground.textOnly Departure.lateStores }, { on := 4, ground := Ground.textOnly Departure.lateStores }, { on := 5, ground := Ground.textOnly Departure.lateStores }], guard := none }) rfl (fun KQ hK => ?_) AllReadyH.nil)
  go_simp
  refine hK.out _ _ (D1.out.get 0 rfl) (fun hHeld => ?_)
  clear hK KQ
  try simp only [Act.put, List.setIfInBounds_toArray, List.set_cons_zero, List.set_cons_succ]
  refine wpAnyH_ready (rs := [7]) (by kernel_rfl) (by simp) (AllReadyH.cons (o := { dst := some 6, op := Op.assign (Operand.tmp 18), type := 3, pos := "outright.go:63", after := #[{ on := 5, ground := Ground.data }, { on := 6, ground := Ground.chain }, { on := 0, ground := Ground.phase }, { on := 1, ground := Ground.phase }, { on := 2, ground := Ground.phase }, { on := 3, ground := Ground.phase }, { on := 4, ground := Ground.phase }, { on := 5, ground := Ground.phase }, { on := 6, ground := Ground.phase }], guard := none }) rfl (fun KQ hK => ?_) AllReadyH.nil)
  go_simp
  refine hK.out _ _ (D1.out.get 0 rfl) (fun hHeld => ?_)
  clear hK KQ
  try simp only [Act.put, List.setIfInBounds_toArray, List.set_cons_zero, List.set_cons_succ]
  refine wpAnyH_done (by kernel_rfl) ?_ _
  have c0 := (D1.out.get 0 rfl).cell 0
  simp only [List.getElem?_cons_zero] at c0
  go_upto_region 4 with (first | (go_at_call 45; refine (HT.out _ D1.out.db).mono ?_; rintro e w4 ⟨rfl, hd, hb⟩; have D2 := hid (D1.out.step hd hb (fun _ hk => hk)); clear hd hb c0))
  go_upto_region 5 with (first | (go_at_call 47; refine (HSt.out _).mono ?_; rintro e w5 ⟨rfl, hb⟩; have D3 := hid (D2.out.on hb); clear hb) | (go_at_call 46; refine (HL.out _ _ S0 D3.out.db hSl).mono ?_; rintro e w6 ⟨rfl, hd, hb⟩; have D4 := hid (D3.out.step hd hb p.fw_w); clear hd hb))
  go_wp2_with fail
  go_returns
  exact ⟨_, rfl, HS0.out, D4.out.db, D4.out.but⟩
end Go.Proofs.YtllcbgdcepfdkaaGreatDoor
