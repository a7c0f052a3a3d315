import Derived.Test.YtllcbgdcepfdkaaGreatDoorP44
namespace Go.Proofs.YtllcbgdcepfdkaaGreatDoor
open Go.RowKit
set_option maxRecDepth 100000
set_option maxHeartbeats 4000000
theorem u32s_at {w : World} {g : Nat} {t : TypeId} {L : List Int} (h : Cel w g t (u32s L)) (j : Nat) (hj : j < L.length) : w.cell? ⟨g, j, none⟩ = some (.int .u32 (L.getD j 0)) := by
  rw [h.cell, u32s, List.getElem?_map, List.getD_eq_getElem?_getD, List.getElem?_eq_getElem hj]
  rfl
theorem lawLay_any (W : World) (p : Dp) (d : DS) (h : DB W p d) (s : Int) (L : List Int) (hL : L.length = 26) :
    Calls Tryz.prog 46 #[ptr p.g, .int .i64 s, .agg (u32s L).toArray] W fun e W' => e = .returned (.tuple #[]) ∧ DB W' p (d.dig s L 26) ∧ ButL p.f.w W W' := by
  have D0 := hid ((DG.startw h).new 59 (u32s L))
  have HMm := hid (fun w d' (hw : DB w p d') => memory_any w p d' hw)
  have HWr := hid (fun w d' (hw : DB w p d') (off v : Int) => (write_any w p.f d'.m hw.mem true s off v))
  have HL := hid hL
  clear h hL
  simp only [ptr, fr] at *
  go_enter Tryz.func46, Tryz.ntmps46
  go_upto_region 1 with fail
  generalize World.alloc _ _ = X at *
  generalize W.heap.size = g5 at *
  go_upto_region 2 with fail
  go_loopw [6] (fun i wr => ∃ j : Nat, j ≤ 26 ∧ i = .int .i64 (j : Int) ∧ Hid (DG W wr p (d.dig s L j) p.f.w [(g5, 59, u32s L)])) (fun i _ => 26 - (intOf i).toNat)
  case atStart => exact ⟨0, Nat.zero_le _, rfl, hid D0.out⟩
  case round =>
    obtain ⟨j, hj, rfl, HQ⟩ := hrel
    clear D0
    by_cases hlt : j < 26
    · have q1 : (j : Int) < 26 := by omega
      have kw : IntKind.wrap .i64 (11 + (j : Int)) = 11 + (j : Int) := by rw [IntKind.wrap_i64]; omega
      have kw2 : IntKind.wrap .i64 ((j : Int) + 1) = (j : Int) + 1 := by rw [IntKind.wrap_i64]; omega
      have HJ := hid hlt
      have HD1 : Hid (d.dig s L (j + 1) = (d.dig s L j).wr s (11 + (j : Int)) (L.getD j 0)) := hid rfl
      have HCJ := hid (fun w (hc : Cel w g5 59 (u32s L)) => u32s_at hc j (by have := HL.out; omega))
      clear hlt hj
      generalize hdn : d.dig s L (j + 1) = dn at *
      have HDN := hid hdn
      clear hdn
      generalize d.dig s L j = dj at *
      generalize L.getD j 0 = v at *
      go_upto_region 4 with fail
      have E1 := hid (HQ.out.on (Below.refl _ _).drew)
      clear HQ
      refine wp_region_held_drew (S := fun w => Cel w g5 59 (u32s L)) (by kernel_rfl) (E1.out.get 0 rfl) (fun hHeld => ?_)
      generalize World.drew _ = w3 at *
      refine wpAnyH_take (i := 0) (oi := { dst := some 11, op := Op.move (Operand.tmp 0), type := 25, pos := "outright.go:43", after := #[], guard := none }) (v := .pointer (some ⟨p.g, 0, none⟩)) rfl (by kernel_rfl) (by kernel_rfl) (by kernel_rfl) (fun _ _ _ h => h) (Or.inl ⟨by rfl, by intro w hSw; go_simp⟩) (by assumption) ?_
      simp only [Act.put, List.setIfInBounds_toArray, List.set_cons_zero, List.set_cons_succ]
      refine wpAnyH_take (i := 2) (oi := { dst := some 13, op := Op.move (Operand.tmp 1), type := 3, pos := "outright.go:43", after := #[], guard := none }) (v := .int .i64 s) rfl (by kernel_rfl) (by kernel_rfl) (by kernel_rfl) (fun _ _ _ h => h) (Or.inl ⟨by rfl, by intro w hSw; go_simp⟩) (by assumption) ?_
      simp only [Act.put, List.setIfInBounds_toArray, List.set_cons_zero, List.set_cons_succ]
      refine wpAnyH_take (i := 3) (oi := { dst := some 14, op := Op.build 82 #[(0, Operand.const (Value.bool true)), (1, Operand.tmp 13)], type := 82, pos := "outright.go:43", after := #[{ on := 2, ground := Ground.data }], guard := none }) (v := .agg #[.bool true, .int .i64 s]) rfl (by kernel_rfl) (by kernel_rfl) (by kernel_rfl) (fun _ _ _ h => h) (Or.inl ⟨by rfl, by intro w hSw; go_simp⟩) (by assumption) ?_
      simp only [Act.put, List.setIfInBounds_toArray, List.set_cons_zero, List.set_cons_succ]
      refine wpAnyH_take (i := 4) (oi := { dst := some 15, op := Op.move (Operand.tmp 6), type := 3, pos := "outright.go:43", after := #[], guard := none }) (v := .int .i64 (j : Int)) rfl (by kernel_rfl) (by kernel_rfl) (by kernel_rfl) (fun _ _ _ h => h) (Or.inl ⟨by rfl, by intro w hSw; go_simp⟩) (by assumption) ?_
      simp only [Act.put, List.setIfInBounds_toArray, List.set_cons_zero, List.set_cons_succ]
      refine wpAnyH_take (i := 5) (oi := { dst := some 16, op := Op.binOp BinOp.add 3 (Operand.const (Value.int IntKind.i64 11)) (Operand.tmp 15) 3, type := 3, pos := "outright.go:43", after := #[{ on := 4, ground := Ground.data }], guard := none }) (v := .int .i64 (11 + (j : Int))) rfl (by kernel_rfl) (by kernel_rfl) (by kernel_rfl) (fun _ _ _ h => h) (Or.inl ⟨by rfl, by intro w hSw; go_simp⟩) (by assumption) ?_
      simp only [Act.put, List.setIfInBounds_toArray, List.set_cons_zero, List.set_cons_succ]
      refine wpAnyH_take (i := 6) (oi := { dst := some 17, op := Op.move (Operand.tmp 6), type := 3, pos := "outright.go:43", after := #[], guard := none }) (v := .int .i64 (j : Int)) rfl (by kernel_rfl) (by kernel_rfl) (by kernel_rfl) (fun _ _ _ h => h) (Or.inl ⟨by rfl, by intro w hSw; go_simp⟩) (by assumption) ?_
      simp only [Act.put, List.setIfInBounds_toArray, List.set_cons_zero, List.set_cons_succ]
      refine wpAnyH_take (i := 7) (oi := { dst := some 18, op := Op.indexAddr 59 (Operand.tmp 5) (Operand.tmp 17), type := 0, pos := "outright.go:43", after := #[{ on := 6, ground := Ground.data }], guard := none }) (v := .pointer (some ⟨g5, j, none⟩)) rfl (by kernel_rfl) (by kernel_rfl) (by kernel_rfl) (fun _ _ _ h => h) (Or.inl ⟨by rfl, by intro w hSw; go_simp⟩) (by assumption) ?_
      simp only [Act.put, List.setIfInBounds_toArray, List.set_cons_zero, List.set_cons_succ]
      refine wpAnyH_take (i := 8) (oi := { dst := some 19, op := Op.load 29 (Operand.tmp 18), type := 29, pos := "outright.go:43", after := #[{ on := 7, ground := Ground.data }], guard := none }) (v := .int .u32 v) rfl (by kernel_rfl) (by kernel_rfl) (by kernel_rfl) (fun _ _ _ h => h) (Or.inl ⟨by rfl, by intro w hSw; have hc := HCJ.out w hSw; go_simp⟩) (by assumption) ?_
      simp only [Act.put, List.setIfInBounds_toArray, List.set_cons_zero, List.set_cons_succ]
      refine wpAnyH_ready (rs := [1]) (by kernel_rfl) (by simp) (AllReadyH.cons (o := { dst := some 12, op := Op.call { callee := Callee.value (Operand.func 25), args := #[Operand.tmp 11], argTypes := #[25] }, type := 67, pos := "outright.go:43", after := #[{ on := 0, ground := Ground.data }], guard := none }) rfl (fun KQ hK => ?_) AllReadyH.nil)
      go_simp
      refine (HMm.out _ _ E1.out.db).mono ?_
      rintro e w4 ⟨rfl, rfl⟩
      go_wp2_with fail
      refine hK.out _ _ (E1.out.get 0 rfl) (fun hHeld => ?_)
      clear hK KQ
      try simp only [Act.put, List.setIfInBounds_toArray, List.set_cons_zero, List.set_cons_succ]
      refine wpAnyH_ready (rs := [9]) (by kernel_rfl) (by simp) (AllReadyH.cons (o := { dst := some 20, op := Op.call { callee := Callee.value (Operand.func 32), args := #[Operand.tmp 12, Operand.tmp 14, Operand.tmp 16, Operand.tmp 19], argTypes := #[67, 82, 3, 29] }, type := 39, pos := "outright.go:43", after := #[{ on := 1, ground := Ground.data }, { on := 3, ground := Ground.data }, { on := 5, ground := Ground.data }, { on := 8, ground := Ground.data }, { on := 1, ground := Ground.chain }], guard := none }) rfl (fun KQ hK => ?_) AllReadyH.nil)
      go_simp
      refine (HWr.out _ _ E1.out.db _ _).mono ?_
      rintro e w5 ⟨rfl, hm, hb⟩
      have E2 : Hid (DG W w5 p dn p.f.w [(g5, 59, u32s L)]) := hid (by rw [HD1.out]; exact E1.out.mem hm hb (MS.write_ns ..))
      clear hm hb E1
      go_wp2_with fail
      refine hK.out _ _ (E2.out.get 0 rfl) (fun hHeld => ?_)
      clear hK KQ
      try simp only [Act.put, List.setIfInBounds_toArray, List.set_cons_zero, List.set_cons_succ]
      refine wpAnyH_done (by kernel_rfl) ?_ _
      go_wp2_with fail
      go_roundw
      case measure => have := HJ.out; simp [intOf] <;> omega
      case rel => exact ⟨j + 1, HJ.out, by simp, hid (by rw [HDN.out]; exact E2.out)⟩
    · obtain rfl : j = 26 := by omega
      clear hlt hj
      go_wp2_with fail
      go_returns
      exact ⟨rfl, HQ.out.db, HQ.out.but⟩
theorem likewise_yes (W : World) (p p' : Dp) (d d' : DS) (h : DB W p d) (h' : DB W p' d') (hs : DS.Sim d d') :
    Calls Tryz.prog 14 #[ptr p.g, ptr p'.g] W fun e W' => e = .returned (.bool true) ∧ Below W.heap.size W W' := by
  have HW1 := hid (fun w (hb : Below W.heap.size W w) => words_any w p d (h.on hb))
  have HW2 := hid (fun w (hb : Below W.heap.size W w) => (by have := words_any w p' d' (h'.on hb); rw [hs.ws, hs.ns] at this; exact this : Calls Tryz.prog 38 #[ptr p'.g] w fun e W' => ∃ gn, e = .returned (.slice (some ⟨gn, 0, none⟩) (1 + 2 * d.m.ns) (1 + 2 * d.m.ns)) ∧ Cel W' gn 29 (u32s d.ws) ∧ w.heap.size ≤ gn ∧ Below w.heap.size w W'))
  have HM1 := hid (fun w (hb : Below W.heap.size W w) => memory_any w p d (h.on hb))
  have HM2 := hid (fun w (hb : Below W.heap.size W w) => memory_any w p' d' (h'.on hb))
  have HSm := hid (fun w (hb : Below W.heap.size W w) => (by have := same_any w p.f d.m (h.on hb).mem p'.f d'.m (h'.on hb).mem; rw [hs.same] at this; exact this : Calls Tryz.prog 44 #[ptr p.f.gm, ptr p'.f.gm] w fun x w' => x = .returned (.bool true) ∧ Below w.heap.size w w'))
  have hl : d.ws.length = 1 + 2 * d.m.ns := DS.ws_len h.ok
  have hn : d.m.ns ≤ 64 := h.ok.n64
  have HB0 := hid (Below.refl W.heap.size W)
  clear h h' hs
  generalize d.ws = L at *
  generalize hN : 1 + 2 * d.m.ns = N at *
  have hN1 : N ≤ 129 := by omega
  clear hN hn
  simp only [ptr] at *
  go_enter Tryz.func14, Tryz.ntmps14
  go_upto_region 2 with (first | (go_at_call 38; refine (HW1.out _ HB0.out).mono ?_; rintro e w1 ⟨g5, rfl, hc, _, hb⟩; have B1 := hid (And.intro (below_on HB0.out hb) hc); clear hb hc))
  go_upto_region 6 with (first | (go_at_call 38; refine (HW2.out _ B1.out.1).mono ?_; rintro e w2 ⟨g6, rfl, hc, _, hb⟩; have B2 : Hid (Below W.heap.size W w2 ∧ Cel w2 g5 29 (u32s L) ∧ Cel w2 g6 29 (u32s L)) := hid ⟨below_on B1.out.1 hb, B1.out.2.on hb, hc⟩; clear hb hc))
  clear B1 HB0 HW1 HW2
  go_loopw [7] (fun i wr => ∃ j : Nat, j ≤ N ∧ i = .int .i64 (j : Int) ∧ Hid (Below W.heap.size W wr ∧ Cel wr g5 29 (u32s L) ∧ Cel wr g6 29 (u32s L))) (fun i _ => N - (intOf i).toNat)
  case atStart => exact ⟨0, Nat.zero_le _, rfl, hid B2.out⟩
  case round =>
    obtain ⟨j, hj, rfl, HQ⟩ := hrel
    clear B2
    by_cases hlt : j < N
    · have q1 : (j : Int) < (N : Int) := by omega
      have q2 : (j : Int) ≤ 129 := by omega
      have kw2 : IntKind.wrap .i64 ((j : Int) + 1) = (j : Int) + 1 := by rw [IntKind.wrap_i64]; omega
      have HJ := hid hlt
      have HC1 := hid (fun w (hc : Cel w g5 29 (u32s L)) => u32s_at hc j (by omega))
      have HC2 := hid (fun w (hc : Cel w g6 29 (u32s L)) => u32s_at hc j (by omega))
      clear hlt hj
      generalize L.getD j 0 = v at *
      go_upto_region 8 with fail
      have E1 : Hid (Below W.heap.size W wr.drew ∧ Cel wr.drew g5 29 (u32s L) ∧ Cel wr.drew g6 29 (u32s L)) := hid ⟨HQ.out.1.drew, HQ.out.2.1.on (Below.refl _ _).drew, HQ.out.2.2.on (Below.refl _ _).drew⟩
      clear HQ
      refine wp_region_held_drew (S := fun w => Cel w g5 29 (u32s L) ∧ Cel w g6 29 (u32s L)) (by kernel_rfl) E1.out.2 (fun hHeld => ?_)
      generalize World.drew _ = w3 at *
      refine wpAnyH_take (i := 0) (oi := { dst := some 23, op := Op.move (Operand.tmp 5), type := 52, pos := "outright.go:99", after := #[], guard := none }) (v := .slice (some ⟨g5, 0, none⟩) N N) rfl (by kernel_rfl) (by kernel_rfl) (by kernel_rfl) (fun _ _ _ h => h) (Or.inl ⟨by rfl, by intro w hSw; go_simp⟩) (by assumption) ?_
      simp only [Act.put, List.setIfInBounds_toArray, List.set_cons_zero, List.set_cons_succ]
      refine wpAnyH_take (i := 1) (oi := { dst := some 24, op := Op.move (Operand.tmp 7), type := 3, pos := "outright.go:99", after := #[], guard := none }) (v := .int .i64 (j : Int)) rfl (by kernel_rfl) (by kernel_rfl) (by kernel_rfl) (fun _ _ _ h => h) (Or.inl ⟨by rfl, by intro w hSw; go_simp⟩) (by assumption) ?_
      simp only [Act.put, List.setIfInBounds_toArray, List.set_cons_zero, List.set_cons_succ]
      refine wpAnyH_take (i := 2) (oi := { dst := some 25, op := Op.indexAddr 52 (Operand.tmp 23) (Operand.tmp 24), type := 0, pos := "outright.go:99", after := #[{ on := 0, ground := Ground.data }, { on := 1, ground := Ground.data }], guard := none }) (v := .pointer (some ⟨g5, j, none⟩)) rfl (by kernel_rfl) (by kernel_rfl) (by kernel_rfl) (fun _ _ _ h => h) (Or.inl ⟨by rfl, by intro w hSw; go_simp⟩) (by assumption) ?_
      simp only [Act.put, List.setIfInBounds_toArray, List.set_cons_zero, List.set_cons_succ]
      refine wpAnyH_take (i := 3) (oi := { dst := some 26, op := Op.load 29 (Operand.tmp 25), type := 29, pos := "outright.go:99", after := #[{ on := 2, ground := Ground.data }], guard := none }) (v := .int .u32 v) rfl (by kernel_rfl) (by kernel_rfl) (by kernel_rfl) (fun _ _ _ h => h) (Or.inl ⟨by rfl, by intro w hSw; have hc := HC1.out w hSw.1; go_simp⟩) (by assumption) ?_
      simp only [Act.put, List.setIfInBounds_toArray, List.set_cons_zero, List.set_cons_succ]
      refine wpAnyH_take (i := 4) (oi := { dst := some 27, op := Op.move (Operand.tmp 6), type := 52, pos := "outright.go:99", after := #[], guard := none }) (v := .slice (some ⟨g6, 0, none⟩) N N) rfl (by kernel_rfl) (by kernel_rfl) (by kernel_rfl) (fun _ _ _ h => h) (Or.inl ⟨by rfl, by intro w hSw; go_simp⟩) (by assumption) ?_
      simp only [Act.put, List.setIfInBounds_toArray, List.set_cons_zero, List.set_cons_succ]
      refine wpAnyH_take (i := 5) (oi := { dst := some 28, op := Op.move (Operand.tmp 7), type := 3, pos := "outright.go:99", after := #[], guard := none }) (v := .int .i64 (j : Int)) rfl (by kernel_rfl) (by kernel_rfl) (by kernel_rfl) (fun _ _ _ h => h) (Or.inl ⟨by rfl, by intro w hSw; go_simp⟩) (by assumption) ?_
      simp only [Act.put, List.setIfInBounds_toArray, List.set_cons_zero, List.set_cons_succ]
      refine wpAnyH_take (i := 6) (oi := { dst := some 29, op := Op.indexAddr 52 (Operand.tmp 27) (Operand.tmp 28), type := 0, pos := "outright.go:99", after := #[{ on := 4, ground := Ground.data }, { on := 5, ground := Ground.data }], guard := none }) (v := .pointer (some ⟨g6, j, none⟩)) rfl (by kernel_rfl) (by kernel_rfl) (by kernel_rfl) (fun _ _ _ h => h) (Or.inl ⟨by rfl, by intro w hSw; go_simp⟩) (by assumption) ?_
      simp only [Act.put, List.setIfInBounds_toArray, List.set_cons_zero, List.set_cons_succ]
      refine wpAnyH_take (i := 7) (oi := { dst := some 30, op := Op.load 29 (Operand.tmp 29), type := 29, pos := "outright.go:99", after := #[{ on := 6, ground := Ground.data }], guard := none }) (v := .int .u32 v) rfl (by kernel_rfl) (by kernel_rfl) (by kernel_rfl) (fun _ _ _ h => h) (Or.inl ⟨by rfl, by intro w hSw; have hc := HC2.out w hSw.2; go_simp⟩) (by assumption) ?_
      simp only [Act.put, List.setIfInBounds_toArray, List.set_cons_zero, List.set_cons_succ]
      refine wpAnyH_take (i := 8) (oi := { dst := some 31, op := Op.binOp BinOp.neq 29 (Operand.tmp 26) (Operand.tmp 30) 29, type := 4, pos := "outright.go:99", after := #[{ on := 3, ground := Ground.data }, { on := 7, ground := Ground.data }], guard := none }) (v := .bool false) rfl (by kernel_rfl) (by kernel_rfl) (by kernel_rfl) (fun _ _ _ h => h) (Or.inl ⟨by rfl, by intro w hSw; go_simp⟩) (by assumption) ?_
      simp only [Act.put, List.setIfInBounds_toArray, List.set_cons_zero, List.set_cons_succ]
      refine wpAnyH_done (by kernel_rfl) ?_ _
      go_wp2_with fail
      go_roundw
      case measure => have := HJ.out; simp [intOf] <;> omega
      case rel => exact ⟨j + 1, HJ.out, by simp, hid E1.out⟩
    · obtain rfl : j = N := by omega
      clear hlt hj
      go_wp2_with (first | (go_at_call 25; refine (HM1.out _ HQ.out.1).mono ?_; rintro e w4 ⟨rfl, rfl⟩; clear HM1) | (go_at_call 25; refine (HM2.out _ HQ.out.1).mono ?_; rintro e w4 ⟨rfl, rfl⟩; clear HM2) | (go_at_call 44; refine (HSm.out _ HQ.out.1).mono ?_; rintro e w5 ⟨rfl, hb⟩; have BZ := hid (below_on HQ.out.1 hb); clear hb))
      go_ret
      exact ⟨rfl, BZ.out⟩
end Go.Proofs.YtllcbgdcepfdkaaGreatDoor
namespace Go.Proofs.YtllcbgdcepfdkaaGreatDoor
open Go.RowKit
set_option maxRecDepth 100000
set_option maxHeartbeats 4000000
/-- May a page be given back? -/
def DS.goes (d : DS) (q : Int) : Bool := decide (d.entE q = 0) && (decide (d.entE (d.ent q).o = 0) && (decide (¬ (d.ent q).t = 0) && (decide ((d.ent (d.ent q).o).s = 3) && (decide (¬ (d.ent q).t = 1) || decide ((d.ent q).r = 0)))))
theorem goes_any (W : World) (p : Dp) (d : DS) (h : DB W p d) (q : Int) :
    Calls Tryz.prog 34 #[ptr p.g, .int .i64 q] W fun e W' => e = .returned (.bool (d.goes q)) ∧ Below W.heap.size W W' := by
  have HE1 := hid (entry_any W p d h q)
  have HE2 := hid (fun w (hb : Below W.heap.size W w) => entry_any w p d (h.on hb) (d.ent q).o)
  unfold DS.goes
  clear h
  generalize d.ent (d.ent q).o = F at *
  generalize d.entE (d.ent q).o = FE at *
  generalize d.ent q = D at *
  generalize d.entE q = DE at *
  simp only [ptr, En.v] at *
  by_cases e0 : DE = 0
  · by_cases e1 : FE = 0
    · by_cases e2 : D.t = 0
      · go_enter Tryz.func34, Tryz.ntmps34
        go_upto_region 2 with (first | (go_at_call 12; refine HE1.out.mono ?_; rintro x w2 ⟨rfl, hb⟩; have B1 := hid hb; clear hb) | (refine wpList_store_st rfl 38 _ _ rfl w2.heap.size D.cs rfl rfl (Cel.new w2 38 En.zero.cs) sizeE rfl rfl ?_; intro w3 hc hb hs; have B2 := hid ((bag_of B1.out).add hc hb); clear hc hb hs))
        generalize w2.heap.size = g5 at *
        have d1 := (B2.out.get 0 rfl).cell 1
        simp only [En.cs, List.getElem?_cons_succ, List.getElem?_cons_zero] at d1
        go_upto_region 3 with (first | (go_at_call 12; refine (HE2.out _ B2.out.below).mono ?_; rintro x w4 ⟨rfl, hb⟩; have B3 := hid (B2.out.on hb); clear hb d1) | (refine wpList_store_st rfl 38 _ _ rfl w4.heap.size F.cs rfl rfl (Cel.new w4 38 En.zero.cs) sizeE rfl rfl ?_; intro w5 hc hb hs; have B4 := hid (B3.out.add hc hb); clear hc hb hs))
        generalize w4.heap.size = g7 at *
        have d0 := (B4.out.get 1 rfl).cell 0
        have d2 := (B4.out.get 1 rfl).cell 2
        have d3 := (B4.out.get 0 rfl).cell 3
        simp only [En.cs, List.getElem?_cons_zero, List.getElem?_cons_succ] at d0 d2 d3
        go_wp2_with fail
        go_ret
        exact ⟨by simp [e0, e1, e2], B4.out.below⟩
      · have f2 : (D.t == 0) = false := by simpa using e2
        by_cases e3 : F.s = 3
        · by_cases e4 : D.t = 1
          · by_cases e5 : D.r = 0
            · go_enter Tryz.func34, Tryz.ntmps34
              go_upto_region 2 with (first | (go_at_call 12; refine HE1.out.mono ?_; rintro x w2 ⟨rfl, hb⟩; have B1 := hid hb; clear hb) | (refine wpList_store_st rfl 38 _ _ rfl w2.heap.size D.cs rfl rfl (Cel.new w2 38 En.zero.cs) sizeE rfl rfl ?_; intro w3 hc hb hs; have B2 := hid ((bag_of B1.out).add hc hb); clear hc hb hs))
              generalize w2.heap.size = g5 at *
              have d1 := (B2.out.get 0 rfl).cell 1
              simp only [En.cs, List.getElem?_cons_succ, List.getElem?_cons_zero] at d1
              go_upto_region 3 with (first | (go_at_call 12; refine (HE2.out _ B2.out.below).mono ?_; rintro x w4 ⟨rfl, hb⟩; have B3 := hid (B2.out.on hb); clear hb d1) | (refine wpList_store_st rfl 38 _ _ rfl w4.heap.size F.cs rfl rfl (Cel.new w4 38 En.zero.cs) sizeE rfl rfl ?_; intro w5 hc hb hs; have B4 := hid (B3.out.add hc hb); clear hc hb hs))
              generalize w4.heap.size = g7 at *
              have d0 := (B4.out.get 1 rfl).cell 0
              have d2 := (B4.out.get 1 rfl).cell 2
              have d3 := (B4.out.get 0 rfl).cell 3
              simp only [En.cs, List.getElem?_cons_zero, List.getElem?_cons_succ] at d0 d2 d3
              go_wp2_with fail
              go_ret
              exact ⟨by simp [e0, e1, e3, e4, e5], B4.out.below⟩
            · have f5 : (D.r == 0) = false := by simpa using e5
              go_enter Tryz.func34, Tryz.ntmps34
              go_upto_region 2 with (first | (go_at_call 12; refine HE1.out.mono ?_; rintro x w2 ⟨rfl, hb⟩; have B1 := hid hb; clear hb) | (refine wpList_store_st rfl 38 _ _ rfl w2.heap.size D.cs rfl rfl (Cel.new w2 38 En.zero.cs) sizeE rfl rfl ?_; intro w3 hc hb hs; have B2 := hid ((bag_of B1.out).add hc hb); clear hc hb hs))
              generalize w2.heap.size = g5 at *
              have d1 := (B2.out.get 0 rfl).cell 1
              simp only [En.cs, List.getElem?_cons_succ, List.getElem?_cons_zero] at d1
              go_upto_region 3 with (first | (go_at_call 12; refine (HE2.out _ B2.out.below).mono ?_; rintro x w4 ⟨rfl, hb⟩; have B3 := hid (B2.out.on hb); clear hb d1) | (refine wpList_store_st rfl 38 _ _ rfl w4.heap.size F.cs rfl rfl (Cel.new w4 38 En.zero.cs) sizeE rfl rfl ?_; intro w5 hc hb hs; have B4 := hid (B3.out.add hc hb); clear hc hb hs))
              generalize w4.heap.size = g7 at *
              have d0 := (B4.out.get 1 rfl).cell 0
              have d2 := (B4.out.get 1 rfl).cell 2
              have d3 := (B4.out.get 0 rfl).cell 3
              simp only [En.cs, List.getElem?_cons_zero, List.getElem?_cons_succ] at d0 d2 d3
              go_wp2_with fail
              go_ret
              exact ⟨by simp [e0, e1, e3, e4, e5], B4.out.below⟩
          · have f4 : (D.t == 1) = false := by simpa using e4
            go_enter Tryz.func34, Tryz.ntmps34
            go_upto_region 2 with (first | (go_at_call 12; refine HE1.out.mono ?_; rintro x w2 ⟨rfl, hb⟩; have B1 := hid hb; clear hb) | (refine wpList_store_st rfl 38 _ _ rfl w2.heap.size D.cs rfl rfl (Cel.new w2 38 En.zero.cs) sizeE rfl rfl ?_; intro w3 hc hb hs; have B2 := hid ((bag_of B1.out).add hc hb); clear hc hb hs))
            generalize w2.heap.size = g5 at *
            have d1 := (B2.out.get 0 rfl).cell 1
            simp only [En.cs, List.getElem?_cons_succ, List.getElem?_cons_zero] at d1
            go_upto_region 3 with (first | (go_at_call 12; refine (HE2.out _ B2.out.below).mono ?_; rintro x w4 ⟨rfl, hb⟩; have B3 := hid (B2.out.on hb); clear hb d1) | (refine wpList_store_st rfl 38 _ _ rfl w4.heap.size F.cs rfl rfl (Cel.new w4 38 En.zero.cs) sizeE rfl rfl ?_; intro w5 hc hb hs; have B4 := hid (B3.out.add hc hb); clear hc hb hs))
            generalize w4.heap.size = g7 at *
            have d0 := (B4.out.get 1 rfl).cell 0
            have d2 := (B4.out.get 1 rfl).cell 2
            have d3 := (B4.out.get 0 rfl).cell 3
            simp only [En.cs, List.getElem?_cons_zero, List.getElem?_cons_succ] at d0 d2 d3
            go_wp2_with fail
            go_ret
            exact ⟨by simp [e0, e1, e2, e3, e4], B4.out.below⟩
        · have f3 : (F.s == 3) = false := by simpa using e3
          go_enter Tryz.func34, Tryz.ntmps34
          go_upto_region 2 with (first | (go_at_call 12; refine HE1.out.mono ?_; rintro x w2 ⟨rfl, hb⟩; have B1 := hid hb; clear hb) | (refine wpList_store_st rfl 38 _ _ rfl w2.heap.size D.cs rfl rfl (Cel.new w2 38 En.zero.cs) sizeE rfl rfl ?_; intro w3 hc hb hs; have B2 := hid ((bag_of B1.out).add hc hb); clear hc hb hs))
          generalize w2.heap.size = g5 at *
          have d1 := (B2.out.get 0 rfl).cell 1
          simp only [En.cs, List.getElem?_cons_succ, List.getElem?_cons_zero] at d1
          go_upto_region 3 with (first | (go_at_call 12; refine (HE2.out _ B2.out.below).mono ?_; rintro x w4 ⟨rfl, hb⟩; have B3 := hid (B2.out.on hb); clear hb d1) | (refine wpList_store_st rfl 38 _ _ rfl w4.heap.size F.cs rfl rfl (Cel.new w4 38 En.zero.cs) sizeE rfl rfl ?_; intro w5 hc hb hs; have B4 := hid (B3.out.add hc hb); clear hc hb hs))
          generalize w4.heap.size = g7 at *
          have d0 := (B4.out.get 1 rfl).cell 0
          have d2 := (B4.out.get 1 rfl).cell 2
          have d3 := (B4.out.get 0 rfl).cell 3
          simp only [En.cs, List.getElem?_cons_zero, List.getElem?_cons_succ] at d0 d2 d3
          go_wp2_with fail
          go_ret
          exact ⟨by simp [e0, e1, e2, e3], B4.out.below⟩
    · have f1 : (FE == 0) = false := by simpa using e1
      go_enter Tryz.func34, Tryz.ntmps34
      go_upto_region 2 with (first | (go_at_call 12; refine HE1.out.mono ?_; rintro x w2 ⟨rfl, hb⟩; have B1 := hid hb; clear hb) | (refine wpList_store_st rfl 38 _ _ rfl w2.heap.size D.cs rfl rfl (Cel.new w2 38 En.zero.cs) sizeE rfl rfl ?_; intro w3 hc hb hs; have B2 := hid ((bag_of B1.out).add hc hb); clear hc hb hs))
      generalize w2.heap.size = g5 at *
      have d1 := (B2.out.get 0 rfl).cell 1
      simp only [En.cs, List.getElem?_cons_succ, List.getElem?_cons_zero] at d1
      go_upto_region 3 with (first | (go_at_call 12; refine (HE2.out _ B2.out.below).mono ?_; rintro x w4 ⟨rfl, hb⟩; have B3 := hid (B2.out.on hb); clear hb d1) | (refine wpList_store_st rfl 38 _ _ rfl w4.heap.size F.cs rfl rfl (Cel.new w4 38 En.zero.cs) sizeE rfl rfl ?_; intro w5 hc hb hs; have B4 := hid (B3.out.add hc hb); clear hc hb hs))
      generalize w4.heap.size = g7 at *
      have d0 := (B4.out.get 1 rfl).cell 0
      have d2 := (B4.out.get 1 rfl).cell 2
      have d3 := (B4.out.get 0 rfl).cell 3
      simp only [En.cs, List.getElem?_cons_zero, List.getElem?_cons_succ] at d0 d2 d3
      go_wp2_with fail
      go_ret
      exact ⟨by simp [e0, e1], B4.out.below⟩
  · have f0 : (DE == 0) = false := by simpa using e0
    go_enter Tryz.func34, Tryz.ntmps34
    go_upto_region 2 with (first | (go_at_call 12; refine HE1.out.mono ?_; rintro x w2 ⟨rfl, hb⟩; have B1 := hid hb; clear hb) | (refine wpList_store_st rfl 38 _ _ rfl w2.heap.size D.cs rfl rfl (Cel.new w2 38 En.zero.cs) sizeE rfl rfl ?_; intro w3 hc hb hs; have B2 := hid ((bag_of B1.out).add hc hb); clear hc hb hs))
    generalize w2.heap.size = g5 at *
    have d1 := (B2.out.get 0 rfl).cell 1
    simp only [En.cs, List.getElem?_cons_succ, List.getElem?_cons_zero] at d1
    go_upto_region 3 with (first | (go_at_call 12; refine (HE2.out _ B2.out.below).mono ?_; rintro x w4 ⟨rfl, hb⟩; have B3 := hid (B2.out.on hb); clear hb d1) | (refine wpList_store_st rfl 38 _ _ rfl w4.heap.size F.cs rfl rfl (Cel.new w4 38 En.zero.cs) sizeE rfl rfl ?_; intro w5 hc hb hs; have B4 := hid (B3.out.add hc hb); clear hc hb hs))
    generalize w4.heap.size = g7 at *
    have d0 := (B4.out.get 1 rfl).cell 0
    have d2 := (B4.out.get 1 rfl).cell 2
    have d3 := (B4.out.get 0 rfl).cell 3
    simp only [En.cs, List.getElem?_cons_zero, List.getElem?_cons_succ] at d0 d2 d3
    go_wp2_with fail
    go_ret
    exact ⟨by simp [e0], B4.out.below⟩
/-- What others do. -/
def DS.bes (d : DS) (k a b c : Int) : DS :=
  if k = 6 then { d with m := d.m.write false a (b % 1024) c }
  else if k = 7 then (if d.entE a = 0 ∧ (d.ent a).t = 1 ∧ (d.ent a).s = 1 then (d.dig a (List.replicate 26 0) 26).state a 2 else d)
  else if k = 8 then d.state a 3
  else if k = 9 then (if d.goes a = true then d.give a else d)
  else d
theorem zdig (j : Nat) : (List.replicate 26 (0 : Int)).getD j 0 = 0 := by
  rw [List.getD_eq_getElem?_getD, List.getElem?_replicate]; split <;> rfl
theorem beside6 (W : World) (p : Dp) (d : DS) (h : DB W p d) (a b c f : Int) (hw : W5 a b c f) :
    Calls Tryz.prog 9 #[ptr p.g, opV 6 a b c f] W fun e W' => e = .returned (.tuple #[]) ∧ DB W' p (d.bes 6 a b c) ∧ ButL p.w W W' := by
  have D0 := hid ((DG.startp h).new 31 (opC 6 a b c f))
  obtain ⟨a0, a1, b0, b1, _, _, _, _⟩ := hw
  have kw : wrap64 a = a := by unfold wrap64; omega
  have kw2 : wrap64 (b % 1024) = b % 1024 := by unfold wrap64; omega
  have kx : IntKind.wrap .i64 a = a := by rw [IntKind.wrap_i64]; omega
  have kx2 : IntKind.wrap .i64 (b % 1024) = b % 1024 := by rw [IntKind.wrap_i64]; omega
  have kt : b.tmod 1024 = b % 1024 := Int.tmod_eq_emod_of_nonneg b0
  have HMm := hid (fun w (hw : DB w p d) => memory_any w p d hw)
  have HWr := hid (fun w (hw : DB w p d) => write_any w p.f d.m hw.mem false a (b % 1024) c)
  show Calls Tryz.prog 9 #[ptr p.g, opV 6 a b c f] W fun e W' => e = .returned (.tuple #[]) ∧ DB W' p { d with m := d.m.write false a (b % 1024) c } ∧ ButL p.w W W'
  clear h a0 a1 b0 b1
  simp only [opV, opC, ptr, fr] at *
  have hh : True := trivial
  go_enter Tryz.func9, Tryz.ntmps9
  go_upto_region 1 with fail
  generalize World.alloc _ _ = X at *
  generalize W.heap.size = g3 at *
  have c0 := (D0.out.get 0 rfl).cell 0
  have c1 := (D0.out.get 0 rfl).cell 1
  simp only [List.getElem?_cons_zero, List.getElem?_cons_succ] at c0 c1
  go_upto_region 3 with fail
  have D1 := hid (D0.out.on (Below.refl _ _).drew)
  clear D0 c0 c1 hh
  refine wp_region_held_drew (S := fun w => Cel w g3 31 [.int .i64 6, .int .u32 a, .int .u32 b, .int .u32 c, .int .u32 f]) (by kernel_rfl) (D1.out.get 0 rfl) (fun hHeld => ?_)
  generalize World.drew _ = w3 at *
  refine wpAnyH_take (i := 0) (oi := { dst := some 11, op := Op.move (Operand.tmp 0), type := 25, pos := "law.go:118", after := #[], guard := none }) (v := .pointer (some ⟨p.g, 0, none⟩)) rfl (by kernel_rfl) (by kernel_rfl) (by kernel_rfl) (fun _ _ _ h => h) (Or.inl ⟨by rfl, by intro w hSw; go_simp⟩) (by assumption) ?_
  simp only [Act.put, List.setIfInBounds_toArray, List.set_cons_zero, List.set_cons_succ]
  refine wpAnyH_take (i := 2) (oi := { dst := some 13, op := Op.fieldAddr 31 (Operand.tmp 3) 1, type := 0, pos := "law.go:118", after := #[], guard := none }) (v := .pointer (some ⟨g3, 1, none⟩)) rfl (by kernel_rfl) (by kernel_rfl) (by kernel_rfl) (fun _ _ _ h => h) (Or.inl ⟨by rfl, by intro w hSw; go_simp⟩) (by assumption) ?_
  simp only [Act.put, List.setIfInBounds_toArray, List.set_cons_zero, List.set_cons_succ]
  refine wpAnyH_take (i := 3) (oi := { dst := some 14, op := Op.load 29 (Operand.tmp 13), type := 29, pos := "law.go:118", after := #[{ on := 2, ground := Ground.data }], guard := none }) (v := .int .u32 a) rfl (by kernel_rfl) (by kernel_rfl) (by kernel_rfl) (fun _ _ _ h => h) (Or.inl ⟨by rfl, by intro w hSw; have hc : w.cell? ⟨g3, 1, none⟩ = some (.int .u32 a) := hSw.cell 1; go_simp⟩) (by assumption) ?_
  simp only [Act.put, List.setIfInBounds_toArray, List.set_cons_zero, List.set_cons_succ]
  refine wpAnyH_take (i := 4) (oi := { dst := some 15, op := Op.convert 29 3 (Operand.tmp 14), type := 3, pos := "law.go:118", after := #[{ on := 3, ground := Ground.data }], guard := none }) (v := .int .i64 a) rfl (by kernel_rfl) (by kernel_rfl) (by kernel_rfl) (fun _ _ _ h => h) (Or.inl ⟨by rfl, by intro w hSw; go_simp⟩) (by assumption) ?_
  simp only [Act.put, List.setIfInBounds_toArray, List.set_cons_zero, List.set_cons_succ]
  refine wpAnyH_take (i := 5) (oi := { dst := some 16, op := Op.build 82 #[(1, Operand.tmp 15)], type := 82, pos := "law.go:118", after := #[{ on := 4, ground := Ground.data }], guard := none }) (v := .agg #[.bool false, .int .i64 a]) rfl (by kernel_rfl) (by kernel_rfl) (by kernel_rfl) (fun _ _ _ h => h) (Or.inl ⟨by rfl, by intro w hSw; go_simp⟩) (by assumption) ?_
  simp only [Act.put, List.setIfInBounds_toArray, List.set_cons_zero, List.set_cons_succ]
  refine wpAnyH_take (i := 6) (oi := { dst := some 17, op := Op.fieldAddr 31 (Operand.tmp 3) 2, type := 0, pos := "law.go:118", after := #[], guard := none }) (v := .pointer (some ⟨g3, 2, none⟩)) rfl (by kernel_rfl) (by kernel_rfl) (by kernel_rfl) (fun _ _ _ h => h) (Or.inl ⟨by rfl, by intro w hSw; go_simp⟩) (by assumption) ?_
  simp only [Act.put, List.setIfInBounds_toArray, List.set_cons_zero, List.set_cons_succ]
  refine wpAnyH_take (i := 7) (oi := { dst := some 18, op := Op.load 29 (Operand.tmp 17), type := 29, pos := "law.go:118", after := #[{ on := 6, ground := Ground.data }], guard := none }) (v := .int .u32 b) rfl (by kernel_rfl) (by kernel_rfl) (by kernel_rfl) (fun _ _ _ h => h) (Or.inl ⟨by rfl, by intro w hSw; have hc : w.cell? ⟨g3, 2, none⟩ = some (.int .u32 b) := hSw.cell 2; go_simp⟩) (by assumption) ?_
  simp only [Act.put, List.setIfInBounds_toArray, List.set_cons_zero, List.set_cons_succ]
  refine wpAnyH_take (i := 8) (oi := { dst := some 19, op := Op.binOp BinOp.rem 29 (Operand.tmp 18) (Operand.const (Value.int IntKind.u32 1024)) 29, type := 29, pos := "law.go:118", after := #[{ on := 7, ground := Ground.data }], guard := none }) (v := .int .u32 (b % 1024)) rfl (by kernel_rfl) (by kernel_rfl) (by kernel_rfl) (fun _ _ _ h => h) (Or.inl ⟨by rfl, by intro w hSw; go_simp⟩) (by assumption) ?_
  simp only [Act.put, List.setIfInBounds_toArray, List.set_cons_zero, List.set_cons_succ]
  refine wpAnyH_take (i := 9) (oi := { dst := some 20, op := Op.convert 29 3 (Operand.tmp 19), type := 3, pos := "law.go:118", after := #[{ on := 8, ground := Ground.data }], guard := none }) (v := .int .i64 (b % 1024)) rfl (by kernel_rfl) (by kernel_rfl) (by kernel_rfl) (fun _ _ _ h => h) (Or.inl ⟨by rfl, by intro w hSw; go_simp⟩) (by assumption) ?_
  simp only [Act.put, List.setIfInBounds_toArray, List.set_cons_zero, List.set_cons_succ]
  refine wpAnyH_take (i := 10) (oi := { dst := some 21, op := Op.fieldAddr 31 (Operand.tmp 3) 3, type := 0, pos := "law.go:118", after := #[], guard := none }) (v := .pointer (some ⟨g3, 3, none⟩)) rfl (by kernel_rfl) (by kernel_rfl) (by kernel_rfl) (fun _ _ _ h => h) (Or.inl ⟨by rfl, by intro w hSw; go_simp⟩) (by assumption) ?_
  simp only [Act.put, List.setIfInBounds_toArray, List.set_cons_zero, List.set_cons_succ]
  refine wpAnyH_take (i := 11) (oi := { dst := some 22, op := Op.load 29 (Operand.tmp 21), type := 29, pos := "law.go:118", after := #[{ on := 10, ground := Ground.data }], guard := none }) (v := .int .u32 c) rfl (by kernel_rfl) (by kernel_rfl) (by kernel_rfl) (fun _ _ _ h => h) (Or.inl ⟨by rfl, by intro w hSw; have hc : w.cell? ⟨g3, 3, none⟩ = some (.int .u32 c) := hSw.cell 3; go_simp⟩) (by assumption) ?_
  simp only [Act.put, List.setIfInBounds_toArray, List.set_cons_zero, List.set_cons_succ]
  refine wpAnyH_ready (rs := [1]) (by kernel_rfl) (by simp) (AllReadyH.cons (o := { dst := some 12, op := Op.call { callee := Callee.value (Operand.func 25), args := #[Operand.tmp 11], argTypes := #[25] }, type := 67, pos := "law.go:118", after := #[{ on := 0, ground := Ground.data }], guard := none }) rfl (fun KQ hK => ?_) AllReadyH.nil)
  go_simp
  refine (HMm.out _ D1.out.db).mono ?_
  rintro e w4 ⟨rfl, rfl⟩
  go_wp2_with fail
  refine hK.out _ _ (D1.out.get 0 rfl) (fun hHeld => ?_)
  clear hK KQ
  try simp only [Act.put, List.setIfInBounds_toArray, List.set_cons_zero, List.set_cons_succ]
  refine wpAnyH_ready (rs := [12]) (by kernel_rfl) (by simp) (AllReadyH.cons (o := { dst := some 23, op := Op.call { callee := Callee.value (Operand.func 32), args := #[Operand.tmp 12, Operand.tmp 16, Operand.tmp 20, Operand.tmp 22], argTypes := #[67, 82, 3, 29] }, type := 39, pos := "law.go:118", after := #[{ on := 1, ground := Ground.data }, { on := 5, ground := Ground.data }, { on := 9, ground := Ground.data }, { on := 11, ground := Ground.data }, { on := 1, ground := Ground.chain }], guard := none }) rfl (fun KQ hK => ?_) AllReadyH.nil)
  go_simp
  refine (HWr.out _ D1.out.db).mono ?_
  rintro e w5 ⟨rfl, hm, hb⟩
  have D2 := hid (D1.out.memp hm hb (MS.write_ns ..))
  clear hm hb D1
  go_wp2_with fail
  refine hK.out _ _ (D2.out.get 0 rfl) (fun hHeld => ?_)
  clear hK KQ
  try simp only [Act.put, List.setIfInBounds_toArray, List.set_cons_zero, List.set_cons_succ]
  refine wpAnyH_done (by kernel_rfl) ?_ _
  go_wp2_with fail
  go_returns
  exact ⟨rfl, D2.out.db, D2.out.but⟩
end Go.Proofs.YtllcbgdcepfdkaaGreatDoor
namespace Go.Proofs.YtllcbgdcepfdkaaGreatDoor
open Go.RowKit
set_option maxRecDepth 100000
set_option maxHeartbeats 4000000
theorem DS.take_there (d : DS) (q t s x : Int) : (d.take q t s).there x = d.there x := by unfold DS.there; rw [DS.take_m]
/-- The entries behind a page that is taken. -/
theorem take_ent {d : DS} (hk : d.Ok) {q t s : Int} (hE : d.takeE q t s = 0) (x : Int) :
    (d.take q t s).ent x = if x = q then enT t s else if x = s then { d.ent s with r := (d.ent s).r + 1 } else d.ent x := by
  obtain ⟨h1, _, _, h4, h5⟩ := take_zero hE
  obtain ⟨h6, h7, _⟩ := more_of h4
  obtain ⟨q0, q1, q2⟩ := there_lt h1
  obtain ⟨s0, s1, s2⟩ := there_lt h6
  have hne : s ≠ q := fun e => by rw [e, h5] at h7; cases h7
  have hnn : s.toNat ≠ q.toNat := by omega
  unfold DS.ent
  rw [DS.take_there]
  by_cases hx : d.there x = true
  · obtain ⟨x0, x1, x2⟩ := there_lt hx
    rw [if_pos hx, if_pos hx, if_pos h6]
    have hT : d.take q t s = d.taken q t s := by unfold DS.take; rw [if_pos hE]
    rw [hT]
    unfold DS.taken DS.cnt
    rw [lay_at _ _ _ (by show s.toNat < ((d.E.set q.toNat (enT t s)).length); rw [List.length_set, hk.len]; exact s1), lay_at _ _ _ (by rw [hk.len]; exact q1), lay_at _ _ _ (by rw [hk.len]; exact q1), if_neg hnn]
    by_cases e1 : x = q
    · subst e1; rw [if_pos rfl, if_neg (fun e => hnn e.symm), if_pos rfl]
    · rw [if_neg e1]
      by_cases e2 : x = s
      · subst e2; rw [if_pos rfl, if_pos rfl]
      · rw [if_neg e2, if_neg (by omega), if_neg (by omega)]
  · rw [if_neg hx, if_neg hx]
    rw [if_neg (fun e => hx (by rw [e]; exact h1)), if_neg (fun e => hx (by rw [e]; exact h6))]
theorem op_zero {d : DS} {a : Int} (a0 : 0 ≤ a) (h : d.opE a = 0) : d.there a = true ∧ (d.ent a).t = 1 ∧ (d.ent a).s = 1 := by
  unfold DS.opE at h
  split at h
  · cases h
  · split at h
    · cases h
    · split at h
      · cases h
      · rename_i h1 h2 h3
        exact ⟨by unfold DS.there; simp; omega, by simpa using h2, by simpa using h3⟩
theorem sp_zero {d : DS} {a b : Int} (a0 : 0 ≤ a) (b0 : 0 ≤ b) (h : d.spC a b = 0) : d.bearE a b = 0 := by
  unfold DS.spC at h
  repeat' split at h
  all_goals first | (exact absurd h (by decide)) | skip
  rename_i h1 h2 h3 h4 h5 h6
  have e1 : d.entE a = 0 := by unfold DS.entE; rw [if_pos (by unfold DS.there; simp; omega)]
  have e2 : d.entE b = 0 := by unfold DS.entE; rw [if_pos (by unfold DS.there; simp; omega)]
  unfold DS.bearE
  rw [e1, e2, if_neg (by simp), if_neg (by simp), if_neg h3, if_neg (by simp [h4]), if_neg (by simp [h5]), if_neg (by omega)]
theorem th_zero {d : DS} {a b : Int} (h : d.thK a b = 0) : d.opE a = 0 ∧ H.LoadOk (d.st a) ∧ d.takeE b 2 a = 0 := by
  unfold DS.thK at h
  split at h
  · rename_i h0
    unfold DS.thC at h
    repeat' split at h
    all_goals first | (exact absurd h (by decide)) | skip
    exact ⟨h0, by assumption, by assumption⟩
  · exact absurd h ‹_›
theorem tb_zero {d : DS} {a b c : Int} (h : d.tbK a b c = 0) : d.opE a = 0 ∧ c < 256 ∧ d.ntC a c = 0 ∧ H.LoadOk (d.st a) ∧ d.takeE b 4 a = 0 := by
  unfold DS.tbK at h
  split at h
  · rename_i h0
    unfold DS.tbC at h
    repeat' split at h
    all_goals first | (exact absurd h (by decide)) | (exact absurd h (by assumption)) | skip
    exact ⟨h0, by assumption, by assumption, by assumption, by assumption⟩
  · exact absurd h ‹_›
theorem sl_zero {e : Int} (h : slC e = 0) : e = 0 := by
  unfold slC at h
  repeat' split at h
  all_goals first | assumption | (exact absurd h (by decide))
theorem da_zero {d : DS} {a b c f : Int} (h : d.daK a b c f = 0) : d.opE a = 0 ∧ gPE c = 0 ∧ f < (d.ni : Int) ∧ d.slotE a (gP c).va = 0 ∧ H.LoadOk (d.st a) ∧ d.takeE b 5 a = 0 := by
  unfold DS.daK at h
  split at h
  · rename_i h0
    unfold DS.daC at h
    repeat' split at h
    all_goals first | (exact absurd h (by decide)) | (exact absurd h (by assumption)) | skip
    rename_i h1 h2 h3 h4 h5 h6 h7
    exact ⟨h0, h2, by omega, sl_zero h5, h6, h7⟩
  · exact absurd h ‹_›
theorem sh_zero {d : DS} {a b c : Int} (h : d.shK a b c = 0) : d.opE a = 0 ∧ gPE b = 0 ∧ (gP b).ex = false ∧ c < (d.ni : Int) ∧ d.slotE a (gP b).va = 0 ∧ H.LoadOk (d.st a) := by
  unfold DS.shK at h
  split at h
  · rename_i h0
    unfold DS.shC at h
    repeat' split at h
    all_goals first | (exact absurd h (by decide)) | (exact absurd h (by assumption)) | skip
    rename_i h1 h2 h3 h4 h5
    exact ⟨h0, h1, by simpa using h2, by omega, sl_zero h4, h5⟩
  · exact absurd h ‹_›
theorem st_of {d e : DS} {a : Int} (h : ∀ o, e.m.word true a o = d.m.word true a o) : e.st a = d.st a := by
  unfold DS.st; simp only [h]
theorem wr_st {d : DS} (h0 : d.m.ns ≤ d.m.P.length) (q o v a : Int) (h : q ≠ a) : (d.wr q o v).st a = d.st a :=
  st_of fun _ => MS.write_word h0 true q o v true a _ (fun e => h e.2.1)
/-- What the digest of a space does not hang on. -/
theorem th_st {d : DS} (h0 : d.m.ns ≤ d.m.P.length) {a b : Int} (c : Int) (a0 : 0 ≤ a) (ho : d.opE a = 0) (hE : d.takeE b 2 a = 0) : ((d.take b 2 a).wr b 0 c).st a = d.st a := by
  have hne : b ≠ a := fun e => by
    have h1 := (take_zero hE).2.2.2.2
    rw [e, (op_zero a0 ho).2.1] at h1; cases h1
  rw [wr_st (by rw [DS.take_m]; exact h0) b 0 c a hne]
  exact st_of fun _ => by rw [DS.take_m]
theorem fol_own {d : DS} {s : Int} (h : d.folE s = 0) : (d.ent (d.fst s)).t = 3 ∧ (d.ent (d.fst s)).o = s ∧ d.preE s = 0 := by
  unfold DS.folE at h
  split at h
  · rename_i h1; exact absurd h h1
  · split at h
    · rename_i h1 h2
      unfold DS.own at h2
      simp at h2
      exact ⟨h2.1, h2.2, by simpa using h1⟩
    · cases h
/-- The tables of a space behind a page that is taken. -/
theorem take_fol {d e : DS} (hk : d.Ok) {b t a : Int} (hE : d.takeE b t a = 0) (hf : d.folE a = 0) (ee : e.E = (d.take b t a).E) (en : e.m.ns = d.m.ns) (hw : ∀ x, x ≠ b → ∀ o, e.m.word true x o = d.m.word true x o) :
    e.folE a = 0 ∧ e.fst a = d.fst a ∧ d.fst a ≠ b ∧ d.fst a ≠ a ∧ (∀ x, e.ent x = (d.take b t a).ent x) ∧ (∀ x, e.entE x = d.entE x) ∧ a ≠ b := by
  obtain ⟨f1, f2, f3⟩ := fol_own hf
  obtain ⟨h1, _, _, h4, h5⟩ := take_zero hE
  obtain ⟨h6, h7, _⟩ := more_of h4
  have hab : a ≠ b := fun e => by rw [e, h5] at h7; cases h7
  have hfb : d.fst a ≠ b := fun e => by rw [e, h5] at f1; cases f1
  have hfa : d.fst a ≠ a := fun e => by rw [e, h7] at f1; cases f1
  have hth : ∀ x, e.there x = d.there x := fun x => by unfold DS.there; rw [en]
  have hen : ∀ x, e.ent x = (d.take b t a).ent x := fun x => by unfold DS.ent; rw [hth, DS.take_there]; unfold DS.at; rw [ee]
  have hee : ∀ x, e.entE x = d.entE x := fun x => by unfold DS.entE; rw [hth]
  have hfs : e.fst a = d.fst a := by unfold DS.fst; exact hw a hab 0
  refine ⟨?_, hfs, hfb, hfa, hen, hee, hab⟩
  have hp : e.preE a = 0 := by
    unfold DS.preE at f3 ⊢
    rw [hee, hen, take_ent hk hE, if_neg hab, if_pos rfl]
    exact f3
  unfold DS.folE
  rw [hp, if_neg (by simp), hfs]
  unfold DS.own
  rw [hen, take_ent hk hE, if_neg hfb, if_neg hfa, f1, f2]
  simp
theorem nt_zero {d : DS} {s i : Int} (h : d.ntC s i = 0) : d.folE s = 0 ∧ d.m.word true (d.fst s) i = 0 := by
  unfold DS.ntC at h
  repeat' split at h
  all_goals first | (exact absurd h (by decide)) | skip
  exact ⟨by assumption, by assumption⟩
theorem fE_zero {b : Int} (h : Pg b) : fE b = 0 := by unfold fE; rw [if_pos h]
theorem pg_of {d : DS} (hk : d.Ok) {b : Int} (h : d.there b = true) : Pg b := by
  obtain ⟨h0, h1, h2⟩ := there_lt h
  have := hk.n64
  exact ⟨h0, by omega⟩
theorem tb_hand {d : DS} (hk : d.Ok) (h0 : d.m.ns ≤ d.m.P.length) {a b c : Int} (c0 : 0 ≤ c) (hc : c < 256) (hn : d.ntC a c = 0) (hE : d.takeE b 4 a = 0) :
    (d.take b 4 a).addE a c b = 0 ∧ ((d.take b 4 a).add a c b).st a = d.st a := by
  obtain ⟨n1, n2⟩ := nt_zero hn
  obtain ⟨f1, f2, f3, f4, f5, f6, f7⟩ := take_fol hk hE n1 (e := d.take b 4 a) rfl (by rw [DS.take_m]) (fun x _ o => by rw [DS.take_m])
  have hth := (take_zero hE).1
  have hA : (d.take b 4 a).addE a c b = 0 := by
    unfold DS.addE
    rw [if_pos f1, if_pos ⟨c0, hc⟩, if_pos (by rw [f6]; unfold DS.entE; rw [if_pos hth])]
    rw [if_pos (by unfold DS.own; rw [take_ent hk hE, if_pos rfl]; simp [enT]), f2, DS.take_m, n2]
    unfold filE
    rw [if_pos rfl]
    exact fE_zero (pg_of hk hth)
  refine ⟨hA, ?_⟩
  rw [(DS.Sim.add (d.take b 4 a) a c b).st]
  unfold DS.addS
  rw [if_pos hA, wr_st (by rw [DS.take_m]; exact h0) _ _ _ _ (by rw [f2]; exact f4)]
  exact st_of fun _ => by rw [DS.take_m]
theorem isS_own {d : DS} {s w : Int} (h : d.isS s w = true) : (d.ent (pf w)).t = 4 ∧ (d.ent (pf w)).o = s ∧ pfE w = 0 := by
  unfold DS.isS DS.own at h
  simp at h
  exact ⟨h.2.1, h.2.2, h.1⟩
theorem fnd_zero {d : DS} {s va : Int} (h : d.fndE s va = 0) : d.folE s = 0 ∧ spE va = 0 ∧ d.isS s (d.w1 s va) = true := by
  unfold DS.fndE at h
  repeat' split at h
  all_goals first | (exact absurd h (by decide)) | (exact absurd h (by assumption)) | skip
  rename_i h1 h2 h3
  exact ⟨by simpa using h1, by simpa using h2, h3⟩
theorem slot_zero {d : DS} {s va : Int} (h : d.slotE s va = 0) : d.fndE s va = 0 ∧ d.w2 s va = 0 := by
  unfold DS.slotE at h
  repeat' split at h
  all_goals first | (exact absurd h (by decide)) | (exact absurd h (by assumption)) | skip
  exact ⟨by assumption, by assumption⟩
theorem put_hand {d : DS} {s va : Int} {m : Mp} (h0 : d.m.ns ≤ d.m.P.length) (hs : (d.ent s).t = 1) (h : d.slotE s va = 0) (hm : m.err = 0) : d.putE s va m = 0 ∧ (d.put s va m).st s = d.st s ∧ pf (d.w1 s va) ≠ s := by
  obtain ⟨h1, h2⟩ := slot_zero h
  obtain ⟨_, _, h5⟩ := fnd_zero h1
  have hne : pf (d.w1 s va) ≠ s := fun e => by
    have := (isS_own h5).1
    rw [e, hs] at this; cases this
  have hP : d.putE s va m = 0 := by
    unfold DS.putE filE
    rw [if_pos h1, h2, if_pos rfl, hm]
  refine ⟨hP, ?_, hne⟩
  rw [(DS.Sim.put d s va m).st]
  unfold DS.putS
  rw [if_pos hP, wr_st h0 _ _ _ _ hne]
/-- A place is free yet behind a page that is taken and filled. -/
theorem take_slot {d e : DS} (hk : d.Ok) {b t a va : Int} (hE : d.takeE b t a = 0) (hs : d.slotE a va = 0) (ee : e.E = (d.take b t a).E) (en : e.m.ns = d.m.ns) (hw : ∀ x, x ≠ b → ∀ o, e.m.word true x o = d.m.word true x o) :
    e.slotE a va = 0 ∧ (e.ent a).t = 1 ∧ a ≠ b := by
  obtain ⟨h1, h2⟩ := slot_zero hs
  obtain ⟨h3, h4, h5⟩ := fnd_zero h1
  obtain ⟨f1, f2, f3, f4, f5, f6, f7⟩ := take_fol hk hE h3 ee en hw
  obtain ⟨i1, i2, i3⟩ := isS_own h5
  obtain ⟨_, _, _, t4, t5⟩ := take_zero hE
  obtain ⟨_, t7, _⟩ := more_of t4
  have hw1 : e.w1 a va = d.w1 a va := by unfold DS.w1; rw [f2]; exact hw _ f3 _
  have hpb : pf (d.w1 a va) ≠ b := fun e => by rw [e, t5] at i1; cases i1
  have hpa : pf (d.w1 a va) ≠ a := fun e => by rw [e, t7] at i1; cases i1
  have hw2 : e.w2 a va = 0 := by rw [← h2]; unfold DS.w2; rw [hw1]; exact hw _ hpb _
  have hF : e.fndE a va = 0 := by
    unfold DS.fndE
    rw [if_neg (by simp [f1]), if_neg (by simp [h4]), hw1, if_pos]
    unfold DS.isS DS.own
    rw [f5, take_ent hk hE, if_neg hpb, if_neg hpa, i1, i2, i3]
    simp
  refine ⟨?_, ?_, f7⟩
  · unfold DS.slotE; rw [if_pos hF, if_pos hw2]
  · rw [f5, take_ent hk hE, if_neg f7, if_pos rfl]; exact t7
end Go.Proofs.YtllcbgdcepfdkaaGreatDoor
namespace Go.Proofs.YtllcbgdcepfdkaaGreatDoor
open Go.RowKit
set_option maxRecDepth 100000
set_option maxHeartbeats 4000000
theorem MS.set_at (m : MS) (k : Nat) (L : List Int) (n : Int) (s : Bool) (x : Int) : MS.at { m.tick n with P := m.P.set k L } s x = m.at s x := by unfold MS.at; simp only [MS.tick, List.length_set]; rfl
theorem MS.set_p (m : MS) (k i : Nat) (L : List Int) (n : Int) (h : i ≠ k) : MS.p { m.tick n with P := m.P.set k L } i = m.p i := by
  simp only [MS.p, List.getD_eq_getElem?_getD, List.getElem?_set]
  rw [if_neg (fun e => h e.symm)]
theorem MS.copy_word {m : MS} (h0 : m.ns ≤ m.P.length) {b f x : Int} (hx : x ≠ b) (o : Int) : (m.copy true b false f).word true x o = m.word true x o := by
  unfold MS.copy
  split
  · rename_i k j h1 h2
    unfold MS.word
    rw [MS.set_at]
    cases h3 : m.at true x with
    | none => rfl
    | some i =>
      simp only
      rw [MS.set_p _ _ _ _ _ (fun e => hx (by subst e; exact (MS.at_inj h0 h3 h1).2))]
  · rfl
theorem at_sec {m : MS} {b : Int} (h0 : 0 ≤ b) (h1 : b < (m.ns : Int)) : m.at true b = some b.toNat := by unfold MS.at; rw [if_pos h0]; simp [h1]
theorem at_ins {m : MS} {f : Int} (h0 : 0 ≤ f) (h1 : f < ((m.P.length - m.ns : Nat) : Int)) : m.at false f = some (m.ns + f.toNat) := by unfold MS.at; rw [if_pos h0]; simp [h1]
theorem at_sec_lt {m : MS} {b : Int} {k : Nat} (h : m.at true b = some k) : k < m.ns := by
  unfold MS.at at h
  split at h
  · simp at h; omega
  · cases h
theorem MS.write_pge (m : MS) (q o v : Int) (k : Nat) (h : m.ns ≤ k) : (m.write true q o v).p k = m.p k := by
  unfold MS.write
  split
  · rfl
  · rename_i i hi
    have := at_sec_lt hi
    split
    · exact MS.set_p _ _ _ _ _ (by omega)
    · rfl
theorem MS.write_len (m : MS) (s : Bool) (q o v : Int) : (m.write s q o v).P.length = m.P.length := by
  unfold MS.write
  split
  · rfl
  · split
    · simp
    · rfl
theorem MS.U.copy {m : MS} (h : m.U) (s : Bool) (b : Int) (t : Bool) (f : Int) : (m.copy s b t f).U := by
  unfold MS.copy
  split
  · rename_i k j h1 h2
    intro i n
    by_cases e : i = k
    · subst e
      by_cases hl : i < m.P.length
      · simp only [MS.p, List.getD_eq_getElem?_getD, List.getElem?_set, if_true, if_pos hl, Option.getD_some]
        have := h j n
        simpa [MS.p, List.getD_eq_getElem?_getD] using this
      · simp only [MS.p, List.getD_eq_getElem?_getD, List.getElem?_set, if_true, if_neg hl, Option.getD_none]
        simp [wd]
    · rw [MS.set_p _ _ _ _ _ e]; exact h i n
  · exact h
/-- All that hand4 asks. -/
theorem da_hand {d : DS} (hk : d.Ok) (hU : d.m.U) (h0 : d.m.ns ≤ d.m.P.length) (hfu : ∀ k, k < d.m.P.length → (d.m.p k).length = 1024) {a b f va : Int} {m : Mp} (f0 : 0 ≤ f) (hf : f < (d.ni : Int)) (hE : d.takeE b 5 a = 0) (hs : d.slotE a va = 0) (hm : m.err = 0) (e : DS) (he : e = { d.take b 5 a with m := (d.take b 5 a).m.copy true b false f }) :
    (d.take b 5 a).m.cerr true b false f = 0 ∧ e.m.U ∧ e.putE a va m = 0 ∧ (e.put a va m).st a = d.st a ∧ (e.put a va m).m.pageI f = d.m.pageI f ∧ f < ((e.put a va m).ni : Int) ∧ (d.m.pageI f).length = 1024 ∧ DS.Sim ((d.take b 5 a).layP b (d.m.pageI f)) e := by
  obtain ⟨t1, _, _, t4, t5⟩ := take_zero hE
  obtain ⟨b0, b1, b2⟩ := there_lt t1
  have hat1 := at_sec (m := d.m) b0 (by omega)
  have hat2 := at_ins (m := d.m) f0 hf
  have hfl : d.m.ns + f.toNat < d.m.P.length := by unfold DS.ni at hf; omega
  have hL : (d.m.pageI f).length = 1024 := hfu _ hfl
  have hcp : (d.take b 5 a).m.copy true b false f = { d.m.tick 2048 with P := d.m.P.set b.toNat (d.m.pageI f) } := by
    rw [DS.take_m]; unfold MS.copy MS.pageI; rw [hat1, hat2]
  have em : e.m = { d.m.tick 2048 with P := d.m.P.set b.toNat (d.m.pageI f) } := by rw [he]; exact hcp
  have eE : e.E = (d.take b 5 a).E := by rw [he]
  have ens : e.m.ns = d.m.ns := by rw [em]; rfl
  have eP : e.m.P.length = d.m.P.length := by rw [em]; simp
  have ew : ∀ x, x ≠ b → ∀ o, e.m.word true x o = d.m.word true x o := fun x hx o => by rw [he]; show ((d.take b 5 a).m.copy true b false f).word true x o = _; rw [DS.take_m]; exact MS.copy_word h0 hx o
  have e0 : e.m.ns ≤ e.m.P.length := by rw [ens, eP]; exact h0
  obtain ⟨s1, s2, s3⟩ := take_slot hk hE hs eE ens ew
  obtain ⟨p1, p2, p3⟩ := put_hand e0 s2 s1 hm
  have hS := DS.Sim.put e a va m
  have hpu : e.putS a va m = e.wr (pf (e.w1 a va)) (spJ va) m.enc := by unfold DS.putS; rw [if_pos p1]
  rw [hpu] at hS
  have hwn : (e.wr (pf (e.w1 a va)) (spJ va) m.enc).m.ns = e.m.ns := MS.write_ns _ _ _ _ _
  have hwl : (e.wr (pf (e.w1 a va)) (spJ va) m.enc).m.P.length = e.m.P.length := MS.write_len _ _ _ _ _
  refine ⟨?_, ?_, p1, ?_, ?_, ?_, hL, ?_⟩
  · rw [DS.take_m]; unfold MS.cerr; rw [hat1, hat2]
  · rw [he]; exact MS.U.copy (by rw [DS.take_m]; exact hU) _ _ _ _
  · rw [p2]; exact st_of (ew a s3)
  · unfold MS.pageI
    rw [hS.ns, hS.p, hwn, ens]
    rw [show (e.wr (pf (e.w1 a va)) (spJ va) m.enc).m.p (d.m.ns + f.toNat) = e.m.p (d.m.ns + f.toNat) from MS.write_pge _ _ _ _ _ (by rw [ens]; omega)]
    rw [em]
    exact MS.set_p _ _ _ _ _ (by omega)
  · rw [hS.ni]
    unfold DS.ni at hf ⊢
    rw [hwn, hwl, ens, eP]; exact hf
  · refine ⟨by rw [eE]; rfl, by rw [he]; rfl, ?_, ?_⟩
    · rw [ens]; show d.m.ns = ((d.take b 5 a).m.lay true b (d.m.pageI f)).ns; rw [MS.lay_ns, DS.take_m]
    · rw [em]; show _ = ((d.take b 5 a).m.lay true b (d.m.pageI f)).P; rw [DS.take_m]; unfold MS.lay; rw [hat1]; simp only [if_pos hL]
/-- Words stay words, and the pages stay as many. -/
structure DS.Fit (d e : DS) : Prop where
  U : d.m.U → e.m.U
  ns : e.m.ns = d.m.ns
  P : e.m.P.length = d.m.P.length
theorem DS.Fit.refl (d : DS) : DS.Fit d d := ⟨id, rfl, rfl⟩
theorem DS.Fit.trans {d e f : DS} (h : DS.Fit d e) (k : DS.Fit e f) : DS.Fit d f := ⟨fun u => k.U (h.U u), k.ns.trans h.ns, k.P.trans h.P⟩
theorem DS.Sim.fit {d e : DS} (h : DS.Sim d e) : DS.Fit d e := ⟨h.U, h.ns, by rw [h.P]⟩
theorem fit_write (d : DS) (s : Bool) (q o v : Int) (h0 : 0 ≤ v) (h1 : v < 4294967296) : DS.Fit d { d with m := d.m.write s q o v } := ⟨fun u => u.write s q o v h0 h1, MS.write_ns _ _ _ _ _, MS.write_len _ _ _ _ _⟩
theorem fit_wr (d : DS) (q o v : Int) (h0 : 0 ≤ v) (h1 : v < 4294967296) : DS.Fit d (d.wr q o v) := fit_write d true q o v h0 h1
theorem fit_m {d e : DS} (h : e.m = d.m) : DS.Fit d e := ⟨fun u => by rw [h]; exact u, by rw [h], by rw [h]⟩
theorem fit_dig (d : DS) (s : Int) (L : List Int) (hL : H.Wds L) : ∀ j, DS.Fit d (d.dig s L j)
  | 0 => .refl d
  | j + 1 => (fit_dig d s L hL j).trans (fit_wr _ s _ _ (hL j).1 (hL j).2)
theorem fit_take (d : DS) (q t s : Int) : DS.Fit d (d.take q t s) := fit_m (DS.take_m d q t s)
theorem code_w {m : Mp} (h : m.err = 0) : 0 ≤ m.code ∧ m.code < 4294967296 := by
  unfold Mp.err at h
  split at h
  · rename_i hp
    obtain ⟨p0, p1⟩ := hp
    unfold Mp.code b2
    constructor <;> (repeat' split) <;> omega
  · cases h
theorem fit_put (d : DS) (s va : Int) (m : Mp) : DS.Fit d (d.putS s va m) := by
  unfold DS.putS
  split
  · have : 0 ≤ m.enc ∧ m.enc < 4294967296 := by
      unfold Mp.enc
      split
      · exact code_w ‹_›
      · decide
    exact fit_wr _ _ _ _ this.1 this.2
  · exact .refl d
theorem fit_add (d : DS) (s i q : Int) : DS.Fit d (d.addS s i q) := by
  unfold DS.addS
  split
  · have : 0 ≤ fW q ∧ fW q < 4294967296 := by
      unfold fW
      split
      · rename_i h; obtain ⟨h0, h1⟩ := h; omega
      · decide
    exact fit_wr _ _ _ _ this.1 this.2
  · exact .refl d
theorem fit_lay (d : DS) (q : Int) (L : List Int) (hL : ∀ j, 0 ≤ wd L j ∧ wd L j < 4294967296) : DS.Fit d (d.layP q L) := ⟨fun u => MS.U.lay u true q L hL, MS.lay_ns _ _ _ _, by
  show (d.m.lay true q L).P.length = _
  unfold MS.lay
  split
  · rfl
  · split
    · simp
    · rfl⟩
theorem fit_space {d : DS} (hk : d.Ok) (s f : Int) (f0 : 0 ≤ f) (f1 : f < 4294967296) : DS.Fit d (d.takeSpace s f) := by
  unfold DS.takeSpace
  split
  · have b0 := hk.b0
    have b1 := hk.b1
    have h1 := fit_write d true s 0 f f0 f1
    have h2 := fit_write { d with m := d.m.write true s 0 f } true s 1 d.b b0 (by omega)
    have h3 := fit_write { d with m := (d.m.write true s 0 f).write true s 1 d.b } true s 2 0 (by decide) (by decide)
    have h4 := h1.trans (h2.trans h3)
    exact ⟨h4.U, h4.ns, h4.P⟩
  · exact .refl d
theorem fit_wipe (d : DS) (q : Int) : DS.Fit d (d.wipe q) := by
  refine ⟨fun u => ?_, MS.zero_ns _ _ _, ?_⟩
  · show (d.m.zero true q).U
    unfold MS.zero
    split
    · exact u
    · rename_i k hk
      intro i n
      by_cases e : i = k
      · subst e
        by_cases hl : i < d.m.P.length
        · simp only [MS.p, List.getD_eq_getElem?_getD, List.getElem?_set, if_true, if_pos hl, Option.getD_some]
          unfold wd zs
          rw [List.getD_eq_getElem?_getD, List.getElem?_replicate]
          split <;> decide
        · simp only [MS.p, List.getD_eq_getElem?_getD, List.getElem?_set, if_true, if_neg hl, Option.getD_none]
          simp [wd]
      · rw [MS.set_p _ _ _ _ _ e]; exact u i n
  · show (d.m.zero true q).P.length = _
    unfold MS.zero
    split
    · rfl
    · simp
theorem fit_give (d : DS) (q : Int) : DS.Fit d (d.give q) := by
  have h : DS.Fit d (d.freed q) := (fit_m (d := d) (e := d.lay q.toNat En.zero) rfl).trans (fit_wipe _ q)
  unfold DS.give
  split
  · unfold DS.given
    split
    · exact h.trans (fit_m rfl)
    · exact h
  · exact .refl d
theorem fit_state (d : DS) (q s : Int) : DS.Fit d (d.state q s) := by
  unfold DS.state
  split
  · exact fit_m rfl
  · exact .refl d
theorem fit_bes {d : DS} (k a b c : Int) (c0 : 0 ≤ c) (c1 : c < 4294967296) : DS.Fit d (d.bes k a b c) := by
  unfold DS.bes
  split
  · exact fit_write d false a _ c c0 c1
  · split
    · split
      · exact (fit_dig d a _ (fun j => by rw [zdig]; decide) 26).trans (fit_state _ _ _)
      · exact .refl d
    · split
      · exact fit_state d a 3
      · split
        · split
          · exact fit_give d a
          · exact .refl d
        · exact .refl d
end Go.Proofs.YtllcbgdcepfdkaaGreatDoor
