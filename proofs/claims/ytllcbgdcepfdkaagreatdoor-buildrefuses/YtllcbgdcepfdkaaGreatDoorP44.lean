import Derived.Test.YtllcbgdcepfdkaaGreatDoorP43
namespace Go.Proofs.YtllcbgdcepfdkaaGreatDoor
open Go.RowKit
set_option maxRecDepth 100000
set_option maxHeartbeats 4000000
theorem u32s_at {w : World} {g : Nat} {t : TypeId} {L : List Int} (h : Cel w g t (u32s L)) (j : Nat) (hj : j < L.length) : w.cell? ⟨g, j, none⟩ = some (.int .u32 (L.getD j 0)) := by
  rw [h.cell, u32s, List.getElem?_map, List.getD_eq_getElem?_getD, List.getElem?_eq_getElem hj]
  rfl
theorem lawLay_any (W : World) (p : Dp) (d : DS) (h : DB W p d) (s : Int) (L : List Int) (hL : L.length = 26) :
    Calls Tryz.prog 46 #[ptr p.g, .int .i64 s, .agg (u32s L).toArray] W fun e W' => e = .returned (.tuple #[]) ∧ DB W' p (d.dig s L 26) ∧ ButL p.f.w W W' := by
  have D0 := hid ((DG.startw h).new 59 (u32s L))
  have HMm := hid (fun w d' (hw : DB w p d') => memory_any w p d' hw)
  have HWr := hid (fun w d' (hw : DB w p d') (off v : Int) => (write_any w p.f d'.m hw.mem true s off v))
  have HL := hid hL
  clear h hL
  simp only [ptr, fr] at *
  go_enter Tryz.func46, Tryz.ntmps46
  go_upto_region 1 with fail
  generalize World.alloc _ _ = X at *
  generalize W.heap.size = g5 at *
  go_upto_region 2 with fail
  go_loopw [6] (fun i wr => ∃ j : Nat, j ≤ 26 ∧ i = .int .i64 (j : Int) ∧ Hid (DG W wr p (d.dig s L j) p.f.w [(g5, 59, u32s L)])) (fun i _ => 26 - (intOf i).toNat)
  case atStart => exact ⟨0, Nat.zero_le _, rfl, hid D0.out⟩
  case round =>
    obtain ⟨j, hj, rfl, HQ⟩ := hrel
    clear D0
    by_cases hlt : j < 26
    · have q1 : (j : Int) < 26 := by omega
      have kw : IntKind.wrap .i64 (11 + (j : Int)) = 11 + (j : Int) := by rw [IntKind.wrap_i64]; omega
      have kw2 : IntKind.wrap .i64 ((j : Int) + 1) = (j : Int) + 1 := by rw [IntKind.wrap_i64]; omega
      have HJ := hid hlt
      have HD1 : Hid (d.dig s L (j + 1) = (d.dig s L j).wr s (11 + (j : Int)) (L.getD j 0)) := hid rfl
      have HCJ := hid (fun w (hc : Cel w g5 59 (u32s L)) => u32s_at hc j (by have := HL.out; omega))
      clear hlt hj
      generalize hdn : d.dig s L (j + 1) = dn at *
      have HDN := hid hdn
      clear hdn
      generalize d.dig s L j = dj at *
      generalize L.getD j 0 = v at *
      go_upto_region 4 with fail
      have E1 := hid (HQ.out.on (Below.refl _ _).drew)
      clear HQ
      refine wp_region_held_drew (S := fun w => Cel w g5 59 (u32s L)) (by kernel_rfl) (E1.out.get 0 rfl) (fun hHeld => ?_)
      generalize World.drew _ = w3 at *
      refine wpAnyH_take (i := 0) (oi := { dst := some 11, op := Op.move (Operand.tmp 0), type := 25, pos := "outright.go:43", after := #[], guard := none }) (v := .pointer (some ⟨p.g, 0, none⟩)) rfl (by kernel_rfl) (by kernel_rfl) (by kernel_rfl) (fun _ _ _ h => h) (Or.inl ⟨by rfl, by intro w hSw; go_simp⟩) (by assumption) ?_
      simp only [Act.put, List.setIfInBounds_toArray, List.set_cons_zero, List.set_cons_succ]
      refine wpAnyH_take (i := 2) (oi := { dst := some 13, op := Op.move (Operand.tmp 1), type := 3, pos := "outright.go:43", after := #[], guard := none }) (v := .int .i64 s) rfl (by kernel_rfl) (by kernel_rfl) (by kernel_rfl) (fun _ _ _ h => h) (Or.inl ⟨by rfl, by intro w hSw; go_simp⟩) (by assumption) ?_
      simp only [Act.put, List.setIfInBounds_toArray, List.set_cons_zero, List.set_cons_succ]
      refine wpAnyH_take (i := 3) (oi := { dst := some 14, op := Op.build 82 #[(0, Operand.const (Value.bool true)), (1, Operand.tmp 13)], type := 82, pos := "outright.go:43", after := #[{ on := 2, ground := Ground.data }], guard := none }) (v := .agg #[.bool true, .int .i64 s]) rfl (by kernel_rfl) (by kernel_rfl) (by kernel_rfl) (fun _ _ _ h => h) (Or.inl ⟨by rfl, by intro w hSw; go_simp⟩) (by assumption) ?_
      simp only [Act.put, List.setIfInBounds_toArray, List.set_cons_zero, List.set_cons_succ]
      refine wpAnyH_take (i := 4) (oi := { dst := some 15, op := Op.move (Operand.tmp 6), type := 3, pos := "outright.go:43", after := #[], guard := none }) (v := .int .i64 (j : Int)) rfl (by kernel_rfl) (by kernel_rfl) (by kernel_rfl) (fun _ _ _ h => h) (Or.inl ⟨by rfl, by intro w hSw; go_simp⟩) (by assumption) ?_
      simp only [Act.put, List.setIfInBounds_toArray, List.set_cons_zero, List.set_cons_succ]
      refine wpAnyH_take (i := 5) (oi := { dst := some 16, op := Op.binOp BinOp.add 3 (Operand.const (Value.int IntKind.i64 11)) (Operand.tmp 15) 3, type := 3, pos := "outright.go:43", after := #[{ on := 4, ground := Ground.data }], guard := none }) (v := .int .i64 (11 + (j : Int))) rfl (by kernel_rfl) (by kernel_rfl) (by kernel_rfl) (fun _ _ _ h => h) (Or.inl ⟨by rfl, by intro w hSw; go_simp⟩) (by assumption) ?_
      simp only [Act.put, List.setIfInBounds_toArray, List.set_cons_zero, List.set_cons_succ]
      refine wpAnyH_take (i := 6) (oi := { dst := some 17, op := Op.move (Operand.tmp 6), type := 3, pos := "outright.go:43", after := #[], guard := none }) (v := .int .i64 (j : Int)) rfl (by kernel_rfl) (by kernel_rfl) (by kernel_rfl) (fun _ _ _ h => h) (Or.inl ⟨by rfl, by intro w hSw; go_simp⟩) (by assumption) ?_
      simp only [Act.put, List.setIfInBounds_toArray, List.set_cons_zero, List.set_cons_succ]
      refine wpAnyH_take (i := 7) (oi := { dst := some 18, op := Op.indexAddr 59 (Operand.tmp 5) (Operand.tmp 17), type := 0, pos := "outright.go:43", after := #[{ on := 6, ground := Ground.data }], guard := none }) (v := .pointer (some ⟨g5, j, none⟩)) rfl (by kernel_rfl) (by kernel_rfl) (by kernel_rfl) (fun _ _ _ h => h) (Or.inl ⟨by rfl, by intro w hSw; go_simp⟩) (by assumption) ?_
      simp only [Act.put, List.setIfInBounds_toArray, List.set_cons_zero, List.set_cons_succ]
      refine wpAnyH_take (i := 8) (oi := { dst := some 19, op := Op.load 29 (Operand.tmp 18), type := 29, pos := "outright.go:43", after := #[{ on := 7, ground := Ground.data }], guard := none }) (v := .int .u32 v) rfl (by kernel_rfl) (by kernel_rfl) (by kernel_rfl) (fun _ _ _ h => h) (Or.inl ⟨by rfl, by intro w hSw; have hc := HCJ.out w hSw; go_simp⟩) (by assumption) ?_
      simp only [Act.put, List.setIfInBounds_toArray, List.set_cons_zero, List.set_cons_succ]
      refine wpAnyH_ready (rs := [1]) (by kernel_rfl) (by simp) (AllReadyH.cons (o := { dst := some 12, op := Op.call { callee := Callee.value (Operand.func 25), args := #[Operand.tmp 11], argTypes := #[25] }, type := 67, pos := "outright.go:43", after := #[{ on := 0, ground := Ground.data }], guard := none }) rfl (fun KQ hK => ?_) AllReadyH.nil)
      go_simp
      refine (HMm.out _ _ E1.out.db).mono ?_
      rintro e w4 ⟨rfl, rfl⟩
      go_wp2_with fail
      refine hK.out _ _ (E1.out.get 0 rfl) (fun hHeld => ?_)
      clear hK KQ
      try simp only [Act.put, List.setIfInBounds_toArray, List.set_cons_zero, List.set_cons_succ]
      refine wpAnyH_ready (rs := [9]) (by kernel_rfl) (by simp) (AllReadyH.cons (o := { dst := some 20, op := Op.call { callee := Callee.value (Operand.func 32), args := #[Operand.tmp 12, Operand.tmp 14, Operand.tmp 16, Operand.tmp 19], argTypes := #[67, 82, 3, 29] }, type := 39, pos := "outright.go:43", after := #[{ on := 1, ground := Ground.data }, { on := 3, ground := Ground.data }, { on := 5, ground := Ground.data }, { on := 8, ground := Ground.data }, { on := 1, ground := Ground.chain }], guard := none }) rfl (fun KQ hK => ?_) AllReadyH.nil)
      go_simp
      refine (HWr.out _ _ E1.out.db _ _).mono ?_
      rintro e w5 ⟨rfl, hm, hb⟩
      have E2 : Hid (DG W w5 p dn p.f.w [(g5, 59, u32s L)]) := hid (by rw [HD1.out]; exact E1.out.mem hm hb (MS.write_ns ..))
      clear hm hb E1
      go_wp2_with fail
      refine hK.out _ _ (E2.out.get 0 rfl) (fun hHeld => ?_)
      clear hK KQ
      try simp only [Act.put, List.setIfInBounds_toArray, List.set_cons_zero, List.set_cons_succ]
      refine wpAnyH_done (by kernel_rfl) ?_ _
      go_wp2_with fail
      go_roundw
      case measure => have := HJ.out; simp [intOf] <;> omega
      case rel => exact ⟨j + 1, HJ.out, by simp, hid (by rw [HDN.out]; exact E2.out)⟩
    · obtain rfl : j = 26 := by omega
      clear hlt hj
      go_wp2_with fail
      go_returns
      exact ⟨rfl, HQ.out.db, HQ.out.but⟩
theorem likewise_yes (W : World) (p p' : Dp) (d d' : DS) (h : DB W p d) (h' : DB W p' d') (hs : DS.Sim d d') :
    Calls Tryz.prog 14 #[ptr p.g, ptr p'.g] W fun e W' => e = .returned (.bool true) ∧ Below W.heap.size W W' := by
  have HW1 := hid (fun w (hb : Below W.heap.size W w) => words_any w p d (h.on hb))
  have HW2 := hid (fun w (hb : Below W.heap.size W w) => (by have := words_any w p' d' (h'.on hb); rw [hs.ws, hs.ns] at this; exact this : Calls Tryz.prog 38 #[ptr p'.g] w fun e W' => ∃ gn, e = .returned (.slice (some ⟨gn, 0, none⟩) (1 + 2 * d.m.ns) (1 + 2 * d.m.ns)) ∧ Cel W' gn 29 (u32s d.ws) ∧ w.heap.size ≤ gn ∧ Below w.heap.size w W'))
  have HM1 := hid (fun w (hb : Below W.heap.size W w) => memory_any w p d (h.on hb))
  have HM2 := hid (fun w (hb : Below W.heap.size W w) => memory_any w p' d' (h'.on hb))
  have HSm := hid (fun w (hb : Below W.heap.size W w) => (by have := same_any w p.f d.m (h.on hb).mem p'.f d'.m (h'.on hb).mem; rw [hs.same] at this; exact this : Calls Tryz.prog 44 #[ptr p.f.gm, ptr p'.f.gm] w fun x w' => x = .returned (.bool true) ∧ Below w.heap.size w w'))
  have hl : d.ws.length = 1 + 2 * d.m.ns := DS.ws_len h.ok
  have hn : d.m.ns ≤ 64 := h.ok.n64
  have HB0 := hid (Below.refl W.heap.size W)
  clear h h' hs
  generalize d.ws = L at *
  generalize hN : 1 + 2 * d.m.ns = N at *
  have hN1 : N ≤ 129 := by omega
  clear hN hn
  simp only [ptr] at *
  go_enter Tryz.func14, Tryz.ntmps14
  go_upto_region 2 with (first | (go_at_call 38; refine (HW1.out _ HB0.out).mono ?_; rintro e w1 ⟨g5, rfl, hc, _, hb⟩; have B1 := hid (And.intro (below_on HB0.out hb) hc); clear hb hc))
  go_upto_region 6 with (first | (go_at_call 38; refine (HW2.out _ B1.out.1).mono ?_; rintro e w2 ⟨g6, rfl, hc, _, hb⟩; have B2 : Hid (Below W.heap.size W w2 ∧ Cel w2 g5 29 (u32s L) ∧ Cel w2 g6 29 (u32s L)) := hid ⟨below_on B1.out.1 hb, B1.out.2.on hb, hc⟩; clear hb hc))
  clear B1 HB0 HW1 HW2
  go_loopw [7] (fun i wr => ∃ j : Nat, j ≤ N ∧ i = .int .i64 (j : Int) ∧ Hid (Below W.heap.size W wr ∧ Cel wr g5 29 (u32s L) ∧ Cel wr g6 29 (u32s L))) (fun i _ => N - (intOf i).toNat)
  case atStart => exact ⟨0, Nat.zero_le _, rfl, hid B2.out⟩
  case round =>
    obtain ⟨j, hj, rfl, HQ⟩ := hrel
    clear B2
    by_cases hlt : j < N
    · have q1 : (j : Int) < (N : Int) := by omega
      have q2 : (j : Int) ≤ 129 := by omega
      have kw2 : IntKind.wrap .i64 ((j : Int) + 1) = (j : Int) + 1 := by rw [IntKind.wrap_i64]; omega
      have HJ := hid hlt
      have HC1 := hid (fun w (hc : Cel w g5 29 (u32s L)) => u32s_at hc j (by omega))
      have HC2 := hid (fun w (hc : Cel w g6 29 (u32s L)) => u32s_at hc j (by omega))
      clear hlt hj
      generalize L.getD j 0 = v at *
      go_upto_region 8 with fail
      have E1 : Hid (Below W.heap.size W wr.drew ∧ Cel wr.drew g5 29 (u32s L) ∧ Cel wr.drew g6 29 (u32s L)) := hid ⟨HQ.out.1.drew, HQ.out.2.1.on (Below.refl _ _).drew, HQ.out.2.2.on (Below.refl _ _).drew⟩
      clear HQ
      refine wp_region_held_drew (S := fun w => Cel w g5 29 (u32s L) ∧ Cel w g6 29 (u32s L)) (by kernel_rfl) E1.out.2 (fun hHeld => ?_)
      generalize World.drew _ = w3 at *
      refine wpAnyH_take (i := 0) (oi := { dst := some 23, op := Op.move (Operand.tmp 5), type := 52, pos := "outright.go:99", after := #[], guard := none }) (v := .slice (some ⟨g5, 0, none⟩) N N) rfl (by kernel_rfl) (by kernel_rfl) (by kernel_rfl) (fun _ _ _ h => h) (Or.inl ⟨by rfl, by intro w hSw; go_simp⟩) (by assumption) ?_
      simp only [Act.put, List.setIfInBounds_toArray, List.set_cons_zero, List.set_cons_succ]
      refine wpAnyH_take (i := 1) (oi := { dst := some 24, op := Op.move (Operand.tmp 7), type := 3, pos := "outright.go:99", after := #[], guard := none }) (v := .int .i64 (j : Int)) rfl (by kernel_rfl) (by kernel_rfl) (by kernel_rfl) (fun _ _ _ h => h) (Or.inl ⟨by rfl, by intro w hSw; go_simp⟩) (by assumption) ?_
      simp only [Act.put, List.setIfInBounds_toArray, List.set_cons_zero, List.set_cons_succ]
      refine wpAnyH_take (i := 2) (oi := { dst := some 25, op := Op.indexAddr 52 (Operand.tmp 23) (Operand.tmp 24), type := 0, pos := "outright.go:99", after := #[{ on := 0, ground := Ground.data }, { on := 1, ground := Ground.data }], guard := none }) (v := .pointer (some ⟨g5, j, none⟩)) rfl (by kernel_rfl) (by kernel_rfl) (by kernel_rfl) (fun _ _ _ h => h) (Or.inl ⟨by rfl, by intro w hSw; go_simp⟩) (by assumption) ?_
      simp only [Act.put, List.setIfInBounds_toArray, List.set_cons_zero, List.set_cons_succ]
      refine wpAnyH_take (i := 3) (oi := { dst := some 26, op := Op.load 29 (Operand.tmp 25), type := 29, pos := "outright.go:99", after := #[{ on := 2, ground := Ground.data }], guard := none }) (v := .int .u32 v) rfl (by kernel_rfl) (by kernel_rfl) (by kernel_rfl) (fun _ _ _ h => h) (Or.inl ⟨by rfl, by intro w hSw; have hc := HC1.out w hSw.1; go_simp⟩) (by assumption) ?_
      simp only [Act.put, List.setIfInBounds_toArray, List.set_cons_zero, List.set_cons_succ]
      refine wpAnyH_take (i := 4) (oi := { dst := some 27, op := Op.move (Operand.tmp 6), type := 52, pos := "outright.go:99", after := #[], guard := none }) (v := .slice (some ⟨g6, 0, none⟩) N N) rfl (by kernel_rfl) (by kernel_rfl) (by kernel_rfl) (fun _ _ _ h => h) (Or.inl ⟨by rfl, by intro w hSw; go_simp⟩) (by assumption) ?_
      simp only [Act.put, List.setIfInBounds_toArray, List.set_cons_zero, List.set_cons_succ]
      refine wpAnyH_take (i := 5) (oi := { dst := some 28, op := Op.move (Operand.tmp 7), type := 3, pos := "outright.go:99", after := #[], guard := none }) (v := .int .i64 (j : Int)) rfl (by kernel_rfl) (by kernel_rfl) (by kernel_rfl) (fun _ _ _ h => h) (Or.inl ⟨by rfl, by intro w hSw; go_simp⟩) (by assumption) ?_
      simp only [Act.put, List.setIfInBounds_toArray, List.set_cons_zero, List.set_cons_succ]
      refine wpAnyH_take (i := 6) (oi := { dst := some 29, op := Op.indexAddr 52 (Operand.tmp 27) (Operand.tmp 28), type := 0, pos := "outright.go:99", after := #[{ on := 4, ground := Ground.data }, { on := 5, ground := Ground.data }], guard := none }) (v := .pointer (some ⟨g6, j, none⟩)) rfl (by kernel_rfl) (by kernel_rfl) (by kernel_rfl) (fun _ _ _ h => h) (Or.inl ⟨by rfl, by intro w hSw; go_simp⟩) (by assumption) ?_
      simp only [Act.put, List.setIfInBounds_toArray, List.set_cons_zero, List.set_cons_succ]
      refine wpAnyH_take (i := 7) (oi := { dst := some 30, op := Op.load 29 (Operand.tmp 29), type := 29, pos := "outright.go:99", after := #[{ on := 6, ground := Ground.data }], guard := none }) (v := .int .u32 v) rfl (by kernel_rfl) (by kernel_rfl) (by kernel_rfl) (fun _ _ _ h => h) (Or.inl ⟨by rfl, by intro w hSw; have hc := HC2.out w hSw.2; go_simp⟩) (by assumption) ?_
      simp only [Act.put, List.setIfInBounds_toArray, List.set_cons_zero, List.set_cons_succ]
      refine wpAnyH_take (i := 8) (oi := { dst := some 31, op := Op.binOp BinOp.neq 29 (Operand.tmp 26) (Operand.tmp 30) 29, type := 4, pos := "outright.go:99", after := #[{ on := 3, ground := Ground.data }, { on := 7, ground := Ground.data }], guard := none }) (v := .bool false) rfl (by kernel_rfl) (by kernel_rfl) (by kernel_rfl) (fun _ _ _ h => h) (Or.inl ⟨by rfl, by intro w hSw; go_simp⟩) (by assumption) ?_
      simp only [Act.put, List.setIfInBounds_toArray, List.set_cons_zero, List.set_cons_succ]
      refine wpAnyH_done (by kernel_rfl) ?_ _
      go_wp2_with fail
      go_roundw
      case measure => have := HJ.out; simp [intOf] <;> omega
      case rel => exact ⟨j + 1, HJ.out, by simp, hid E1.out⟩
    · obtain rfl : j = N := by omega
      clear hlt hj
      go_wp2_with (first | (go_at_call 25; refine (HM1.out _ HQ.out.1).mono ?_; rintro e w4 ⟨rfl, rfl⟩; clear HM1) | (go_at_call 25; refine (HM2.out _ HQ.out.1).mono ?_; rintro e w4 ⟨rfl, rfl⟩; clear HM2) | (go_at_call 44; refine (HSm.out _ HQ.out.1).mono ?_; rintro e w5 ⟨rfl, hb⟩; have BZ := hid (below_on HQ.out.1 hb); clear hb))
      go_ret
      exact ⟨rfl, BZ.out⟩
end Go.Proofs.YtllcbgdcepfdkaaGreatDoor
