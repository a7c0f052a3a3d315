import Derived.Test.YtdfnbcbnmiohnaaGreatDoorP29
namespace Go.Proofs.YtdfnbcbnmiohnaaGreatDoor
open Go.RowKit
set_option maxRecDepth 100000
set_option maxHeartbeats 8000000
attribute [-simp] Tryz.isAgg44 Tryz.sizeOf44 Tryz.zeroValue44
theorem size48 : (Tryz.prog.info? 48).map (·.size) = some 6 := by kernel_rfl
theorem under48 : Tryz.prog.underlying 48 = some (.struct (Tryz.prog.fieldsOf 48)) := by kernel_rfl
theorem u32sA (L : List Int) : (u32s L).all (·.oneCell') = true := List.all_eq_true.2 (fun v hv => by simp only [u32s, List.mem_map] at hv; obtain ⟨x, _, rfl⟩ := hv; rfl)
theorem own_at {W w : World} {x : Value} {L : List Int} (h : OwnW W w x L) : ∃ ao c, x = .slice ao L.length c ∧ H.At w .u32 ao L := by
  rcases h.2 with ⟨e, hn⟩ | ⟨g, cap, cur, e, _, h2, _, _, _, h6⟩
  · have : L = [] := List.length_eq_zero_iff.1 hn
    subst this
    exact ⟨none, 0, e, .inl rfl⟩
  · refine ⟨some ⟨g, 0, none⟩, cap, e, .inr ⟨g, 0, rfl, (Array.getElem?_eq_some_iff.1 h2).1, fun i hi => ?_⟩⟩
    rw [Nat.zero_add, cell_of_row w g i _ 43 (0, 0) h2]
    have h7 : (u32s L)[i]? = some (.int .u32 (L.getD i 0)) := by rw [u32s, List.getElem?_map, List.getD_eq_getElem?_getD, List.getElem?_eq_getElem hi]; rfl
    rw [← h6, List.getElem?_take, if_pos (by omega)] at h7
    simpa using h7
/-- The operation of a step. -/
def stepO (t v : Int) : Q.MOp := ⟨wi t 1 4, v, opW (wi t 1 4) v⟩
theorem stepO_ok (t v : Int) : (stepO t v).Ok := by
  unfold stepO wi opW Q.MOp.Ok Q.pgN
  refine ⟨by simp only; omega, by simp only; omega, ?_⟩
  simp only
  split <;> simp
open Classical in
noncomputable def DS.exE (d : DS) (s : Int) : Int := if H.LoadOk (d.st s) then 0 else 20
open Classical in
noncomputable def DS.exL (d : DS) (s : Int) (o : Q.MOp) : List Int := if H.LoadOk (d.st s) then Q.exS (d.st s) o.wds else List.replicate 26 0
/-- The digest is extended, where one stands there. -/
noncomputable def DS.ext (d : DS) (s : Int) (o : Q.MOp) : DS := if d.exE s = 0 then d.dig s (d.exL s o) 26 else d
theorem exL_len (d : DS) (s : Int) (o : Q.MOp) : (d.exL s o).length = 26 := by
  unfold DS.exL
  split
  · exact Q.exS_len (d.st_length s)
  · simp
theorem ext_fn (W : World) (d : DS) (s : Int) (hU : d.m.U) (hT : H.Tab W) (h2 : 1 < W.heap.size) (o : Q.MOp) (ho : o.Ok) (ao : Option Addr) (c : Nat) (hat : H.At W .u32 ao o.ws) :
    Calls Tryz.prog 57 #[.agg (u32s (d.st s)).toArray, .agg #[.int .i64 o.k, .int .u32 o.a, .slice ao o.ws.length c]] W fun e W' => e = .returned (.tuple #[.agg (u32s (d.exL s o)).toArray, .int .i64 (d.exE s)]) ∧ Below W.heap.size W W' := by
  by_cases hk : H.LoadOk (d.st s)
  · have e1 : d.exL s o = Q.exS (d.st s) o.wds := by unfold DS.exL; rw [if_pos hk]
    have e2 : d.exE s = 0 := by unfold DS.exE; rw [if_pos hk]
    rw [e1, e2]
    exact Q.extend_gen W hT h2 (d.st s) (d.st_length s) (DS.st_wds hU s) hk o ho ao c hat
  · have e1 : d.exL s o = List.replicate 26 0 := by unfold DS.exL; rw [if_neg hk]
    have e2 : d.exE s = 20 := by unfold DS.exE; rw [if_neg hk]
    rw [e1, e2]
    exact Q.extend_no W (d.st s) (d.st_length s) (DS.st_wds hU s) hk o ho ao c
theorem exE_cases (d : DS) (s : Int) : d.exE s = 0 ∨ d.exE s = 20 := by unfold DS.exE; split <;> simp
theorem extend_l (W : World) (p : Dp) (d : DS) (h : DB W p d) (hU : d.m.U) (hG : Gl W p) (k a b t f v : Int) (a0 : 0 ≤ a) (a1 : a < 4294967296) :
    Calls Tryz.prog 18 #[ptr p.g, opV k a b t f v] W fun e W' => e = .returned (.tuple #[]) ∧ DB W' p (d.ext a (stepO t v)) ∧ ButL p.f.w W W' := by
  obtain ⟨Z, hZ⟩ : ∃ Z : List Int, Z = List.replicate 26 0 := ⟨_, rfl⟩
  have hZl : Z.length = 26 := by rw [hZ]; simp
  have hz : ∀ w, (zeroValue 44).run Tryz.prog w = .ok (.agg (u32s Z).toArray) w := fun w => by rw [Tryz.zeroValue44, hZ]; rfl
  clear hZ
  have D0 := hid (((DG.startw h).new 48 (opC k a b t f v)).new 44 (u32s Z))
  have HMm := hid (fun w (hw : DB w p d) => memory_any w p d hw)
  have HFr := hid (fun w => lframe_any w a a0 a1)
  have HPk := hid (fun w (hw : DB w p d) (off : Int) => (peek_any w p.f d.m hw.mem true a off))
  have HOp := hid (fun w => operation_any w k a b t f v)
  have HWF := hid (fun k (hk : k ∈ p.f.w) => (show k ∈ p.all from by simp only [Dp.all, List.mem_cons]; exact Or.inr (Or.inr (Fp.w_all hk))))
  have HEx := hid (fun w (hg : Gl w p) ao c (hat : H.At w .u32 ao (opW (wi t 1 4) v)) => ext_fn w d a hU hg.tab hg.sz (stepO t v) (stepO_ok t v) ao c hat)
  simp only [stepO] at HEx
  have HGl := hid (fun w L (kk : DG W w p d p.f.w L) => hG.step kk.but HWF.out)
  have HGt := hid (fun j hj => d.st_get a j hj)
  have hL := d.st_length a
  have hXl := exL_len d a (stepO t v)
  have HLa := hid (fun w (hw : DB w p d) => lay_l w p d hw a a0 a1 (d.exL a (stepO t v)) hXl)
  have hEc := exE_cases d a
  have HExt : Hid (d.ext a (stepO t v) = if d.exE a = 0 then d.dig a (d.exL a (stepO t v)) 26 else d) := hid rfl
  rw [HExt.out]
  clear HExt h hU hG a0 a1
  simp only [stepO] at *
  generalize opW (wi t 1 4) v = OL at *
  generalize wi t 1 4 = kk at *
  generalize DS.exL d a _ = XS at *
  generalize d.dig a XS 26 = dX at *
  generalize d.exE a = xe at *
  generalize d.st a = S at *
  generalize hfin : (if xe = 0 then dX else d) = fin
  have HFin := hid hfin
  clear hfin
  simp only [opV, opC, ptr, fr] at *
  go_enter Tryz.func18, Tryz.ntmps18
  go_upto_region 2 with fail
  generalize (World.alloc _ _).alloc _ = X at *
  simp only [World.size_alloc] at D0 ⊢
  generalize hg : W.heap.size = g3 at D0 ⊢
  have HG := hid hg
  clear hg
  go_upto_region 3 with fail
  go_loopw [5] (fun i wr => ∃ j : Nat, j ≤ 26 ∧ i = .int .i64 (j : Int) ∧ Hid (DG W wr p d p.f.w [(g3 + 1, 44, u32s (mix S Z j)), (g3, 48, [.int .i64 k, .int .u32 a, .int .u32 b, .int .i64 t, .int .i64 f, .int .u32 v])])) (fun i _ => 26 - (intOf i).toNat)
  case atStart => exact ⟨0, Nat.zero_le _, rfl, hid (by rw [mix_zero]; exact D0.out)⟩
  case round =>
    obtain ⟨j, hj, rfl, HQ⟩ := hrel
    clear D0
    by_cases hlt : j < 26
    · have q1 : (j : Int) < 26 := by omega
      have kw : IntKind.wrap .i64 (11 + (j : Int)) = 11 + (j : Int) := by rw [IntKind.wrap_i64]; omega
      have kw2 : IntKind.wrap .i64 ((j : Int) + 1) = (j : Int) + 1 := by rw [IntKind.wrap_i64]; omega
      have HJ := hid hlt
      have HG1 := hid (HGt.out j hlt)
      clear hlt hj
      generalize hwd : d.m.word true a (11 + (j : Int)) = wd at HG1
      have HWd := hid hwd
      clear hwd
      go_upto_region 5 with fail
      have E1 := hid (HQ.out.on (Below.refl _ _).drew)
      clear HQ
      refine wp_region_held_drew (S := fun w => Cel w g3 48 [.int .i64 k, .int .u32 a, .int .u32 b, .int .i64 t, .int .i64 f, .int .u32 v]) (by kernel_rfl) (E1.out.get 1 rfl) (fun hHeld => ?_)
      generalize World.drew _ = w3 at *
      refine wpAnyH_take (i := 0) (oi := { dst := some 12, op := Op.move (Operand.tmp 5), type := 3, pos := "law.go:88", after := #[], guard := none }) (v := .int .i64 (j : Int)) rfl (by kernel_rfl) (by kernel_rfl) (by kernel_rfl) (fun _ _ _ h => h) (Or.inl ⟨by rfl, by intro w hSw; go_simp⟩) (by assumption) ?_
      simp only [Act.put, List.setIfInBounds_toArray, List.set_cons_zero, List.set_cons_succ]
      refine wpAnyH_take (i := 1) (oi := { dst := some 13, op := Op.move (Operand.tmp 0), type := 23, pos := "law.go:88", after := #[], guard := none }) (v := .pointer (some ⟨p.g, 0, none⟩)) rfl (by kernel_rfl) (by kernel_rfl) (by kernel_rfl) (fun _ _ _ h => h) (Or.inl ⟨by rfl, by intro w hSw; go_simp⟩) (by assumption) ?_
      simp only [Act.put, List.setIfInBounds_toArray, List.set_cons_zero, List.set_cons_succ]
      refine wpAnyH_take (i := 3) (oi := { dst := some 15, op := Op.fieldAddr 48 (Operand.tmp 3) 1, type := 0, pos := "law.go:88", after := #[], guard := none }) (v := .pointer (some ⟨g3, 1, none⟩)) rfl (by kernel_rfl) (by kernel_rfl) (by kernel_rfl) (fun _ _ _ h => h) (Or.inl ⟨by rfl, by intro w hSw; go_simp⟩) (by assumption) ?_
      simp only [Act.put, List.setIfInBounds_toArray, List.set_cons_zero, List.set_cons_succ]
      refine wpAnyH_take (i := 4) (oi := { dst := some 16, op := Op.load 43 (Operand.tmp 15), type := 43, pos := "law.go:88", after := #[{ on := 3, ground := Ground.data }], guard := none }) (v := .int .u32 a) rfl (by kernel_rfl) (by kernel_rfl) (by kernel_rfl) (fun _ _ _ h => h) (Or.inl ⟨by rfl, by intro w hSw; have hc : w.cell? ⟨g3, 1, none⟩ = some (.int .u32 a) := hSw.cell 1; go_simp⟩) (by assumption) ?_
      simp only [Act.put, List.setIfInBounds_toArray, List.set_cons_zero, List.set_cons_succ]
      refine wpAnyH_take (i := 6) (oi := { dst := some 18, op := Op.move (Operand.tmp 5), type := 3, pos := "law.go:88", after := #[], guard := none }) (v := .int .i64 (j : Int)) rfl (by kernel_rfl) (by kernel_rfl) (by kernel_rfl) (fun _ _ _ h => h) (Or.inl ⟨by rfl, by intro w hSw; go_simp⟩) (by assumption) ?_
      simp only [Act.put, List.setIfInBounds_toArray, List.set_cons_zero, List.set_cons_succ]
      refine wpAnyH_take (i := 7) (oi := { dst := some 19, op := Op.binOp BinOp.add 3 (Operand.const (Value.int IntKind.i64 11)) (Operand.tmp 18) 3, type := 3, pos := "law.go:88", after := #[{ on := 6, ground := Ground.data }], guard := none }) (v := .int .i64 (11 + (j : Int))) rfl (by kernel_rfl) (by kernel_rfl) (by kernel_rfl) (fun _ _ _ h => h) (Or.inl ⟨by rfl, by intro w hSw; go_simp⟩) (by assumption) ?_
      simp only [Act.put, List.setIfInBounds_toArray, List.set_cons_zero, List.set_cons_succ]
      refine wpAnyH_ready (rs := [2]) (by kernel_rfl) (by simp) (AllReadyH.cons (o := { dst := some 14, op := Op.call { callee := Callee.value (Operand.func 28), args := #[Operand.tmp 13], argTypes := #[23] }, type := 36, pos := "law.go:88", after := #[{ on := 1, ground := Ground.data }], guard := none }) rfl (fun KQ hK => ?_) AllReadyH.nil)
      go_simp
      refine (HMm.out _ E1.out.db).mono ?_
      rintro e w4 ⟨rfl, rfl⟩
      go_wp2_with fail
      refine hK.out _ _ (E1.out.get 1 rfl) (fun hHeld => ?_)
      clear hK KQ
      try simp only [Act.put, List.setIfInBounds_toArray, List.set_cons_zero, List.set_cons_succ]
      refine wpAnyH_ready (rs := [5]) (by kernel_rfl) (by simp) (AllReadyH.cons (o := { dst := some 17, op := Op.call { callee := Callee.value (Operand.func 26), args := #[Operand.tmp 16], argTypes := #[43] }, type := 64, pos := "law.go:88", after := #[{ on := 4, ground := Ground.data }, { on := 2, ground := Ground.chain }], guard := none }) rfl (fun KQ hK => ?_) AllReadyH.nil)
      go_simp
      refine (HFr.out _).mono ?_
      rintro e w4 ⟨rfl, hb⟩
      have E2 := hid (E1.out.on hb)
      clear hb E1
      go_wp2_with fail
      refine hK.out _ _ (E2.out.get 1 rfl) (fun hHeld => ?_)
      clear hK KQ
      try simp only [Act.put, List.setIfInBounds_toArray, List.set_cons_zero, List.set_cons_succ]
      refine wpAnyH_ready (rs := [8]) (by kernel_rfl) (by simp) (AllReadyH.cons (o := { dst := some 20, op := Op.call { callee := Callee.value (Operand.func 25), args := #[Operand.tmp 14, Operand.tmp 17, Operand.tmp 19], argTypes := #[36, 64, 3] }, type := 43, pos := "law.go:88", after := #[{ on := 2, ground := Ground.data }, { on := 5, ground := Ground.data }, { on := 7, ground := Ground.data }, { on := 5, ground := Ground.chain }], guard := none }) rfl (fun KQ hK => ?_) AllReadyH.nil)
      go_simp
      refine (HPk.out _ E2.out.db _).mono ?_
      rintro e w5 ⟨rfl, hb⟩
      have E3 := hid (E2.out.on hb)
      clear hb E2
      rw [HWd.out]
      go_wp2_with fail
      refine hK.out _ _ (E3.out.get 1 rfl) (fun hHeld => ?_)
      clear hK KQ
      try simp only [Act.put, List.setIfInBounds_toArray, List.set_cons_zero, List.set_cons_succ]
      refine wpAnyH_take (i := 9) (oi := { dst := some 21, op := Op.indexAddr 44 (Operand.tmp 4) (Operand.tmp 12), type := 0, pos := "law.go:88", after := #[{ on := 0, ground := Ground.data }, { on := 0, ground := Ground.phase }, { on := 1, ground := Ground.phase }, { on := 2, ground := Ground.phase }, { on := 3, ground := Ground.phase }, { on := 4, ground := Ground.phase }, { on := 5, ground := Ground.phase }, { on := 6, ground := Ground.phase }, { on := 7, ground := Ground.phase }, { on := 8, ground := Ground.phase }], guard := none }) (v := .pointer (some ⟨g3 + 1, j, none⟩)) rfl (by kernel_rfl) (by kernel_rfl) (by kernel_rfl) (fun _ _ _ h => h) (Or.inl ⟨by rfl, by intro w hSw; go_simp⟩) (by assumption) ?_
      simp only [Act.put, List.setIfInBounds_toArray, List.set_cons_zero, List.set_cons_succ]
      refine wpAnyH_ready (rs := [10]) (by kernel_rfl) (by simp) (AllReadyH.cons (o := { dst := none, op := Op.store 43 (Operand.tmp 21) (Operand.tmp 20), type := 0, pos := "law.go:88", after := #[{ on := 9, ground := Ground.data }, { on := 8, ground := Ground.data }, { on := 8, ground := Ground.chain }, { on := 0, ground := Ground.phase }, { on := 1, ground := Ground.phase }, { on := 2, ground := Ground.phase }, { on := 3, ground := Ground.phase }, { on := 4, ground := Ground.phase }, { on := 5, ground := Ground.phase }, { on := 6, ground := Ground.phase }, { on := 7, ground := Ground.phase }, { on := 8, ground := Ground.phase }], guard := none }) rfl (fun KQ hK => ?_) AllReadyH.nil)
      (obtain ⟨y, z0⟩ := mix_cell (E3.out.get 0 rfl) (by have := HJ.out; omega) (by omega); have z1 := (E3.out.get 0 rfl).free j; go_simp)
      have E4 := hid (E3.out.put (fun q hq => by simp only [List.mem_cons, List.not_mem_nil, or_false] at hq; subst hq; simp only; omega) ((E3.out.get 0 rfl).setCell j (.int .u32 wd)) (.setCell _ _ _ _ (by simp)))
      rw [mix_set S Z j wd (by have := HJ.out; omega) (by omega) HG1.out] at E4
      have E5 := hid E4.out
      clear E4 E3 z0 z1
      generalize World.setCell _ _ _ = w7 at *
      refine hK.out _ _ (E5.out.get 1 rfl) (fun hHeld => ?_)
      clear hK KQ
      try simp only [Act.put]
      refine wpAnyH_done (by kernel_rfl) ?_ _
      go_wp2_with fail
      go_roundw
      case measure => have := HJ.out; simp [intOf] <;> omega
      case rel => exact ⟨j + 1, HJ.out, by simp, hid E5.out⟩
    · have hj' : j = 26 := by omega
      subst hj'
      clear hlt hj HGt HPk
      rw [show ((26 : Nat) : Int) = 26 from rfl]
      have hmx : mix S Z 26 = S := by have := mix_all S Z (by omega); rw [hL] at this; exact this
      rw [hmx] at HQ
      clear hmx
      go_upto_region 6 with fail
      have E0 := hid (HQ.out.on (Below.refl _ _).drew)
      clear HQ
      refine wp_region_held_drew (S := fun w => Cel w (g3 + 1) 44 (u32s S) ∧ Cel w g3 48 [.int .i64 k, .int .u32 a, .int .u32 b, .int .i64 t, .int .i64 f, .int .u32 v]) (by kernel_rfl) ⟨E0.out.get 0 rfl, E0.out.get 1 rfl⟩ (fun hHeld => ?_)
      generalize World.drew _ = x99 at *
      refine wpAnyH_take (i := 0) (oi := { dst := some 23, op := Op.load 44 (Operand.tmp 4), type := 44, pos := "law.go:90", after := #[], guard := none }) (v := .agg (u32s S).toArray) rfl (by kernel_rfl) (by kernel_rfl) (by kernel_rfl) (fun _ _ _ h => h) (yieldsIf_load_mid (by rfl) _ _ rfl _ _ rfl _ _ (fun w hSw => hSw.1.range) under44 rfl (by rw [u32s, List.length_map, hL]; exact size44)) (by assumption) ?_
      simp only [Act.put, List.setIfInBounds_toArray, List.set_cons_zero, List.set_cons_succ]
      refine wpAnyH_take (i := 1) (oi := { dst := some 24, op := Op.load 48 (Operand.tmp 3), type := 48, pos := "law.go:90", after := #[], guard := none }) (v := .agg #[.int .i64 k, .int .u32 a, .int .u32 b, .int .i64 t, .int .i64 f, .int .u32 v]) rfl (by kernel_rfl) (by kernel_rfl) (by kernel_rfl) (fun _ _ _ h => h) (yieldsIf_load_mid (by rfl) _ _ rfl _ _ rfl _ _ (fun w hSw => hSw.2.range) under48 rfl (by rw [size48]; rfl)) (by assumption) ?_
      simp only [Act.put, List.setIfInBounds_toArray, List.set_cons_zero, List.set_cons_succ]
      refine wpAnyH_ready (rs := [2, 7]) (by kernel_rfl) (by simp) (AllReadyH.cons (o := { dst := some 25, op := Op.call { callee := Callee.value (Operand.func 19), args := #[Operand.tmp 24], argTypes := #[48] }, type := 53, pos := "law.go:90", after := #[{ on := 1, ground := Ground.data }], guard := none }) rfl (fun KQ hK => ?_) (AllReadyH.cons (o := { dst := some 6, op := Op.alloc 44, type := 0, pos := "law.go:90", after := #[], guard := none }) rfl (fun KQ hK => ?_) AllReadyH.nil))
      · go_simp
        refine (HOp.out _).mono ?_
        rintro e x1 ⟨xs, rfl, hO, hb⟩
        have F1 := hid (E0.out.on hb)
        obtain ⟨ao, cc, rfl, hA⟩ := own_at hO
        have A1 := hid hA
        clear hb hO hA E0
        go_wp2_with fail
        refine hK.out _ _ ⟨F1.out.get 0 rfl, F1.out.get 1 rfl⟩ (fun hHeld => ?_)
        clear hK KQ
        try simp only [Act.put, List.setIfInBounds_toArray, List.set_cons_zero, List.set_cons_succ]
        refine wpAnyH_ready (rs := [3, 7]) (by kernel_rfl) (by simp) (AllReadyH.cons (o := { dst := some 26, op := Op.call { callee := Callee.value (Operand.func 57), args := #[Operand.tmp 23, Operand.tmp 25], argTypes := #[44, 53] }, type := 106, pos := "law.go:90", after := #[{ on := 0, ground := Ground.data }, { on := 2, ground := Ground.data }, { on := 2, ground := Ground.chain }], guard := none }) rfl (fun KQ hK => ?_) (AllReadyH.cons (o := { dst := some 6, op := Op.alloc 44, type := 0, pos := "law.go:90", after := #[], guard := none }) rfl (fun KQ hK => ?_) AllReadyH.nil))
        · go_simp
          refine (HEx.out _ (HGl.out _ _ F1.out) ao cc A1.out).mono ?_
          rintro e x2 ⟨rfl, hb⟩
          have F2 := hid (F1.out.on hb)
          clear hb F1
          go_wp2_with fail
          refine hK.out _ _ ⟨F2.out.get 0 rfl, F2.out.get 1 rfl⟩ (fun hHeld => ?_)
          clear hK KQ
          try simp only [Act.put, List.setIfInBounds_toArray, List.set_cons_zero, List.set_cons_succ]
          refine wpAnyH_take (i := 4) (oi := { dst := some 22, op := Op.move (Operand.tmp 26), type := 106, pos := "law.go:90", after := #[{ on := 3, ground := Ground.data }], guard := none }) (v := .tuple #[.agg (u32s XS).toArray, .int .i64 xe]) rfl (by kernel_rfl) (by kernel_rfl) (by kernel_rfl) (fun _ _ _ h => h) (Or.inl ⟨by rfl, by intro w hSw; go_simp⟩) (by assumption) ?_
          simp only [Act.put, List.setIfInBounds_toArray, List.set_cons_zero, List.set_cons_succ]
          refine wpAnyH_take (i := 5) (oi := { dst := some 27, op := Op.extract (Operand.tmp 22) 0, type := 44, pos := "law.go:90", after := #[{ on := 4, ground := Ground.data }], guard := none }) (v := .agg (u32s XS).toArray) rfl (by kernel_rfl) (by kernel_rfl) (by kernel_rfl) (fun _ _ _ h => h) (Or.inl ⟨by rfl, by intro w hSw; go_simp⟩) (by assumption) ?_
          simp only [Act.put, List.setIfInBounds_toArray, List.set_cons_zero, List.set_cons_succ]
          refine wpAnyH_take (i := 6) (oi := { dst := some 28, op := Op.extract (Operand.tmp 22) 1, type := 37, pos := "law.go:90", after := #[{ on := 4, ground := Ground.data }, { on := 8, ground := Ground.gcOnly Departure.lateStores }], guard := none }) (v := .int .i64 xe) rfl (by kernel_rfl) (by kernel_rfl) (by kernel_rfl) (fun _ _ _ h => h) (Or.inl ⟨by rfl, by intro w hSw; go_simp⟩) (by assumption) ?_
          simp only [Act.put, List.setIfInBounds_toArray, List.set_cons_zero, List.set_cons_succ]
          refine wpAnyH_ready (rs := [7]) (by kernel_rfl) (by simp) (AllReadyH.cons (o := { dst := some 6, op := Op.alloc 44, type := 0, pos := "law.go:90", after := #[], guard := none }) rfl (fun KQ hK => ?_) AllReadyH.nil)
          go_simp
          have HLt : Hid (g3 + 1 < x2.heap.size) := hid (F2.out.get 0 rfl).lt
          have F3 := hid (F2.out.new 44 (u32s Z))
          have A3 := hid (A1.out.below (below_one _ (.cells (u32s Z).toArray 44)))
          clear F2
          generalize World.alloc _ _ = x3 at *
          generalize x2.heap.size = g6 at *
          refine hK.out _ _ ⟨F3.out.get 1 rfl, F3.out.get 2 rfl⟩ (fun hHeld => ?_)
          clear hK KQ
          try simp only [Act.put, List.setIfInBounds_toArray, List.set_cons_zero, List.set_cons_succ]
          refine wpAnyH_ready (rs := [8]) (by kernel_rfl) (by simp) (AllReadyH.cons (o := { dst := none, op := Op.store 44 (Operand.tmp 6) (Operand.tmp 27), type := 0, pos := "law.go:90", after := #[{ on := 7, ground := Ground.data }, { on := 5, ground := Ground.data }, { on := 3, ground := Ground.chain }, { on := 0, ground := Ground.phase }, { on := 1, ground := Ground.phase }, { on := 2, ground := Ground.phase }, { on := 3, ground := Ground.phase }, { on := 4, ground := Ground.phase }, { on := 5, ground := Ground.phase }, { on := 6, ground := Ground.textOnly Departure.lateStores }, { on := 7, ground := Ground.phase }], guard := none }) rfl (fun KQ hK => ?_) AllReadyH.nil)
          rw [if_pos (by rfl)]
          refine wp_store_st 44 _ _ rfl g6 (u32s XS) rfl rfl (F3.out.get 0 rfl) (by rw [u32s, List.length_map, hXl]; exact size44) (by simp [u32s, hZl, hXl]) (u32sA XS) ?_
          intro x4 hc hb hs
          have F4 := hid (F3.out.put (fun q hq => by simp only [List.mem_cons, List.not_mem_nil, or_false] at hq; rcases hq with rfl | rfl <;> (have := HLt.out; simp only; omega)) hc hb)
          clear hc hb hs F3
          refine hK.out _ _ ⟨F4.out.get 1 rfl, F4.out.get 2 rfl⟩ (fun hHeld => ?_)
          clear hK KQ
          try simp only [Act.put]
          refine wpAnyH_ready (rs := [9]) (by kernel_rfl) (by simp) (AllReadyH.cons (o := { dst := some 7, op := Op.assign (Operand.tmp 28), type := 37, pos := "law.go:90", after := #[{ on := 6, ground := Ground.data }, { on := 8, ground := Ground.chain }, { on := 0, ground := Ground.phase }, { on := 1, ground := Ground.phase }, { on := 2, ground := Ground.phase }, { on := 3, ground := Ground.phase }, { on := 4, ground := Ground.phase }, { on := 5, ground := Ground.phase }, { on := 6, ground := Ground.phase }, { on := 7, ground := Ground.phase }, { on := 8, ground := Ground.phase }], guard := none }) rfl (fun KQ hK => ?_) AllReadyH.nil)
          go_simp
          refine hK.out _ _ ⟨F4.out.get 1 rfl, F4.out.get 2 rfl⟩ (fun hHeld => ?_)
          clear hK KQ
          try simp only [Act.put, List.setIfInBounds_toArray, List.set_cons_zero, List.set_cons_succ]
          refine wpAnyH_done (by kernel_rfl) ?_ _
          by_cases hx : xe = 0
          · subst hx
            have hf0 : fin = dX := by rw [← HFin.out]; rfl
            have c1 := (F4.out.get 2 rfl).cell 1
            simp only [List.getElem?_cons_zero, List.getElem?_cons_succ] at c1
            go_wp2_with (first | (refine wpList_load_mid rfl 44 _ rfl g6 0 rfl _ _ (F4.out.get 0 rfl).range under44 rfl (by rw [u32s, List.length_map, hXl]; exact size44) ?_) | (go_at_call 16; refine (HLa.out _ F4.out.db).mono ?_; rintro e y1 ⟨rfl, hd, hb⟩; have EZ := hid (F4.out.step hd hb (fun _ hk => hk)); clear hd hb c1))
            go_returns
            exact ⟨rfl, by rw [hf0]; exact EZ.out.db, EZ.out.but⟩
          · have hx' : (xe == 0) = false := by simpa using hx
            have hf0 : fin = d := by rw [← HFin.out, if_neg hx]
            clear hx hEc
            go_wp2_with fail
            go_returns
            exact ⟨rfl, by rw [hf0]; exact F4.out.db, F4.out.but⟩
        · go_simp
          have HLt : Hid (g3 + 1 < x1.heap.size) := hid (F1.out.get 0 rfl).lt
          have F2 := hid (F1.out.new 44 (u32s Z))
          have A2 := hid (A1.out.below (below_one _ (.cells (u32s Z).toArray 44)))
          clear F1
          generalize World.alloc _ _ = x2 at *
          generalize x1.heap.size = g6 at *
          refine hK.out _ _ ⟨F2.out.get 1 rfl, F2.out.get 2 rfl⟩ (fun hHeld => ?_)
          clear hK KQ
          try simp only [Act.put, List.setIfInBounds_toArray, List.set_cons_zero, List.set_cons_succ]
          refine wpAnyH_ready (rs := [3]) (by kernel_rfl) (by simp) (AllReadyH.cons (o := { dst := some 26, op := Op.call { callee := Callee.value (Operand.func 57), args := #[Operand.tmp 23, Operand.tmp 25], argTypes := #[44, 53] }, type := 106, pos := "law.go:90", after := #[{ on := 0, ground := Ground.data }, { on := 2, ground := Ground.data }, { on := 2, ground := Ground.chain }], guard := none }) rfl (fun KQ hK => ?_) AllReadyH.nil)
          go_simp
          refine (HEx.out _ (HGl.out _ _ F2.out) ao cc A2.out).mono ?_
          rintro e x3 ⟨rfl, hb⟩
          have F3 := hid (F2.out.on hb)
          clear hb F2
          go_wp2_with fail
          refine hK.out _ _ ⟨F3.out.get 1 rfl, F3.out.get 2 rfl⟩ (fun hHeld => ?_)
          clear hK KQ
          try simp only [Act.put, List.setIfInBounds_toArray, List.set_cons_zero, List.set_cons_succ]
          refine wpAnyH_take (i := 4) (oi := { dst := some 22, op := Op.move (Operand.tmp 26), type := 106, pos := "law.go:90", after := #[{ on := 3, ground := Ground.data }], guard := none }) (v := .tuple #[.agg (u32s XS).toArray, .int .i64 xe]) rfl (by kernel_rfl) (by kernel_rfl) (by kernel_rfl) (fun _ _ _ h => h) (Or.inl ⟨by rfl, by intro w hSw; go_simp⟩) (by assumption) ?_
          simp only [Act.put, List.setIfInBounds_toArray, List.set_cons_zero, List.set_cons_succ]
          refine wpAnyH_take (i := 5) (oi := { dst := some 27, op := Op.extract (Operand.tmp 22) 0, type := 44, pos := "law.go:90", after := #[{ on := 4, ground := Ground.data }], guard := none }) (v := .agg (u32s XS).toArray) rfl (by kernel_rfl) (by kernel_rfl) (by kernel_rfl) (fun _ _ _ h => h) (Or.inl ⟨by rfl, by intro w hSw; go_simp⟩) (by assumption) ?_
          simp only [Act.put, List.setIfInBounds_toArray, List.set_cons_zero, List.set_cons_succ]
          refine wpAnyH_take (i := 6) (oi := { dst := some 28, op := Op.extract (Operand.tmp 22) 1, type := 37, pos := "law.go:90", after := #[{ on := 4, ground := Ground.data }, { on := 8, ground := Ground.gcOnly Departure.lateStores }], guard := none }) (v := .int .i64 xe) rfl (by kernel_rfl) (by kernel_rfl) (by kernel_rfl) (fun _ _ _ h => h) (Or.inl ⟨by rfl, by intro w hSw; go_simp⟩) (by assumption) ?_
          simp only [Act.put, List.setIfInBounds_toArray, List.set_cons_zero, List.set_cons_succ]
          refine wpAnyH_ready (rs := [8]) (by kernel_rfl) (by simp) (AllReadyH.cons (o := { dst := none, op := Op.store 44 (Operand.tmp 6) (Operand.tmp 27), type := 0, pos := "law.go:90", after := #[{ on := 7, ground := Ground.data }, { on := 5, ground := Ground.data }, { on := 3, ground := Ground.chain }, { on := 0, ground := Ground.phase }, { on := 1, ground := Ground.phase }, { on := 2, ground := Ground.phase }, { on := 3, ground := Ground.phase }, { on := 4, ground := Ground.phase }, { on := 5, ground := Ground.phase }, { on := 6, ground := Ground.textOnly Departure.lateStores }, { on := 7, ground := Ground.phase }], guard := none }) rfl (fun KQ hK => ?_) AllReadyH.nil)
          rw [if_pos (by rfl)]
          refine wp_store_st 44 _ _ rfl g6 (u32s XS) rfl rfl (F3.out.get 0 rfl) (by rw [u32s, List.length_map, hXl]; exact size44) (by simp [u32s, hZl, hXl]) (u32sA XS) ?_
          intro x4 hc hb hs
          have F4 := hid (F3.out.put (fun q hq => by simp only [List.mem_cons, List.not_mem_nil, or_false] at hq; rcases hq with rfl | rfl <;> (have := HLt.out; simp only; omega)) hc hb)
          clear hc hb hs F3
          refine hK.out _ _ ⟨F4.out.get 1 rfl, F4.out.get 2 rfl⟩ (fun hHeld => ?_)
          clear hK KQ
          try simp only [Act.put]
          refine wpAnyH_ready (rs := [9]) (by kernel_rfl) (by simp) (AllReadyH.cons (o := { dst := some 7, op := Op.assign (Operand.tmp 28), type := 37, pos := "law.go:90", after := #[{ on := 6, ground := Ground.data }, { on := 8, ground := Ground.chain }, { on := 0, ground := Ground.phase }, { on := 1, ground := Ground.phase }, { on := 2, ground := Ground.phase }, { on := 3, ground := Ground.phase }, { on := 4, ground := Ground.phase }, { on := 5, ground := Ground.phase }, { on := 6, ground := Ground.phase }, { on := 7, ground := Ground.phase }, { on := 8, ground := Ground.phase }], guard := none }) rfl (fun KQ hK => ?_) AllReadyH.nil)
          go_simp
          refine hK.out _ _ ⟨F4.out.get 1 rfl, F4.out.get 2 rfl⟩ (fun hHeld => ?_)
          clear hK KQ
          try simp only [Act.put, List.setIfInBounds_toArray, List.set_cons_zero, List.set_cons_succ]
          refine wpAnyH_done (by kernel_rfl) ?_ _
          by_cases hx : xe = 0
          · subst hx
            have hf0 : fin = dX := by rw [← HFin.out]; rfl
            have c1 := (F4.out.get 2 rfl).cell 1
            simp only [List.getElem?_cons_zero, List.getElem?_cons_succ] at c1
            go_wp2_with (first | (refine wpList_load_mid rfl 44 _ rfl g6 0 rfl _ _ (F4.out.get 0 rfl).range under44 rfl (by rw [u32s, List.length_map, hXl]; exact size44) ?_) | (go_at_call 16; refine (HLa.out _ F4.out.db).mono ?_; rintro e y1 ⟨rfl, hd, hb⟩; have EZ := hid (F4.out.step hd hb (fun _ hk => hk)); clear hd hb c1))
            go_returns
            exact ⟨rfl, by rw [hf0]; exact EZ.out.db, EZ.out.but⟩
          · have hx' : (xe == 0) = false := by simpa using hx
            have hf0 : fin = d := by rw [← HFin.out, if_neg hx]
            clear hx hEc
            go_wp2_with fail
            go_returns
            exact ⟨rfl, by rw [hf0]; exact F4.out.db, F4.out.but⟩
      · go_simp
        have HLt : Hid (g3 + 1 < x99.heap.size) := hid (E0.out.get 0 rfl).lt
        have F1 := hid (E0.out.new 44 (u32s Z))
        clear E0
        generalize World.alloc _ _ = x1 at *
        generalize x99.heap.size = g6 at *
        refine hK.out _ _ ⟨F1.out.get 1 rfl, F1.out.get 2 rfl⟩ (fun hHeld => ?_)
        clear hK KQ
        try simp only [Act.put, List.setIfInBounds_toArray, List.set_cons_zero, List.set_cons_succ]
        refine wpAnyH_ready (rs := [2]) (by kernel_rfl) (by simp) (AllReadyH.cons (o := { dst := some 25, op := Op.call { callee := Callee.value (Operand.func 19), args := #[Operand.tmp 24], argTypes := #[48] }, type := 53, pos := "law.go:90", after := #[{ on := 1, ground := Ground.data }], guard := none }) rfl (fun KQ hK => ?_) AllReadyH.nil)
        go_simp
        refine (HOp.out _).mono ?_
        rintro e x2 ⟨xs, rfl, hO, hb⟩
        have F2 := hid (F1.out.on hb)
        obtain ⟨ao, cc, rfl, hA⟩ := own_at hO
        have A2 := hid hA
        clear hb hO hA F1
        go_wp2_with fail
        refine hK.out _ _ ⟨F2.out.get 1 rfl, F2.out.get 2 rfl⟩ (fun hHeld => ?_)
        clear hK KQ
        try simp only [Act.put, List.setIfInBounds_toArray, List.set_cons_zero, List.set_cons_succ]
        refine wpAnyH_ready (rs := [3]) (by kernel_rfl) (by simp) (AllReadyH.cons (o := { dst := some 26, op := Op.call { callee := Callee.value (Operand.func 57), args := #[Operand.tmp 23, Operand.tmp 25], argTypes := #[44, 53] }, type := 106, pos := "law.go:90", after := #[{ on := 0, ground := Ground.data }, { on := 2, ground := Ground.data }, { on := 2, ground := Ground.chain }], guard := none }) rfl (fun KQ hK => ?_) AllReadyH.nil)
        go_simp
        refine (HEx.out _ (HGl.out _ _ F2.out) ao cc A2.out).mono ?_
        rintro e x3 ⟨rfl, hb⟩
        have F3 := hid (F2.out.on hb)
        clear hb F2
        go_wp2_with fail
        refine hK.out _ _ ⟨F3.out.get 1 rfl, F3.out.get 2 rfl⟩ (fun hHeld => ?_)
        clear hK KQ
        try simp only [Act.put, List.setIfInBounds_toArray, List.set_cons_zero, List.set_cons_succ]
        refine wpAnyH_take (i := 4) (oi := { dst := some 22, op := Op.move (Operand.tmp 26), type := 106, pos := "law.go:90", after := #[{ on := 3, ground := Ground.data }], guard := none }) (v := .tuple #[.agg (u32s XS).toArray, .int .i64 xe]) rfl (by kernel_rfl) (by kernel_rfl) (by kernel_rfl) (fun _ _ _ h => h) (Or.inl ⟨by rfl, by intro w hSw; go_simp⟩) (by assumption) ?_
        simp only [Act.put, List.setIfInBounds_toArray, List.set_cons_zero, List.set_cons_succ]
        refine wpAnyH_take (i := 5) (oi := { dst := some 27, op := Op.extract (Operand.tmp 22) 0, type := 44, pos := "law.go:90", after := #[{ on := 4, ground := Ground.data }], guard := none }) (v := .agg (u32s XS).toArray) rfl (by kernel_rfl) (by kernel_rfl) (by kernel_rfl) (fun _ _ _ h => h) (Or.inl ⟨by rfl, by intro w hSw; go_simp⟩) (by assumption) ?_
        simp only [Act.put, List.setIfInBounds_toArray, List.set_cons_zero, List.set_cons_succ]
        refine wpAnyH_take (i := 6) (oi := { dst := some 28, op := Op.extract (Operand.tmp 22) 1, type := 37, pos := "law.go:90", after := #[{ on := 4, ground := Ground.data }, { on := 8, ground := Ground.gcOnly Departure.lateStores }], guard := none }) (v := .int .i64 xe) rfl (by kernel_rfl) (by kernel_rfl) (by kernel_rfl) (fun _ _ _ h => h) (Or.inl ⟨by rfl, by intro w hSw; go_simp⟩) (by assumption) ?_
        simp only [Act.put, List.setIfInBounds_toArray, List.set_cons_zero, List.set_cons_succ]
        refine wpAnyH_ready (rs := [8]) (by kernel_rfl) (by simp) (AllReadyH.cons (o := { dst := none, op := Op.store 44 (Operand.tmp 6) (Operand.tmp 27), type := 0, pos := "law.go:90", after := #[{ on := 7, ground := Ground.data }, { on := 5, ground := Ground.data }, { on := 3, ground := Ground.chain }, { on := 0, ground := Ground.phase }, { on := 1, ground := Ground.phase }, { on := 2, ground := Ground.phase }, { on := 3, ground := Ground.phase }, { on := 4, ground := Ground.phase }, { on := 5, ground := Ground.phase }, { on := 6, ground := Ground.textOnly Departure.lateStores }, { on := 7, ground := Ground.phase }], guard := none }) rfl (fun KQ hK => ?_) AllReadyH.nil)
        rw [if_pos (by rfl)]
        refine wp_store_st 44 _ _ rfl g6 (u32s XS) rfl rfl (F3.out.get 0 rfl) (by rw [u32s, List.length_map, hXl]; exact size44) (by simp [u32s, hZl, hXl]) (u32sA XS) ?_
        intro x4 hc hb hs
        have F4 := hid (F3.out.put (fun q hq => by simp only [List.mem_cons, List.not_mem_nil, or_false] at hq; rcases hq with rfl | rfl <;> (have := HLt.out; simp only; omega)) hc hb)
        clear hc hb hs F3
        refine hK.out _ _ ⟨F4.out.get 1 rfl, F4.out.get 2 rfl⟩ (fun hHeld => ?_)
        clear hK KQ
        try simp only [Act.put]
        refine wpAnyH_ready (rs := [9]) (by kernel_rfl) (by simp) (AllReadyH.cons (o := { dst := some 7, op := Op.assign (Operand.tmp 28), type := 37, pos := "law.go:90", after := #[{ on := 6, ground := Ground.data }, { on := 8, ground := Ground.chain }, { on := 0, ground := Ground.phase }, { on := 1, ground := Ground.phase }, { on := 2, ground := Ground.phase }, { on := 3, ground := Ground.phase }, { on := 4, ground := Ground.phase }, { on := 5, ground := Ground.phase }, { on := 6, ground := Ground.phase }, { on := 7, ground := Ground.phase }, { on := 8, ground := Ground.phase }], guard := none }) rfl (fun KQ hK => ?_) AllReadyH.nil)
        go_simp
        refine hK.out _ _ ⟨F4.out.get 1 rfl, F4.out.get 2 rfl⟩ (fun hHeld => ?_)
        clear hK KQ
        try simp only [Act.put, List.setIfInBounds_toArray, List.set_cons_zero, List.set_cons_succ]
        refine wpAnyH_done (by kernel_rfl) ?_ _
        by_cases hx : xe = 0
        · subst hx
          have hf0 : fin = dX := by rw [← HFin.out]; rfl
          have c1 := (F4.out.get 2 rfl).cell 1
          simp only [List.getElem?_cons_zero, List.getElem?_cons_succ] at c1
          go_wp2_with (first | (refine wpList_load_mid rfl 44 _ rfl g6 0 rfl _ _ (F4.out.get 0 rfl).range under44 rfl (by rw [u32s, List.length_map, hXl]; exact size44) ?_) | (go_at_call 16; refine (HLa.out _ F4.out.db).mono ?_; rintro e y1 ⟨rfl, hd, hb⟩; have EZ := hid (F4.out.step hd hb (fun _ hk => hk)); clear hd hb c1))
          go_returns
          exact ⟨rfl, by rw [hf0]; exact EZ.out.db, EZ.out.but⟩
        · have hx' : (xe == 0) = false := by simpa using hx
          have hf0 : fin = d := by rw [← HFin.out, if_neg hx]
          clear hx hEc
          go_wp2_with fail
          go_returns
          exact ⟨rfl, by rw [hf0]; exact F4.out.db, F4.out.but⟩
end Go.Proofs.YtdfnbcbnmiohnaaGreatDoor
