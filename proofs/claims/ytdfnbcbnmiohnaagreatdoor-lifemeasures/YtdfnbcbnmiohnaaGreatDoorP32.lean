import Derived.Test.YtdfnbcbnmiohnaaGreatDoorP31
namespace Go.Proofs.YtdfnbcbnmiohnaaGreatDoor
open Go.RowKit
set_option maxRecDepth 100000
set_option maxHeartbeats 8000000
theorem size44 : (Tryz.prog.info? 44).map (·.size) = some 26 := by kernel_rfl
theorem under44 : Tryz.prog.underlying 44 = some (.array 26 43) := by kernel_rfl
theorem size55 : (Tryz.prog.info? 55).map (·.size) = some 8 := by kernel_rfl
theorem under55 : Tryz.prog.underlying 55 = some (.array 8 43) := by kernel_rfl
attribute [-simp] Tryz.isAgg44 Tryz.sizeOf44 Tryz.zeroValue44 Tryz.isAgg55 Tryz.sizeOf55 Tryz.zeroValue55
open Classical in
/-- What the running digest's end is. -/
noncomputable def DS.fnE (d : DS) (s : Int) : Int := if H.LoadOk (d.st s) then 0 else 20
open Classical in
noncomputable def DS.fnL (d : DS) (s : Int) : List Int := if H.LoadOk (d.st s) then Q.fiS (d.st s) else List.replicate 8 0
theorem fnL_len (d : DS) (s : Int) : (d.fnL s).length = 8 := by
  unfold DS.fnL
  split
  · exact Q.fiS_len (d.st_length s)
  · simp
theorem finish_fn (W : World) (d : DS) (s : Int) (hU : d.m.U) (hT : H.Tab W) (h2 : 1 < W.heap.size) :
    Calls Tryz.prog 113 #[H.Ag (d.st s)] W fun e W' => e = .returned (.tuple #[.agg (u32s (d.fnL s)).toArray, .int .i64 (d.fnE s)]) ∧ Below W.heap.size W W' := by
  by_cases hk : H.LoadOk (d.st s)
  · have e1 : d.fnL s = Q.fiS (d.st s) := by unfold DS.fnL; rw [if_pos hk]
    have e2 : d.fnE s = 0 := by unfold DS.fnE; rw [if_pos hk]
    rw [e1, e2]
    exact Q.finish_gen W hT h2 (d.st s) (d.st_length s) (DS.st_wds hU s) hk
  · have e1 : d.fnL s = List.replicate 8 0 := by unfold DS.fnL; rw [if_neg hk]
    have e2 : d.fnE s = 20 := by unfold DS.fnE; rw [if_neg hk]
    rw [e1, e2]
    exact Q.finish_no W (d.st s) (d.st_length s) (DS.st_wds hU s) hk
theorem finished_any (W : World) (p : Dp) (d : DS) (h : DB W p d) (hU : d.m.U) (hG : Gl W p) (s : Int) :
    Calls Tryz.prog 63 #[ptr p.g, .int .i64 s] W fun e W' => ∃ d', e = .returned (.tuple #[.agg (u32s (d.fnL s)).toArray, .int .i64 (d.fnE s)]) ∧ DS.Sim d d' ∧ DB W' p d' ∧ ButL p.f.w W W' := by
  obtain ⟨Z, hZ⟩ : ∃ Z : List Int, Z = List.replicate 26 0 := ⟨_, rfl⟩
  have hZl : Z.length = 26 := by rw [hZ]; simp
  have hz : ∀ w, (zeroValue 44).run Tryz.prog w = .ok (.agg (Z.map (Value.int .u32)).toArray) w := fun w => by rw [Tryz.zeroValue44, hZ]; rfl
  clear hZ
  obtain ⟨Y, hY⟩ : ∃ Y : List Int, Y = List.replicate 8 0 := ⟨_, rfl⟩
  have hYl : Y.length = 8 := by rw [hY]; simp
  have hy : ∀ w, (zeroValue 55).run Tryz.prog w = .ok (.agg (Y.map (Value.int .u32)).toArray) w := fun w => by rw [Tryz.zeroValue55, hY]; rfl
  clear hY
  have D0 := hid ((DG.start h p.f.w (fun k hk => h.mem.lt k (Fp.w_all hk))).add (ds := u32s Y) (Cel.new W 55 (u32s Y)) (.refl _ _))
  have HSt := hid (fun w => Q.start_any w)
  have hSl : (H.saveOf []).length = 26 := H.saveOf_length _
  have HRd := hid (fun w d' (hs : DS.Sim d d') (hw : DB w p d') (off : Int) => (read_any w p.f d'.m hw.mem true s off))
  have HMm := hid (fun w d' (hw : DB w p d') => memory_any w p d' hw)
  have HFr := hid (fun w => lsecure_any w s)
  have hL := d.st_length s
  have HGt := hid (fun j hj => d.st_get s j hj)
  have HX := hid (fun (w : World) (hw : Gl w p) => finish_fn w d s hU hw.tab hw.sz)
  have hFl := fnL_len d s
  have HGl := hid hG
  have HS0 := hid (DS.Sim.refl d)
  have HWF := hid (fun k (hk : k ∈ p.f.w) => (show k ∈ p.all from by simp only [Dp.all, List.mem_cons]; exact Or.inr (Or.inr (Fp.w_all hk))))
  have HWd := hid (fun e (he : DS.Sim d e) (j : Nat) => he.word true s (11 + (j : Int)))
  clear h hU hG
  generalize H.saveOf [] = S0 at *
  generalize d.fnL s = FL at *
  generalize d.fnE s = FE at *
  generalize d.st s = S at *
  simp only [ptr, fr, H.Ag] at *
  go_enter Tryz.func63, Tryz.ntmps63
  go_upto_region 1 with fail
  have D0' : Hid (DG W (W.alloc (Obj.cells (List.map (Value.int IntKind.u32) Y).toArray 55)) p d p.f.w [(W.heap.size, 55, u32s Y)]) := D0
  clear D0
  generalize World.alloc _ _ = X at *
  generalize hg2 : W.heap.size = g4 at D0' ⊢
  have HG2 := hid hg2
  clear hg2
  go_upto_region 3 with (first | (go_at_call 17; refine (HSt.out _).mono ?_; rintro e w1 ⟨rfl, hb⟩; have D1 := hid (D0'.out.on hb); clear hb) | (refine wpList_store_st rfl 44 _ _ rfl w1.heap.size (u32s S0) rfl rfl (Cel.new w1 44 (u32s Z)) (by rw [u32s, List.length_map, hSl]; exact size44) (by simp [u32s, hZl, hSl]) (List.all_eq_true.2 (fun v hv => by simp only [u32s, List.mem_map] at hv; obtain ⟨x, _, rfl⟩ := hv; rfl)) ?_; intro w2 hc hb hs; have D2 := hid (D1.out.add hc hb); have HN : Hid (g4 < w1.heap.size) := hid (D1.out.get 0 rfl).lt; clear hc hb hs))
  generalize w1.heap.size = g6 at *
  clear D0' D1 HSt
  go_loopw [9] (fun i wr => ∃ j : Nat, j ≤ 26 ∧ i = .int .i64 (j : Int) ∧ Hid (∃ d', DS.Sim d d' ∧ DG W wr p d' p.f.w [(g6, 44, u32s (mix S S0 j)), (g4, 55, u32s Y)])) (fun i _ => 26 - (intOf i).toNat)
  case atStart => exact ⟨0, Nat.zero_le _, rfl, hid ⟨d, HS0.out, by rw [mix_zero]; exact D2.out⟩⟩
  case round =>
    obtain ⟨j, hj, rfl, HQ⟩ := hrel
    clear D2
    by_cases hlt : j < 26
    · have q1 : (j : Int) < 26 := by omega
      have kw : IntKind.wrap .i64 (11 + (j : Int)) = 11 + (j : Int) := by rw [IntKind.wrap_i64]; omega
      have kw2 : IntKind.wrap .i64 ((j : Int) + 1) = (j : Int) + 1 := by rw [IntKind.wrap_i64]; omega
      have HJ := hid hlt
      have HG1 := hid (HGt.out j hlt)
      clear hlt hj
      obtain ⟨d1, hs1, hD⟩ := HQ.out
      have E0 := hid hD
      have S1 := hid hs1
      have HW1 := hid (HWd.out d1 hs1 j)
      clear HQ hs1 hD
      generalize d.m.word true s (11 + (j : Int)) = wd at *
      go_upto_region 5 with fail
      go_wp2_with (first | (go_at_call 28; refine (HMm.out _ _ E0.out.db).mono ?_; rintro e w4 ⟨rfl, rfl⟩) | (go_at_call 112; refine (HFr.out _).mono ?_; rintro e w4 ⟨rfl, hb⟩; have E2 := hid (E0.out.on hb); clear hb) | (go_at_call 111; refine (HRd.out _ _ S1.out E2.out.db _).mono ?_; rintro e w5 ⟨rfl, hm, hb⟩; have E3 := hid (E2.out.mem hm hb (MS.read_ns ..)); have S2 := hid (S1.out.trans (DS.Sim.read _ true s (11 + (j : Int)))); clear hm hb E2 S1; rw [HW1.out]; obtain ⟨y, z0⟩ := mix_cell (E3.out.get 0 rfl) (by have := HJ.out; omega) (by omega); have z1 := (E3.out.get 0 rfl).free j))
      have E4 := hid (E3.out.put (fun q hq => by simp only [List.mem_cons, List.not_mem_nil, or_false] at hq; subst hq; have := HN.out; simp only; omega) ((E3.out.get 0 rfl).setCell j (.int .u32 wd)) (.setCell _ _ _ _ (by simp)))
      rw [mix_set S S0 j wd (by have := HJ.out; omega) (by omega) HG1.out] at E4
      exact ⟨⟨j + 1, HJ.out, by simp, hid ⟨_, S2.out, E4.out⟩⟩, by have := HJ.out; simp [intOf]; omega⟩
    · have hj' : j = 26 := by omega
      subst hj'
      clear hlt hj HWd HGt HRd HMm HFr
      obtain ⟨d1, hs1, hD⟩ := HQ.out
      have hmx : mix S S0 26 = S := by have := mix_all S S0 (by omega); rw [hL] at this; exact this
      rw [hmx] at hD
      have E0 := hid hD
      have S1 := hid hs1
      have HG0 := hid (HGl.out.step hD.but HWF.out)
      have HP := hid (fun w (hb : Below wr.heap.size wr w) => HX.out w (HG0.out.on hb))
      clear HQ hD hs1 hmx
      go_upto_region 7 with fail
      go_wp2_with (first | (refine wpList_load_mid rfl 44 _ rfl g6 0 rfl _ _ (E0.out.get 0 rfl).range under44 rfl (by rw [size44]; simp [u32s, hL]) ?_) | (go_at_call 113; refine (HP.out _ (Below.refl _ _)).mono ?_; rintro e w5 ⟨rfl, hb⟩; have E1 := hid (E0.out.on hb); clear hb) | (refine wpList_store_st rfl 55 _ _ rfl g4 (u32s FL) rfl rfl (E1.out.get 1 rfl) (by rw [u32s, List.length_map, hFl]; exact size55) (by simp [u32s, hYl, hFl]) (List.all_eq_true.2 (fun v hv => by simp only [u32s, List.mem_map] at hv; obtain ⟨x, _, rfl⟩ := hv; rfl)) ?_; intro w6 hc hb hs; have HF := hid (And.intro hc (And.intro (E1.out.db.frame hb (fun k hk hm => by have h1 := E1.out.old k hk; have h2 := HG2.out; simp only [List.mem_singleton] at hm; omega)) (E1.out.but.trans' hb (by have := HG2.out; omega)))); clear hc hb hs))
      exact ret_st2 rfl rfl g4 _ rfl HF.out.1 under55 rfl (by rw [size55]; simp [u32s, hFl]) ⟨d1, rfl, S1.out, HF.out.2.1, HF.out.2.2⟩
end Go.Proofs.YtdfnbcbnmiohnaaGreatDoor
