import Derived.Test.YtdfnbcbnmiohnaaGreatDoorP27
import Derived.Test.YtdfnbcbnmiohnaaGreatDoorP31
namespace Go.Proofs.YtdfnbcbnmiohnaaGreatDoor
open Go.RowKit
set_option maxRecDepth 100000
set_option maxHeartbeats 4000000
theorem isPage_any (W : World) (p : Dp) (d : DS) (h : DB W p d) (w : Int) :
    Calls Tryz.prog 68 #[ptr p.g, .int .u32 w] W fun e W' => e = .returned (.bool (decide (w < (d.m.ns : Int)))) ∧ W = W' := by
  have HP := hid (pages_any W p d h)
  have hn := h.ok.n64
  have n1 : (d.m.ns : Int) ≤ 64 := by omega
  have n0 : 0 ≤ (d.m.ns : Int) := by omega
  generalize (d.m.ns : Int) = n at *
  have hc : IntKind.wrap .u32 n = n := by rw [IntKind.wrap_u32]; omega
  clear h hn
  go_enter Tryz.func68, Tryz.ntmps68
  go_wp2_with (first | (go_at_call 49; refine HP.out.mono ?_; rintro e w1 ⟨rfl, rfl⟩))
  go_ret
  exact ⟨rfl, rfl⟩
theorem lsecure_any (W : World) (q : Int) : Calls Tryz.prog 112 #[.int .i64 q] W fun x W' => x = .returned (fr true q) ∧ Below W.heap.size W W' := by
  unfold fr
  go_enter Tryz.func112, Tryz.ntmps112
  go_wp2_with fail
  go_returns
  exact ⟨rfl, below_one _ _⟩
theorem lframe_any (W : World) (q : Int) (q0 : 0 ≤ q) (q1 : q < 4294967296) : Calls Tryz.prog 26 #[.int .u32 q] W fun x W' => x = .returned (fr true q) ∧ Below W.heap.size W W' := by
  unfold fr
  have kx : IntKind.wrap .i64 q = q := by rw [IntKind.wrap_i64]; omega
  have kw : wrap64 q = q := by unfold wrap64; omega
  clear q0 q1
  go_enter Tryz.func26, Tryz.ntmps26
  go_wp2_with fail
  go_returns
  exact ⟨rfl, below_one _ _⟩
/-- What is kept of a space that a word names. -/
def DS.saE (d : DS) (w : Int) : Int := if w < (d.m.ns : Int) then (if (d.ent w).t = 1 then 0 else 3) else 1
def DS.saV (d : DS) (w : Int) : En := if d.saE w = 0 then d.ent w else En.zero
theorem spaceAt_any (W : World) (p : Dp) (d : DS) (h : DB W p d) (w : Int) (w0 : 0 ≤ w) :
    Calls Tryz.prog 61 #[ptr p.g, .int .u32 w] W fun e W' => e = .returned (.tuple #[(d.saV w).v, .int .u32 (d.saE w)]) ∧ Below W.heap.size W W' := by
  have B0 := hid (bag_one W 30 En.zero.cs)
  have HX := hid (h.on (below_one W (.cells En.zero.cs.toArray 30)))
  have HE := hid (fun u (hw : DB u p d) => entry_any u p d hw w)
  have HI := hid (fun u (hw : DB u p d) => isPage_any u p d hw w)
  have hn := h.ok.n64
  by_cases hw : w < (d.m.ns : Int)
  rotate_left
  · have hE : d.saE w = 1 := by unfold DS.saE; rw [if_neg hw]
    have hV : d.saV w = En.zero := by unfold DS.saV; rw [hE]; rfl
    rw [hE, hV]
    rw [decide_eq_false hw] at HI
    clear hE hV hw hn h w0 HE
    simp only [ptr, En.v, En.zero, En.cs] at HX B0 HI ⊢
    go_enter Tryz.func61, Tryz.ntmps61
    go_upto_region 1 with fail
    generalize W.alloc _ = X at *
    generalize hg : W.heap.size = g4 at B0 ⊢
    have HG := hid hg
    clear hg
    go_wp2_with (first | (go_at_call 68; refine (HI.out _ HX.out).mono ?_; rintro e w1 ⟨rfl, rfl⟩) | (refine wpList_build_zE rfl rfl ?_) | (refine wpList_store_st rfl 30 _ _ rfl g4 En.zero.cs rfl rfl (B0.out.get 0 rfl) sizeE rfl rfl ?_; intro w4 hc hb hs; have HF := hid (And.intro hc (B0.out.below.trans (hb.below (by have := HG.out; simp; omega) B0.out.below.size))); clear hc hb hs))
    exact ret_st2 rfl rfl g4 _ rfl HF.out.1 underE rfl sizeE ⟨rfl, HF.out.2⟩
  have kx : IntKind.wrap .i64 w = w := by rw [IntKind.wrap_i64]; omega
  have kw : wrap64 w = w := by unfold wrap64; omega
  rw [decide_eq_true hw] at HI
  have hEE : d.entE w = 0 := by unfold DS.entE DS.there; rw [if_pos (decide_eq_true ⟨w0, hw⟩)]
  rw [hEE] at HE
  by_cases ht : (d.ent w).t = 1
  · have hE : d.saE w = 0 := by unfold DS.saE; rw [if_pos hw, if_pos ht]
    have hV : d.saV w = d.ent w := by unfold DS.saV; rw [hE]; rfl
    rw [hE, hV]
    clear hE hV hw hn h w0 hEE
    generalize d.ent w = D at *
    obtain ⟨t', o, r, s, e⟩ := D
    simp only at ht
    subst ht
    simp only [ptr, En.v, En.zero, En.cs] at HX B0 HE HI ⊢
    go_enter Tryz.func61, Tryz.ntmps61
    go_upto_region 1 with fail
    generalize W.alloc _ = X at *
    generalize hg : W.heap.size = g4 at B0 ⊢
    have HG := hid hg
    clear hg
    go_upto_region 4 with (first | (go_at_call 68; refine (HI.out _ HX.out).mono ?_; rintro e w1 ⟨rfl, rfl⟩) | (go_at_call 45; refine (HE.out _ HX.out).mono ?_; rintro e w1 ⟨rfl, hb⟩; have B1 := hid (B0.out.on hb); clear hb) | (refine wpList_store_st rfl 30 _ _ rfl w1.heap.size [.int .i64 1, .int .i64 o, .int .i64 r, .int .i64 s, .bool e] rfl rfl (Cel.new w1 30 En.zero.cs) sizeE rfl rfl ?_; intro w2 hc hb hs; have B2 := hid (B1.out.add hc hb); clear hc hb hs))
    generalize w1.heap.size = g8 at *
    have c0 := (B2.out.get 0 rfl).cell 0
    simp only [List.getElem?_cons_zero] at c0
    go_wp2_with (first | (refine wpList_load_mid rfl 30 _ rfl g8 0 rfl _ _ ((B2.out.get 0 rfl).range) underE rfl (by rw [sizeE]; rfl) ?_) | (refine wpList_store_st rfl 30 _ _ rfl g4 [.int .i64 1, .int .i64 o, .int .i64 r, .int .i64 s, .bool e] rfl rfl (B2.out.get 1 rfl) sizeE rfl rfl ?_; intro w4 hc hb hs; have HF := hid (And.intro hc (B2.out.below.trans (hb.below (by have := HG.out; simp; omega) B2.out.below.size))); clear hc hb hs))
    exact ret_st2 rfl rfl g4 _ rfl HF.out.1 underE rfl sizeE ⟨rfl, HF.out.2⟩
  · have hE : d.saE w = 3 := by unfold DS.saE; rw [if_pos hw, if_neg ht]
    have hV : d.saV w = En.zero := by unfold DS.saV; rw [hE]; rfl
    rw [hE, hV]
    clear hE hV hw hn h w0 hEE
    generalize d.ent w = D at *
    obtain ⟨t', o, r, s, e⟩ := D
    simp only at ht
    have ht' : (t' != 1) = true := by simpa using ht
    clear ht
    simp only [ptr, En.v, En.zero, En.cs] at HX B0 HE HI ⊢
    go_enter Tryz.func61, Tryz.ntmps61
    go_upto_region 1 with fail
    generalize W.alloc _ = X at *
    generalize hg : W.heap.size = g4 at B0 ⊢
    have HG := hid hg
    clear hg
    go_upto_region 4 with (first | (go_at_call 68; refine (HI.out _ HX.out).mono ?_; rintro e w1 ⟨rfl, rfl⟩) | (go_at_call 45; refine (HE.out _ HX.out).mono ?_; rintro e w1 ⟨rfl, hb⟩; have B1 := hid (B0.out.on hb); clear hb) | (refine wpList_store_st rfl 30 _ _ rfl w1.heap.size [.int .i64 t', .int .i64 o, .int .i64 r, .int .i64 s, .bool e] rfl rfl (Cel.new w1 30 En.zero.cs) sizeE rfl rfl ?_; intro w2 hc hb hs; have B2 := hid (B1.out.add hc hb); clear hc hb hs))
    generalize w1.heap.size = g8 at *
    have c0 := (B2.out.get 0 rfl).cell 0
    simp only [List.getElem?_cons_zero] at c0
    go_wp2_with (first | (refine wpList_build_zE rfl rfl ?_) | (refine wpList_store_st rfl 30 _ _ rfl g4 En.zero.cs rfl rfl (B2.out.get 1 rfl) sizeE rfl rfl ?_; intro w4 hc hb hs; have HF := hid (And.intro hc (B2.out.below.trans (hb.below (by have := HG.out; simp; omega) B2.out.below.size))); clear hc hb hs))
    exact ret_st2 rfl rfl g4 _ rfl HF.out.1 underE rfl sizeE ⟨rfl, HF.out.2⟩
/-- The law's at. -/
theorem at_l (W : World) (p : Dp) (d : DS) (h : DB W p d) (q : Int) :
    Calls Tryz.prog 10 #[ptr p.g, .int .i64 q] W fun e W' => e = .returned (d.ent q).v ∧ Below W.heap.size W W' := by
  have B0 := hid (bag_one W 30 En.zero.cs)
  have HX := hid (h.on (below_one W (.cells En.zero.cs.toArray 30)))
  have HE := hid (fun u (hw : DB u p d) => entry_any u p d hw q)
  clear h
  generalize d.entE q = xe at *
  generalize d.ent q = D at *
  obtain ⟨t', o, r, s, e⟩ := D
  simp only [ptr, En.v, En.zero, En.cs] at HX B0 HE ⊢
  go_enter Tryz.func10, Tryz.ntmps10
  go_upto_region 1 with fail
  generalize W.alloc _ = X at *
  generalize hg : W.heap.size = g4 at B0 ⊢
  have HG := hid hg
  clear hg
  go_upto_region 2 with (first | (go_at_call 45; refine (HE.out _ HX.out).mono ?_; rintro e w1 ⟨rfl, hb⟩; have B1 := hid (B0.out.on hb); clear hb) | (refine wpList_store_st rfl 30 _ _ rfl w1.heap.size [.int .i64 t', .int .i64 o, .int .i64 r, .int .i64 s, .bool e] rfl rfl (Cel.new w1 30 En.zero.cs) sizeE rfl rfl ?_; intro w2 hc hb hs; have B2 := hid (B1.out.add hc hb); clear hc hb hs))
  generalize w1.heap.size = g8 at *
  go_wp2_with (first | (refine wpList_load_mid rfl 30 _ rfl g8 0 rfl _ _ ((B2.out.get 0 rfl).range) underE rfl (by rw [sizeE]; rfl) ?_) | (refine wpList_store_st rfl 30 _ _ rfl g4 [.int .i64 t', .int .i64 o, .int .i64 r, .int .i64 s, .bool e] rfl rfl (B2.out.get 1 rfl) sizeE rfl rfl ?_; intro w4 hc hb hs; have HF := hid (And.intro hc (B2.out.below.trans (hb.below (by have := HG.out; simp; omega) B2.out.below.size))); clear hc hb hs))
  exact ret_st rfl rfl g4 _ rfl HF.out.1 underE rfl sizeE ⟨rfl, HF.out.2⟩
end Go.Proofs.YtdfnbcbnmiohnaaGreatDoor
namespace Go.Proofs.YtdfnbcbnmiohnaaGreatDoor
open Go.RowKit
set_option maxRecDepth 100000
set_option maxHeartbeats 8000000
theorem size44 : (Tryz.prog.info? 44).map (·.size) = some 26 := by kernel_rfl
theorem under44 : Tryz.prog.underlying 44 = some (.array 26 43) := by kernel_rfl
theorem size55 : (Tryz.prog.info? 55).map (·.size) = some 8 := by kernel_rfl
theorem under55 : Tryz.prog.underlying 55 = some (.array 8 43) := by kernel_rfl
attribute [-simp] Tryz.isAgg44 Tryz.sizeOf44 Tryz.zeroValue44 Tryz.isAgg55 Tryz.sizeOf55 Tryz.zeroValue55
open Classical in
/-- What the running digest's end is. -/
noncomputable def DS.fnE (d : DS) (s : Int) : Int := if H.LoadOk (d.st s) then 0 else 20
open Classical in
noncomputable def DS.fnL (d : DS) (s : Int) : List Int := if H.LoadOk (d.st s) then Q.fiS (d.st s) else List.replicate 8 0
theorem fnL_len (d : DS) (s : Int) : (d.fnL s).length = 8 := by
  unfold DS.fnL
  split
  · exact Q.fiS_len (d.st_length s)
  · simp
theorem finish_fn (W : World) (d : DS) (s : Int) (hU : d.m.U) (hT : H.Tab W) (h2 : 1 < W.heap.size) :
    Calls Tryz.prog 113 #[H.Ag (d.st s)] W fun e W' => e = .returned (.tuple #[.agg (u32s (d.fnL s)).toArray, .int .i64 (d.fnE s)]) ∧ Below W.heap.size W W' := by
  by_cases hk : H.LoadOk (d.st s)
  · have e1 : d.fnL s = Q.fiS (d.st s) := by unfold DS.fnL; rw [if_pos hk]
    have e2 : d.fnE s = 0 := by unfold DS.fnE; rw [if_pos hk]
    rw [e1, e2]
    exact Q.finish_gen W hT h2 (d.st s) (d.st_length s) (DS.st_wds hU s) hk
  · have e1 : d.fnL s = List.replicate 8 0 := by unfold DS.fnL; rw [if_neg hk]
    have e2 : d.fnE s = 20 := by unfold DS.fnE; rw [if_neg hk]
    rw [e1, e2]
    exact Q.finish_no W (d.st s) (d.st_length s) (DS.st_wds hU s) hk
theorem finished_any (W : World) (p : Dp) (d : DS) (h : DB W p d) (hU : d.m.U) (hG : Gl W p) (s : Int) :
    Calls Tryz.prog 63 #[ptr p.g, .int .i64 s] W fun e W' => ∃ d', e = .returned (.tuple #[.agg (u32s (d.fnL s)).toArray, .int .i64 (d.fnE s)]) ∧ DS.Sim d d' ∧ DB W' p d' ∧ ButL p.f.w W W' := by
  obtain ⟨Z, hZ⟩ : ∃ Z : List Int, Z = List.replicate 26 0 := ⟨_, rfl⟩
  have hZl : Z.length = 26 := by rw [hZ]; simp
  have hz : ∀ w, (zeroValue 44).run Tryz.prog w = .ok (.agg (Z.map (Value.int .u32)).toArray) w := fun w => by rw [Tryz.zeroValue44, hZ]; rfl
  clear hZ
  obtain ⟨Y, hY⟩ : ∃ Y : List Int, Y = List.replicate 8 0 := ⟨_, rfl⟩
  have hYl : Y.length = 8 := by rw [hY]; simp
  have hy : ∀ w, (zeroValue 55).run Tryz.prog w = .ok (.agg (Y.map (Value.int .u32)).toArray) w := fun w => by rw [Tryz.zeroValue55, hY]; rfl
  clear hY
  have D0 := hid ((DG.start h p.f.w (fun k hk => h.mem.lt k (Fp.w_all hk))).add (ds := u32s Y) (Cel.new W 55 (u32s Y)) (.refl _ _))
  have HSt := hid (fun w => Q.start_any w)
  have hSl : (H.saveOf []).length = 26 := H.saveOf_length _
  have HRd := hid (fun w d' (hs : DS.Sim d d') (hw : DB w p d') (off : Int) => (read_any w p.f d'.m hw.mem true s off))
  have HMm := hid (fun w d' (hw : DB w p d') => memory_any w p d' hw)
  have HFr := hid (fun w => lsecure_any w s)
  have hL := d.st_length s
  have HGt := hid (fun j hj => d.st_get s j hj)
  have HX := hid (fun (w : World) (hw : Gl w p) => finish_fn w d s hU hw.tab hw.sz)
  have hFl := fnL_len d s
  have HGl := hid hG
  have HS0 := hid (DS.Sim.refl d)
  have HWF := hid (fun k (hk : k ∈ p.f.w) => (show k ∈ p.all from by simp only [Dp.all, List.mem_cons]; exact Or.inr (Or.inr (Fp.w_all hk))))
  have HWd := hid (fun e (he : DS.Sim d e) (j : Nat) => he.word true s (11 + (j : Int)))
  clear h hU hG
  generalize H.saveOf [] = S0 at *
  generalize d.fnL s = FL at *
  generalize d.fnE s = FE at *
  generalize d.st s = S at *
  simp only [ptr, fr, H.Ag] at *
  go_enter Tryz.func63, Tryz.ntmps63
  go_upto_region 1 with fail
  have D0' : Hid (DG W (W.alloc (Obj.cells (List.map (Value.int IntKind.u32) Y).toArray 55)) p d p.f.w [(W.heap.size, 55, u32s Y)]) := D0
  clear D0
  generalize World.alloc _ _ = X at *
  generalize hg2 : W.heap.size = g4 at D0' ⊢
  have HG2 := hid hg2
  clear hg2
  go_upto_region 3 with (first | (go_at_call 17; refine (HSt.out _).mono ?_; rintro e w1 ⟨rfl, hb⟩; have D1 := hid (D0'.out.on hb); clear hb) | (refine wpList_store_st rfl 44 _ _ rfl w1.heap.size (u32s S0) rfl rfl (Cel.new w1 44 (u32s Z)) (by rw [u32s, List.length_map, hSl]; exact size44) (by simp [u32s, hZl, hSl]) (List.all_eq_true.2 (fun v hv => by simp only [u32s, List.mem_map] at hv; obtain ⟨x, _, rfl⟩ := hv; rfl)) ?_; intro w2 hc hb hs; have D2 := hid (D1.out.add hc hb); have HN : Hid (g4 < w1.heap.size) := hid (D1.out.get 0 rfl).lt; clear hc hb hs))
  generalize w1.heap.size = g6 at *
  clear D0' D1 HSt
  go_loopw [9] (fun i wr => ∃ j : Nat, j ≤ 26 ∧ i = .int .i64 (j : Int) ∧ Hid (∃ d', DS.Sim d d' ∧ DG W wr p d' p.f.w [(g6, 44, u32s (mix S S0 j)), (g4, 55, u32s Y)])) (fun i _ => 26 - (intOf i).toNat)
  case atStart => exact ⟨0, Nat.zero_le _, rfl, hid ⟨d, HS0.out, by rw [mix_zero]; exact D2.out⟩⟩
  case round =>
    obtain ⟨j, hj, rfl, HQ⟩ := hrel
    clear D2
    by_cases hlt : j < 26
    · have q1 : (j : Int) < 26 := by omega
      have kw : IntKind.wrap .i64 (11 + (j : Int)) = 11 + (j : Int) := by rw [IntKind.wrap_i64]; omega
      have kw2 : IntKind.wrap .i64 ((j : Int) + 1) = (j : Int) + 1 := by rw [IntKind.wrap_i64]; omega
      have HJ := hid hlt
      have HG1 := hid (HGt.out j hlt)
      clear hlt hj
      obtain ⟨d1, hs1, hD⟩ := HQ.out
      have E0 := hid hD
      have S1 := hid hs1
      have HW1 := hid (HWd.out d1 hs1 j)
      clear HQ hs1 hD
      generalize d.m.word true s (11 + (j : Int)) = wd at *
      go_upto_region 5 with fail
      go_wp2_with (first | (go_at_call 28; refine (HMm.out _ _ E0.out.db).mono ?_; rintro e w4 ⟨rfl, rfl⟩) | (go_at_call 112; refine (HFr.out _).mono ?_; rintro e w4 ⟨rfl, hb⟩; have E2 := hid (E0.out.on hb); clear hb) | (go_at_call 111; refine (HRd.out _ _ S1.out E2.out.db _).mono ?_; rintro e w5 ⟨rfl, hm, hb⟩; have E3 := hid (E2.out.mem hm hb (MS.read_ns ..)); have S2 := hid (S1.out.trans (DS.Sim.read _ true s (11 + (j : Int)))); clear hm hb E2 S1; rw [HW1.out]; obtain ⟨y, z0⟩ := mix_cell (E3.out.get 0 rfl) (by have := HJ.out; omega) (by omega); have z1 := (E3.out.get 0 rfl).free j))
      have E4 := hid (E3.out.put (fun q hq => by simp only [List.mem_cons, List.not_mem_nil, or_false] at hq; subst hq; have := HN.out; simp only; omega) ((E3.out.get 0 rfl).setCell j (.int .u32 wd)) (.setCell _ _ _ _ (by simp)))
      rw [mix_set S S0 j wd (by have := HJ.out; omega) (by omega) HG1.out] at E4
      exact ⟨⟨j + 1, HJ.out, by simp, hid ⟨_, S2.out, E4.out⟩⟩, by have := HJ.out; simp [intOf]; omega⟩
    · have hj' : j = 26 := by omega
      subst hj'
      clear hlt hj HWd HGt HRd HMm HFr
      obtain ⟨d1, hs1, hD⟩ := HQ.out
      have hmx : mix S S0 26 = S := by have := mix_all S S0 (by omega); rw [hL] at this; exact this
      rw [hmx] at hD
      have E0 := hid hD
      have S1 := hid hs1
      have HG0 := hid (HGl.out.step hD.but HWF.out)
      have HP := hid (fun w (hb : Below wr.heap.size wr w) => HX.out w (HG0.out.on hb))
      clear HQ hD hs1 hmx
      go_upto_region 7 with fail
      go_wp2_with (first | (refine wpList_load_mid rfl 44 _ rfl g6 0 rfl _ _ (E0.out.get 0 rfl).range under44 rfl (by rw [size44]; simp [u32s, hL]) ?_) | (go_at_call 113; refine (HP.out _ (Below.refl _ _)).mono ?_; rintro e w5 ⟨rfl, hb⟩; have E1 := hid (E0.out.on hb); clear hb) | (refine wpList_store_st rfl 55 _ _ rfl g4 (u32s FL) rfl rfl (E1.out.get 1 rfl) (by rw [u32s, List.length_map, hFl]; exact size55) (by simp [u32s, hYl, hFl]) (List.all_eq_true.2 (fun v hv => by simp only [u32s, List.mem_map] at hv; obtain ⟨x, _, rfl⟩ := hv; rfl)) ?_; intro w6 hc hb hs; have HF := hid (And.intro hc (And.intro (E1.out.db.frame hb (fun k hk hm => by have h1 := E1.out.old k hk; have h2 := HG2.out; simp only [List.mem_singleton] at hm; omega)) (E1.out.but.trans' hb (by have := HG2.out; omega)))); clear hc hb hs))
      exact ret_st2 rfl rfl g4 _ rfl HF.out.1 under55 rfl (by rw [size55]; simp [u32s, hFl]) ⟨d1, rfl, S1.out, HF.out.2.1, HF.out.2.2⟩
end Go.Proofs.YtdfnbcbnmiohnaaGreatDoor
