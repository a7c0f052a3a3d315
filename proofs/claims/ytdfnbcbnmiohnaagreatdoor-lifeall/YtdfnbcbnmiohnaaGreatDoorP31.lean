import Derived.Test.YtdfnbcbnmiohnaaGreatDoorP29
import Derived.Test.YtdfnbcbnmiohnaaGreatDoorP01
import Derived.Test.YtdfnbcbnmiohnaaGreatDoorP30
namespace Go.Proofs.YtdfnbcbnmiohnaaGreatDoor
open Go.RowKit
set_option maxRecDepth 100000
set_option maxHeartbeats 4000000
def DS.stD (d : DS) (w : Int) : DS := if d.saE w = 0 then d.state w 3 else d
theorem saE_cases (d : DS) (w : Int) : d.saE w = 0 ∨ d.saE w = 1 ∨ d.saE w = 3 := by unfold DS.saE; split <;> (try split) <;> simp
theorem stop_any (W : World) (p : Dp) (d : DS) (h : DB W p d) (w : Int) (w0 : 0 ≤ w) (w1 : w < 4294967296) :
    Calls Tryz.prog 22 #[ptr p.g, .int .u32 w] W fun e W' => e = .returned (.int .u32 (d.saE w)) ∧ DB W' p (d.stD w) ∧ ButL p.w W W' := by
  have D0 := hid (DG.start h p.w h.wlt)
  have HA := hid (spaceAt_any W p d h w w0)
  have HS := hid (fun u (hw : DB u p d) => setState_any u p d hw w 3)
  have kx : IntKind.wrap .i64 w = w := by rw [IntKind.wrap_i64]; omega
  have kw : wrap64 w = w := by unfold wrap64; omega
  have hc := saE_cases d w
  unfold DS.stD
  generalize d.stateE w 3 = se at *
  generalize d.state w 3 = ds at *
  generalize d.saV w = X at *
  generalize d.saE w = C at *
  obtain ⟨xt, xo, xr, xs, xx⟩ := X
  clear h w0 w1
  simp only [ptr, En.v, En.cs] at *
  by_cases hC : C = 0
  · subst hC
    rw [if_pos rfl]
    clear hc
    go_enter Tryz.func22, Tryz.ntmps22
    go_upto_region 2 with (first | (go_at_call 61; refine HA.out.mono ?_; rintro e u1 ⟨rfl, hb⟩; have D1 := hid (D0.out.on hb); clear hb) | (refine wpList_store_st rfl 30 _ _ rfl u1.heap.size [.int .i64 xt, .int .i64 xo, .int .i64 xr, .int .i64 xs, .bool xx] rfl rfl (Cel.new u1 30 En.zero.cs) sizeE rfl rfl ?_; intro u2 hc hb hs; have D2 := hid (D1.out.add hc hb); clear hc hb hs))
    go_wp2_with (first | (go_at_call 62; refine (HS.out _ D2.out.db).mono ?_; rintro e u3 ⟨rfl, hd, hb⟩; have D3 := hid (D2.out.step hd hb (fun _ hk => hk)); clear hd hb))
    go_ret
    exact ⟨rfl, D3.out.db, D3.out.but⟩
  · rw [if_neg hC]
    have hC' : (C == 0) = false := by simpa using hC
    clear hC hc
    go_enter Tryz.func22, Tryz.ntmps22
    go_upto_region 2 with (first | (go_at_call 61; refine HA.out.mono ?_; rintro e u1 ⟨rfl, hb⟩; have D1 := hid (D0.out.on hb); clear hb) | (refine wpList_store_st rfl 30 _ _ rfl u1.heap.size [.int .i64 xt, .int .i64 xo, .int .i64 xr, .int .i64 xs, .bool xx] rfl rfl (Cel.new u1 30 En.zero.cs) sizeE rfl rfl ?_; intro u2 hc hb hs; have D2 := hid (D1.out.add hc hb); clear hc hb hs))
    go_wp2_with fail
    go_ret
    exact ⟨rfl, D2.out.db, D2.out.but⟩
def DS.srC (d : DS) (w q : Int) : Int := if d.saE w ≠ 0 then d.saE w else if (d.ent w).s = 3 then 22 else if q < (d.m.ns : Int) then (if d.takeE q 6 w = 0 then 0 else 2) else 1
def DS.srD (d : DS) (w q : Int) : DS := if d.srC w q = 0 then d.take q 6 w else d
theorem spare_any (W : World) (p : Dp) (d : DS) (h : DB W p d) (w q : Int) (w0 : 0 ≤ w) (w1 : w < 4294967296) (q0 : 0 ≤ q) (q1 : q < 4294967296) :
    Calls Tryz.prog 44 #[ptr p.g, .int .u32 w, .int .u32 q] W fun e W' => e = .returned (.int .u32 (d.srC w q)) ∧ DB W' p (d.srD w q) ∧ ButL p.w W W' := by
  have D0 := hid (DG.start h p.w h.wlt)
  have HA := hid (spaceAt_any W p d h w w0)
  have HI := hid (fun u (hw : DB u p d) => isPage_any u p d hw q)
  have HT := hid (fun u (hw : DB u p d) => take_any u p d hw q 6 w)
  have kx : IntKind.wrap .i64 w = w := by rw [IntKind.wrap_i64]; omega
  have kw : wrap64 w = w := by unfold wrap64; omega
  have kxq : IntKind.wrap .i64 q = q := by rw [IntKind.wrap_i64]; omega
  have kwq : wrap64 q = q := by unfold wrap64; omega
  have hc := saE_cases d w
  clear h w0 w1 q0 q1
  by_cases hC : d.saE w = 0
  rotate_left
  · have h1 : d.srC w q = d.saE w := by unfold DS.srC; rw [if_pos hC]
    have h2 : d.srD w q = d := by unfold DS.srD; rw [h1, if_neg hC]
    rw [h1, h2]
    clear h1 h2 HI HT
    have hC' : (d.saE w != 0) = true := by simpa using hC
    generalize d.saV w = X at *
    generalize d.saE w = C at *
    obtain ⟨xt, xo, xr, xs, xx⟩ := X
    clear hC hc
    simp only [ptr, En.v, En.cs] at *
    go_enter Tryz.func44, Tryz.ntmps44
    go_upto_region 2 with (first | (go_at_call 61; refine HA.out.mono ?_; rintro e u1 ⟨rfl, hb⟩; have D1 := hid (D0.out.on hb); clear hb) | (refine wpList_store_st rfl 30 _ _ rfl u1.heap.size [.int .i64 xt, .int .i64 xo, .int .i64 xr, .int .i64 xs, .bool xx] rfl rfl (Cel.new u1 30 En.zero.cs) sizeE rfl rfl ?_; intro u2 hc hb hs; have D2 := hid (D1.out.add hc hb); clear hc hb hs))
    go_wp2_with fail
    go_ret
    exact ⟨rfl, D2.out.db, D2.out.but⟩
  have hV : d.saV w = d.ent w := by unfold DS.saV; rw [if_pos hC]
  rw [hV, hC] at HA
  clear hV hc
  have hS : d.srC w q = if (d.ent w).s = 3 then 22 else if q < (d.m.ns : Int) then (if d.takeE q 6 w = 0 then 0 else 2) else 1 := by unfold DS.srC; rw [if_neg (by simp [hC])]
  unfold DS.srD
  rw [hS]
  clear hS hC
  have hTd : d.takeE q 6 w ≠ 0 → d.take q 6 w = d := fun h => by unfold DS.take; rw [if_neg h]
  generalize d.takeE q 6 w = te at *
  generalize d.take q 6 w = dt at *
  generalize (d.m.ns : Int) = n at *
  generalize d.ent w = X at *
  obtain ⟨xt, xo, xr, xs, xx⟩ := X
  simp only [ptr, En.v, En.cs] at *
  by_cases hs : xs = 3
  · subst hs
    rw [if_pos rfl, if_neg (by decide)]
    clear hTd HI HT
    go_enter Tryz.func44, Tryz.ntmps44
    go_upto_region 2 with (first | (go_at_call 61; refine HA.out.mono ?_; rintro e u1 ⟨rfl, hb⟩; have D1 := hid (D0.out.on hb); clear hb) | (refine wpList_store_st rfl 30 _ _ rfl u1.heap.size [.int .i64 xt, .int .i64 xo, .int .i64 xr, .int .i64 3, .bool xx] rfl rfl (Cel.new u1 30 En.zero.cs) sizeE rfl rfl ?_; intro u2 hc hb hs; have D2 := hid (D1.out.add hc hb); clear hc hb hs))
    have c3 := (D2.out.get 0 rfl).cell 3
    simp only [tqG, tqH] at c3
    go_wp2_with fail
    go_ret
    exact ⟨rfl, D2.out.db, D2.out.but⟩
  have hs' : (xs == 3) = false := by simpa using hs
  simp only [if_neg hs]
  clear hs
  by_cases hq : q < n
  rotate_left
  · simp only [if_neg hq]
    rw [if_neg (by decide)]
    rw [decide_eq_false hq] at HI
    clear hTd HT hq
    go_enter Tryz.func44, Tryz.ntmps44
    go_upto_region 2 with (first | (go_at_call 61; refine HA.out.mono ?_; rintro e u1 ⟨rfl, hb⟩; have D1 := hid (D0.out.on hb); clear hb) | (refine wpList_store_st rfl 30 _ _ rfl u1.heap.size [.int .i64 xt, .int .i64 xo, .int .i64 xr, .int .i64 xs, .bool xx] rfl rfl (Cel.new u1 30 En.zero.cs) sizeE rfl rfl ?_; intro u2 hc hb hs; have D2 := hid (D1.out.add hc hb); clear hc hb hs))
    have c3 := (D2.out.get 0 rfl).cell 3
    simp only [tqG, tqH] at c3
    go_wp2_with (first | (go_at_call 68; refine (HI.out _ D2.out.db).mono ?_; rintro e u3 ⟨rfl, rfl⟩))
    go_ret
    exact ⟨rfl, D2.out.db, D2.out.but⟩
  simp only [if_pos hq]
  rw [decide_eq_true hq] at HI
  clear hq
  by_cases ht : te = 0
  · subst ht
    rw [if_pos rfl, if_pos rfl]
    clear hTd
    go_enter Tryz.func44, Tryz.ntmps44
    go_upto_region 2 with (first | (go_at_call 61; refine HA.out.mono ?_; rintro e u1 ⟨rfl, hb⟩; have D1 := hid (D0.out.on hb); clear hb) | (refine wpList_store_st rfl 30 _ _ rfl u1.heap.size [.int .i64 xt, .int .i64 xo, .int .i64 xr, .int .i64 xs, .bool xx] rfl rfl (Cel.new u1 30 En.zero.cs) sizeE rfl rfl ?_; intro u2 hc hb hs; have D2 := hid (D1.out.add hc hb); clear hc hb hs))
    have c3 := (D2.out.get 0 rfl).cell 3
    simp only [tqG, tqH] at c3
    go_wp2_with (first | (go_at_call 68; refine (HI.out _ D2.out.db).mono ?_; rintro e u3 ⟨rfl, rfl⟩) | (go_at_call 43; refine (HT.out _ D2.out.db).mono ?_; rintro e u4 ⟨rfl, hd, hb⟩; have D3 := hid (D2.out.step hd hb (fun _ hk => hk)); clear hd hb c3))
    go_ret
    exact ⟨rfl, D3.out.db, D3.out.but⟩
  · rw [if_neg ht, if_neg (by decide)]
    rw [hTd ht] at HT
    have ht' : (te != 0) = true := by simpa using ht
    clear hTd ht
    go_enter Tryz.func44, Tryz.ntmps44
    go_upto_region 2 with (first | (go_at_call 61; refine HA.out.mono ?_; rintro e u1 ⟨rfl, hb⟩; have D1 := hid (D0.out.on hb); clear hb) | (refine wpList_store_st rfl 30 _ _ rfl u1.heap.size [.int .i64 xt, .int .i64 xo, .int .i64 xr, .int .i64 xs, .bool xx] rfl rfl (Cel.new u1 30 En.zero.cs) sizeE rfl rfl ?_; intro u2 hc hb hs; have D2 := hid (D1.out.add hc hb); clear hc hb hs))
    have c3 := (D2.out.get 0 rfl).cell 3
    simp only [tqG, tqH] at c3
    go_wp2_with (first | (go_at_call 68; refine (HI.out _ D2.out.db).mono ?_; rintro e u3 ⟨rfl, rfl⟩) | (go_at_call 43; refine (HT.out _ D2.out.db).mono ?_; rintro e u4 ⟨rfl, hd, hb⟩; have D3 := hid (D2.out.step hd hb (fun _ hk => hk)); clear hd hb c3))
    go_ret
    exact ⟨rfl, D3.out.db, D3.out.but⟩
end Go.Proofs.YtdfnbcbnmiohnaaGreatDoor
namespace Go.Proofs.YtdfnbcbnmiohnaaGreatDoor
open Go.RowKit
set_option maxRecDepth 100000
set_option maxHeartbeats 8000000
attribute [-simp] Tryz.isAgg44 Tryz.sizeOf44 Tryz.zeroValue44 Tryz.isAgg55 Tryz.sizeOf55 Tryz.zeroValue55
noncomputable def DS.fiC (d : DS) (w : Int) : Int := if d.saE w ≠ 0 then d.saE w else if (d.ent w).s = 1 then (if d.fnE w = 0 then 0 else 4) else 4
noncomputable def DS.fiD (d : DS) (w : Int) : DS := if d.fiC w = 0 then (d.msr w (d.fnL w)).state w 2 else d
theorem DS.Sim.lay8 {d e : DS} (h : DS.Sim d e) (s : Int) (L : List Int) : ∀ j, DS.Sim (d.lay8 s L j) (e.lay8 s L j)
  | 0 => h
  | j + 1 => (DS.Sim.lay8 h s L j).wr _ _ _
theorem DS.Sim.msr {d e : DS} (h : DS.Sim d e) (s : Int) (L : List Int) : DS.Sim (d.msr s L) (e.msr s L) := (h.lay8 s L 8).dig s zz 26
theorem DS.Sim.stateE {d e : DS} (h : DS.Sim d e) (q s : Int) : e.stateE q s = d.stateE q s := by unfold DS.stateE DS.typE; rw [h.there, h.ent]
theorem DS.Sim.state {d e : DS} (h : DS.Sim d e) (q s : Int) : DS.Sim (d.state q s) (e.state q s) := by
  unfold DS.state
  rw [h.stateE]
  split
  · unfold DS.stated; rw [h.ent]; exact h.lay _ _
  · exact h
theorem fnE_cases (d : DS) (s : Int) : d.fnE s = 0 ∨ d.fnE s = 20 := by unfold DS.fnE; split <;> simp
theorem final_any (W : World) (p : Dp) (d : DS) (h : DB W p d) (hU : d.m.U) (hG : Gl W p) (w : Int) (w0 : 0 ≤ w) (w1 : w < 4294967296) :
    Calls Tryz.prog 23 #[ptr p.g, .int .u32 w] W fun e W' => ∃ d', e = .returned (.int .u32 (d.fiC w)) ∧ DS.Sim (d.fiD w) d' ∧ DB W' p d' ∧ ButL p.w W W' := by
  have D0 := hid (DG.start h p.w h.wlt)
  have HA := hid (spaceAt_any W p d h w w0)
  have kx : IntKind.wrap .i64 w = w := by rw [IntKind.wrap_i64]; omega
  have kw : wrap64 w = w := by unfold wrap64; omega
  have hc := saE_cases d w
  have HGl := hid (fun u L (k : DG W u p d p.w L) => hG.step k.but p.w_all')
  have HFi := hid (fun u (hw : DB u p d) (hg : Gl u p) => finished_any u p d hw hU hg w)
  have hFl := fnL_len d w
  have HLa := hid (fun u e (hw : DB u p e) => layM_any u p e hw w (d.fnL w) hFl)
  have HSs := hid (fun u e (hw : DB u p e) => setState_any u p e hw w 2)
  obtain ⟨Y, hY⟩ : ∃ Y : List Int, Y = List.replicate 8 0 := ⟨_, rfl⟩
  have hYl : Y.length = 8 := by rw [hY]; simp
  have hy : ∀ w, (zeroValue 55).run Tryz.prog w = .ok (.agg (Y.map (Value.int .u32)).toArray) w := fun w => by rw [Tryz.zeroValue55, hY]; rfl
  clear hY h hG hU w0 w1
  by_cases hC : d.saE w = 0
  rotate_left
  · have h1 : d.fiC w = d.saE w := by unfold DS.fiC; rw [if_pos hC]
    have h2 : d.fiD w = d := by unfold DS.fiD; rw [h1, if_neg hC]
    rw [h1, h2]
    clear h1 h2 HFi HLa HSs hFl hYl hy
    have HS0 := hid (DS.Sim.refl d)
    have hC' : (d.saE w != 0) = true := by simpa using hC
    generalize d.saV w = X at *
    generalize d.saE w = C at *
    obtain ⟨xt, xo, xr, xs, xx⟩ := X
    clear hC hc
    simp only [ptr, En.v, En.cs] at *
    go_enter Tryz.func23, Tryz.ntmps23
    go_upto_region 2 with (first | (go_at_call 61; refine HA.out.mono ?_; rintro e u1 ⟨rfl, hb⟩; have D1 := hid (D0.out.on hb); clear hb) | (refine wpList_store_st rfl 30 _ _ rfl u1.heap.size [.int .i64 xt, .int .i64 xo, .int .i64 xr, .int .i64 xs, .bool xx] rfl rfl (Cel.new u1 30 En.zero.cs) sizeE rfl rfl ?_; intro u2 hc hb hs; have D2 := hid (D1.out.add hc hb); clear hc hb hs))
    go_wp2_with fail
    go_ret
    exact ⟨d, rfl, HS0.out, D2.out.db, D2.out.but⟩
  have hV : d.saV w = d.ent w := by unfold DS.saV; rw [if_pos hC]
  rw [hV, hC] at HA
  have hS : d.fiC w = if (d.ent w).s = 1 then (if d.fnE w = 0 then 0 else 4) else 4 := by unfold DS.fiC; rw [if_neg (by simp [hC])]
  clear hV hc
  by_cases hs : (d.ent w).s = 1
  rotate_left
  · have h1 : d.fiC w = 4 := by rw [hS, if_neg hs]
    have h2 : d.fiD w = d := by unfold DS.fiD; rw [h1]; rfl
    rw [h1, h2]
    clear h1 h2 HFi HLa HSs hFl hYl hy hS hC
    have HS0 := hid (DS.Sim.refl d)
    generalize d.ent w = X at *
    obtain ⟨xt, xo, xr, xs, xx⟩ := X
    simp only at hs
    have hs' : (xs != 1) = true := by simpa using hs
    clear hs
    simp only [ptr, En.v, En.cs] at *
    go_enter Tryz.func23, Tryz.ntmps23
    go_upto_region 2 with (first | (go_at_call 61; refine HA.out.mono ?_; rintro e u1 ⟨rfl, hb⟩; have D1 := hid (D0.out.on hb); clear hb) | (refine wpList_store_st rfl 30 _ _ rfl u1.heap.size [.int .i64 xt, .int .i64 xo, .int .i64 xr, .int .i64 xs, .bool xx] rfl rfl (Cel.new u1 30 En.zero.cs) sizeE rfl rfl ?_; intro u2 hc hb hs; have D2 := hid (D1.out.add hc hb); clear hc hb hs))
    have c3 := (D2.out.get 0 rfl).cell 3
    simp only [tqG, tqH] at c3
    go_wp2_with fail
    go_ret
    exact ⟨d, rfl, HS0.out, D2.out.db, D2.out.but⟩
  by_cases hf : d.fnE w = 0
  rotate_left
  · have h1 : d.fiC w = 4 := by rw [hS, if_pos hs, if_neg hf]
    have h2 : d.fiD w = d := by unfold DS.fiD; rw [h1]; rfl
    have hf' : d.fnE w = 20 := (fnE_cases d w).resolve_left hf
    rw [h1, h2]
    rw [hf'] at HFi
    clear h1 h2 hS hC hf hf' HLa HSs
    generalize d.ent w = X at *
    generalize d.fnL w = FL at *
    obtain ⟨xt, xo, xr, xs, xx⟩ := X
    simp only at hs
    subst hs
    simp only [ptr, En.v, En.cs] at *
    go_enter Tryz.func23, Tryz.ntmps23
    go_upto_region 2 with (first | (go_at_call 61; refine HA.out.mono ?_; rintro e u1 ⟨rfl, hb⟩; have D1 := hid (D0.out.on hb); clear hb) | (refine wpList_store_st rfl 30 _ _ rfl u1.heap.size [.int .i64 xt, .int .i64 xo, .int .i64 xr, .int .i64 1, .bool xx] rfl rfl (Cel.new u1 30 En.zero.cs) sizeE rfl rfl ?_; intro u2 hc hb hs; have D2 := hid (D1.out.add hc hb); clear hc hb hs))
    have c3 := (D2.out.get 0 rfl).cell 3
    simp only [tqG, tqH] at c3
    go_upto_region 7 with (first | (go_at_call 63; refine (HFi.out _ D2.out.db (HGl.out _ _ D2.out)).mono ?_; rintro e u3 ⟨d1, rfl, hS, hd, hb⟩; have D3 := hid (D2.out.step hd hb p.fw_w); have S3 := hid hS; clear hd hb hS c3) | (refine wpList_store_st rfl 55 _ _ rfl u3.heap.size (u32s FL) rfl rfl (Cel.new u3 55 (u32s Y)) (by rw [u32s, List.length_map, hFl]; exact size55) (by simp [u32s, hYl, hFl]) (List.all_eq_true.2 (fun v hv => by simp only [u32s, List.mem_map] at hv; obtain ⟨x, _, rfl⟩ := hv; rfl)) ?_; intro u4 hc hb hs; have D4 := hid (D3.out.add hc hb); clear hc hb hs))
    go_wp2_with fail
    go_ret
    exact ⟨d1, rfl, S3.out, D4.out.db, D4.out.but⟩
  have h1 : d.fiC w = 0 := by rw [hS, if_pos hs, if_pos hf]
  have h2 : d.fiD w = (d.msr w (d.fnL w)).state w 2 := by unfold DS.fiD; rw [h1]; rfl
  rw [h1, h2]
  rw [hf] at HFi
  have HSm := hid (fun e (hs : DS.Sim d e) => (hs.msr w (d.fnL w)).state w 2)
  clear h1 h2 hS hC hf
  generalize (d.msr w (d.fnL w)).state w 2 = fin at *
  generalize d.ent w = X at *
  generalize d.fnL w = FL at *
  obtain ⟨xt, xo, xr, xs, xx⟩ := X
  simp only at hs
  subst hs
  simp only [ptr, En.v, En.cs] at *
  go_enter Tryz.func23, Tryz.ntmps23
  go_upto_region 2 with (first | (go_at_call 61; refine HA.out.mono ?_; rintro e u1 ⟨rfl, hb⟩; have D1 := hid (D0.out.on hb); clear hb) | (refine wpList_store_st rfl 30 _ _ rfl u1.heap.size [.int .i64 xt, .int .i64 xo, .int .i64 xr, .int .i64 1, .bool xx] rfl rfl (Cel.new u1 30 En.zero.cs) sizeE rfl rfl ?_; intro u2 hc hb hs; have D2 := hid (D1.out.add hc hb); clear hc hb hs))
  have c3 := (D2.out.get 0 rfl).cell 3
  simp only [tqG, tqH] at c3
  go_upto_region 7 with (first | (go_at_call 63; refine (HFi.out _ D2.out.db (HGl.out _ _ D2.out)).mono ?_; rintro e u3 ⟨d1, rfl, hS, hd, hb⟩; have D3 := hid (D2.out.step hd hb p.fw_w); have S3 := hid hS; clear hd hb hS c3) | (refine wpList_store_st rfl 55 _ _ rfl u3.heap.size (u32s FL) rfl rfl (Cel.new u3 55 (u32s Y)) (by rw [u32s, List.length_map, hFl]; exact size55) (by simp [u32s, hYl, hFl]) (List.all_eq_true.2 (fun v hv => by simp only [u32s, List.mem_map] at hv; obtain ⟨x, _, rfl⟩ := hv; rfl)) ?_; intro u4 hc hb hs; have D4 := hid (D3.out.add hc hb); clear hc hb hs))
  generalize u3.heap.size = g7 at *
  have HLb := hid (fun u (hw : DB u p d1) => HLa.out u d1 hw)
  have HSb := hid (fun u (hw : DB u p (d1.msr w FL)) => HSs.out u _ hw)
  have S4 := hid (HSm.out d1 S3.out)
  clear HLa HSs HSm S3
  generalize (d1.msr w FL).stateE w 2 = sE at *
  generalize (d1.msr w FL).state w 2 = d3 at *
  generalize d1.msr w FL = d2 at *
  go_wp2_with (first | (refine wpList_load_mid rfl 55 _ rfl g7 0 rfl _ _ (D4.out.get 0 rfl).range under55 rfl (by rw [size55]; simp [u32s, hFl]) ?_) | (go_at_call 64; refine (HLb.out _ D4.out.db).mono ?_; rintro e u5 ⟨rfl, hd, hb⟩; have D5 := hid (D4.out.step hd hb p.fw_w); clear hd hb) | (go_at_call 62; refine (HSb.out _ D5.out.db).mono ?_; rintro e u6 ⟨rfl, hd, hb⟩; have D6 := hid (D5.out.step hd hb (fun _ hk => hk)); clear hd hb))
  go_ret
  exact ⟨d3, rfl, S4.out, D6.out.db, D6.out.but⟩
end Go.Proofs.YtdfnbcbnmiohnaaGreatDoor
