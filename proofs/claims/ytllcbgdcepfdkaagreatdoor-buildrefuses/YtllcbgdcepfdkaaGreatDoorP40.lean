import Derived.Test.YtllcbgdcepfdkaaGreatDoorP39
namespace Go.Proofs.YtllcbgdcepfdkaaGreatDoor
open Go.RowKit
set_option maxRecDepth 100000
set_option maxHeartbeats 2000000
theorem extS_ok (p : Dp) (d : DS) (hU : d.m.U) (s : Int) (o : Q.MOp) (ho : o.Ok) (ao : Option Addr) (c : Nat) (hk : H.LoadOk (d.st s)) (W : World) (e0 : DS) (hs : DS.Sim d e0) (h : DB W p e0) (hG : Gl W p) (hat : ∀ w, ButL p.f.w W w → H.At w .u32 ao o.ws) :
    Calls Tryz.prog 156 #[stV p s, o.v ao c] W fun e W' => ∃ d' g, e = .returned (.slice (some ⟨g, 0, none⟩) 26 26) ∧ DS.Sim d d' ∧ DB W' p d' ∧ ButL p.f.w W W' ∧ W.heap.size ≤ g ∧ Cel W' g 59 (u32s (Q.exS (d.st s) o.wds)) :=
  (extended_ok W p e0 h (hs.U hU) hG s o ho ao c hat (by rw [hs.st]; exact hk)).mono fun e W' ⟨d', g, h1, h2, h3, h4, h5, h6⟩ => ⟨d', g, h1, hs.trans h2, h3, h4, h5, by rw [hs.st] at h6; exact h6⟩
theorem extS_no (p : Dp) (d : DS) (hU : d.m.U) (s : Int) (o : Q.MOp) (ho : o.Ok) (ao : Option Addr) (c : Nat) (hk : ¬ H.LoadOk (d.st s)) (W : World) (e0 : DS) (hs : DS.Sim d e0) (h : DB W p e0) (hG : Gl W p) (hat : ∀ w, ButL p.f.w W w → H.At w .u32 ao o.ws) :
    Calls Tryz.prog 156 #[stV p s, o.v ao c] W fun e W' => ∃ d', e = .panicked (pn 4) ∧ DS.Sim d d' ∧ DB W' p d' ∧ ButL p.f.w W W' :=
  (extended_no W p e0 h (hs.U hU) hG s o ho ao c hat (by rw [hs.st]; exact hk)).mono fun e W' ⟨d', h1, h2, h3, h4⟩ => ⟨d', h1, hs.trans h2, h3, h4⟩
theorem DS.take_m (d : DS) (q t s : Int) : (d.take q t s).m = d.m := by unfold DS.take; split <;> rfl
theorem takeS (p : Dp) (d : DS) (s q t : Int) (W : World) (e : DS) (hs : DS.Sim d e) (hw : DB W p e) : Calls Tryz.prog 157 #[stV p s, .int .i64 q, .int .i64 t] W fun x w' => x = inE (decide (d.takeE q t s = 0)) 2 ∧ DB w' p (e.take q t s) ∧ ButL p.w W w' := by
  have := stake_any W p e hw s q t
  rw [hs.takeE] at this
  exact this
theorem DS.Sim.noTake {d e : DS} (hs : DS.Sim d e) {q t s : Int} (hn : ¬ d.takeE q t s = 0) : DS.Sim d (e.take q t s) := by rw [DS.take, hs.takeE, if_neg hn]; exact hs
def DS.tbC (d : DS) (s q i : Int) : Int := if (d.m.ns : Int) ≤ q then 1 else if i < 256 then (if (d.ent q).t = 0 then (if d.ntC s i = 0 then (if H.LoadOk (d.st s) then (if d.takeE q 4 s = 0 then 0 else 2) else 4) else d.ntC s i) else 2) else 16
def DS.tbD (d : DS) (s q i : Int) : DS := ((d.take q 4 s).addS s i q).dig s (Q.exS (d.st s) [2, i]) 26
theorem addTab_any (W : World) (p : Dp) (d : DS) (h : DB W p d) (hU : d.m.U) (hG : Gl W p) (s q i : Int) (q0 : 0 ≤ q) (i0 : 0 ≤ i) :
    Calls Tryz.prog 93 #[stV p s, .int .u32 q, .int .u32 i] W fun e W' => ∃ d', e = (if d.tbC s q i = 0 then .returned (.tuple #[]) else .panicked (pn (d.tbC s q i))) ∧ DS.Sim (if d.tbC s q i = 0 then d.tbD s q i else d) d' ∧ DB W' p d' ∧ ButL p.w W W' := by
  have hC : d.tbC s q i = if (d.m.ns : Int) ≤ q then 1 else if i < 256 then (if (d.ent q).t = 0 then (if d.ntC s i = 0 then (if H.LoadOk (d.st s) then (if d.takeE q 4 s = 0 then 0 else 2) else 4) else d.ntC s i) else 2) else 16 := rfl
  have D0 := hid ((DG.startp h).new 148 (stC p s))
  have HGl := hid (fun w L d' (k : DG W w p d' p.w L) => hG.step k.but p.w_all')
  have HS0 := hid (DS.Sim.refl d)
  by_cases a1 : (d.m.ns : Int) ≤ q
  · have HSp := hid (fun w (hw : DB w p d) => secureP_no w p d hw q a1)
    rw [hC, if_pos a1, if_neg (by decide), if_neg (by decide)]
    clear h hC a1 hU hG q0 i0
    simp only [stV, stC, ptr] at *
    go_enter Tryz.func93, Tryz.ntmps93
    go_upto_region 1 with fail
    generalize World.alloc _ _ = X at *
    generalize hg3 : W.heap.size = g3 at D0 ⊢
    have HG3 := hid hg3
    clear hg3
    have c0 := (D0.out.get 0 rfl).cell 0
    have c1 := (D0.out.get 0 rfl).cell 1
    simp only [List.getElem?_cons_zero, List.getElem?_cons_succ] at c0 c1
    go_wp2_with (first | (go_at_call 151; refine (HSp.out _ D0.out.db).mono ?_; rintro e w1 ⟨rfl, rfl⟩))
    exact ⟨rfl, d, rfl, HS0.out, D0.out.db, D0.out.but⟩
  have HSp := hid (fun w (hw : DB w p d) => secureP_yes w p d hw q q0 (by omega))
  rw [hC, if_neg a1]
  clear hC a1
  by_cases a5 : i < 256
  rotate_left
  · rw [if_neg a5, if_neg (by decide), if_neg (by decide)]
    have HI16 : Hid (∀ W, Calls Tryz.prog 152 #[.bool (decide (i < 256)), .int .u32 16] W fun e W' => e = .panicked (pn 16) ∧ W' = W) := hid (fun W => by rw [decide_eq_false a5]; exact insist_no W 16)
    clear h a5 hU hG q0 i0
    simp only [stV, stC, ptr] at *
    go_enter Tryz.func93, Tryz.ntmps93
    go_upto_region 1 with fail
    generalize World.alloc _ _ = X at *
    generalize hg3 : W.heap.size = g3 at D0 ⊢
    have HG3 := hid hg3
    clear hg3
    have c0 := (D0.out.get 0 rfl).cell 0
    have c1 := (D0.out.get 0 rfl).cell 1
    simp only [List.getElem?_cons_zero, List.getElem?_cons_succ] at c0 c1
    go_wp2_with (first | (go_at_call 151; refine (HSp.out _ D0.out.db).mono ?_; rintro e w1 ⟨rfl, rfl⟩) | (go_at_call 152; refine (HI16.out _).mono ?_; rintro e w1 ⟨rfl, rfl⟩))
    exact ⟨rfl, d, rfl, HS0.out, D0.out.db, D0.out.but⟩
  rw [if_pos a5]
  have HI16 : Hid (∀ W, Calls Tryz.prog 152 #[.bool (decide (i < 256)), .int .u32 16] W fun e W' => e = .returned (.tuple #[]) ∧ W' = W) := hid (fun W => by rw [decide_eq_true a5]; exact insist_yes W 16)
  have HFr := hid (fun w (hw : DB w p d) => isFree_any w p d hw q)
  have kw : wrap64 i = i := by unfold wrap64; omega
  clear a5
  by_cases a2 : (d.ent q).t = 0
  rotate_left
  · rw [if_neg a2, if_neg (by decide), if_neg (by decide)]
    rw [decide_eq_false a2] at HFr
    clear h a2 hU hG q0 i0 kw
    simp only [stV, stC, ptr, inE, Bool.false_eq_true, if_false] at *
    go_enter Tryz.func93, Tryz.ntmps93
    go_upto_region 1 with fail
    generalize World.alloc _ _ = X at *
    generalize hg3 : W.heap.size = g3 at D0 ⊢
    have HG3 := hid hg3
    clear hg3
    have c0 := (D0.out.get 0 rfl).cell 0
    have c1 := (D0.out.get 0 rfl).cell 1
    simp only [List.getElem?_cons_zero, List.getElem?_cons_succ] at c0 c1
    go_wp2_with (first | (go_at_call 151; refine (HSp.out _ D0.out.db).mono ?_; rintro e w1 ⟨rfl, rfl⟩) | (go_at_call 152; refine (HI16.out _).mono ?_; rintro e w1 ⟨rfl, rfl⟩) | (go_at_call 153; refine (HFr.out _ D0.out.db).mono ?_; rintro e w1 ⟨rfl, hb⟩; have D1 := hid (D0.out.on hb); clear hb c0 c1))
    exact ⟨rfl, d, rfl, HS0.out, D1.out.db, D1.out.but⟩
  rw [if_pos a2]
  rw [decide_eq_true a2] at HFr
  clear a2
  have HNt := hid (fun w (hw : DB w p d) => noTable_any w p d hw hU s i)
  by_cases a6 : d.ntC s i = 0
  rotate_left
  · rw [if_neg a6, if_neg a6, if_neg a6]
    simp only [if_neg a6] at HNt
    clear h a6 hU hG q0 i0
    generalize d.ntC s i = nt at *
    simp only [stV, stC, ptr, inE, if_true] at *
    go_enter Tryz.func93, Tryz.ntmps93
    go_upto_region 1 with fail
    generalize World.alloc _ _ = X at *
    generalize hg3 : W.heap.size = g3 at D0 ⊢
    have HG3 := hid hg3
    clear hg3
    have c0 := (D0.out.get 0 rfl).cell 0
    have c1 := (D0.out.get 0 rfl).cell 1
    simp only [List.getElem?_cons_zero, List.getElem?_cons_succ] at c0 c1
    go_upto_region 4 with (first | (go_at_call 151; refine (HSp.out _ D0.out.db).mono ?_; rintro e w1 ⟨rfl, rfl⟩) | (go_at_call 152; refine (HI16.out _).mono ?_; rintro e w1 ⟨rfl, rfl⟩) | (go_at_call 153; refine (HFr.out _ D0.out.db).mono ?_; rintro e w1 ⟨rfl, hb⟩; have D1 := hid (D0.out.on hb); clear hb c0 c1))
    go_wp2_with (first | (refine wpList_load_gm rfl 148 _ rfl g3 0 rfl _ _ (D1.out.get 0 rfl).range under148 rfl size148 ?_) | (go_at_call 161; refine (HNt.out _ D1.out.db).mono ?_; rintro e w2 ⟨d1, rfl, hs1, hd1, hb1⟩; have D2 := hid (D1.out.step hd1 hb1 p.fw_w); have S2 := hid hs1; clear hs1 hd1 hb1))
    exact ⟨rfl, d1, rfl, S2.out, D2.out.db, D2.out.but⟩
  rw [if_pos a6]
  simp only [if_pos a6] at HNt
  clear a6
  by_cases a3 : H.LoadOk (d.st s)
  rotate_left
  · rw [if_neg a3, if_neg (by decide), if_neg (by decide)]
    have HX := hid (fun w e hs hw hg => extS_no p d hU s ⟨2, i, []⟩ (okK 2 i (by decide) (by decide) rfl) none 0 a3 w e hs hw hg (fun _ _ => .inl rfl))
    clear h a3 hU hG q0 i0
    simp only [stV, stC, ptr, inE, if_true, Q.MOp.v, List.length_nil] at *
    go_enter Tryz.func93, Tryz.ntmps93
    go_upto_region 1 with fail
    generalize World.alloc _ _ = X at *
    generalize hg3 : W.heap.size = g3 at D0 ⊢
    have HG3 := hid hg3
    clear hg3
    have c0 := (D0.out.get 0 rfl).cell 0
    have c1 := (D0.out.get 0 rfl).cell 1
    simp only [List.getElem?_cons_zero, List.getElem?_cons_succ] at c0 c1
    go_upto_region 4 with (first | (go_at_call 151; refine (HSp.out _ D0.out.db).mono ?_; rintro e w1 ⟨rfl, rfl⟩) | (go_at_call 152; refine (HI16.out _).mono ?_; rintro e w1 ⟨rfl, rfl⟩) | (go_at_call 153; refine (HFr.out _ D0.out.db).mono ?_; rintro e w1 ⟨rfl, hb⟩; have D1 := hid (D0.out.on hb); clear hb c0 c1))
    go_upto_region 5 with (first | (refine wpList_load_gm rfl 148 _ rfl g3 0 rfl _ _ (D1.out.get 0 rfl).range under148 rfl size148 ?_) | (go_at_call 161; refine (HNt.out _ D1.out.db).mono ?_; rintro e w2 ⟨d1, rfl, hs1, hd1, hb1⟩; have D2 := hid (D1.out.step hd1 hb1 p.fw_w); have S2 := hid hs1; clear hs1 hd1 hb1))
    clear D1
    go_wp2_with (first | (refine wpList_load_gm rfl 148 _ rfl g3 0 rfl _ _ (D2.out.get 0 rfl).range under148 rfl size148 ?_) | (refine wpList_build_f rfl 54 _ rfl _ rfl _ (built54 2 i) ?_) | (go_at_call 156; refine (HX.out _ _ S2.out D2.out.db (HGl.out _ _ _ D2.out)).mono ?_; rintro e w3 ⟨d2, rfl, hs1, hd1, hb1⟩; have D3 := hid (D2.out.step hd1 hb1 p.fw_w); have S3 := hid hs1; clear hs1 hd1 hb1))
    exact ⟨rfl, d2, rfl, S3.out, D3.out.db, D3.out.but⟩
  rw [if_pos a3]
  have HX := hid (fun w e hs hw hg => extS_ok p d hU s ⟨2, i, []⟩ (okK 2 i (by decide) (by decide) rfl) none 0 a3 w e hs hw hg (fun _ _ => .inl rfl))
  have hXl : (Q.exS (d.st s) [2, i]).length = 26 := Q.exS_len (d.st_length s)
  have HT := hid (fun w e hs hw => takeS p d s q 4 w e hs hw)
  have HDt : Hid (d.tbD s q i = ((d.take q 4 s).addS s i q).dig s (Q.exS (d.st s) [2, i]) 26) := hid rfl
  clear a3
  by_cases a4 : d.takeE q 4 s = 0
  rotate_left
  · rw [if_neg a4, if_neg (by decide), if_neg (by decide)]
    rw [decide_eq_false a4] at HT
    have HTm := hid (fun (e : DS) (hs : DS.Sim d e) => hs.noTake a4)
    clear h hU hG q0 i0 HDt a4
    simp only [stV, stC, ptr, inE, if_true, Bool.false_eq_true, if_false, Q.MOp.v, Q.MOp.wds, List.length_nil] at *
    generalize Q.exS (d.st s) [2, i] = XS at *
    go_enter Tryz.func93, Tryz.ntmps93
    go_upto_region 1 with fail
    generalize World.alloc _ _ = X at *
    generalize hg3 : W.heap.size = g3 at D0 ⊢
    have HG3 := hid hg3
    clear hg3
    have c0 := (D0.out.get 0 rfl).cell 0
    have c1 := (D0.out.get 0 rfl).cell 1
    simp only [List.getElem?_cons_zero, List.getElem?_cons_succ] at c0 c1
    go_upto_region 4 with (first | (go_at_call 151; refine (HSp.out _ D0.out.db).mono ?_; rintro e w1 ⟨rfl, rfl⟩) | (go_at_call 152; refine (HI16.out _).mono ?_; rintro e w1 ⟨rfl, rfl⟩) | (go_at_call 153; refine (HFr.out _ D0.out.db).mono ?_; rintro e w1 ⟨rfl, hb⟩; have D1 := hid (D0.out.on hb); clear hb c0 c1))
    go_upto_region 5 with (first | (refine wpList_load_gm rfl 148 _ rfl g3 0 rfl _ _ (D1.out.get 0 rfl).range under148 rfl size148 ?_) | (go_at_call 161; refine (HNt.out _ D1.out.db).mono ?_; rintro e w2 ⟨d1, rfl, hs1, hd1, hb1⟩; have D2 := hid (D1.out.step hd1 hb1 p.fw_w); have S2 := hid hs1; clear hs1 hd1 hb1))
    clear D1
    go_upto_region 6 with (first | (refine wpList_load_gm rfl 148 _ rfl g3 0 rfl _ _ (D2.out.get 0 rfl).range under148 rfl size148 ?_) | (refine wpList_build_f rfl 54 _ rfl _ rfl _ (built54 2 i) ?_) | (go_at_call 156; refine (HX.out _ _ S2.out D2.out.db (HGl.out _ _ _ D2.out)).mono ?_; rintro e w3 ⟨d2, gx, rfl, hs1, hd1, hb1, hg1, hc1⟩; have D3 := hid (D2.out.step hd1 hb1 p.fw_w); have S3 := hid hs1; have HN := hid (Nat.le_trans D2.out.low hg1); have D4 := hid (D3.out.push hc1 HN.out); clear hs1 hd1 hb1 hg1 hc1))
    clear D2 D3
    go_wp2_with (first | (refine wpList_load_gm rfl 148 _ rfl g3 0 rfl _ _ (D4.out.get 1 rfl).range under148 rfl size148 ?_) | (go_at_call 157; refine (HT.out _ _ S3.out D4.out.db).mono ?_; rintro e w4 ⟨rfl, hd1, hb1⟩; have D5 := hid (D4.out.step hd1 hb1 (fun _ hk => hk)); clear hd1 hb1))
    exact ⟨rfl, _, rfl, HTm.out _ S3.out, D5.out.db, D5.out.but⟩
  · rw [if_pos a4, if_pos rfl, if_pos rfl, HDt.out]
    rw [decide_eq_true a4] at HT
    have HAd := hid (fun w e (hs : DS.Sim d e) (hw : DB w p (e.take q 4 s)) => addTable_any w p (e.take q 4 s) hw (by rw [DS.take_m]; exact hs.U hU) s i q)
    have HLd := hid (fun w e g L (hw : DB w p e) (hL : L.length = 26) (hc : Cel w g 59 (u32s L)) (hg : g ∉ p.f.w) => layDigest_any w p e hw s g L hL hc hg)
    have HDg := hid (fun (e : DS) L (hs : DS.Sim d e) => (show DS.Sim (((d.take q 4 s).addS s i q).dig s L 26) (((e.take q 4 s).add s i q).dig s L 26) from ((((hs.take q 4 s).addS s i q).trans (DS.Sim.add _ s i q)).dig s L 26)))
    clear h hU hG q0 i0 HDt a4
    simp only [stV, stC, ptr, inE, if_true, Q.MOp.v, Q.MOp.wds, List.length_nil] at *
    generalize Q.exS (d.st s) [2, i] = XS at *
    go_enter Tryz.func93, Tryz.ntmps93
    go_upto_region 1 with fail
    generalize World.alloc _ _ = X at *
    generalize hg3 : W.heap.size = g3 at D0 ⊢
    have HG3 := hid hg3
    clear hg3
    have c0 := (D0.out.get 0 rfl).cell 0
    have c1 := (D0.out.get 0 rfl).cell 1
    simp only [List.getElem?_cons_zero, List.getElem?_cons_succ] at c0 c1
    go_upto_region 4 with (first | (go_at_call 151; refine (HSp.out _ D0.out.db).mono ?_; rintro e w1 ⟨rfl, rfl⟩) | (go_at_call 152; refine (HI16.out _).mono ?_; rintro e w1 ⟨rfl, rfl⟩) | (go_at_call 153; refine (HFr.out _ D0.out.db).mono ?_; rintro e w1 ⟨rfl, hb⟩; have D1 := hid (D0.out.on hb); clear hb c0 c1))
    go_upto_region 5 with (first | (refine wpList_load_gm rfl 148 _ rfl g3 0 rfl _ _ (D1.out.get 0 rfl).range under148 rfl size148 ?_) | (go_at_call 161; refine (HNt.out _ D1.out.db).mono ?_; rintro e w2 ⟨d1, rfl, hs1, hd1, hb1⟩; have D2 := hid (D1.out.step hd1 hb1 p.fw_w); have S2 := hid hs1; clear hs1 hd1 hb1))
    clear D1
    go_upto_region 6 with (first | (refine wpList_load_gm rfl 148 _ rfl g3 0 rfl _ _ (D2.out.get 0 rfl).range under148 rfl size148 ?_) | (refine wpList_build_f rfl 54 _ rfl _ rfl _ (built54 2 i) ?_) | (go_at_call 156; refine (HX.out _ _ S2.out D2.out.db (HGl.out _ _ _ D2.out)).mono ?_; rintro e w3 ⟨d2, gx, rfl, hs1, hd1, hb1, hg1, hc1⟩; have D3 := hid (D2.out.step hd1 hb1 p.fw_w); have S3 := hid hs1; have HN := hid (Nat.le_trans D2.out.low hg1); have D4 := hid (D3.out.push hc1 HN.out); clear hs1 hd1 hb1 hg1 hc1))
    clear D2 D3
    go_upto_region 7 with (first | (refine wpList_load_gm rfl 148 _ rfl g3 0 rfl _ _ (D4.out.get 1 rfl).range under148 rfl size148 ?_) | (go_at_call 157; refine (HT.out _ _ S3.out D4.out.db).mono ?_; rintro e w4 ⟨rfl, hd1, hb1⟩; have D5 := hid (D4.out.step hd1 hb1 (fun _ hk => hk)); clear hd1 hb1))
    have c0 := (D5.out.get 1 rfl).cell 0
    have c1 := (D5.out.get 1 rfl).cell 1
    simp only [List.getElem?_cons_zero, List.getElem?_cons_succ] at c0 c1
    go_upto_region 8 with (first | (go_at_call 50; refine (HAd.out _ _ S3.out D5.out.db).mono ?_; rintro e w5 ⟨rfl, hd1, hb1⟩; have D6 := hid (D5.out.step hd1 hb1 p.fw_w); clear hd1 hb1 c0 c1))
    go_wp2_with (first | (refine wpList_load_gm rfl 148 _ rfl g3 0 rfl _ _ (D6.out.get 1 rfl).range under148 rfl size148 ?_) | (go_at_call 155; refine (HLd.out _ _ _ XS D6.out.db hXl (D6.out.get 0 rfl) (D6.out.notin HN.out)).mono ?_; rintro e w7 ⟨rfl, hd1, hb1⟩; have D7 := hid (D6.out.step hd1 hb1 p.fw_w); clear hd1 hb1))
    go_returns
    exact ⟨_, rfl, HDg.out _ XS S3.out, D7.out.db, D7.out.but⟩
def DS.tbK (d : DS) (a b c : Int) : Int := if d.opE a = 0 then d.tbC a b c else d.opE a
theorem tableb_any (W : World) (p : Dp) (d : DS) (h : DB W p d) (hU : d.m.U) (hG : Gl W p) (a b c : Int) (a0 : 0 ≤ a) (b0 : 0 ≤ b) (c0 : 0 ≤ c) :
    Calls Tryz.prog 41 #[ptr p.g, .int .u32 a, .int .u32 b, .int .u32 c] W fun e W' => ∃ d', e = .returned (.int .u32 (d.tbK a b c)) ∧ DS.Sim (if d.tbK a b c = 0 then d.tbD a b c else d) d' ∧ DB W' p d' ∧ ButL p.w W W' := by
  have hmf : ∀ (fn : Fn) (first cap : Array Value) (w : World), (Instr.makeFunc fn first cap).run Tryz.prog w = .ok (.func fn first cap) w := fun _ _ _ _ => rfl
  have hC : d.tbK a b c = if d.opE a = 0 then d.tbC a b c else d.opE a := rfl
  have D0 := hid ((DG.startp h).new 77 [.int .u32 0])
  have HGl := hid (fun w L d' (k : DG W w p d' p.w L) => hG.step k.but p.w_all')
  have HO := hid (fun w (hw : DB w p d) => open_any w p d hw a a0)
  have HS0 := hid (DS.Sim.refl d)
  by_cases e1 : d.opE a = 0
  rotate_left
  · rw [hC, if_neg e1, if_neg e1]
    rw [if_neg e1] at HO
    clear h hC hU hG a0 b0 c0 e1
    generalize d.opE a = oe at *
    simp only [ptr] at *
    go_enter_defers Tryz.func41, Tryz.ntmps41
    go_upto_region 1 with fail
    generalize World.alloc _ _ = X at *
    generalize hg3 : W.heap.size = g3 at D0 ⊢
    clear hg3
    go_wp2_with (first | (go_at_call 82; refine (HO.out _ D0.out.db).mono ?_; rintro e w1 ⟨rfl, hb⟩; have D1 := hid (D0.out.on hb); clear hb))
    refine leaves_cons (f := 92) (args := #[.pointer (some ⟨g3, 0, none⟩)]) (by simp) (by simp [go_sem]) ?_
    refine (catch92 ⟨g3, 0, none⟩ 0 oe _ ?_ ?_).mono ?_
    · exact (D1.out.get 0 rfl).cell 0
    · exact (D1.out.get 0 rfl).free 0
    rintro e u' w'' ⟨rfl, rfl, rfl⟩
    have DX := hid (D1.out.put (by simp) ((D1.out.get 0 rfl).setCell 0 (.int .u32 oe)) (.setCell _ _ _ _ (by simp)))
    simp only [List.set_cons_zero] at DX
    have hcc := (DX.out.get 0 rfl).cell 0
    simp only [List.getElem?_cons_zero] at hcc
    simp [Leaves, settle, results, Tryz.results41, go_sem]
    rw [hcc]
    exact ⟨_, rfl, rfl, d, HS0.out, DX.out.db, DX.out.but⟩
  rw [hC, if_pos e1]
  rw [if_pos e1] at HO
  have HA := hid (fun w (hw : DB w p d) (hg : Gl w p) => addTab_any w p d hw hU hg a b c b0 c0)
  clear hC e1 h hU hG a0 b0 c0
  by_cases e2 : d.tbC a b c = 0
  rotate_left
  · rw [if_neg e2]
    simp only [if_neg e2] at HA
    clear e2
    generalize d.tbC a b c = oe at *
    simp only [ptr, stV, stC] at *
    go_enter_defers Tryz.func41, Tryz.ntmps41
    go_upto_region 1 with fail
    generalize World.alloc _ _ = X at *
    generalize hg3 : W.heap.size = g3 at D0 ⊢
    clear hg3
    go_wp2_with (first | (go_at_call 82; refine (HO.out _ D0.out.db).mono ?_; rintro e w1 ⟨rfl, hb⟩; have D1 := hid (D0.out.on hb); clear hb) | (go_at_call 93; refine (HA.out _ D1.out.db (HGl.out _ _ _ D1.out)).mono ?_; rintro e w2 ⟨d1, rfl, hs, hd, hb⟩; have D2 := hid (D1.out.step hd hb (fun _ hk => hk)); have S2 := hid hs; clear hs hd hb))
    refine leaves_cons (f := 92) (args := #[.pointer (some ⟨g3, 0, none⟩)]) (by simp) (by simp [go_sem]) ?_
    refine (catch92 ⟨g3, 0, none⟩ 0 oe _ ?_ ?_).mono ?_
    · exact (D2.out.get 0 rfl).cell 0
    · exact (D2.out.get 0 rfl).free 0
    rintro e u' w'' ⟨rfl, rfl, rfl⟩
    have DX := hid (D2.out.put (by simp) ((D2.out.get 0 rfl).setCell 0 (.int .u32 oe)) (.setCell _ _ _ _ (by simp)))
    simp only [List.set_cons_zero] at DX
    have hcc := (DX.out.get 0 rfl).cell 0
    simp only [List.getElem?_cons_zero] at hcc
    simp [Leaves, settle, results, Tryz.results41, go_sem]
    rw [hcc]
    exact ⟨_, rfl, rfl, d1, S2.out, DX.out.db, DX.out.but⟩
  · rw [if_pos e2, e2]
    simp only [if_pos e2] at HA
    clear e2
    generalize d.tbD a b c = dT at *
    simp only [ptr, stV, stC] at *
    go_enter_defers Tryz.func41, Tryz.ntmps41
    go_upto_region 1 with fail
    generalize World.alloc _ _ = X at *
    generalize hg3 : W.heap.size = g3 at D0 ⊢
    clear hg3
    go_upto_region 3 with (first | (go_at_call 82; refine (HO.out _ D0.out.db).mono ?_; rintro e w1 ⟨rfl, hb⟩; have D1 := hid (D0.out.on hb); clear hb) | (go_at_call 93; refine (HA.out _ D1.out.db (HGl.out _ _ _ D1.out)).mono ?_; rintro e w2 ⟨d1, rfl, hs, hd, hb⟩; have D2 := hid (D1.out.step hd hb (fun _ hk => hk)); have S2 := hid hs; clear hs hd hb))
    have z0 := (D2.out.get 0 rfl).cell 0
    have z1 := (D2.out.get 0 rfl).free 0
    simp only [List.getElem?_cons_zero] at z0
    have D3 := hid (D2.out.put (by simp) ((D2.out.get 0 rfl).setCell 0 (.int .u32 0)) (.setCell _ _ _ _ (by simp)))
    simp only [List.set_cons_zero] at D3
    go_wp2_with fail
    refine leaves_cons (f := 92) (args := #[.pointer (some ⟨g3, 0, none⟩)]) (by simp) (by simp [go_sem]) ?_
    refine (idle92 ⟨g3, 0, none⟩ _).mono ?_
    rintro e u' w'' ⟨rfl, rfl, rfl⟩
    simp [Leaves, settle, results, Tryz.results41, go_sem]
    have hcc := (D3.out.get 0 rfl).cell 0
    simp only [List.getElem?_cons_zero] at hcc
    rw [hcc]
    exact ⟨_, rfl, rfl, _, S2.out, D3.out.db, D3.out.but⟩
end Go.Proofs.YtllcbgdcepfdkaaGreatDoor
