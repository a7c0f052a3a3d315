import Derived.Test.YtllcbgdcepfdkaaGreatDoorP40
import Derived.Test.YtllcbgdcepfdkaaGreatDoorP23
import Derived.Test.YtllcbgdcepfdkaaGreatDoorP26
import Derived.Deep.OwnRows
namespace Go.Proofs.YtllcbgdcepfdkaaGreatDoor
open Go.RowKit
set_option maxRecDepth 100000
set_option maxHeartbeats 2000000
theorem gP_va (w : Int) (h0 : 0 ≤ w) (h1 : w < 4294967296) : 0 ≤ (gP w).va ∧ (gP w).va < 4294967296 := by
  by_cases h : Gw w
  · rw [gP_pos h]; simp only [gG]; omega
  · rw [gP_neg h]; simp only [Gm.z]; omega
def DS.shC (d : DS) (s w u : Int) : Int := if gPE w = 0 then (if (gP w).ex = true then 6 else if (d.ni : Int) ≤ u then 17 else if slC (d.slotE s (gP w).va) = 0 then (if H.LoadOk (d.st s) then 0 else 4) else slC (d.slotE s (gP w).va)) else 6
def DS.shD (d : DS) (s w u : Int) : DS := (d.putS s (gP w).va ⟨false, u, (gP w).wr, false⟩).dig s (Q.exS (d.st s) [4, w]) 26
theorem addShare_any (W : World) (p : Dp) (d : DS) (h : DB W p d) (hU : d.m.U) (hG : Gl W p) (s w u : Int) (w0 : 0 ≤ w) (w1 : w < 4294967296) (u0 : 0 ≤ u) :
    Calls Tryz.prog 97 #[stV p s, .int .u32 w, .int .u32 u] W fun e W' => ∃ d', e = (if d.shC s w u = 0 then .returned (.tuple #[]) else .panicked (pn (d.shC s w u))) ∧ DS.Sim (if d.shC s w u = 0 then d.shD s w u else d) d' ∧ DB W' p d' ∧ ButL p.w W W' := by
  have hC : d.shC s w u = if gPE w = 0 then (if (gP w).ex = true then 6 else if (d.ni : Int) ≤ u then 17 else if slC (d.slotE s (gP w).va) = 0 then (if H.LoadOk (d.st s) then 0 else 4) else slC (d.slotE s (gP w).va)) else 6 := rfl
  have D0 := hid ((DG.startp h).new 148 (stC p s))
  have HGl := hid (fun w L d' (k : DG W w p d' p.w L) => hG.step k.but p.w_all')
  have HS0 := hid (DS.Sim.refl d)
  obtain ⟨v0, v1⟩ := gP_va w w0 w1
  by_cases a1 : gPE w = 0
  rotate_left
  · have HPa := hid (fun W => parsed_no W w w0 w1 a1)
    rw [hC, if_neg a1, if_neg (by decide), if_neg (by decide)]
    clear h hC a1 hU hG w0 w1 u0 v0 v1
    simp only [stV, stC] at *
    go_enter Tryz.func97, Tryz.ntmps97
    go_upto_region 1 with fail
    generalize World.alloc _ _ = X at *
    generalize hg3 : W.heap.size = g3 at D0 ⊢
    have HG3 := hid hg3
    clear hg3
    go_wp2_with (first | (go_at_call 162; refine (HPa.out _).mono ?_; rintro e w1 ⟨rfl, hb⟩; have D1 := hid (D0.out.on hb); clear hb))
    exact ⟨rfl, d, rfl, HS0.out, D1.out.db, D1.out.but⟩
  have HPa := hid (fun W => parsed_yes W w w0 w1 a1)
  rw [hC, if_pos a1]
  have HDt : Hid (d.shD s w u = (d.putS s (gP w).va ⟨false, u, (gP w).wr, false⟩).dig s (Q.exS (d.st s) [4, w]) 26) := hid rfl
  rw [HDt.out]
  clear hC a1 w0 w1 HDt
  generalize gP w = m at *
  obtain ⟨va, mw, mx⟩ := m
  simp only [Gm.v] at *
  cases mx
  rotate_left
  · rw [if_pos rfl, if_neg (by decide), if_neg (by decide)]
    clear h hU hG u0 v0 v1
    simp only [stV, stC] at *
    go_enter Tryz.func97, Tryz.ntmps97
    go_upto_region 1 with fail
    generalize World.alloc _ _ = X at *
    generalize hg3 : W.heap.size = g3 at D0 ⊢
    have HG3 := hid hg3
    clear hg3
    go_upto_region 2 with (first | (go_at_call 162; refine (HPa.out _).mono ?_; rintro e w1 ⟨rfl, hb⟩; have D1 := hid (D0.out.on hb); clear hb) | (refine wpList_store_st rfl 100 _ _ rfl w1.heap.size [.int .u32 va, .bool mw, .bool true] rfl rfl (Cel.new w1 100 [.int .u32 0, .bool false, .bool false]) size26 rfl rfl ?_; intro w2 hc hb hs; have D2 := hid (D1.out.add hc hb); clear hc hb hs))
    generalize w1.heap.size = g6 at *
    have c2 := (D2.out.get 0 rfl).cell 2
    have c0 := (D2.out.get 1 rfl).cell 0
    simp only [List.getElem?_cons_zero, List.getElem?_cons_succ] at c0 c2
    go_wp2_with (first | (go_at_call 152; refine (insist_no _ 6).mono ?_; rintro e w3 ⟨rfl, rfl⟩))
    exact ⟨rfl, d, rfl, HS0.out, D2.out.db, D2.out.but⟩
  rw [if_neg (show ¬ (false = true) by decide)]
  by_cases a2 : (d.ni : Int) ≤ u
  · rw [if_pos a2, if_neg (by decide), if_neg (by decide)]
    have HIn := hid (fun w (hw : DB w p d) => insecP_no w p d hw u a2)
    clear h hU hG u0 v0 v1 a2
    simp only [stV, stC, ptr] at *
    go_enter Tryz.func97, Tryz.ntmps97
    go_upto_region 1 with fail
    generalize World.alloc _ _ = X at *
    generalize hg3 : W.heap.size = g3 at D0 ⊢
    have HG3 := hid hg3
    clear hg3
    go_upto_region 2 with (first | (go_at_call 162; refine (HPa.out _).mono ?_; rintro e w1 ⟨rfl, hb⟩; have D1 := hid (D0.out.on hb); clear hb) | (refine wpList_store_st rfl 100 _ _ rfl w1.heap.size [.int .u32 va, .bool mw, .bool false] rfl rfl (Cel.new w1 100 [.int .u32 0, .bool false, .bool false]) size26 rfl rfl ?_; intro w2 hc hb hs; have D2 := hid (D1.out.add hc hb); clear hc hb hs))
    generalize w1.heap.size = g6 at *
    have c2 := (D2.out.get 0 rfl).cell 2
    have c0 := (D2.out.get 1 rfl).cell 0
    simp only [List.getElem?_cons_zero, List.getElem?_cons_succ] at c0 c2
    go_wp2_with (first | (go_at_call 152; refine (insist_yes _ 6).mono ?_; rintro e w3 ⟨rfl, rfl⟩) | (go_at_call 163; refine (HIn.out _ D2.out.db).mono ?_; rintro e w3 ⟨rfl, hb⟩; have D3 := hid (D2.out.on hb); clear hb c0 c2))
    exact ⟨rfl, d, rfl, HS0.out, D3.out.db, D3.out.but⟩
  rw [if_neg a2]
  have HIn := hid (fun w (hw : DB w p d) => insecP_yes w p d hw u u0 (by omega))
  have HEm := hid (fun w (hw : DB w p d) => isEmpty_any w p d hw hU s va v0 v1)
  have HSl := hid (DS.Sim.look d s va)
  clear a2
  by_cases a3 : slC (d.slotE s va) = 0
  rotate_left
  · rw [if_neg a3, if_neg a3, if_neg a3]
    simp only [if_neg a3] at HEm
    clear h hU hG u0 v0 v1 a3
    generalize slC (d.slotE s va) = sc at *
    generalize d.look s va = dl at *
    simp only [stV, stC, ptr, fr] at *
    go_enter Tryz.func97, Tryz.ntmps97
    go_upto_region 1 with fail
    generalize World.alloc _ _ = X at *
    generalize hg3 : W.heap.size = g3 at D0 ⊢
    have HG3 := hid hg3
    clear hg3
    go_upto_region 2 with (first | (go_at_call 162; refine (HPa.out _).mono ?_; rintro e w1 ⟨rfl, hb⟩; have D1 := hid (D0.out.on hb); clear hb) | (refine wpList_store_st rfl 100 _ _ rfl w1.heap.size [.int .u32 va, .bool mw, .bool false] rfl rfl (Cel.new w1 100 [.int .u32 0, .bool false, .bool false]) size26 rfl rfl ?_; intro w2 hc hb hs; have D2 := hid (D1.out.add hc hb); clear hc hb hs))
    generalize w1.heap.size = g6 at *
    have c2 := (D2.out.get 0 rfl).cell 2
    have c0 := (D2.out.get 1 rfl).cell 0
    simp only [List.getElem?_cons_zero, List.getElem?_cons_succ] at c0 c2
    go_upto_region 4 with (first | (go_at_call 152; refine (insist_yes _ 6).mono ?_; rintro e w3 ⟨rfl, rfl⟩) | (go_at_call 163; refine (HIn.out _ D2.out.db).mono ?_; rintro e w3 ⟨rfl, hb⟩; have D3 := hid (D2.out.on hb); clear hb c0 c2) | (refine wpList_store_st rfl 82 _ _ rfl w3.heap.size [.bool false, .int .i64 u] rfl rfl (Cel.new w3 82 [.bool false, .int .i64 0]) size82 rfl rfl ?_; intro w4 hc hb hs; have D4 := hid (D3.out.add hc hb); clear hc hb hs))
    generalize w3.heap.size = g7 at *
    have c3 := (D4.out.get 1 rfl).cell 0
    simp only [List.getElem?_cons_zero] at c3
    go_wp2_with (first | (refine wpList_load_gm rfl 148 _ rfl g3 0 rfl _ _ (D4.out.get 2 rfl).range under148 rfl size148 ?_) | (go_at_call 164; refine (HEm.out _ D4.out.db).mono ?_; rintro e w5 ⟨rfl, hd1, hb1⟩; have D5 := hid (D4.out.step hd1 hb1 p.fw_w); clear hd1 hb1 c3))
    exact ⟨rfl, dl, rfl, HSl.out, D5.out.db, D5.out.but⟩
  rw [if_pos a3]
  simp only [if_pos a3] at HEm
  clear a3
  by_cases a4 : H.LoadOk (d.st s)
  rotate_left
  · rw [if_neg a4, if_neg (by decide), if_neg (by decide)]
    have HX := hid (fun W e hs hw hg => extS_no p d hU s ⟨4, w, []⟩ (okK 4 w (by decide) (by decide) rfl) none 0 a4 W e hs hw hg (fun _ _ => .inl rfl))
    clear h hU hG u0 v0 v1 a4
    generalize d.look s va = dl at *
    simp only [stV, stC, ptr, fr, Q.MOp.v, List.length_nil] at *
    go_enter Tryz.func97, Tryz.ntmps97
    go_upto_region 1 with fail
    generalize World.alloc _ _ = X at *
    generalize hg3 : W.heap.size = g3 at D0 ⊢
    have HG3 := hid hg3
    clear hg3
    go_upto_region 2 with (first | (go_at_call 162; refine (HPa.out _).mono ?_; rintro e w1 ⟨rfl, hb⟩; have D1 := hid (D0.out.on hb); clear hb) | (refine wpList_store_st rfl 100 _ _ rfl w1.heap.size [.int .u32 va, .bool mw, .bool false] rfl rfl (Cel.new w1 100 [.int .u32 0, .bool false, .bool false]) size26 rfl rfl ?_; intro w2 hc hb hs; have D2 := hid (D1.out.add hc hb); clear hc hb hs))
    generalize w1.heap.size = g6 at *
    have c2 := (D2.out.get 0 rfl).cell 2
    have c0 := (D2.out.get 1 rfl).cell 0
    simp only [List.getElem?_cons_zero, List.getElem?_cons_succ] at c0 c2
    go_upto_region 4 with (first | (go_at_call 152; refine (insist_yes _ 6).mono ?_; rintro e w3 ⟨rfl, rfl⟩) | (go_at_call 163; refine (HIn.out _ D2.out.db).mono ?_; rintro e w3 ⟨rfl, hb⟩; have D3 := hid (D2.out.on hb); clear hb c0 c2) | (refine wpList_store_st rfl 82 _ _ rfl w3.heap.size [.bool false, .int .i64 u] rfl rfl (Cel.new w3 82 [.bool false, .int .i64 0]) size82 rfl rfl ?_; intro w4 hc hb hs; have D4 := hid (D3.out.add hc hb); clear hc hb hs))
    generalize w3.heap.size = g7 at *
    have c3 := (D4.out.get 1 rfl).cell 0
    simp only [List.getElem?_cons_zero] at c3
    go_upto_region 5 with (first | (refine wpList_load_gm rfl 148 _ rfl g3 0 rfl _ _ (D4.out.get 2 rfl).range under148 rfl size148 ?_) | (go_at_call 164; refine (HEm.out _ D4.out.db).mono ?_; rintro e w5 ⟨rfl, hd1, hb1⟩; have D5 := hid (D4.out.step hd1 hb1 p.fw_w); clear hd1 hb1 c3))
    clear D4
    go_wp2_with (first | (refine wpList_load_gm rfl 148 _ rfl g3 0 rfl _ _ (D5.out.get 2 rfl).range under148 rfl size148 ?_) | (refine wpList_build_f rfl 54 _ rfl _ rfl _ (built54 4 w) ?_) | (go_at_call 156; refine (HX.out _ _ HSl.out D5.out.db (HGl.out _ _ _ D5.out)).mono ?_; rintro e w6 ⟨d2, rfl, hs1, hd1, hb1⟩; have D6 := hid (D5.out.step hd1 hb1 p.fw_w); have S3 := hid hs1; clear hs1 hd1 hb1))
    exact ⟨rfl, d2, rfl, S3.out, D6.out.db, D6.out.but⟩
  rw [if_pos a4, if_pos rfl, if_pos rfl]
  have HX := hid (fun W e hs hw hg => extS_ok p d hU s ⟨4, w, []⟩ (okK 4 w (by decide) (by decide) rfl) none 0 a4 W e hs hw hg (fun _ _ => .inl rfl))
  have hXl : (Q.exS (d.st s) [4, w]).length = 26 := Q.exS_len (d.st_length s)
  have HPu := hid (fun W e (hs : DS.Sim d e) (hw : DB W p e) => sput_any W p e hw (hs.U hU) s va ⟨false, u, mw, false⟩ v0 v1)
  have HLd := hid (fun w e g L (hw : DB w p e) (hL : L.length = 26) (hc : Cel w g 59 (u32s L)) (hg : g ∉ p.f.w) => layDigest_any w p e hw s g L hL hc hg)
  have HDg := hid (fun (e : DS) L (hs : DS.Sim d e) => (show DS.Sim ((d.putS s va ⟨false, u, mw, false⟩).dig s L 26) ((e.put s va ⟨false, u, mw, false⟩).dig s L 26) from ((hs.putS s va ⟨false, u, mw, false⟩).trans (DS.Sim.put _ s va _)).dig s L 26))
  clear h hU hG u0 v0 v1 a4
  generalize d.look s va = dl at *
  simp only [stV, stC, ptr, fr, Q.MOp.v, Q.MOp.wds, List.length_nil] at *
  generalize Q.exS (d.st s) [4, w] = XS at *
  have hh : True := trivial
  go_enter Tryz.func97, Tryz.ntmps97
  go_upto_region 1 with fail
  generalize World.alloc _ _ = X at *
  generalize hg3 : W.heap.size = g3 at D0 ⊢
  have HG3 := hid hg3
  clear hg3
  go_upto_region 2 with (first | (go_at_call 162; refine (HPa.out _).mono ?_; rintro e w1 ⟨rfl, hb⟩; have D1 := hid (D0.out.on hb); clear hb) | (refine wpList_store_st rfl 100 _ _ rfl w1.heap.size [.int .u32 va, .bool mw, .bool false] rfl rfl (Cel.new w1 100 [.int .u32 0, .bool false, .bool false]) size26 rfl rfl ?_; intro w2 hc hb hs; have D2 := hid (D1.out.add hc hb); clear hc hb hs))
  generalize w1.heap.size = g6 at *
  have c2 := (D2.out.get 0 rfl).cell 2
  have c0 := (D2.out.get 1 rfl).cell 0
  simp only [List.getElem?_cons_zero, List.getElem?_cons_succ] at c0 c2
  go_upto_region 4 with (first | (go_at_call 152; refine (insist_yes _ 6).mono ?_; rintro e w3 ⟨rfl, rfl⟩) | (go_at_call 163; refine (HIn.out _ D2.out.db).mono ?_; rintro e w3 ⟨rfl, hb⟩; have D3 := hid (D2.out.on hb); clear hb c0 c2) | (refine wpList_store_st rfl 82 _ _ rfl w3.heap.size [.bool false, .int .i64 u] rfl rfl (Cel.new w3 82 [.bool false, .int .i64 0]) size82 rfl rfl ?_; intro w4 hc hb hs; have D4 := hid (D3.out.add hc hb); clear hc hb hs))
  generalize w3.heap.size = g7 at *
  have c3 := (D4.out.get 1 rfl).cell 0
  simp only [List.getElem?_cons_zero] at c3
  go_upto_region 5 with (first | (refine wpList_load_gm rfl 148 _ rfl g3 0 rfl _ _ (D4.out.get 2 rfl).range under148 rfl size148 ?_) | (go_at_call 164; refine (HEm.out _ D4.out.db).mono ?_; rintro e w5 ⟨rfl, hd1, hb1⟩; have D5 := hid (D4.out.step hd1 hb1 p.fw_w); clear hd1 hb1 c3))
  clear D4
  go_upto_region 6 with (first | (refine wpList_load_gm rfl 148 _ rfl g3 0 rfl _ _ (D5.out.get 2 rfl).range under148 rfl size148 ?_) | (refine wpList_build_f rfl 54 _ rfl _ rfl _ (built54 4 w) ?_) | (go_at_call 156; refine (HX.out _ _ HSl.out D5.out.db (HGl.out _ _ _ D5.out)).mono ?_; rintro e w6 ⟨d2, gx, rfl, hs1, hd1, hb1, hg1, hc1⟩; have D6 := hid (D5.out.step hd1 hb1 p.fw_w); have S3 := hid hs1; have HN := hid (Nat.le_trans D5.out.low hg1); have D7 := hid (D6.out.push hc1 HN.out); clear hs1 hd1 hb1 hg1 hc1))
  clear D5 D6 hh
  go_upto_region 7 with (first | (refine wpList_load_gm rfl 148 _ rfl g3 0 rfl _ _ (D7.out.get 3 rfl).range under148 rfl size148 ?_) | (refine wpList_load_gm rfl 100 _ rfl g6 0 rfl _ _ (D7.out.get 2 rfl).range under26 rfl size26 ?_) | (refine wpList_load_gm rfl 82 _ rfl g7 0 rfl _ _ (D7.out.get 1 rfl).range under82 rfl size82 ?_) | (go_at_call 166; refine (HPu.out _ _ S3.out D7.out.db).mono ?_; rintro e w7 ⟨rfl, hd1, hb1⟩; have D8 := hid (D7.out.step hd1 hb1 p.fw_w); clear hd1 hb1))
  go_wp2_with (first | (refine wpList_load_gm rfl 148 _ rfl g3 0 rfl _ _ (D8.out.get 3 rfl).range under148 rfl size148 ?_) | (go_at_call 155; refine (HLd.out _ _ _ XS D8.out.db hXl (D8.out.get 0 rfl) (D8.out.notin HN.out)).mono ?_; rintro e w8 ⟨rfl, hd1, hb1⟩; have D9 := hid (D8.out.step hd1 hb1 p.fw_w); clear hd1 hb1))
  go_returns
  exact ⟨_, rfl, HDg.out _ XS S3.out, D9.out.db, D9.out.but⟩
def DS.shK (d : DS) (a b c : Int) : Int := if d.opE a = 0 then d.shC a b c else d.opE a
theorem share_any (W : World) (p : Dp) (d : DS) (h : DB W p d) (hU : d.m.U) (hG : Gl W p) (a b c : Int) (a0 : 0 ≤ a) (b0 : 0 ≤ b) (b1 : b < 4294967296) (c0 : 0 ≤ c) :
    Calls Tryz.prog 43 #[ptr p.g, .int .u32 a, .int .u32 b, .int .u32 c] W fun e W' => ∃ d', e = .returned (.int .u32 (d.shK a b c)) ∧ DS.Sim (if d.shK a b c = 0 then d.shD a b c else d) d' ∧ DB W' p d' ∧ ButL p.w W W' := by
  have hmf : ∀ (fn : Fn) (first cap : Array Value) (w : World), (Instr.makeFunc fn first cap).run Tryz.prog w = .ok (.func fn first cap) w := fun _ _ _ _ => rfl
  have hC : d.shK a b c = if d.opE a = 0 then d.shC a b c else d.opE a := rfl
  have D0 := hid ((DG.startp h).new 77 [.int .u32 0])
  have HGl := hid (fun w L d' (k : DG W w p d' p.w L) => hG.step k.but p.w_all')
  have HO := hid (fun w (hw : DB w p d) => open_any w p d hw a a0)
  have HS0 := hid (DS.Sim.refl d)
  by_cases e1 : d.opE a = 0
  rotate_left
  · rw [hC, if_neg e1, if_neg e1]
    rw [if_neg e1] at HO
    clear h hC hU hG a0 b0 b1 c0 e1
    generalize d.opE a = oe at *
    simp only [ptr] at *
    go_enter_defers Tryz.func43, Tryz.ntmps43
    go_upto_region 1 with fail
    generalize World.alloc _ _ = X at *
    generalize hg3 : W.heap.size = g3 at D0 ⊢
    clear hg3
    go_wp2_with (first | (go_at_call 82; refine (HO.out _ D0.out.db).mono ?_; rintro e w1 ⟨rfl, hb⟩; have D1 := hid (D0.out.on hb); clear hb))
    refine leaves_cons (f := 96) (args := #[.pointer (some ⟨g3, 0, none⟩)]) (by simp) (by simp [go_sem]) ?_
    refine (catch96 ⟨g3, 0, none⟩ 0 oe _ ?_ ?_).mono ?_
    · exact (D1.out.get 0 rfl).cell 0
    · exact (D1.out.get 0 rfl).free 0
    rintro e u' w'' ⟨rfl, rfl, rfl⟩
    have DX := hid (D1.out.put (by simp) ((D1.out.get 0 rfl).setCell 0 (.int .u32 oe)) (.setCell _ _ _ _ (by simp)))
    simp only [List.set_cons_zero] at DX
    have hcc := (DX.out.get 0 rfl).cell 0
    simp only [List.getElem?_cons_zero] at hcc
    simp [Leaves, settle, results, Tryz.results43, go_sem]
    rw [hcc]
    exact ⟨_, rfl, rfl, d, HS0.out, DX.out.db, DX.out.but⟩
  rw [hC, if_pos e1]
  rw [if_pos e1] at HO
  have HA := hid (fun w (hw : DB w p d) (hg : Gl w p) => addShare_any w p d hw hU hg a b c b0 b1 c0)
  clear hC e1 h hU hG a0 b0 b1 c0
  by_cases e2 : d.shC a b c = 0
  rotate_left
  · rw [if_neg e2]
    simp only [if_neg e2] at HA
    clear e2
    generalize d.shC a b c = oe at *
    simp only [ptr, stV, stC] at *
    go_enter_defers Tryz.func43, Tryz.ntmps43
    go_upto_region 1 with fail
    generalize World.alloc _ _ = X at *
    generalize hg3 : W.heap.size = g3 at D0 ⊢
    clear hg3
    go_wp2_with (first | (go_at_call 82; refine (HO.out _ D0.out.db).mono ?_; rintro e w1 ⟨rfl, hb⟩; have D1 := hid (D0.out.on hb); clear hb) | (go_at_call 97; refine (HA.out _ D1.out.db (HGl.out _ _ _ D1.out)).mono ?_; rintro e w2 ⟨d1, rfl, hs, hd, hb⟩; have D2 := hid (D1.out.step hd hb (fun _ hk => hk)); have S2 := hid hs; clear hs hd hb))
    refine leaves_cons (f := 96) (args := #[.pointer (some ⟨g3, 0, none⟩)]) (by simp) (by simp [go_sem]) ?_
    refine (catch96 ⟨g3, 0, none⟩ 0 oe _ ?_ ?_).mono ?_
    · exact (D2.out.get 0 rfl).cell 0
    · exact (D2.out.get 0 rfl).free 0
    rintro e u' w'' ⟨rfl, rfl, rfl⟩
    have DX := hid (D2.out.put (by simp) ((D2.out.get 0 rfl).setCell 0 (.int .u32 oe)) (.setCell _ _ _ _ (by simp)))
    simp only [List.set_cons_zero] at DX
    have hcc := (DX.out.get 0 rfl).cell 0
    simp only [List.getElem?_cons_zero] at hcc
    simp [Leaves, settle, results, Tryz.results43, go_sem]
    rw [hcc]
    exact ⟨_, rfl, rfl, d1, S2.out, DX.out.db, DX.out.but⟩
  · rw [if_pos e2, e2]
    simp only [if_pos e2] at HA
    clear e2
    generalize d.shD a b c = dT at *
    simp only [ptr, stV, stC] at *
    go_enter_defers Tryz.func43, Tryz.ntmps43
    go_upto_region 1 with fail
    generalize World.alloc _ _ = X at *
    generalize hg3 : W.heap.size = g3 at D0 ⊢
    clear hg3
    go_upto_region 3 with (first | (go_at_call 82; refine (HO.out _ D0.out.db).mono ?_; rintro e w1 ⟨rfl, hb⟩; have D1 := hid (D0.out.on hb); clear hb) | (go_at_call 97; refine (HA.out _ D1.out.db (HGl.out _ _ _ D1.out)).mono ?_; rintro e w2 ⟨d1, rfl, hs, hd, hb⟩; have D2 := hid (D1.out.step hd hb (fun _ hk => hk)); have S2 := hid hs; clear hs hd hb))
    have z0 := (D2.out.get 0 rfl).cell 0
    have z1 := (D2.out.get 0 rfl).free 0
    simp only [List.getElem?_cons_zero] at z0
    have D3 := hid (D2.out.put (by simp) ((D2.out.get 0 rfl).setCell 0 (.int .u32 0)) (.setCell _ _ _ _ (by simp)))
    simp only [List.set_cons_zero] at D3
    go_wp2_with fail
    refine leaves_cons (f := 96) (args := #[.pointer (some ⟨g3, 0, none⟩)]) (by simp) (by simp [go_sem]) ?_
    refine (idle96 ⟨g3, 0, none⟩ _).mono ?_
    rintro e u' w'' ⟨rfl, rfl, rfl⟩
    simp [Leaves, settle, results, Tryz.results43, go_sem]
    have hcc := (D3.out.get 0 rfl).cell 0
    simp only [List.getElem?_cons_zero] at hcc
    rw [hcc]
    exact ⟨_, rfl, rfl, _, S2.out, D3.out.db, D3.out.but⟩
end Go.Proofs.YtllcbgdcepfdkaaGreatDoor
namespace Go.Proofs.YtllcbgdcepfdkaaGreatDoor
open Go.RowKit
theorem mpage_any (w : World) (f : Fp) (m : MS) (h : Mem w f m) (s : Bool) (p : Int) :
    Calls Tryz.prog 55 #[ptr f.gm, fr s p] w fun x w' => ∃ v, x = .returned (.tuple #[v, .int .i64 (m.perr s p)]) ∧ PageIs w w' m s p v ∧ Mem w' f (m.tk s p 1024) ∧ ButL f.w w w' := by
  have hX := h.on (below_one w (.cells #[.bool s, .int .i64 p] 82))
  have hB := hid (below_one w (.cells #[.bool s, .int .i64 p] 82))
  have HF := hid (find_any _ f m hX s p)
  have h1 := h.ns0
  have hlt : Hid (∀ k, m.at s p = some k → k < m.P.length) := fun k hk => MS.at_lt h1 hk
  have H := hid hX
  clear h hX h1
  unfold PageIs MS.tk MS.perr
  generalize hr : m.at s p = r at *
  cases r with
  | none =>
    simp only [fr, ptr, pv] at *
    go_enter Tryz.func55, Tryz.ntmps55
    go_wp2_with fail
    refine HF.out.mono ?_
    rintro x w1 ⟨rfl, hb1⟩
    have HB1 := hid (below_on hB.out hb1)
    have HM := hid (H.out.on hb1)
    clear hb1
    go_wp2_with fail
    go_ret2
    exact ⟨_, rfl, rfl, HM.out, .of HB1.out⟩
  | some k =>
    have hk := hlt.out k rfl
    simp only [fr, ptr, pv] at *
    go_enter Tryz.func55, Tryz.ntmps55
    go_wp2_with fail
    refine HF.out.mono ?_
    rintro x w1 ⟨rfl, hb1⟩
    have HB1 := hid (below_on hB.out hb1)
    have HM := hid (H.out.on hb1)
    have c2 := HM.out.cm
    have f2 := HM.out.cel.free 2
    have HT := hid (HM.out.tick 1024)
    have HG := hid (HM.out.mem k hk)
    have HBT : Hid (ButL f.w w (w1.setCell ⟨f.gm, 2, none⟩ (.int .i64 (wrap64 (m.c + 1024))))) := hid ((ButL.of HB1.out).trans (.setCell _ _ _ _ (by simp [Fp.w])))
    clear hb1
    go_wp2_with (first | (at_make; refine wpList_make_pg rfl _ _ rfl rfl rfl ?_))
    intro w2 hc2 hb2 hs2
    have hss : (w1.setCell ⟨f.gm, 2, none⟩ (.int .i64 (wrap64 (m.c + 1024)))).heap.size = w1.heap.size := by simp
    have HM2 := hid (HT.out.on (by rw [hss]; exact hb2))
    have HC2 := hid hc2
    have HB2 := hid (HBT.out.on (by rw [hss]; exact hb2))
    have hlt2 : Hid (w.heap.size ≤ w1.heap.size) := hid HB1.out.size
    have hne : Hid (∀ g ∈ f.all, g < w1.heap.size) := hid HM.out.lt
    clear hss
    generalize w1.heap.size = g2 at *
    clear hc2 hb2 hs2 HT HBT c2 f2 HM HB1
    go_wp2_with (first | (refine wpList_copy_pg rfl _ _ rfl g2 1024 1024 ⟨f.b k, 0, none⟩ (u32s zs) 29 (m.p k) rfl rfl HC2.out (by rw [u32s_len, zs_len]) (HM2.out.full k hk) (HM2.out.pg k hk).src ?_))
    intro w3 hc3 hb3 hs3
    have HC3 := hid hc3
    have HB3 := hid hb3
    clear hc3 hb3 hs3
    go_wp2_with fail
    go_ret2
    exact ⟨_, rfl, ⟨g2, hlt2.out, rfl, HC3.out⟩, HM2.out.frame HB3.out (by intro g hg hm; rw [List.mem_singleton] at hm; have := hne.out g hg; omega), HB2.out.trans' HB3.out hlt2.out⟩
theorem mlay_any (w : World) (f : Fp) (m : MS) (h : Mem w f m) (s : Bool) (p : Int) (L : List Int) (ao : Option Addr) (c : Nat) (hn : L.length ≤ 9223372036854775807)
    (hw : (m.at s p).isSome = true → L.length = 1024 → ∃ g o, ao = some ⟨g, o, none⟩ ∧ g < w.heap.size ∧ g ∉ f.w ∧ ∀ j v, (u32s L)[j]? = some v → w.cell? ⟨g, o + j, none⟩ = some v) :
    Calls Tryz.prog 165 #[ptr f.gm, fr s p, .slice ao L.length c] w fun x w' => x = .returned (.int .i64 (m.lerr s p L)) ∧ Mem w' f (m.lay s p L) ∧ ButL f.w w w' := by
  have hX := h.on (below_one w (.cells #[.bool s, .int .i64 p] 82))
  have hB := hid (below_one w (.cells #[.bool s, .int .i64 p] 82))
  have HF := hid (find_any _ f m hX s p)
  have h1 := h.ns0
  have hlt : Hid (∀ k, m.at s p = some k → k < m.P.length) := fun k hk => MS.at_lt h1 hk
  have H := hid hX
  clear h hX h1
  have n1 : (L.length : Int) ≤ 9223372036854775807 := by omega
  unfold MS.lerr MS.lay
  have HW := hid hw
  clear hw hn
  generalize hr : m.at s p = r at *
  cases r with
  | none =>
    simp only [fr, ptr, pv] at *
    go_enter Tryz.func165, Tryz.ntmps165
    go_wp2_with fail
    refine HF.out.mono ?_
    rintro x w1 ⟨rfl, hb1⟩
    have HB1 := hid (below_on hB.out hb1)
    have HM := hid (H.out.on hb1)
    clear hb1
    go_wp2_with fail
    go_ret
    exact ⟨rfl, HM.out, .of HB1.out⟩
  | some k =>
    have hk := hlt.out k rfl
    by_cases hl : L.length = 1024
    · obtain ⟨gw, ow, rfl, hgw, hfw, hcw⟩ := HW.out rfl hl
      simp only [if_pos hl]
      rw [hl]
      have hL := hid hl
      clear HW hl n1
      simp only [fr, ptr, pv] at *
      go_enter Tryz.func165, Tryz.ntmps165
      go_wp2_with fail
      refine HF.out.mono ?_
      rintro x w1 ⟨rfl, hb1⟩
      have HB1 := hid (below_on hB.out hb1)
      have HM := hid (H.out.on hb1)
      have c2 := HM.out.cm
      have f2 := HM.out.cel.free 2
      have HT := hid (HM.out.tick 1024)
      have HG := hid (HM.out.mem k hk)
      have HBT : Hid (ButL f.w w (w1.setCell ⟨f.gm, 2, none⟩ (.int .i64 (wrap64 (m.c + 1024))))) := hid ((ButL.of HB1.out).trans (.setCell _ _ _ _ (by simp [Fp.w])))
      clear hb1
      have hsrc : Hid (∀ j v, (u32s L)[j]? = some v → (w1.setCell ⟨f.gm, 2, none⟩ (.int .i64 (wrap64 (m.c + 1024)))).cell? ((⟨gw, ow, none⟩ : Addr).add j) = some v) := hid (fun j v hv => by
        have := hcw j v hv
        have e := HBT.out.block gw hgw hfw
        rw [Addr.add_mid]
        exact (World.cell?_of_block (w := w) e).trans this)
      go_wp2_with (first | (refine wpList_copy_pg rfl _ _ rfl (f.b k) 1024 c ⟨gw, ow, none⟩ (u32s (m.p k)) 237 L rfl rfl (HT.out.pg k hk) (by rw [u32s_len]; exact HT.out.full k hk) hL.out hsrc.out ?_))
      intro w3 hc3 hb3 hs3
      have HC3 := hid hc3
      have HB3 := hid hb3
      clear hc3 hb3 hs3
      go_wp2_with fail
      go_ret
      exact ⟨rfl, HT.out.page k hk L hL.out HB3.out HC3.out, HBT.out.trans (HB3.out.mono (by intro g hg; rw [List.mem_singleton] at hg; subst hg; simp only [Fp.w, List.mem_cons]; exact .inr HG.out))⟩
    · simp only [if_neg hl] at *
      have hl2 : ((L.length : Int) = 1024) = False := by simp; omega
      clear HW
      simp only [fr, ptr, pv] at *
      go_enter Tryz.func165, Tryz.ntmps165
      go_wp2_with fail
      refine HF.out.mono ?_
      rintro x w1 ⟨rfl, hb1⟩
      have HB1 := hid (below_on hB.out hb1)
      have HM := hid (H.out.on hb1)
      clear hb1
      go_wp2_with fail
      go_ret
      exact ⟨rfl, HM.out, .of HB1.out⟩
end Go.Proofs.YtllcbgdcepfdkaaGreatDoor
