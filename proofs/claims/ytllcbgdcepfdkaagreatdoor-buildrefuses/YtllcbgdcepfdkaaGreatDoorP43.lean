import Derived.Test.YtllcbgdcepfdkaaGreatDoorP41
import Derived.Test.YtllcbgdcepfdkaaGreatDoorP42
namespace Go.Proofs.YtllcbgdcepfdkaaGreatDoor
open Go.RowKit
set_option maxRecDepth 100000
set_option maxHeartbeats 4000000
/-- The words of a page of the system's. -/
def MS.pageI (m : MS) (u : Int) : List Int := m.p (m.ns + u.toNat)
def DS.layP (d : DS) (q : Int) (L : List Int) : DS := { d with m := d.m.lay true q L }
theorem MS.lay_sim (m : MS) (c : Int) (s : Bool) (q : Int) (L : List Int) : (MS.lay { m with c := c } s q L).ns = (m.lay s q L).ns ∧ (MS.lay { m with c := c } s q L).P = (m.lay s q L).P := by
  unfold MS.lay
  rw [show MS.at { m with c := c } s q = m.at s q from rfl]
  split
  · exact ⟨rfl, rfl⟩
  · split <;> exact ⟨rfl, rfl⟩
theorem DS.Sim.layP {d e : DS} (h : DS.Sim d e) (q : Int) (L : List Int) : DS.Sim (d.layP q L) (e.layP q L) := by
  rw [h.wc]
  have := MS.lay_sim d.m e.m.c true q L
  exact ⟨rfl, rfl, this.1, this.2⟩
theorem MS.lay_ns (m : MS) (s : Bool) (q : Int) (L : List Int) : (m.lay s q L).ns = m.ns := by
  unfold MS.lay
  split
  · rfl
  · split <;> rfl
theorem MS.tk_ns (m : MS) (s : Bool) (q n : Int) : (m.tk s q n).ns = m.ns := by unfold MS.tk; split <;> rfl
theorem DS.Sim.tk (d : DS) (s : Bool) (q n : Int) : DS.Sim d { d with m := d.m.tk s q n } := by
  unfold MS.tk
  split
  · exact ⟨rfl, rfl, rfl, rfl⟩
  · exact .refl _
theorem MS.U.lay {m : MS} (h : m.U) (s : Bool) (q : Int) (L : List Int) (hL : ∀ j, 0 ≤ wd L j ∧ wd L j < 4294967296) : (m.lay s q L).U := fun k j => by
  unfold MS.lay
  split
  · exact h k j
  · split
    · rename_i k' _ _
      show 0 ≤ wd ((m.P.set k' L).getD k []) j ∧ wd ((m.P.set k' L).getD k []) j < 4294967296
      rw [List.getD_eq_getElem?_getD, List.getElem?_set]
      split
      · split
        · exact hL j
        · exact (by simp [wd] : 0 ≤ wd [] j ∧ wd [] j < 4294967296)
      · have := h k j
        unfold MS.p at this
        rw [List.getD_eq_getElem?_getD] at this
        exact this
    · exact h k j
theorem at_of {p : Dp} {W : World} {g : Nat} {L : List Int} (hc : Cel W g 29 (u32s L)) (hg : g ∉ p.f.w) : ∀ w, ButL p.f.w W w → H.At w .u32 (some ⟨g, 0, none⟩) L := fun w hb => by
  have h1 := hc.but hb hg
  refine .inr ⟨g, 0, rfl, h1.lt, fun i hi => ?_⟩
  rw [Nat.zero_add, h1.cell, u32s, List.getElem?_map, List.getD_eq_getElem?_getD, List.getElem?_eq_getElem hi]
  rfl
theorem pageS (p : Dp) (e : DS) (u : Int) (u0 : 0 ≤ u) (hu : u < (e.ni : Int)) (W : World) (h : DB W p e) :
    Calls Tryz.prog 55 #[ptr p.f.gm, fr false u] W fun x W' => ∃ gp pe, x = .returned (.tuple #[.slice (some ⟨gp, 0, none⟩) 1024 1024, .int .i64 pe]) ∧ DB W' p { e with m := e.m.tk false u 1024 } ∧ ButL p.f.w W W' ∧ W.heap.size ≤ gp ∧ Cel W' gp 29 (u32s (e.m.pageI u)) := by
  have ha : e.m.at false u = some (e.m.ns + u.toNat) := by
    unfold MS.at
    simp only [if_pos u0, Bool.false_eq_true, if_false]
    exact if_pos hu
  refine (mpage_any W p.f e.m h.mem false u).mono ?_
  rintro x W' ⟨v, rfl, hp, hm, hb⟩
  unfold PageIs at hp
  rw [ha] at hp
  obtain ⟨g, hg, rfl, hc⟩ := hp
  exact ⟨g, _, rfl, h.memory hm hb (MS.tk_ns ..), hb, hg, hc⟩
theorem layS (p : Dp) (q : Int) (L : List Int) (hL : L.length = 1024) (W : World) (e : DS) (h : DB W p e) (gp : Nat) (hc : Cel W gp 29 (u32s L)) (hg : gp ∉ p.f.w) :
    Calls Tryz.prog 165 #[ptr p.f.gm, fr true q, .slice (some ⟨gp, 0, none⟩) 1024 1024] W fun x W' => x = .returned (.int .i64 (e.m.lerr true q L)) ∧ DB W' p (e.layP q L) ∧ ButL p.f.w W W' := by
  have := mlay_any W p.f e.m h.mem true q L (some ⟨gp, 0, none⟩) 1024 (by omega) (fun _ _ => ⟨gp, 0, rfl, hc.lt, hg, fun j v hj => by rw [Nat.zero_add, hc.cell]; exact hj⟩)
  rw [hL] at this
  exact this.mono fun _ _ ⟨e1, hm, hb⟩ => ⟨e1, h.memory hm hb (MS.lay_ns ..), hb⟩
theorem built54d (w : Int) (g : Nat) : Tryz.prog.built 54 [(0, .int .i64 3), (1, .int .u32 w), (2, .slice (some ⟨g, 0, none⟩) 1024 1024)] = some #[.int .i64 3, .int .u32 w, .slice (some ⟨g, 0, none⟩) 1024 1024] := by kernel_rfl
def DS.daC (d : DS) (s q w u : Int) : Int := if (d.m.ns : Int) ≤ q then 1 else if gPE w = 0 then (if (d.ni : Int) ≤ u then 17 else if (d.ent q).t = 0 then (if slC (d.slotE s (gP w).va) = 0 then (if H.LoadOk (d.st s) then (if d.takeE q 5 s = 0 then 0 else 2) else 4) else slC (d.slotE s (gP w).va)) else 2) else 6
def DS.daD (d : DS) (s q w u : Int) : DS := (((d.take q 5 s).layP q (d.m.pageI u)).putS s (gP w).va ⟨true, q, (gP w).wr, (gP w).ex⟩).dig s (Q.exS (d.st s) (3 :: w :: d.m.pageI u)) 26
theorem addData_any (W : World) (p : Dp) (d : DS) (h : DB W p d) (hU : d.m.U) (hG : Gl W p) (s q w u : Int) (q0 : 0 ≤ q) (w0 : 0 ≤ w) (w1 : w < 4294967296) (u0 : 0 ≤ u) :
    Calls Tryz.prog 95 #[stV p s, .int .u32 q, .int .u32 w, .int .u32 u] W fun e W' => ∃ d', e = (if d.daC s q w u = 0 then .returned (.tuple #[]) else .panicked (pn (d.daC s q w u))) ∧ DS.Sim (if d.daC s q w u = 0 then d.daD s q w u else d) d' ∧ DB W' p d' ∧ ButL p.w W W' := by
  have hC : d.daC s q w u = if (d.m.ns : Int) ≤ q then 1 else if gPE w = 0 then (if (d.ni : Int) ≤ u then 17 else if (d.ent q).t = 0 then (if slC (d.slotE s (gP w).va) = 0 then (if H.LoadOk (d.st s) then (if d.takeE q 5 s = 0 then 0 else 2) else 4) else slC (d.slotE s (gP w).va)) else 2) else 6 := rfl
  have D0 := hid ((DG.startp h).new 148 (stC p s))
  have HGl := hid (fun w L d' (k : DG W w p d' p.w L) => hG.step k.but p.w_all')
  have HS0 := hid (DS.Sim.refl d)
  obtain ⟨v0, v1⟩ := gP_va w w0 w1
  by_cases a1 : (d.m.ns : Int) ≤ q
  · have HSp := hid (fun w (hw : DB w p d) => secureP_no w p d hw q a1)
    rw [hC, if_pos a1, if_neg (by decide), if_neg (by decide)]
    clear h hC a1 hU hG q0 w0 w1 u0 v0 v1
    simp only [stV, stC, ptr] at *
    go_enter Tryz.func95, Tryz.ntmps95
    go_upto_region 1 with fail
    generalize World.alloc _ _ = X at *
    generalize hg3 : W.heap.size = g3 at D0 ⊢
    have HG3 := hid hg3
    clear hg3
    have c0 := (D0.out.get 0 rfl).cell 0
    simp only [List.getElem?_cons_zero] at c0
    go_wp2_with (first | (go_at_call 151; refine (HSp.out _ D0.out.db).mono ?_; rintro e w1 ⟨rfl, rfl⟩))
    exact ⟨rfl, d, rfl, HS0.out, D0.out.db, D0.out.but⟩
  have HSp := hid (fun w (hw : DB w p d) => secureP_yes w p d hw q q0 (by omega))
  rw [hC, if_neg a1]
  clear hC a1
  by_cases a2 : gPE w = 0
  rotate_left
  · have HPa := hid (fun W => parsed_no W w w0 w1 a2)
    rw [if_neg a2, if_neg (by decide), if_neg (by decide)]
    clear h a2 hU hG q0 w0 w1 u0 v0 v1
    simp only [stV, stC, ptr] at *
    go_enter Tryz.func95, Tryz.ntmps95
    go_upto_region 1 with fail
    generalize World.alloc _ _ = X at *
    generalize hg3 : W.heap.size = g3 at D0 ⊢
    have HG3 := hid hg3
    clear hg3
    have c0 := (D0.out.get 0 rfl).cell 0
    simp only [List.getElem?_cons_zero] at c0
    go_upto_region 2 with (first | (go_at_call 151; refine (HSp.out _ D0.out.db).mono ?_; rintro e w1 ⟨rfl, rfl⟩))
    go_wp2_with (first | (go_at_call 162; refine (HPa.out _).mono ?_; rintro e w1 ⟨rfl, hb⟩; have D1 := hid (D0.out.on hb); clear hb c0))
    exact ⟨rfl, d, rfl, HS0.out, D1.out.db, D1.out.but⟩
  have HPa := hid (fun W => parsed_yes W w w0 w1 a2)
  rw [if_pos a2]
  have HDt : Hid (d.daD s q w u = (((d.take q 5 s).layP q (d.m.pageI u)).putS s (gP w).va ⟨true, q, (gP w).wr, (gP w).ex⟩).dig s (Q.exS (d.st s) (3 :: w :: d.m.pageI u)) 26) := hid rfl
  rw [HDt.out]
  clear a2 w0 w1 HDt
  generalize gP w = m at *
  obtain ⟨va, mw, mx⟩ := m
  simp only [Gm.v] at *
  by_cases a3 : (d.ni : Int) ≤ u
  · rw [if_pos a3, if_neg (by decide), if_neg (by decide)]
    have HIn := hid (fun w (hw : DB w p d) => insecP_no w p d hw u a3)
    clear h hU hG q0 u0 v0 v1 a3
    simp only [stV, stC, ptr] at *
    go_enter Tryz.func95, Tryz.ntmps95
    go_upto_region 1 with fail
    generalize World.alloc _ _ = X at *
    generalize hg3 : W.heap.size = g3 at D0 ⊢
    have HG3 := hid hg3
    clear hg3
    have c0 := (D0.out.get 0 rfl).cell 0
    simp only [List.getElem?_cons_zero] at c0
    go_upto_region 2 with (first | (go_at_call 151; refine (HSp.out _ D0.out.db).mono ?_; rintro e w1 ⟨rfl, rfl⟩))
    go_upto_region 3 with (first | (go_at_call 162; refine (HPa.out _).mono ?_; rintro e w1 ⟨rfl, hb⟩; have D1 := hid (D0.out.on hb); clear hb c0) | (refine wpList_store_st rfl 100 _ _ rfl w1.heap.size [.int .u32 va, .bool mw, .bool mx] rfl rfl (Cel.new w1 100 [.int .u32 0, .bool false, .bool false]) size26 rfl rfl ?_; intro w2 hc hb hs; have D2 := hid (D1.out.add hc hb); clear hc hb hs))
    generalize w1.heap.size = g6 at *
    have c0 := (D2.out.get 1 rfl).cell 0
    simp only [List.getElem?_cons_zero] at c0
    go_wp2_with (first | (go_at_call 163; refine (HIn.out _ D2.out.db).mono ?_; rintro e w3 ⟨rfl, hb⟩; have D3 := hid (D2.out.on hb); clear hb c0))
    exact ⟨rfl, d, rfl, HS0.out, D3.out.db, D3.out.but⟩
  rw [if_neg a3]
  have HIn := hid (fun w (hw : DB w p d) => insecP_yes w p d hw u u0 (by omega))
  have HFr := hid (fun w (hw : DB w p d) => isFree_any w p d hw q)
  by_cases a4 : (d.ent q).t = 0
  rotate_left
  · rw [if_neg a4, if_neg (by decide), if_neg (by decide)]
    rw [decide_eq_false a4] at HFr
    clear h hU hG q0 u0 v0 v1 a3 a4
    simp only [stV, stC, ptr, fr, inE, Bool.false_eq_true, if_false] at *
    go_enter Tryz.func95, Tryz.ntmps95
    go_upto_region 1 with fail
    generalize World.alloc _ _ = X at *
    generalize hg3 : W.heap.size = g3 at D0 ⊢
    have HG3 := hid hg3
    clear hg3
    have c0 := (D0.out.get 0 rfl).cell 0
    simp only [List.getElem?_cons_zero] at c0
    go_upto_region 2 with (first | (go_at_call 151; refine (HSp.out _ D0.out.db).mono ?_; rintro e w1 ⟨rfl, rfl⟩))
    go_upto_region 3 with (first | (go_at_call 162; refine (HPa.out _).mono ?_; rintro e w1 ⟨rfl, hb⟩; have D1 := hid (D0.out.on hb); clear hb c0) | (refine wpList_store_st rfl 100 _ _ rfl w1.heap.size [.int .u32 va, .bool mw, .bool mx] rfl rfl (Cel.new w1 100 [.int .u32 0, .bool false, .bool false]) size26 rfl rfl ?_; intro w2 hc hb hs; have D2 := hid (D1.out.add hc hb); clear hc hb hs))
    generalize w1.heap.size = g6 at *
    have c0 := (D2.out.get 1 rfl).cell 0
    simp only [List.getElem?_cons_zero] at c0
    go_upto_region 4 with (first | (go_at_call 163; refine (HIn.out _ D2.out.db).mono ?_; rintro e w3 ⟨rfl, hb⟩; have D3 := hid (D2.out.on hb); clear hb c0) | (refine wpList_store_st rfl 82 _ _ rfl w3.heap.size [.bool false, .int .i64 u] rfl rfl (Cel.new w3 82 [.bool false, .int .i64 0]) size82 rfl rfl ?_; intro w4 hc hb hs; have D4 := hid (D3.out.add hc hb); clear hc hb hs))
    generalize w3.heap.size = g7 at *
    have c0 := (D4.out.get 2 rfl).cell 0
    simp only [List.getElem?_cons_zero] at c0
    go_wp2_with (first | (go_at_call 153; refine (HFr.out _ D4.out.db).mono ?_; rintro e w5 ⟨rfl, hb⟩; have D5 := hid (D4.out.on hb); clear hb c0))
    exact ⟨rfl, d, rfl, HS0.out, D5.out.db, D5.out.but⟩
  rw [if_pos a4]
  rw [decide_eq_true a4] at HFr
  clear a4
  have HEm := hid (fun w (hw : DB w p d) => isEmpty_any w p d hw hU s va v0 v1)
  have HSl := hid (DS.Sim.look d s va)
  by_cases a5 : slC (d.slotE s va) = 0
  rotate_left
  · rw [if_neg a5, if_neg a5, if_neg a5]
    simp only [if_neg a5] at HEm
    clear h hU hG q0 u0 v0 v1 a3 a5
    generalize slC (d.slotE s va) = sc at *
    generalize d.look s va = dl at *
    simp only [stV, stC, ptr, fr, inE, if_true] at *
    go_enter Tryz.func95, Tryz.ntmps95
    go_upto_region 1 with fail
    generalize World.alloc _ _ = X at *
    generalize hg3 : W.heap.size = g3 at D0 ⊢
    have HG3 := hid hg3
    clear hg3
    have c0 := (D0.out.get 0 rfl).cell 0
    simp only [List.getElem?_cons_zero] at c0
    go_upto_region 2 with (first | (go_at_call 151; refine (HSp.out _ D0.out.db).mono ?_; rintro e w1 ⟨rfl, rfl⟩))
    go_upto_region 3 with (first | (go_at_call 162; refine (HPa.out _).mono ?_; rintro e w1 ⟨rfl, hb⟩; have D1 := hid (D0.out.on hb); clear hb c0) | (refine wpList_store_st rfl 100 _ _ rfl w1.heap.size [.int .u32 va, .bool mw, .bool mx] rfl rfl (Cel.new w1 100 [.int .u32 0, .bool false, .bool false]) size26 rfl rfl ?_; intro w2 hc hb hs; have D2 := hid (D1.out.add hc hb); clear hc hb hs))
    generalize w1.heap.size = g6 at *
    have c0 := (D2.out.get 1 rfl).cell 0
    simp only [List.getElem?_cons_zero] at c0
    go_upto_region 4 with (first | (go_at_call 163; refine (HIn.out _ D2.out.db).mono ?_; rintro e w3 ⟨rfl, hb⟩; have D3 := hid (D2.out.on hb); clear hb c0) | (refine wpList_store_st rfl 82 _ _ rfl w3.heap.size [.bool false, .int .i64 u] rfl rfl (Cel.new w3 82 [.bool false, .int .i64 0]) size82 rfl rfl ?_; intro w4 hc hb hs; have D4 := hid (D3.out.add hc hb); clear hc hb hs))
    generalize w3.heap.size = g7 at *
    have c0 := (D4.out.get 2 rfl).cell 0
    simp only [List.getElem?_cons_zero] at c0
    go_upto_region 5 with (first | (go_at_call 153; refine (HFr.out _ D4.out.db).mono ?_; rintro e w5 ⟨rfl, hb⟩; have D5 := hid (D4.out.on hb); clear hb c0))
    clear D4
    have c3 := (D5.out.get 1 rfl).cell 0
    simp only [List.getElem?_cons_zero] at c3
    go_wp2_with (first | (refine wpList_load_gm rfl 148 _ rfl g3 0 rfl _ _ (D5.out.get 2 rfl).range under148 rfl size148 ?_) | (go_at_call 164; refine (HEm.out _ D5.out.db).mono ?_; rintro e w6 ⟨rfl, hd1, hb1⟩; have D6 := hid (D5.out.step hd1 hb1 p.fw_w); clear hd1 hb1 c3))
    exact ⟨rfl, dl, rfl, HSl.out, D6.out.db, D6.out.but⟩
  rw [if_pos a5]
  simp only [if_pos a5] at HEm
  clear a5
  have hLl : (d.m.pageI u).length = 1024 := by
    refine h.mem.full _ ?_
    have := h.mem.ns0
    unfold DS.ni at a3
    omega
  have hLw : ∀ j, 0 ≤ wd (d.m.pageI u) j ∧ wd (d.m.pageI u) j < 4294967296 := fun j => hU _ j
  have HPg := hid (fun W hw => (by have := pageS p (d.look s va) u u0 (by rw [(DS.Sim.look d s va).ni]; omega) W hw; rw [show (d.look s va).m.pageI u = d.m.pageI u from by unfold MS.pageI; rw [(DS.Sim.look d s va).p, (DS.Sim.look d s va).ns]] at this; exact this : Calls Tryz.prog 55 #[ptr p.f.gm, fr false u] W fun x W' => ∃ gp pe, x = .returned (.tuple #[.slice (some ⟨gp, 0, none⟩) 1024 1024, .int .i64 pe]) ∧ DB W' p { d.look s va with m := (d.look s va).m.tk false u 1024 } ∧ ButL p.f.w W W' ∧ W.heap.size ≤ gp ∧ Cel W' gp 29 (u32s (d.m.pageI u))))
  have HS7 := hid ((DS.Sim.look d s va).trans (DS.Sim.tk _ false u 1024))
  have HMm := hid (fun w e (hw : DB w p e) => memory_any w p e hw)
  have hok : Q.MOp.Ok ⟨3, w, d.m.pageI u⟩ := ⟨(by decide : (1 : Int) ≤ 3), (by decide : (3 : Int) ≤ 4), hLl⟩
  clear a3
  by_cases a6 : H.LoadOk (d.st s)
  rotate_left
  · rw [if_neg a6, if_neg (by decide), if_neg (by decide)]
    have HX := hid (fun W e hs hw hg gp (hc : Cel W gp 29 (u32s (d.m.pageI u))) (hn : gp ∉ p.f.w) => extS_no p d hU s ⟨3, w, d.m.pageI u⟩ hok (some ⟨gp, 0, none⟩) 1024 a6 W e hs hw hg (at_of hc hn))
    clear h hU hG q0 u0 v0 v1 a6 hok hLw HSl
    generalize d.m.pageI u = L at *
    simp only [stV, stC, ptr, fr, inE, if_true, Q.MOp.v, hLl] at *
    clear hLl
    generalize { d.look s va with m := (d.look s va).m.tk false u 1024 : DS } = d7 at *
    generalize d.look s va = dl at *
    go_enter Tryz.func95, Tryz.ntmps95
    go_upto_region 1 with fail
    generalize World.alloc _ _ = X at *
    generalize hg3 : W.heap.size = g3 at D0 ⊢
    have HG3 := hid hg3
    clear hg3
    have c0 := (D0.out.get 0 rfl).cell 0
    simp only [List.getElem?_cons_zero] at c0
    go_upto_region 2 with (first | (go_at_call 151; refine (HSp.out _ D0.out.db).mono ?_; rintro e w1 ⟨rfl, rfl⟩))
    go_upto_region 3 with (first | (go_at_call 162; refine (HPa.out _).mono ?_; rintro e w1 ⟨rfl, hb⟩; have D1 := hid (D0.out.on hb); clear hb c0) | (refine wpList_store_st rfl 100 _ _ rfl w1.heap.size [.int .u32 va, .bool mw, .bool mx] rfl rfl (Cel.new w1 100 [.int .u32 0, .bool false, .bool false]) size26 rfl rfl ?_; intro w2 hc hb hs; have D2 := hid (D1.out.add hc hb); clear hc hb hs))
    generalize w1.heap.size = g6 at *
    have c0 := (D2.out.get 1 rfl).cell 0
    simp only [List.getElem?_cons_zero] at c0
    go_upto_region 4 with (first | (go_at_call 163; refine (HIn.out _ D2.out.db).mono ?_; rintro e w3 ⟨rfl, hb⟩; have D3 := hid (D2.out.on hb); clear hb c0) | (refine wpList_store_st rfl 82 _ _ rfl w3.heap.size [.bool false, .int .i64 u] rfl rfl (Cel.new w3 82 [.bool false, .int .i64 0]) size82 rfl rfl ?_; intro w4 hc hb hs; have D4 := hid (D3.out.add hc hb); clear hc hb hs))
    generalize w3.heap.size = g7 at *
    have c0 := (D4.out.get 2 rfl).cell 0
    simp only [List.getElem?_cons_zero] at c0
    go_upto_region 5 with (first | (go_at_call 153; refine (HFr.out _ D4.out.db).mono ?_; rintro e w5 ⟨rfl, hb⟩; have D5 := hid (D4.out.on hb); clear hb c0))
    clear D4
    have c3 := (D5.out.get 1 rfl).cell 0
    simp only [List.getElem?_cons_zero] at c3
    go_upto_region 6 with (first | (refine wpList_load_gm rfl 148 _ rfl g3 0 rfl _ _ (D5.out.get 2 rfl).range under148 rfl size148 ?_) | (go_at_call 164; refine (HEm.out _ D5.out.db).mono ?_; rintro e w6 ⟨rfl, hd1, hb1⟩; have D6 := hid (D5.out.step hd1 hb1 p.fw_w); clear hd1 hb1 c3))
    have D7 := hid (D6.out.on (Below.refl _ _).drew)
    clear D5 D6
    refine wp_region_held_drew (S := fun w => Cel w g3 148 [.pointer (some ⟨p.g, 0, none⟩), .int .i64 s] ∧ Cel w g7 82 [.bool false, .int .i64 u]) (by kernel_rfl) ⟨D7.out.get 2 rfl, D7.out.get 0 rfl⟩ (fun hHeld => ?_)
    generalize World.drew _ = w7 at *
    refine wpAnyH_take (i := 0) (oi := { dst := some 33, op := Op.fieldAddr 148 (Operand.tmp 4) 0, type := 0, pos := "site.go:66", after := #[], guard := none }) (v := .pointer (some ⟨g3, 0, none⟩)) rfl (by kernel_rfl) (by kernel_rfl) (by kernel_rfl) (fun _ _ _ h => h) (Or.inl ⟨by rfl, by intro w hSw; go_simp⟩) (by assumption) ?_
    simp only [Act.put, List.setIfInBounds_toArray, List.set_cons_zero, List.set_cons_succ]
    refine wpAnyH_take (i := 1) (oi := { dst := some 34, op := Op.load 25 (Operand.tmp 33), type := 25, pos := "site.go:66", after := #[{ on := 0, ground := Ground.data }], guard := none }) (v := .pointer (some ⟨p.g, 0, none⟩)) rfl (by kernel_rfl) (by kernel_rfl) (by kernel_rfl) (fun _ _ _ h => h) (Or.inl ⟨by rfl, by intro w hSw; have hc := hSw.1.cell 0; simp only [List.getElem?_cons_zero] at hc; go_simp⟩) (by assumption) ?_
    simp only [Act.put, List.setIfInBounds_toArray, List.set_cons_zero, List.set_cons_succ]
    refine wpAnyH_take (i := 3) (oi := { dst := some 36, op := Op.load 82 (Operand.tmp 10), type := 82, pos := "site.go:66", after := #[], guard := none }) (v := .agg #[.bool false, .int .i64 u]) rfl (by kernel_rfl) (by kernel_rfl) (by kernel_rfl) (fun _ _ _ h => h) (yieldsIf_load_mid (by rfl) _ _ rfl _ _ rfl _ _ (fun w hSw => hSw.2.range) under82 rfl (by rw [size82]; rfl)) (by assumption) ?_
    simp only [Act.put, List.setIfInBounds_toArray, List.set_cons_zero, List.set_cons_succ]
    refine wpAnyH_ready (rs := [2]) (by kernel_rfl) (by simp) (AllReadyH.cons (o := { dst := some 35, op := Op.call { callee := Callee.value (Operand.func 25), args := #[Operand.tmp 34], argTypes := #[25] }, type := 67, pos := "site.go:66", after := #[{ on := 1, ground := Ground.data }], guard := none }) rfl (fun KQ hK => ?_) AllReadyH.nil)
    go_simp
    refine (HMm.out _ _ D7.out.db).mono ?_
    rintro e w8 ⟨rfl, rfl⟩
    go_wp2_with fail
    refine hK.out _ _ ⟨D7.out.get 2 rfl, D7.out.get 0 rfl⟩ (fun hHeld => ?_)
    clear hK KQ
    try simp only [Act.put, List.setIfInBounds_toArray, List.set_cons_zero, List.set_cons_succ]
    refine wpAnyH_ready (rs := [4]) (by kernel_rfl) (by simp) (AllReadyH.cons (o := { dst := some 37, op := Op.call { callee := Callee.value (Operand.func 55), args := #[Operand.tmp 35, Operand.tmp 36], argTypes := #[67, 82] }, type := 111, pos := "site.go:66", after := #[{ on := 2, ground := Ground.data }, { on := 3, ground := Ground.data }, { on := 2, ground := Ground.chain }], guard := none }) rfl (fun KQ hK => ?_) AllReadyH.nil)
    go_simp
    refine (HPg.out _ D7.out.db).mono ?_
    rintro e w8 ⟨gp, pe, rfl, hd1, hb1, hg1, hc1⟩
    have D8 := hid ((D7.out.step hd1 hb1 p.fw_w).push hc1 (Nat.le_trans D7.out.low hg1))
    have HNp := hid (Nat.le_trans D7.out.low hg1)
    clear hd1 hb1 hg1 hc1 D7
    go_wp2_with fail
    refine hK.out _ _ ⟨D8.out.get 3 rfl, D8.out.get 1 rfl⟩ (fun hHeld => ?_)
    clear hK KQ
    try simp only [Act.put, List.setIfInBounds_toArray, List.set_cons_zero, List.set_cons_succ]
    refine wpAnyH_take (i := 5) (oi := { dst := some 32, op := Op.move (Operand.tmp 37), type := 111, pos := "site.go:66", after := #[{ on := 4, ground := Ground.data }], guard := none }) (v := .tuple #[.slice (some ⟨gp, 0, none⟩) 1024 1024, .int .i64 pe]) rfl (by kernel_rfl) (by kernel_rfl) (by kernel_rfl) (fun _ _ _ h => h) (Or.inl ⟨by rfl, by intro w hSw; go_simp⟩) (by assumption) ?_
    simp only [Act.put, List.setIfInBounds_toArray, List.set_cons_zero, List.set_cons_succ]
    refine wpAnyH_take (i := 6) (oi := { dst := some 38, op := Op.extract (Operand.tmp 32) 0, type := 52, pos := "site.go:66", after := #[{ on := 5, ground := Ground.data }], guard := none }) (v := .slice (some ⟨gp, 0, none⟩) 1024 1024) rfl (by kernel_rfl) (by kernel_rfl) (by kernel_rfl) (fun _ _ _ h => h) (Or.inl ⟨by rfl, by intro w hSw; go_simp⟩) (by assumption) ?_
    simp only [Act.put, List.setIfInBounds_toArray, List.set_cons_zero, List.set_cons_succ]
    refine wpAnyH_take (i := 7) (oi := { dst := some 39, op := Op.extract (Operand.tmp 32) 1, type := 39, pos := "site.go:66", after := #[{ on := 5, ground := Ground.data }, { on := 8, ground := Ground.gcOnly Departure.lateStores }], guard := none }) (v := .int .i64 pe) rfl (by kernel_rfl) (by kernel_rfl) (by kernel_rfl) (fun _ _ _ h => h) (Or.inl ⟨by rfl, by intro w hSw; go_simp⟩) (by assumption) ?_
    simp only [Act.put, List.setIfInBounds_toArray, List.set_cons_zero, List.set_cons_succ]
    refine wpAnyH_ready (rs := [8]) (by kernel_rfl) (by simp) (AllReadyH.cons (o := { dst := some 11, op := Op.assign (Operand.tmp 38), type := 52, pos := "site.go:66", after := #[{ on := 6, ground := Ground.data }, { on := 4, ground := Ground.chain }, { on := 0, ground := Ground.phase }, { on := 1, ground := Ground.phase }, { on := 2, ground := Ground.phase }, { on := 3, ground := Ground.phase }, { on := 4, ground := Ground.phase }, { on := 5, ground := Ground.phase }, { on := 6, ground := Ground.phase }, { on := 7, ground := Ground.textOnly Departure.lateStores }], guard := none }) rfl (fun KQ hK => ?_) AllReadyH.nil)
    go_simp
    refine hK.out _ _ ⟨D8.out.get 3 rfl, D8.out.get 1 rfl⟩ (fun hHeld => ?_)
    clear hK KQ
    try simp only [Act.put, List.setIfInBounds_toArray, List.set_cons_zero, List.set_cons_succ]
    refine wpAnyH_ready (rs := [9]) (by kernel_rfl) (by simp) (AllReadyH.cons (o := { dst := some 12, op := Op.assign (Operand.tmp 39), type := 39, pos := "site.go:66", after := #[{ on := 7, ground := Ground.data }, { on := 8, ground := Ground.chain }, { on := 0, ground := Ground.phase }, { on := 1, ground := Ground.phase }, { on := 2, ground := Ground.phase }, { on := 3, ground := Ground.phase }, { on := 4, ground := Ground.phase }, { on := 5, ground := Ground.phase }, { on := 6, ground := Ground.phase }, { on := 7, ground := Ground.phase }, { on := 8, ground := Ground.phase }], guard := none }) rfl (fun KQ hK => ?_) AllReadyH.nil)
    go_simp
    refine hK.out _ _ ⟨D8.out.get 3 rfl, D8.out.get 1 rfl⟩ (fun hHeld => ?_)
    clear hK KQ
    try simp only [Act.put, List.setIfInBounds_toArray, List.set_cons_zero, List.set_cons_succ]
    refine wpAnyH_done (by kernel_rfl) ?_ _
    go_wp2_with (first | (refine wpList_load_gm rfl 148 _ rfl g3 0 rfl _ _ (D8.out.get 3 rfl).range under148 rfl size148 ?_) | (refine wpList_build_f rfl 54 _ rfl _ rfl _ (built54d w gp) ?_) | (go_at_call 156; refine (HX.out _ _ HS7.out D8.out.db (HGl.out _ _ _ D8.out) gp (D8.out.get 0 rfl) (D8.out.notin HNp.out)).mono ?_; rintro e w9 ⟨d2, rfl, hs1, hd1, hb1⟩; have D9 := hid (D8.out.step hd1 hb1 p.fw_w); have S3 := hid hs1; clear hs1 hd1 hb1))
    exact ⟨rfl, d2, rfl, S3.out, D9.out.db, D9.out.but⟩
  rw [if_pos a6]
  have HX := hid (fun W e hs hw hg gp (hc : Cel W gp 29 (u32s (d.m.pageI u))) (hn : gp ∉ p.f.w) => extS_ok p d hU s ⟨3, w, d.m.pageI u⟩ hok (some ⟨gp, 0, none⟩) 1024 a6 W e hs hw hg (at_of hc hn))
  have hXl : (Q.exS (d.st s) (3 :: w :: d.m.pageI u)).length = 26 := Q.exS_len (d.st_length s)
  have HT := hid (fun w e hs hw => takeS p d s q 5 w e hs hw)
  clear a6 hok HSl
  by_cases a7 : d.takeE q 5 s = 0
  rotate_left
  · rw [if_neg a7, if_neg (by decide), if_neg (by decide)]
    rw [decide_eq_false a7] at HT
    have HTm := hid (fun (e : DS) (hs : DS.Sim d e) => hs.noTake a7)
    clear h hU hG q0 u0 v0 v1 a7 hLw
    generalize d.m.pageI u = L at *
    simp only [stV, stC, ptr, fr, inE, if_true, Bool.false_eq_true, if_false, Q.MOp.v, Q.MOp.wds, hLl] at *
    clear hLl
    generalize Q.exS (d.st s) (3 :: w :: L) = XS at *
    generalize { d.look s va with m := (d.look s va).m.tk false u 1024 : DS } = d7 at *
    generalize d.look s va = dl at *
    go_enter Tryz.func95, Tryz.ntmps95
    go_upto_region 1 with fail
    generalize World.alloc _ _ = X at *
    generalize hg3 : W.heap.size = g3 at D0 ⊢
    have HG3 := hid hg3
    clear hg3
    have c0 := (D0.out.get 0 rfl).cell 0
    simp only [List.getElem?_cons_zero] at c0
    go_upto_region 2 with (first | (go_at_call 151; refine (HSp.out _ D0.out.db).mono ?_; rintro e w1 ⟨rfl, rfl⟩))
    go_upto_region 3 with (first | (go_at_call 162; refine (HPa.out _).mono ?_; rintro e w1 ⟨rfl, hb⟩; have D1 := hid (D0.out.on hb); clear hb c0) | (refine wpList_store_st rfl 100 _ _ rfl w1.heap.size [.int .u32 va, .bool mw, .bool mx] rfl rfl (Cel.new w1 100 [.int .u32 0, .bool false, .bool false]) size26 rfl rfl ?_; intro w2 hc hb hs; have D2 := hid (D1.out.add hc hb); clear hc hb hs))
    generalize w1.heap.size = g6 at *
    have c0 := (D2.out.get 1 rfl).cell 0
    simp only [List.getElem?_cons_zero] at c0
    go_upto_region 4 with (first | (go_at_call 163; refine (HIn.out _ D2.out.db).mono ?_; rintro e w3 ⟨rfl, hb⟩; have D3 := hid (D2.out.on hb); clear hb c0) | (refine wpList_store_st rfl 82 _ _ rfl w3.heap.size [.bool false, .int .i64 u] rfl rfl (Cel.new w3 82 [.bool false, .int .i64 0]) size82 rfl rfl ?_; intro w4 hc hb hs; have D4 := hid (D3.out.add hc hb); clear hc hb hs))
    generalize w3.heap.size = g7 at *
    have c0 := (D4.out.get 2 rfl).cell 0
    simp only [List.getElem?_cons_zero] at c0
    go_upto_region 5 with (first | (go_at_call 153; refine (HFr.out _ D4.out.db).mono ?_; rintro e w5 ⟨rfl, hb⟩; have D5 := hid (D4.out.on hb); clear hb c0))
    clear D4
    have c3 := (D5.out.get 1 rfl).cell 0
    simp only [List.getElem?_cons_zero] at c3
    go_upto_region 6 with (first | (refine wpList_load_gm rfl 148 _ rfl g3 0 rfl _ _ (D5.out.get 2 rfl).range under148 rfl size148 ?_) | (go_at_call 164; refine (HEm.out _ D5.out.db).mono ?_; rintro e w6 ⟨rfl, hd1, hb1⟩; have D6 := hid (D5.out.step hd1 hb1 p.fw_w); clear hd1 hb1 c3))
    have D7 := hid (D6.out.on (Below.refl _ _).drew)
    clear D5 D6
    refine wp_region_held_drew (S := fun w => Cel w g3 148 [.pointer (some ⟨p.g, 0, none⟩), .int .i64 s] ∧ Cel w g7 82 [.bool false, .int .i64 u]) (by kernel_rfl) ⟨D7.out.get 2 rfl, D7.out.get 0 rfl⟩ (fun hHeld => ?_)
    generalize World.drew _ = w7 at *
    refine wpAnyH_take (i := 0) (oi := { dst := some 33, op := Op.fieldAddr 148 (Operand.tmp 4) 0, type := 0, pos := "site.go:66", after := #[], guard := none }) (v := .pointer (some ⟨g3, 0, none⟩)) rfl (by kernel_rfl) (by kernel_rfl) (by kernel_rfl) (fun _ _ _ h => h) (Or.inl ⟨by rfl, by intro w hSw; go_simp⟩) (by assumption) ?_
    simp only [Act.put, List.setIfInBounds_toArray, List.set_cons_zero, List.set_cons_succ]
    refine wpAnyH_take (i := 1) (oi := { dst := some 34, op := Op.load 25 (Operand.tmp 33), type := 25, pos := "site.go:66", after := #[{ on := 0, ground := Ground.data }], guard := none }) (v := .pointer (some ⟨p.g, 0, none⟩)) rfl (by kernel_rfl) (by kernel_rfl) (by kernel_rfl) (fun _ _ _ h => h) (Or.inl ⟨by rfl, by intro w hSw; have hc := hSw.1.cell 0; simp only [List.getElem?_cons_zero] at hc; go_simp⟩) (by assumption) ?_
    simp only [Act.put, List.setIfInBounds_toArray, List.set_cons_zero, List.set_cons_succ]
    refine wpAnyH_take (i := 3) (oi := { dst := some 36, op := Op.load 82 (Operand.tmp 10), type := 82, pos := "site.go:66", after := #[], guard := none }) (v := .agg #[.bool false, .int .i64 u]) rfl (by kernel_rfl) (by kernel_rfl) (by kernel_rfl) (fun _ _ _ h => h) (yieldsIf_load_mid (by rfl) _ _ rfl _ _ rfl _ _ (fun w hSw => hSw.2.range) under82 rfl (by rw [size82]; rfl)) (by assumption) ?_
    simp only [Act.put, List.setIfInBounds_toArray, List.set_cons_zero, List.set_cons_succ]
    refine wpAnyH_ready (rs := [2]) (by kernel_rfl) (by simp) (AllReadyH.cons (o := { dst := some 35, op := Op.call { callee := Callee.value (Operand.func 25), args := #[Operand.tmp 34], argTypes := #[25] }, type := 67, pos := "site.go:66", after := #[{ on := 1, ground := Ground.data }], guard := none }) rfl (fun KQ hK => ?_) AllReadyH.nil)
    go_simp
    refine (HMm.out _ _ D7.out.db).mono ?_
    rintro e w8 ⟨rfl, rfl⟩
    go_wp2_with fail
    refine hK.out _ _ ⟨D7.out.get 2 rfl, D7.out.get 0 rfl⟩ (fun hHeld => ?_)
    clear hK KQ
    try simp only [Act.put, List.setIfInBounds_toArray, List.set_cons_zero, List.set_cons_succ]
    refine wpAnyH_ready (rs := [4]) (by kernel_rfl) (by simp) (AllReadyH.cons (o := { dst := some 37, op := Op.call { callee := Callee.value (Operand.func 55), args := #[Operand.tmp 35, Operand.tmp 36], argTypes := #[67, 82] }, type := 111, pos := "site.go:66", after := #[{ on := 2, ground := Ground.data }, { on := 3, ground := Ground.data }, { on := 2, ground := Ground.chain }], guard := none }) rfl (fun KQ hK => ?_) AllReadyH.nil)
    go_simp
    refine (HPg.out _ D7.out.db).mono ?_
    rintro e w8 ⟨gp, pe, rfl, hd1, hb1, hg1, hc1⟩
    have D8 := hid ((D7.out.step hd1 hb1 p.fw_w).push hc1 (Nat.le_trans D7.out.low hg1))
    have HNp := hid (Nat.le_trans D7.out.low hg1)
    clear hd1 hb1 hg1 hc1 D7
    go_wp2_with fail
    refine hK.out _ _ ⟨D8.out.get 3 rfl, D8.out.get 1 rfl⟩ (fun hHeld => ?_)
    clear hK KQ
    try simp only [Act.put, List.setIfInBounds_toArray, List.set_cons_zero, List.set_cons_succ]
    refine wpAnyH_take (i := 5) (oi := { dst := some 32, op := Op.move (Operand.tmp 37), type := 111, pos := "site.go:66", after := #[{ on := 4, ground := Ground.data }], guard := none }) (v := .tuple #[.slice (some ⟨gp, 0, none⟩) 1024 1024, .int .i64 pe]) rfl (by kernel_rfl) (by kernel_rfl) (by kernel_rfl) (fun _ _ _ h => h) (Or.inl ⟨by rfl, by intro w hSw; go_simp⟩) (by assumption) ?_
    simp only [Act.put, List.setIfInBounds_toArray, List.set_cons_zero, List.set_cons_succ]
    refine wpAnyH_take (i := 6) (oi := { dst := some 38, op := Op.extract (Operand.tmp 32) 0, type := 52, pos := "site.go:66", after := #[{ on := 5, ground := Ground.data }], guard := none }) (v := .slice (some ⟨gp, 0, none⟩) 1024 1024) rfl (by kernel_rfl) (by kernel_rfl) (by kernel_rfl) (fun _ _ _ h => h) (Or.inl ⟨by rfl, by intro w hSw; go_simp⟩) (by assumption) ?_
    simp only [Act.put, List.setIfInBounds_toArray, List.set_cons_zero, List.set_cons_succ]
    refine wpAnyH_take (i := 7) (oi := { dst := some 39, op := Op.extract (Operand.tmp 32) 1, type := 39, pos := "site.go:66", after := #[{ on := 5, ground := Ground.data }, { on := 8, ground := Ground.gcOnly Departure.lateStores }], guard := none }) (v := .int .i64 pe) rfl (by kernel_rfl) (by kernel_rfl) (by kernel_rfl) (fun _ _ _ h => h) (Or.inl ⟨by rfl, by intro w hSw; go_simp⟩) (by assumption) ?_
    simp only [Act.put, List.setIfInBounds_toArray, List.set_cons_zero, List.set_cons_succ]
    refine wpAnyH_ready (rs := [8]) (by kernel_rfl) (by simp) (AllReadyH.cons (o := { dst := some 11, op := Op.assign (Operand.tmp 38), type := 52, pos := "site.go:66", after := #[{ on := 6, ground := Ground.data }, { on := 4, ground := Ground.chain }, { on := 0, ground := Ground.phase }, { on := 1, ground := Ground.phase }, { on := 2, ground := Ground.phase }, { on := 3, ground := Ground.phase }, { on := 4, ground := Ground.phase }, { on := 5, ground := Ground.phase }, { on := 6, ground := Ground.phase }, { on := 7, ground := Ground.textOnly Departure.lateStores }], guard := none }) rfl (fun KQ hK => ?_) AllReadyH.nil)
    go_simp
    refine hK.out _ _ ⟨D8.out.get 3 rfl, D8.out.get 1 rfl⟩ (fun hHeld => ?_)
    clear hK KQ
    try simp only [Act.put, List.setIfInBounds_toArray, List.set_cons_zero, List.set_cons_succ]
    refine wpAnyH_ready (rs := [9]) (by kernel_rfl) (by simp) (AllReadyH.cons (o := { dst := some 12, op := Op.assign (Operand.tmp 39), type := 39, pos := "site.go:66", after := #[{ on := 7, ground := Ground.data }, { on := 8, ground := Ground.chain }, { on := 0, ground := Ground.phase }, { on := 1, ground := Ground.phase }, { on := 2, ground := Ground.phase }, { on := 3, ground := Ground.phase }, { on := 4, ground := Ground.phase }, { on := 5, ground := Ground.phase }, { on := 6, ground := Ground.phase }, { on := 7, ground := Ground.phase }, { on := 8, ground := Ground.phase }], guard := none }) rfl (fun KQ hK => ?_) AllReadyH.nil)
    go_simp
    refine hK.out _ _ ⟨D8.out.get 3 rfl, D8.out.get 1 rfl⟩ (fun hHeld => ?_)
    clear hK KQ
    try simp only [Act.put, List.setIfInBounds_toArray, List.set_cons_zero, List.set_cons_succ]
    refine wpAnyH_done (by kernel_rfl) ?_ _
    go_upto_region 8 with (first | (refine wpList_load_gm rfl 148 _ rfl g3 0 rfl _ _ (D8.out.get 3 rfl).range under148 rfl size148 ?_) | (refine wpList_build_f rfl 54 _ rfl _ rfl _ (built54d w gp) ?_) | (go_at_call 156; refine (HX.out _ _ HS7.out D8.out.db (HGl.out _ _ _ D8.out) gp (D8.out.get 0 rfl) (D8.out.notin HNp.out)).mono ?_; rintro e w9 ⟨d2, gx, rfl, hs1, hd1, hb1, hg1, hc1⟩; have D9 := hid ((D8.out.step hd1 hb1 p.fw_w).push hc1 (Nat.le_trans D8.out.low hg1)); have S3 := hid hs1; have HN := hid (Nat.le_trans D8.out.low hg1); clear hs1 hd1 hb1 hg1 hc1))
    clear D8
    go_wp2_with (first | (refine wpList_load_gm rfl 148 _ rfl g3 0 rfl _ _ (D9.out.get 4 rfl).range under148 rfl size148 ?_) | (go_at_call 157; refine (HT.out _ _ S3.out D9.out.db).mono ?_; rintro e w10 ⟨rfl, hd1, hb1⟩; have D10 := hid (D9.out.step hd1 hb1 (fun _ hk => hk)); clear hd1 hb1))
    exact ⟨rfl, _, rfl, HTm.out _ S3.out, D10.out.db, D10.out.but⟩
  rw [if_pos a7, if_pos rfl, if_pos rfl]
  rw [decide_eq_true a7] at HT
  have HTs := hid (fun e (hs : DS.Sim d e) => hs.take q 5 s)
  have HSf := hid (fun w => sframe_any w q)
  have HLy := hid (fun W e hw gp hc hg => layS p q (d.m.pageI u) hLl W e hw gp hc hg)
  have HPu := hid (fun W e (hs : DS.Sim (d.take q 5 s) e) (hw : DB W p (e.layP q (d.m.pageI u))) => sput_any W p (e.layP q (d.m.pageI u)) hw (MS.U.lay (hs.U (by rw [DS.take_m]; exact hU)) true q (d.m.pageI u) hLw) s va ⟨true, q, mw, mx⟩ v0 v1)
  have HLd := hid (fun w e g L (hw : DB w p e) (hL : L.length = 26) (hc : Cel w g 59 (u32s L)) (hg : g ∉ p.f.w) => layDigest_any w p e hw s g L hL hc hg)
  have HDg := hid (fun (e : DS) L XS (hs : DS.Sim (d.take q 5 s) e) => (show DS.Sim ((((d.take q 5 s).layP q L).putS s va ⟨true, q, mw, mx⟩).dig s XS 26) (((e.layP q L).put s va ⟨true, q, mw, mx⟩).dig s XS 26) from (((hs.layP q L).putS s va ⟨true, q, mw, mx⟩).trans (DS.Sim.put _ s va _)).dig s XS 26))
  clear h hU hG q0 u0 v0 v1 a7 hLw
  generalize d.m.pageI u = L at *
  simp only [stV, stC, ptr, fr, inE, if_true, Q.MOp.v, Q.MOp.wds, hLl] at *
  clear hLl
  generalize Q.exS (d.st s) (3 :: w :: L) = XS at *
  generalize { d.look s va with m := (d.look s va).m.tk false u 1024 : DS } = d7 at *
  generalize d.look s va = dl at *
  go_enter Tryz.func95, Tryz.ntmps95
  go_upto_region 1 with fail
  generalize World.alloc _ _ = X at *
  generalize hg3 : W.heap.size = g3 at D0 ⊢
  have HG3 := hid hg3
  clear hg3
  have c0 := (D0.out.get 0 rfl).cell 0
  simp only [List.getElem?_cons_zero] at c0
  go_upto_region 2 with (first | (go_at_call 151; refine (HSp.out _ D0.out.db).mono ?_; rintro e w1 ⟨rfl, rfl⟩))
  go_upto_region 3 with (first | (go_at_call 162; refine (HPa.out _).mono ?_; rintro e w1 ⟨rfl, hb⟩; have D1 := hid (D0.out.on hb); clear hb c0) | (refine wpList_store_st rfl 100 _ _ rfl w1.heap.size [.int .u32 va, .bool mw, .bool mx] rfl rfl (Cel.new w1 100 [.int .u32 0, .bool false, .bool false]) size26 rfl rfl ?_; intro w2 hc hb hs; have D2 := hid (D1.out.add hc hb); clear hc hb hs))
  generalize w1.heap.size = g6 at *
  have c0 := (D2.out.get 1 rfl).cell 0
  simp only [List.getElem?_cons_zero] at c0
  go_upto_region 4 with (first | (go_at_call 163; refine (HIn.out _ D2.out.db).mono ?_; rintro e w3 ⟨rfl, hb⟩; have D3 := hid (D2.out.on hb); clear hb c0) | (refine wpList_store_st rfl 82 _ _ rfl w3.heap.size [.bool false, .int .i64 u] rfl rfl (Cel.new w3 82 [.bool false, .int .i64 0]) size82 rfl rfl ?_; intro w4 hc hb hs; have D4 := hid (D3.out.add hc hb); clear hc hb hs))
  generalize w3.heap.size = g7 at *
  have c0 := (D4.out.get 2 rfl).cell 0
  simp only [List.getElem?_cons_zero] at c0
  go_upto_region 5 with (first | (go_at_call 153; refine (HFr.out _ D4.out.db).mono ?_; rintro e w5 ⟨rfl, hb⟩; have D5 := hid (D4.out.on hb); clear hb c0))
  clear D4
  have c3 := (D5.out.get 1 rfl).cell 0
  simp only [List.getElem?_cons_zero] at c3
  go_upto_region 6 with (first | (refine wpList_load_gm rfl 148 _ rfl g3 0 rfl _ _ (D5.out.get 2 rfl).range under148 rfl size148 ?_) | (go_at_call 164; refine (HEm.out _ D5.out.db).mono ?_; rintro e w6 ⟨rfl, hd1, hb1⟩; have D6 := hid (D5.out.step hd1 hb1 p.fw_w); clear hd1 hb1 c3))
  have D7 := hid (D6.out.on (Below.refl _ _).drew)
  clear D5 D6
  refine wp_region_held_drew (S := fun w => Cel w g3 148 [.pointer (some ⟨p.g, 0, none⟩), .int .i64 s] ∧ Cel w g7 82 [.bool false, .int .i64 u]) (by kernel_rfl) ⟨D7.out.get 2 rfl, D7.out.get 0 rfl⟩ (fun hHeld => ?_)
  generalize World.drew _ = w7 at *
  refine wpAnyH_take (i := 0) (oi := { dst := some 33, op := Op.fieldAddr 148 (Operand.tmp 4) 0, type := 0, pos := "site.go:66", after := #[], guard := none }) (v := .pointer (some ⟨g3, 0, none⟩)) rfl (by kernel_rfl) (by kernel_rfl) (by kernel_rfl) (fun _ _ _ h => h) (Or.inl ⟨by rfl, by intro w hSw; go_simp⟩) (by assumption) ?_
  simp only [Act.put, List.setIfInBounds_toArray, List.set_cons_zero, List.set_cons_succ]
  refine wpAnyH_take (i := 1) (oi := { dst := some 34, op := Op.load 25 (Operand.tmp 33), type := 25, pos := "site.go:66", after := #[{ on := 0, ground := Ground.data }], guard := none }) (v := .pointer (some ⟨p.g, 0, none⟩)) rfl (by kernel_rfl) (by kernel_rfl) (by kernel_rfl) (fun _ _ _ h => h) (Or.inl ⟨by rfl, by intro w hSw; have hc := hSw.1.cell 0; simp only [List.getElem?_cons_zero] at hc; go_simp⟩) (by assumption) ?_
  simp only [Act.put, List.setIfInBounds_toArray, List.set_cons_zero, List.set_cons_succ]
  refine wpAnyH_take (i := 3) (oi := { dst := some 36, op := Op.load 82 (Operand.tmp 10), type := 82, pos := "site.go:66", after := #[], guard := none }) (v := .agg #[.bool false, .int .i64 u]) rfl (by kernel_rfl) (by kernel_rfl) (by kernel_rfl) (fun _ _ _ h => h) (yieldsIf_load_mid (by rfl) _ _ rfl _ _ rfl _ _ (fun w hSw => hSw.2.range) under82 rfl (by rw [size82]; rfl)) (by assumption) ?_
  simp only [Act.put, List.setIfInBounds_toArray, List.set_cons_zero, List.set_cons_succ]
  refine wpAnyH_ready (rs := [2]) (by kernel_rfl) (by simp) (AllReadyH.cons (o := { dst := some 35, op := Op.call { callee := Callee.value (Operand.func 25), args := #[Operand.tmp 34], argTypes := #[25] }, type := 67, pos := "site.go:66", after := #[{ on := 1, ground := Ground.data }], guard := none }) rfl (fun KQ hK => ?_) AllReadyH.nil)
  go_simp
  refine (HMm.out _ _ D7.out.db).mono ?_
  rintro e w8 ⟨rfl, rfl⟩
  go_wp2_with fail
  refine hK.out _ _ ⟨D7.out.get 2 rfl, D7.out.get 0 rfl⟩ (fun hHeld => ?_)
  clear hK KQ
  try simp only [Act.put, List.setIfInBounds_toArray, List.set_cons_zero, List.set_cons_succ]
  refine wpAnyH_ready (rs := [4]) (by kernel_rfl) (by simp) (AllReadyH.cons (o := { dst := some 37, op := Op.call { callee := Callee.value (Operand.func 55), args := #[Operand.tmp 35, Operand.tmp 36], argTypes := #[67, 82] }, type := 111, pos := "site.go:66", after := #[{ on := 2, ground := Ground.data }, { on := 3, ground := Ground.data }, { on := 2, ground := Ground.chain }], guard := none }) rfl (fun KQ hK => ?_) AllReadyH.nil)
  go_simp
  refine (HPg.out _ D7.out.db).mono ?_
  rintro e w8 ⟨gp, pe, rfl, hd1, hb1, hg1, hc1⟩
  have D8 := hid ((D7.out.step hd1 hb1 p.fw_w).push hc1 (Nat.le_trans D7.out.low hg1))
  have HNp := hid (Nat.le_trans D7.out.low hg1)
  clear hd1 hb1 hg1 hc1 D7
  go_wp2_with fail
  refine hK.out _ _ ⟨D8.out.get 3 rfl, D8.out.get 1 rfl⟩ (fun hHeld => ?_)
  clear hK KQ
  try simp only [Act.put, List.setIfInBounds_toArray, List.set_cons_zero, List.set_cons_succ]
  refine wpAnyH_take (i := 5) (oi := { dst := some 32, op := Op.move (Operand.tmp 37), type := 111, pos := "site.go:66", after := #[{ on := 4, ground := Ground.data }], guard := none }) (v := .tuple #[.slice (some ⟨gp, 0, none⟩) 1024 1024, .int .i64 pe]) rfl (by kernel_rfl) (by kernel_rfl) (by kernel_rfl) (fun _ _ _ h => h) (Or.inl ⟨by rfl, by intro w hSw; go_simp⟩) (by assumption) ?_
  simp only [Act.put, List.setIfInBounds_toArray, List.set_cons_zero, List.set_cons_succ]
  refine wpAnyH_take (i := 6) (oi := { dst := some 38, op := Op.extract (Operand.tmp 32) 0, type := 52, pos := "site.go:66", after := #[{ on := 5, ground := Ground.data }], guard := none }) (v := .slice (some ⟨gp, 0, none⟩) 1024 1024) rfl (by kernel_rfl) (by kernel_rfl) (by kernel_rfl) (fun _ _ _ h => h) (Or.inl ⟨by rfl, by intro w hSw; go_simp⟩) (by assumption) ?_
  simp only [Act.put, List.setIfInBounds_toArray, List.set_cons_zero, List.set_cons_succ]
  refine wpAnyH_take (i := 7) (oi := { dst := some 39, op := Op.extract (Operand.tmp 32) 1, type := 39, pos := "site.go:66", after := #[{ on := 5, ground := Ground.data }, { on := 8, ground := Ground.gcOnly Departure.lateStores }], guard := none }) (v := .int .i64 pe) rfl (by kernel_rfl) (by kernel_rfl) (by kernel_rfl) (fun _ _ _ h => h) (Or.inl ⟨by rfl, by intro w hSw; go_simp⟩) (by assumption) ?_
  simp only [Act.put, List.setIfInBounds_toArray, List.set_cons_zero, List.set_cons_succ]
  refine wpAnyH_ready (rs := [8]) (by kernel_rfl) (by simp) (AllReadyH.cons (o := { dst := some 11, op := Op.assign (Operand.tmp 38), type := 52, pos := "site.go:66", after := #[{ on := 6, ground := Ground.data }, { on := 4, ground := Ground.chain }, { on := 0, ground := Ground.phase }, { on := 1, ground := Ground.phase }, { on := 2, ground := Ground.phase }, { on := 3, ground := Ground.phase }, { on := 4, ground := Ground.phase }, { on := 5, ground := Ground.phase }, { on := 6, ground := Ground.phase }, { on := 7, ground := Ground.textOnly Departure.lateStores }], guard := none }) rfl (fun KQ hK => ?_) AllReadyH.nil)
  go_simp
  refine hK.out _ _ ⟨D8.out.get 3 rfl, D8.out.get 1 rfl⟩ (fun hHeld => ?_)
  clear hK KQ
  try simp only [Act.put, List.setIfInBounds_toArray, List.set_cons_zero, List.set_cons_succ]
  refine wpAnyH_ready (rs := [9]) (by kernel_rfl) (by simp) (AllReadyH.cons (o := { dst := some 12, op := Op.assign (Operand.tmp 39), type := 39, pos := "site.go:66", after := #[{ on := 7, ground := Ground.data }, { on := 8, ground := Ground.chain }, { on := 0, ground := Ground.phase }, { on := 1, ground := Ground.phase }, { on := 2, ground := Ground.phase }, { on := 3, ground := Ground.phase }, { on := 4, ground := Ground.phase }, { on := 5, ground := Ground.phase }, { on := 6, ground := Ground.phase }, { on := 7, ground := Ground.phase }, { on := 8, ground := Ground.phase }], guard := none }) rfl (fun KQ hK => ?_) AllReadyH.nil)
  go_simp
  refine hK.out _ _ ⟨D8.out.get 3 rfl, D8.out.get 1 rfl⟩ (fun hHeld => ?_)
  clear hK KQ
  try simp only [Act.put, List.setIfInBounds_toArray, List.set_cons_zero, List.set_cons_succ]
  refine wpAnyH_done (by kernel_rfl) ?_ _
  go_upto_region 8 with (first | (refine wpList_load_gm rfl 148 _ rfl g3 0 rfl _ _ (D8.out.get 3 rfl).range under148 rfl size148 ?_) | (refine wpList_build_f rfl 54 _ rfl _ rfl _ (built54d w gp) ?_) | (go_at_call 156; refine (HX.out _ _ HS7.out D8.out.db (HGl.out _ _ _ D8.out) gp (D8.out.get 0 rfl) (D8.out.notin HNp.out)).mono ?_; rintro e w9 ⟨d2, gx, rfl, hs1, hd1, hb1, hg1, hc1⟩; have D9 := hid ((D8.out.step hd1 hb1 p.fw_w).push hc1 (Nat.le_trans D8.out.low hg1)); have S3 := hid hs1; have HN := hid (Nat.le_trans D8.out.low hg1); clear hs1 hd1 hb1 hg1 hc1))
  clear D8
  go_upto_region 9 with (first | (refine wpList_load_gm rfl 148 _ rfl g3 0 rfl _ _ (D9.out.get 4 rfl).range under148 rfl size148 ?_) | (go_at_call 157; refine (HT.out _ _ S3.out D9.out.db).mono ?_; rintro e w10 ⟨rfl, hd1, hb1⟩; have D10 := hid (D9.out.step hd1 hb1 (fun _ hk => hk)); clear hd1 hb1))
  have S4 := hid (HTs.out _ S3.out)
  have c0 := (D10.out.get 4 rfl).cell 0
  simp only [List.getElem?_cons_zero] at c0
  clear D9
  go_upto_region 10 with (first | (go_at_call 25; refine (HMm.out _ _ D10.out.db).mono ?_; rintro e w11 ⟨rfl, rfl⟩) | (go_at_call 158; refine (HSf.out _).mono ?_; rintro e w11 ⟨rfl, hb⟩; have D11 := hid (D10.out.on hb); clear hb c0) | (go_at_call 165; refine (HLy.out _ _ D11.out.db gp (D11.out.get 1 rfl) (D11.out.notin HNp.out)).mono ?_; rintro e w12 ⟨rfl, hd1, hb1⟩; have D12 := hid (D11.out.step hd1 hb1 p.fw_w); clear hd1 hb1))
  have D13 := hid (D12.out.on (Below.refl _ _).drew)
  clear D10 D11 D12
  refine wp_region_held_drew (S := fun w => Cel w g3 148 [.pointer (some ⟨p.g, 0, none⟩), .int .i64 s] ∧ Cel w g6 100 [.int .u32 va, .bool mw, .bool mx]) (by kernel_rfl) ⟨D13.out.get 4 rfl, D13.out.get 3 rfl⟩ (fun hHeld => ?_)
  generalize World.drew _ = w13 at *
  refine wpAnyH_take (i := 0) (oi := { dst := some 55, op := Op.load 148 (Operand.tmp 4), type := 148, pos := "site.go:70", after := #[], guard := none }) (v := .agg #[.pointer (some ⟨p.g, 0, none⟩), .int .i64 s]) rfl (by kernel_rfl) (by kernel_rfl) (by kernel_rfl) (fun _ _ _ h => h) (yieldsIf_load_mid (by rfl) _ _ rfl _ _ rfl _ _ (fun w hSw => hSw.1.range) under148 rfl (by rw [size148]; rfl)) (by assumption) ?_
  simp only [Act.put, List.setIfInBounds_toArray, List.set_cons_zero, List.set_cons_succ]
  refine wpAnyH_take (i := 1) (oi := { dst := some 56, op := Op.load 100 (Operand.tmp 9), type := 100, pos := "site.go:70", after := #[], guard := none }) (v := .agg #[.int .u32 va, .bool mw, .bool mx]) rfl (by kernel_rfl) (by kernel_rfl) (by kernel_rfl) (fun _ _ _ h => h) (yieldsIf_load_mid (by rfl) _ _ rfl _ _ rfl _ _ (fun w hSw => hSw.2.range) under26 rfl (by rw [size26]; rfl)) (by assumption) ?_
  simp only [Act.put, List.setIfInBounds_toArray, List.set_cons_zero, List.set_cons_succ]
  refine wpAnyH_take (i := 2) (oi := { dst := some 57, op := Op.move (Operand.tmp 8), type := 3, pos := "site.go:70", after := #[], guard := none }) (v := .int .i64 q) rfl (by kernel_rfl) (by kernel_rfl) (by kernel_rfl) (fun _ _ _ h => h) (Or.inl ⟨by rfl, by intro w hSw; go_simp⟩) (by assumption) ?_
  simp only [Act.put, List.setIfInBounds_toArray, List.set_cons_zero, List.set_cons_succ]
  refine wpAnyH_ready (rs := [3]) (by kernel_rfl) (by simp) (AllReadyH.cons (o := { dst := some 58, op := Op.call { callee := Callee.value (Operand.func 158), args := #[Operand.tmp 57], argTypes := #[3] }, type := 82, pos := "site.go:70", after := #[{ on := 2, ground := Ground.data }], guard := none }) rfl (fun KQ hK => ?_) AllReadyH.nil)
  go_simp
  refine (HSf.out _).mono ?_
  rintro e w14 ⟨rfl, hb⟩
  have D14 := hid (D13.out.on hb)
  clear hb D13
  go_wp2_with fail
  refine hK.out _ _ ⟨D14.out.get 4 rfl, D14.out.get 3 rfl⟩ (fun hHeld => ?_)
  clear hK KQ
  try simp only [Act.put, List.setIfInBounds_toArray, List.set_cons_zero, List.set_cons_succ]
  refine wpAnyH_ready (rs := [4]) (by kernel_rfl) (by simp) (AllReadyH.cons (o := { dst := some 59, op := Op.call { callee := Callee.value (Operand.func 166), args := #[Operand.tmp 55, Operand.tmp 56, Operand.tmp 58], argTypes := #[148, 100, 82] }, type := 0, pos := "site.go:70", after := #[{ on := 0, ground := Ground.data }, { on := 1, ground := Ground.data }, { on := 3, ground := Ground.data }, { on := 3, ground := Ground.chain }], guard := none }) rfl (fun KQ hK => ?_) AllReadyH.nil)
  go_simp
  refine (HPu.out _ _ S4.out D14.out.db).mono ?_
  rintro e w15 ⟨rfl, hd1, hb1⟩
  have D15 := hid (D14.out.step hd1 hb1 p.fw_w)
  clear hd1 hb1 D14
  go_wp2_with fail
  refine hK.out _ _ ⟨D15.out.get 4 rfl, D15.out.get 3 rfl⟩ (fun hHeld => ?_)
  clear hK KQ
  try simp only [Act.put, List.setIfInBounds_toArray, List.set_cons_zero, List.set_cons_succ]
  refine wpAnyH_done (by kernel_rfl) ?_ _
  go_wp2_with (first | (refine wpList_load_gm rfl 148 _ rfl g3 0 rfl _ _ (D15.out.get 4 rfl).range under148 rfl size148 ?_) | (go_at_call 155; refine (HLd.out _ _ _ XS D15.out.db hXl (D15.out.get 0 rfl) (D15.out.notin HN.out)).mono ?_; rintro e w16 ⟨rfl, hd1, hb1⟩; have D16 := hid (D15.out.step hd1 hb1 p.fw_w); clear hd1 hb1))
  go_returns
  exact ⟨_, rfl, HDg.out _ L XS S4.out, D16.out.db, D16.out.but⟩
def DS.daK (d : DS) (a b c f : Int) : Int := if d.opE a = 0 then d.daC a b c f else d.opE a
theorem data_any (W : World) (p : Dp) (d : DS) (h : DB W p d) (hU : d.m.U) (hG : Gl W p) (a b c f : Int) (a0 : 0 ≤ a) (b0 : 0 ≤ b) (c0 : 0 ≤ c) (c1 : c < 4294967296) (f0 : 0 ≤ f) :
    Calls Tryz.prog 42 #[ptr p.g, .int .u32 a, .int .u32 b, .int .u32 c, .int .u32 f] W fun e W' => ∃ d', e = .returned (.int .u32 (d.daK a b c f)) ∧ DS.Sim (if d.daK a b c f = 0 then d.daD a b c f else d) d' ∧ DB W' p d' ∧ ButL p.w W W' := by
  have hmf : ∀ (fn : Fn) (first cap : Array Value) (w : World), (Instr.makeFunc fn first cap).run Tryz.prog w = .ok (.func fn first cap) w := fun _ _ _ _ => rfl
  have hC : d.daK a b c f = if d.opE a = 0 then d.daC a b c f else d.opE a := rfl
  have D0 := hid ((DG.startp h).new 77 [.int .u32 0])
  have HGl := hid (fun w L d' (k : DG W w p d' p.w L) => hG.step k.but p.w_all')
  have HO := hid (fun w (hw : DB w p d) => open_any w p d hw a a0)
  have HS0 := hid (DS.Sim.refl d)
  by_cases e1 : d.opE a = 0
  rotate_left
  · rw [hC, if_neg e1, if_neg e1]
    rw [if_neg e1] at HO
    clear h hC hU hG a0 b0 c0 c1 f0 e1
    generalize d.opE a = oe at *
    simp only [ptr] at *
    go_enter_defers Tryz.func42, Tryz.ntmps42
    go_upto_region 1 with fail
    generalize World.alloc _ _ = X at *
    generalize hg3 : W.heap.size = g3 at D0 ⊢
    clear hg3
    go_wp2_with (first | (go_at_call 82; refine (HO.out _ D0.out.db).mono ?_; rintro e w1 ⟨rfl, hb⟩; have D1 := hid (D0.out.on hb); clear hb))
    refine leaves_cons (f := 94) (args := #[.pointer (some ⟨g3, 0, none⟩)]) (by simp) (by simp [go_sem]) ?_
    refine (catch94 ⟨g3, 0, none⟩ 0 oe _ ?_ ?_).mono ?_
    · exact (D1.out.get 0 rfl).cell 0
    · exact (D1.out.get 0 rfl).free 0
    rintro e u' w'' ⟨rfl, rfl, rfl⟩
    have DX := hid (D1.out.put (by simp) ((D1.out.get 0 rfl).setCell 0 (.int .u32 oe)) (.setCell _ _ _ _ (by simp)))
    simp only [List.set_cons_zero] at DX
    have hcc := (DX.out.get 0 rfl).cell 0
    simp only [List.getElem?_cons_zero] at hcc
    simp [Leaves, settle, results, Tryz.results42, go_sem]
    rw [hcc]
    exact ⟨_, rfl, rfl, d, HS0.out, DX.out.db, DX.out.but⟩
  rw [hC, if_pos e1]
  rw [if_pos e1] at HO
  have HA := hid (fun w (hw : DB w p d) (hg : Gl w p) => addData_any w p d hw hU hg a b c f b0 c0 c1 f0)
  clear hC e1 h hU hG a0 b0 c0 c1 f0
  by_cases e2 : d.daC a b c f = 0
  rotate_left
  · rw [if_neg e2]
    simp only [if_neg e2] at HA
    clear e2
    generalize d.daC a b c f = oe at *
    simp only [ptr, stV, stC] at *
    go_enter_defers Tryz.func42, Tryz.ntmps42
    go_upto_region 1 with fail
    generalize World.alloc _ _ = X at *
    generalize hg3 : W.heap.size = g3 at D0 ⊢
    clear hg3
    go_wp2_with (first | (go_at_call 82; refine (HO.out _ D0.out.db).mono ?_; rintro e w1 ⟨rfl, hb⟩; have D1 := hid (D0.out.on hb); clear hb) | (go_at_call 95; refine (HA.out _ D1.out.db (HGl.out _ _ _ D1.out)).mono ?_; rintro e w2 ⟨d1, rfl, hs, hd, hb⟩; have D2 := hid (D1.out.step hd hb (fun _ hk => hk)); have S2 := hid hs; clear hs hd hb))
    refine leaves_cons (f := 94) (args := #[.pointer (some ⟨g3, 0, none⟩)]) (by simp) (by simp [go_sem]) ?_
    refine (catch94 ⟨g3, 0, none⟩ 0 oe _ ?_ ?_).mono ?_
    · exact (D2.out.get 0 rfl).cell 0
    · exact (D2.out.get 0 rfl).free 0
    rintro e u' w'' ⟨rfl, rfl, rfl⟩
    have DX := hid (D2.out.put (by simp) ((D2.out.get 0 rfl).setCell 0 (.int .u32 oe)) (.setCell _ _ _ _ (by simp)))
    simp only [List.set_cons_zero] at DX
    have hcc := (DX.out.get 0 rfl).cell 0
    simp only [List.getElem?_cons_zero] at hcc
    simp [Leaves, settle, results, Tryz.results42, go_sem]
    rw [hcc]
    exact ⟨_, rfl, rfl, d1, S2.out, DX.out.db, DX.out.but⟩
  · rw [if_pos e2, e2]
    simp only [if_pos e2] at HA
    clear e2
    generalize d.daD a b c f = dT at *
    simp only [ptr, stV, stC] at *
    go_enter_defers Tryz.func42, Tryz.ntmps42
    go_upto_region 1 with fail
    generalize World.alloc _ _ = X at *
    generalize hg3 : W.heap.size = g3 at D0 ⊢
    clear hg3
    go_upto_region 3 with (first | (go_at_call 82; refine (HO.out _ D0.out.db).mono ?_; rintro e w1 ⟨rfl, hb⟩; have D1 := hid (D0.out.on hb); clear hb) | (go_at_call 95; refine (HA.out _ D1.out.db (HGl.out _ _ _ D1.out)).mono ?_; rintro e w2 ⟨d1, rfl, hs, hd, hb⟩; have D2 := hid (D1.out.step hd hb (fun _ hk => hk)); have S2 := hid hs; clear hs hd hb))
    have z0 := (D2.out.get 0 rfl).cell 0
    have z1 := (D2.out.get 0 rfl).free 0
    simp only [List.getElem?_cons_zero] at z0
    have D3 := hid (D2.out.put (by simp) ((D2.out.get 0 rfl).setCell 0 (.int .u32 0)) (.setCell _ _ _ _ (by simp)))
    simp only [List.set_cons_zero] at D3
    go_wp2_with fail
    refine leaves_cons (f := 94) (args := #[.pointer (some ⟨g3, 0, none⟩)]) (by simp) (by simp [go_sem]) ?_
    refine (idle94 ⟨g3, 0, none⟩ _).mono ?_
    rintro e u' w'' ⟨rfl, rfl, rfl⟩
    simp [Leaves, settle, results, Tryz.results42, go_sem]
    have hcc := (D3.out.get 0 rfl).cell 0
    simp only [List.getElem?_cons_zero] at hcc
    rw [hcc]
    exact ⟨_, rfl, rfl, _, S2.out, D3.out.db, D3.out.but⟩
end Go.Proofs.YtllcbgdcepfdkaaGreatDoor
