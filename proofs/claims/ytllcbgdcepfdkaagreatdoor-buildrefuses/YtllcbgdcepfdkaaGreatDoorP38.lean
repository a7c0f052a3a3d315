import Derived.Test.YtllcbgdcepfdkaaGreatDoorP37
namespace Go.Proofs.YtllcbgdcepfdkaaGreatDoor
open Go.RowKit
set_option maxRecDepth 100000
set_option maxHeartbeats 2000000
def DS.spC (d : DS) (s f : Int) : Int := if (d.m.ns : Int) ≤ s then 1 else if (d.m.ns : Int) ≤ f then 1 else if s = f then 16 else if (d.ent s).t = 0 then (if (d.ent f).t = 0 then (if d.b < 64 then 0 else 24) else 2) else 2
def DS.spD (d : DS) (s f : Int) : DS := (d.takeSpace s f).dig s (H.saveOf []) 26
attribute [-simp] Tryz.isAgg59 Tryz.sizeOf59 Tryz.zeroValue59
theorem begin_any (W : World) (p : Dp) (d : DS) (h : DB W p d) (s f : Int) (s0 : 0 ≤ s) (f0 : 0 ≤ f) :
    Calls Tryz.prog 80 #[ptr p.g, .int .u32 s, .int .u32 f] W fun e W' => e = (if d.spC s f = 0 then .returned (.tuple #[]) else .panicked (pn (d.spC s f))) ∧ DB W' p (if d.spC s f = 0 then d.spD s f else d) ∧ ButL p.w W W' := by
  have hC : d.spC s f = if (d.m.ns : Int) ≤ s then 1 else if (d.m.ns : Int) ≤ f then 1 else if s = f then 16 else if (d.ent s).t = 0 then (if (d.ent f).t = 0 then (if d.b < 64 then 0 else 24) else 2) else 2 := rfl
  have D0 := hid (DG.startp h)
  by_cases a1 : (d.m.ns : Int) ≤ s
  · have HS1 := hid (fun w (hw : DB w p d) => secureP_no w p d hw s a1)
    rw [hC, if_pos a1, if_neg (by decide), if_neg (by decide)]
    clear h hC a1 s0 f0
    simp only [ptr] at *
    go_enter Tryz.func80, Tryz.ntmps80
    go_wp2_with (first | (go_at_call 151; refine (HS1.out _ D0.out.db).mono ?_; rintro e w1 ⟨rfl, rfl⟩))
    exact ⟨rfl, rfl, D0.out.db, D0.out.but⟩
  have HS1 := hid (fun w (hw : DB w p d) => secureP_yes w p d hw s s0 (by omega))
  rw [hC, if_neg a1]
  clear hC
  by_cases a2 : (d.m.ns : Int) ≤ f
  · have HS2 := hid (fun w (hw : DB w p d) => secureP_no w p d hw f a2)
    rw [if_pos a2, if_neg (by decide), if_neg (by decide)]
    have hne : s ≠ f := by omega
    clear h a1 a2 s0 f0
    simp only [ptr] at *
    go_enter Tryz.func80, Tryz.ntmps80
    go_upto_region 1 with (first | (go_at_call 151; refine (HS1.out _ D0.out.db).mono ?_; rintro e w1 ⟨rfl, rfl⟩))
    go_wp2_with (first | (go_at_call 151; refine (HS2.out _ D0.out.db).mono ?_; rintro e w1 ⟨rfl, rfl⟩))
    exact ⟨rfl, rfl, D0.out.db, D0.out.but⟩
  have HS2 := hid (fun w (hw : DB w p d) => secureP_yes w p d hw f f0 (by omega))
  rw [if_neg a2]
  clear a1 a2
  by_cases a3 : s = f
  · rw [if_pos a3, if_neg (by decide), if_neg (by decide)]
    subst a3
    clear h s0 f0
    simp only [ptr] at *
    go_enter Tryz.func80, Tryz.ntmps80
    go_upto_region 1 with (first | (go_at_call 151; refine (HS1.out _ D0.out.db).mono ?_; rintro e w1 ⟨rfl, rfl⟩))
    go_upto_region 2 with (first | (go_at_call 151; refine (HS2.out _ D0.out.db).mono ?_; rintro e w1 ⟨rfl, rfl⟩))
    go_wp2_with (first | (go_at_call 152; refine (insist_no _ 16).mono ?_; rintro e w1 ⟨rfl, rfl⟩))
    exact ⟨rfl, rfl, D0.out.db, D0.out.but⟩
  rw [if_neg a3]
  have hne : (s != f) = true := by simpa using a3
  have HF1 := hid (fun w (hw : DB w p d) => isFree_any w p d hw s)
  have HF2 := hid (fun w (hw : DB w p d) => isFree_any w p d hw f)
  by_cases a4 : (d.ent s).t = 0
  rotate_left
  · rw [if_neg a4, if_neg (by decide), if_neg (by decide)]
    rw [decide_eq_false a4] at HF1
    clear h a4 a3 s0 f0 HF2
    simp only [ptr, inE, Bool.false_eq_true, if_false] at *
    go_enter Tryz.func80, Tryz.ntmps80
    go_upto_region 1 with (first | (go_at_call 151; refine (HS1.out _ D0.out.db).mono ?_; rintro e w1 ⟨rfl, rfl⟩))
    go_upto_region 2 with (first | (go_at_call 151; refine (HS2.out _ D0.out.db).mono ?_; rintro e w1 ⟨rfl, rfl⟩))
    go_wp2_with (first | (go_at_call 152; refine (insist_yes _ 16).mono ?_; rintro e w1 ⟨rfl, rfl⟩) | (go_at_call 153; refine (HF1.out _ D0.out.db).mono ?_; rintro e w1 ⟨rfl, hb⟩; have D1 := hid (D0.out.on hb); clear hb))
    exact ⟨rfl, rfl, D1.out.db, D1.out.but⟩
  rw [if_pos a4]
  rw [decide_eq_true a4] at HF1
  clear a4
  by_cases a5 : (d.ent f).t = 0
  rotate_left
  · rw [if_neg a5, if_neg (by decide), if_neg (by decide)]
    rw [decide_eq_false a5] at HF2
    clear h a5 a3 s0 f0
    simp only [ptr, inE, Bool.false_eq_true, if_false, if_true] at *
    go_enter Tryz.func80, Tryz.ntmps80
    go_upto_region 1 with (first | (go_at_call 151; refine (HS1.out _ D0.out.db).mono ?_; rintro e w1 ⟨rfl, rfl⟩))
    go_upto_region 2 with (first | (go_at_call 151; refine (HS2.out _ D0.out.db).mono ?_; rintro e w1 ⟨rfl, rfl⟩))
    go_upto_region 4 with (first | (go_at_call 152; refine (insist_yes _ 16).mono ?_; rintro e w1 ⟨rfl, rfl⟩) | (go_at_call 153; refine (HF1.out _ D0.out.db).mono ?_; rintro e w1 ⟨rfl, hb⟩; have D1 := hid (D0.out.on hb); clear hb))
    go_wp2_with (first | (go_at_call 153; refine (HF2.out _ D1.out.db).mono ?_; rintro e w2 ⟨rfl, hb⟩; have D2 := hid (D1.out.on hb); clear hb))
    exact ⟨rfl, rfl, D2.out.db, D2.out.but⟩
  rw [if_pos a5]
  rw [decide_eq_true a5] at HF2
  have HBi := hid (fun w (hw : DB w p d) => births_any w p d hw)
  clear a5
  by_cases a6 : d.b < 64
  rotate_left
  · rw [if_neg a6, if_neg (by decide), if_neg (by decide)]
    have HI : Hid (∀ W, Calls Tryz.prog 152 #[.bool (decide (d.b < 64)), .int .u32 24] W fun e W' => e = .panicked (pn 24) ∧ W' = W) := hid (fun W => by rw [decide_eq_false a6]; exact insist_no W 24)
    clear h a6 a3 s0 f0
    simp only [ptr, inE, if_true] at *
    generalize d.b = db at *
    go_enter Tryz.func80, Tryz.ntmps80
    go_upto_region 1 with (first | (go_at_call 151; refine (HS1.out _ D0.out.db).mono ?_; rintro e w1 ⟨rfl, rfl⟩))
    go_upto_region 2 with (first | (go_at_call 151; refine (HS2.out _ D0.out.db).mono ?_; rintro e w1 ⟨rfl, rfl⟩))
    go_upto_region 4 with (first | (go_at_call 152; refine (insist_yes _ 16).mono ?_; rintro e w1 ⟨rfl, rfl⟩) | (go_at_call 153; refine (HF1.out _ D0.out.db).mono ?_; rintro e w1 ⟨rfl, hb⟩; have D1 := hid (D0.out.on hb); clear hb))
    go_upto_region 5 with (first | (go_at_call 153; refine (HF2.out _ D1.out.db).mono ?_; rintro e w2 ⟨rfl, hb⟩; have D2 := hid (D1.out.on hb); clear hb))
    go_wp2_with (first | (go_at_call 154; refine (HBi.out _ D2.out.db).mono ?_; rintro e w3 ⟨rfl, rfl⟩) | (go_at_call 152; refine (HI.out _).mono ?_; rintro e w3 ⟨rfl, rfl⟩))
    exact ⟨rfl, rfl, D2.out.db, D2.out.but⟩
  rw [if_pos a6, if_pos rfl, if_pos rfl]
  have HI : Hid (∀ W, Calls Tryz.prog 152 #[.bool (decide (d.b < 64)), .int .u32 24] W fun e W' => e = .returned (.tuple #[]) ∧ W' = W) := hid (fun W => by rw [decide_eq_true a6]; exact insist_yes W 24)
  have HTs := hid (fun w (hw : DB w p d) => takeSpace_any w p d hw s f)
  have HSt := hid (fun w => Q.start_any w)
  have hSl : (H.saveOf []).length = 26 := H.saveOf_length _
  have HLd := hid (fun w e g L (hw : DB w p e) (hL : L.length = 26) (hc : Cel w g 59 (u32s L)) (hg : g ∉ p.f.w) => layDigest_any w p e hw s g L hL hc hg)
  obtain ⟨Z, hZ⟩ : ∃ Z : List Int, Z = List.replicate 26 0 := ⟨_, rfl⟩
  have hZl : Z.length = 26 := by rw [hZ]; simp
  have hz : ∀ w, (zeroValue 59).run Tryz.prog w = .ok (.agg (Z.map (Value.int .u32)).toArray) w := fun w => by rw [Tryz.zeroValue59, hZ]; rfl
  have HSD : Hid (d.spD s f = (d.takeSpace s f).dig s (H.saveOf []) 26) := hid rfl
  rw [HSD.out]
  clear h a6 a3 s0 f0 hZ HSD
  generalize d.takeSpace s f = dT at *
  generalize d.bearE s f = be at *
  generalize H.saveOf [] = S0 at *
  simp only [ptr, inE, if_true, stV, stC, H.Ag] at *
  generalize d.b = db at *
  go_enter Tryz.func80, Tryz.ntmps80
  go_upto_region 1 with (first | (go_at_call 151; refine (HS1.out _ D0.out.db).mono ?_; rintro e w1 ⟨rfl, rfl⟩))
  go_upto_region 2 with (first | (go_at_call 151; refine (HS2.out _ D0.out.db).mono ?_; rintro e w1 ⟨rfl, rfl⟩))
  go_upto_region 4 with (first | (go_at_call 152; refine (insist_yes _ 16).mono ?_; rintro e w1 ⟨rfl, rfl⟩) | (go_at_call 153; refine (HF1.out _ D0.out.db).mono ?_; rintro e w1 ⟨rfl, hb⟩; have D1 := hid (D0.out.on hb); clear hb))
  go_upto_region 5 with (first | (go_at_call 153; refine (HF2.out _ D1.out.db).mono ?_; rintro e w2 ⟨rfl, hb⟩; have D2 := hid (D1.out.on hb); clear hb))
  go_upto_region 7 with (first | (go_at_call 154; refine (HBi.out _ D2.out.db).mono ?_; rintro e w3 ⟨rfl, rfl⟩) | (go_at_call 152; refine (HI.out _).mono ?_; rintro e w3 ⟨rfl, rfl⟩) | (go_at_call 45; refine (HTs.out _ D2.out.db).mono ?_; rintro e w4 ⟨rfl, hd, hb⟩; have D3 := hid (D2.out.step hd hb (fun _ hk => hk)); clear hd hb))
  go_upto_region 8 with (first | (go_at_call 47; refine (HSt.out _).mono ?_; rintro e w5 ⟨rfl, hb⟩; have D4 := hid (D3.out.on hb); clear hb) | (refine wpList_store_st rfl 59 _ _ rfl w5.heap.size (u32s S0) rfl rfl (Cel.new w5 59 (u32s Z)) (by rw [u32s, List.length_map, hSl]; exact size59) (by simp [u32s, hZl, hSl]) (List.all_eq_true.2 (fun v hv => by simp only [u32s, List.mem_map] at hv; obtain ⟨x, _, rfl⟩ := hv; rfl)) ?_; intro w6 hc hb hs; have D5 := hid (D4.out.add hc hb); have HN := hid D4.out.low; clear hc hb hs))
  generalize w5.heap.size = g8 at *
  go_wp2_with (first | (refine wpList_build_f rfl 148 _ rfl _ rfl _ (built148 p s) ?_) | (go_at_call 155; refine (HLd.out _ _ _ S0 D5.out.db hSl (D5.out.get 0 rfl) (D5.out.notin HN.out)).mono ?_; rintro e w7 ⟨rfl, hd1, hb1⟩; have D7 := hid (D5.out.step hd1 hb1 p.fw_w); clear hd1 hb1))
  go_returns
  exact ⟨rfl, D7.out.db, D7.out.but⟩
theorem space_any (W : World) (p : Dp) (d : DS) (h : DB W p d) (a b : Int) (a0 : 0 ≤ a) (b0 : 0 ≤ b) :
    Calls Tryz.prog 29 #[ptr p.g, .int .u32 a, .int .u32 b] W fun e W' => e = .returned (.int .u32 (d.spC a b)) ∧ DB W' p (if d.spC a b = 0 then d.spD a b else d) ∧ ButL p.w W W' := by
  have hmf : ∀ (fn : Fn) (first cap : Array Value) (w : World), (Instr.makeFunc fn first cap).run Tryz.prog w = .ok (.func fn first cap) w := fun _ _ _ _ => rfl
  have D0 := hid ((DG.startp h).new 77 [.int .u32 0])
  have HA := hid (fun w (hw : DB w p d) => begin_any w p d hw a b a0 b0)
  clear h a0 b0
  by_cases e2 : d.spC a b = 0
  rotate_left
  · simp only [if_neg e2] at HA ⊢
    clear e2
    generalize d.spC a b = oe at *
    simp only [ptr] at *
    go_enter_defers Tryz.func29, Tryz.ntmps29
    go_upto_region 1 with fail
    generalize World.alloc _ _ = X at *
    generalize hg3 : W.heap.size = g3 at D0 ⊢
    clear hg3
    go_wp2_with (first | (go_at_call 80; refine (HA.out _ D0.out.db).mono ?_; rintro e w2 ⟨rfl, hd, hb⟩; have D2 := hid (D0.out.step hd hb (fun _ hk => hk)); clear hd hb))
    refine leaves_cons (f := 78) (args := #[.pointer (some ⟨g3, 0, none⟩)]) (by simp) (by simp [go_sem]) ?_
    refine (catch78 ⟨g3, 0, none⟩ 0 oe _ ?_ ?_).mono ?_
    · exact (D2.out.get 0 rfl).cell 0
    · exact (D2.out.get 0 rfl).free 0
    rintro e u' w'' ⟨rfl, rfl, rfl⟩
    have DX := hid (D2.out.put (by simp) ((D2.out.get 0 rfl).setCell 0 (.int .u32 oe)) (.setCell _ _ _ _ (by simp)))
    simp only [List.set_cons_zero] at DX
    have hcc := (DX.out.get 0 rfl).cell 0
    simp only [List.getElem?_cons_zero] at hcc
    simp [Leaves, settle, results, Tryz.results29, go_sem]
    rw [hcc]
    exact ⟨_, rfl, rfl, DX.out.db, DX.out.but⟩
  · simp only [if_pos e2] at HA ⊢
    rw [e2]
    clear e2
    generalize d.spD a b = dT at *
    simp only [ptr] at *
    go_enter_defers Tryz.func29, Tryz.ntmps29
    go_upto_region 1 with fail
    generalize World.alloc _ _ = X at *
    generalize hg3 : W.heap.size = g3 at D0 ⊢
    clear hg3
    go_upto_region 3 with (first | (go_at_call 80; refine (HA.out _ D0.out.db).mono ?_; rintro e w2 ⟨rfl, hd, hb⟩; have D2 := hid (D0.out.step hd hb (fun _ hk => hk)); clear hd hb))
    have z0 := (D2.out.get 0 rfl).cell 0
    have z1 := (D2.out.get 0 rfl).free 0
    simp only [List.getElem?_cons_zero] at z0
    have D3 := hid (D2.out.put (by simp) ((D2.out.get 0 rfl).setCell 0 (.int .u32 0)) (.setCell _ _ _ _ (by simp)))
    simp only [List.set_cons_zero] at D3
    go_wp2_with fail
    refine leaves_cons (f := 78) (args := #[.pointer (some ⟨g3, 0, none⟩)]) (by simp) (by simp [go_sem]) ?_
    refine (idle78 ⟨g3, 0, none⟩ _).mono ?_
    rintro e u' w'' ⟨rfl, rfl, rfl⟩
    simp [Leaves, settle, results, Tryz.results29, go_sem]
    have hcc := (D3.out.get 0 rfl).cell 0
    simp only [List.getElem?_cons_zero] at hcc
    rw [hcc]
    exact ⟨_, rfl, rfl, D3.out.db, D3.out.but⟩
end Go.Proofs.YtllcbgdcepfdkaaGreatDoor
