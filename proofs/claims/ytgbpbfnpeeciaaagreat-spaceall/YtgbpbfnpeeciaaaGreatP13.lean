import Derived.Test.YtgbpbfnpeeciaaaGreatP12
import Derived.Test.YtgbpbfnpeeciaaaGreatP01
namespace Go.Proofs.YtgbpbfnpeeciaaaGreat
open Go.RowKit
set_option maxHeartbeats 8000000
set_option maxRecDepth 100000
theorem wr32 (x : Int) (h0 : 0 ≤ x) (h1 : x < 4294967296) : IntKind.wrap .u32 x = x := by rw [IntKind.wrap_u32]; omega
def DS.bearE (d : DS) (s f : Int) : Int :=
  if d.entE s ≠ 0 then d.entE s else if d.entE f ≠ 0 then d.entE f else if s = f then 1 else if (d.ent s).t ≠ 0 then 120 else if (d.ent f).t ≠ 0 then 120 else if 64 ≤ d.b then 240 else 0
theorem mayBear_any (W : World) (p : Dp) (d : DS) (h : DB W p d) (s f : Int) :
    Calls Tryz.prog 59 #[ptr p.g, .int .i64 s, .int .i64 f] W fun e W' => e = .returned (.int .i64 (d.bearE s f)) ∧ Below W.heap.size W W' := by
  have D0 := hid (DG.start h [] (by simp))
  have HE1 := hid (fun w (hw : DB w p d) => entry_any w p d hw s)
  have HE2 := hid (fun w (hw : DB w p d) => entry_any w p d hw f)
  have HB := hid (fun w (hw : DB w p d) => births_any w p d hw)
  clear h
  unfold DS.bearE
  generalize d.ent s = X at *
  generalize d.ent f = Y at *
  generalize d.entE s = xe at *
  generalize d.entE f = ye at *
  obtain ⟨xt, xo, xr, xs, xx⟩ := X
  obtain ⟨yt, yo, yr, ys, yx⟩ := Y
  generalize hr : (if xe ≠ 0 then xe else _ : Int) = R
  have HR := hid hr
  clear hr
  simp only [ptr, En.v, En.cs] at HE1 HE2 HB ⊢
  go_enter Tryz.func59, Tryz.ntmps59
  go_upto_region 2 with (first | (go_at_call 62; refine (HE1.out _ D0.out.db).mono ?_; rintro e w1 ⟨rfl, hb⟩; have D1 := hid (D0.out.on hb); clear hb) | (refine wpList_store_st rfl 125 _ _ rfl w1.heap.size [.int .i64 xt, .int .i64 xo, .int .i64 xr, .int .i64 xs, .bool xx] rfl rfl (Cel.new w1 125 En.zero.cs) sizeE rfl rfl ?_; intro w2 hc hb hs; have D2 := hid (D1.out.add hc hb); clear hc hb hs))
  clear D0 D1
  generalize w1.heap.size = g7 at *
  go_upto_region 3 with (first | (go_at_call 62; refine (HE2.out _ D2.out.db).mono ?_; rintro e w3 ⟨rfl, hb⟩; have D3 := hid (D2.out.on hb); clear hb) | (refine wpList_store_st rfl 125 _ _ rfl w3.heap.size [.int .i64 yt, .int .i64 yo, .int .i64 yr, .int .i64 ys, .bool yx] rfl rfl (Cel.new w3 125 En.zero.cs) sizeE rfl rfl ?_; intro w4 hc hb hs; have D4 := hid (D3.out.add hc hb); clear hc hb hs))
  clear D2 D3 HE1 HE2
  generalize w3.heap.size = g9 at *
  have c0 := (D4.out.get 0 rfl).cell 0
  have c1 := (D4.out.get 1 rfl).cell 0
  simp only [List.getElem?_cons_zero] at c0 c1
  have HF := hid (D4.out.but.below (B := W.heap.size) (by simp) (Nat.le_refl _))
  by_cases h1 : xe = 0
  · subst h1
    by_cases h2 : ye = 0
    · subst h2
      by_cases h3 : s = f
      · subst h3
        have hR : R = 1 := by rw [← HR.out]; simp
        subst hR
        clear HR
        go_wp2_with fail
        go_ret
        exact ⟨rfl, HF.out⟩
      · have h3' : (s == f) = false := by simpa using h3
        by_cases h4 : xt = 0
        · subst h4
          by_cases h5 : yt = 0
          · subst h5
            by_cases h6 : 64 ≤ d.b
            · have hR : R = 240 := by rw [← HR.out]; simp [h3, h6]
              subst hR
              clear HR h3
              go_wp2_with (go_at_call 102; refine (HB.out _ D4.out.db).mono ?_; rintro e w5 ⟨rfl, rfl⟩)
              go_ret
              exact ⟨rfl, HF.out⟩
            · have hR : R = 0 := by rw [← HR.out]; simp [h3, h6]
              have h6' : d.b < 64 := by omega
              subst hR
              clear HR h3 h6
              go_wp2_with (go_at_call 102; refine (HB.out _ D4.out.db).mono ?_; rintro e w5 ⟨rfl, rfl⟩)
              go_ret
              exact ⟨rfl, HF.out⟩
          · have h5' : (yt == 0) = false := by simpa using h5
            have hR : R = 120 := by rw [← HR.out]; simp [h3, h5]
            subst hR
            clear HR h3 h5
            go_wp2_with fail
            go_ret
            exact ⟨rfl, HF.out⟩
        · have h4' : (xt == 0) = false := by simpa using h4
          have hR : R = 120 := by rw [← HR.out]; simp [h3, h4]
          subst hR
          clear HR h3 h4
          go_wp2_with fail
          go_ret
          exact ⟨rfl, HF.out⟩
    · have h2' : (ye == 0) = false := by simpa using h2
      have hR : R = ye := by rw [← HR.out]; simp [h2]
      subst hR
      clear HR h2
      go_wp2_with fail
      go_ret
      exact ⟨rfl, HF.out⟩
  · have h1' : (xe == 0) = false := by simpa using h1
    have hR : R = xe := by rw [← HR.out]; simp [h1]
    subst hR
    clear HR h1
    go_wp2_with fail
    go_ret
    exact ⟨rfl, HF.out⟩
def enF (s : Int) : En := ⟨3, s, 0, 0, false⟩
def enS (s : Int) : En := ⟨1, s, 1, 1, false⟩
def MS.born (m : MS) (s f b : Int) : MS := ((m.write true s 0 f).write true s 1 b).write true s 2 0
def DS.space (d : DS) (s f : Int) : DS := { ((d.lay f.toNat (enF s)).lay s.toNat (enS s)) with m := d.m.born s f d.b, b := d.b + 1 }
def DS.takeSpace (d : DS) (s f : Int) : DS := if d.bearE s f = 0 then d.space s f else d
theorem bear_zero {d : DS} {s f : Int} (h : d.bearE s f = 0) : d.there s = true ∧ d.there f = true ∧ s ≠ f ∧ (d.ent s).t = 0 ∧ (d.ent f).t = 0 ∧ d.b < 64 := by
  cases hs : d.there s
  · simp [DS.bearE, DS.entE, hs] at h
  cases hf : d.there f
  · simp [DS.bearE, DS.entE, hs, hf] at h
  simp only [DS.bearE, DS.entE, hs, hf, if_true, ne_eq, not_true_eq_false, if_false] at h
  by_cases h3 : s = f
  · simp [h3] at h
  rw [if_neg h3] at h
  by_cases h4 : (d.ent s).t = 0
  · by_cases h5 : (d.ent f).t = 0
    · by_cases h6 : 64 ≤ d.b
      · simp [h4, h5, h6] at h
      · exact ⟨rfl, rfl, h3, h4, h5, by omega⟩
    · simp [h4, h5] at h
  · simp [h4] at h
theorem enF_ok {s : Int} (h0 : 0 ≤ s) (h1 : s < 64) : (enF s).ok = true := by
  rw [En.ok_iff]
  exact ⟨by simp [enF], by simp [enF], h0, h1, by simp [enF], by simp [enF], by simp [enF], by simp [enF], by simp [enF], by simp [enF], by simp [enF], by simp [enF]⟩
theorem enS_ok {s : Int} (h0 : 0 ≤ s) (h1 : s < 64) : (enS s).ok = true := by
  rw [En.ok_iff]
  exact ⟨by simp [enS], by simp [enS], h0, h1, by simp [enS], by simp [enS], by simp [enS], by simp [enS], by simp [enS], by simp [enS], by simp [enS], by simp [enS]⟩
theorem built_F (s : Int) : Tryz.prog.built 125 [(0, .int .i64 3), (1, .int .i64 s)] = some (enF s).cs.toArray := by kernel_rfl
theorem built_S (s : Int) : Tryz.prog.built 125 [(0, .int .i64 1), (1, .int .i64 s), (2, .int .i64 1), (3, .int .i64 1)] = some (enS s).cs.toArray := by kernel_rfl
theorem DB.born {w : World} {p : Dp} {d : DS} (h : DB w p d) (hb : d.b < 64) : DB (w.setCell ⟨p.gw, 0, none⟩ (.int .u32 (d.b + 1))) p { d with b := d.b + 1 } :=
  h.words (b' := d.b + 1) (E' := d.E) (by
    have := h.wds.setCell 0 (.int .u32 (d.b + 1))
    rw [u32s_set] at this
    exact this) (.setCell _ _ _ _ (by simp)) (by
    obtain ⟨a, b, c, e, f, g⟩ := h.ok
    exact ⟨a, b, c, e, by show 0 ≤ d.b + 1; omega, by show d.b + 1 ≤ 64; omega⟩)
theorem cells3 {w : World} {p : Dp} {d : DS} (h : DB w p d) : w.cell? ⟨p.g, 0, none⟩ = some (.pointer (some ⟨p.f.gm, 0, none⟩)) ∧ w.cell? ⟨p.g, 1, none⟩ = some (.slice (some ⟨p.gw, 0, none⟩) (1 + 2 * d.m.ns) (1 + 2 * d.m.ns)) ∧ w.cell? ⟨p.gw, 0, none⟩ = some (.int .u32 d.b) :=
  ⟨h.dv.mp, h.dv.sl, by have := h.wds.cell 0; rw [this]; rfl⟩
theorem takeSpace_any (W : World) (p : Dp) (d : DS) (h : DB W p d) (s f : Int) :
    Calls Tryz.prog 15 #[ptr p.g, .int .i64 s, .int .i64 f] W fun e W' => e = .returned (.int .i64 (d.bearE s f)) ∧ DB W' p (d.takeSpace s f) ∧ ButL p.w W W' := by
  have D0 := hid (DG.start h p.w h.wlt)
  have HM := hid (mayBear_any W p d h s f)
  unfold DS.takeSpace
  by_cases hz : d.bearE s f = 0
  · rw [if_pos hz]
    rw [hz] at HM ⊢
    obtain ⟨ts, tf, hsf, t1, t2, hb⟩ := bear_zero hz
    obtain ⟨s0, s1⟩ := of_decide_eq_true ts
    obtain ⟨f0, f1⟩ := of_decide_eq_true tf
    have n64 := h.ok.n64
    have b0 := h.ok.b0
    have es : s = ((s.toNat : Nat) : Int) := by omega
    have ef : f = ((f.toNat : Nat) : Int) := by omega
    have HL1 := hid (fun w (hw : DB w p d) => lay_any w p d hw f.toNat (by omega) (enF s) (enF_ok s0 (by omega)) (by simpa [enF] using s1))
    have HL2 := hid (fun w (hw : DB w p (d.lay f.toNat (enF s))) => lay_any w p _ hw s.toNat (by show s.toNat < d.m.ns; omega) (enS s) (enS_ok s0 (by omega)) (by simpa [enS, DS.lay] using s1))
    rw [← ef] at HL1
    rw [← es] at HL2
    have wf : f % 4294967296 = f := by omega
    have wf2 : IntKind.wrap .u32 f = f := wr32 f (by omega) (by omega)
    have wb : (d.b + 1) % 4294967296 = d.b + 1 := by omega
    have HBB : Hid (d.b < 64) := hid hb
    have HSP : Hid (d.space s f = { (d.lay f.toNat (enF s)).lay s.toNat (enS s) with m := d.m.born s f d.b, b := d.b + 1 }) := hid rfl
    obtain ⟨d1, hd1⟩ : ∃ d1, d1 = d.lay f.toNat (enF s) := ⟨_, rfl⟩
    obtain ⟨d2, hd2⟩ : ∃ d2, d2 = d1.lay s.toNat (enS s) := ⟨_, rfl⟩
    rw [← hd1] at HL1 HL2 HSP
    rw [← hd2] at HL2 HSP
    have HD2 : Hid (d2.m = d.m ∧ d2.b = d.b) := hid (by rw [hd2, hd1]; exact ⟨rfl, rfl⟩)
    clear h hz ts tf hsf t1 t2 hb s0 s1 f0 f1 n64 b0 es ef hd1 hd2
    simp only [ptr, En.v] at HM HL1 HL2 ⊢
    go_enter Tryz.func15, Tryz.ntmps15
    go_upto_region 4 with (go_at_call 59; refine HM.out.mono ?_; rintro e w1 ⟨rfl, hb⟩; have D1 := hid (D0.out.on hb); clear hb D0)
    clear HM
    go_upto_region 5 with (first | (refine wpList_build_f rfl 125 _ rfl #[(0, .int .i64 3), (1, .int .i64 s)] (by rfl) _ (built_F s) ?_) | (go_at_call 60; refine (HL1.out _ D1.out.db).mono ?_; rintro e w2 ⟨rfl, hd, hb⟩; have D2 := hid (D1.out.step hd hb (by simp [Dp.w])); clear hb hd))
    clear HL1 D1
    go_upto_region 6 with (first | (refine wpList_build_f rfl 125 _ rfl #[(0, .int .i64 1), (1, .int .i64 s), (2, .int .i64 1), (3, .int .i64 1)] (by rfl) _ (built_S s) ?_) | (go_at_call 60; refine (HL2.out _ D2.out.db).mono ?_; rintro e w3 ⟨rfl, hd, hb⟩; have D3 := hid (D2.out.step hd hb (by simp [Dp.w])); clear hb hd))
    clear HL2 D2
    have D4 := hid (D3.out.on (Below.refl _ _).drew)
    clear D3
    obtain ⟨N, hN⟩ : ∃ N, N = 1 + 2 * d2.m.ns := ⟨_, rfl⟩
    have hc3 : Hid (∀ w m', DB w p { d2 with m := m' } → m'.ns = d2.m.ns → w.cell? ⟨p.g, 0, none⟩ = some (.pointer (some ⟨p.f.gm, 0, none⟩)) ∧ w.cell? ⟨p.g, 1, none⟩ = some (.slice (some ⟨p.gw, 0, none⟩) N N) ∧ w.cell? ⟨p.gw, 0, none⟩ = some (.int .u32 d2.b)) := hid (fun w m' hw hn => by
      have := cells3 hw
      rw [hN, ← hn]
      exact this)
    have N0 : (0 : Int) < (N : Int) := by omega
    have N1 : ¬ N = 0 := by omega
    clear hN
    refine wp_region_held_drew (S := fun w => w.cell? ⟨p.g, 0, none⟩ = some (.pointer (some ⟨p.f.gm, 0, none⟩)) ∧ w.cell? ⟨p.g, 1, none⟩ = some (.slice (some ⟨p.gw, 0, none⟩) N N) ∧ w.cell? ⟨p.gw, 0, none⟩ = some (.int .u32 d2.b)) (by kernel_rfl) (hc3.out _ _ D4.out.db rfl) (fun hHeld => ?_)
    refine tk 0 ⟨some 25, .move (.tmp 0), 43, "take.go:18", #[], none⟩ (.pointer (some ⟨p.g, 0, none⟩)) ?_
    simp only [Act.put, List.setIfInBounds_toArray, List.set_cons_zero, List.set_cons_succ]
    refine tk 1 ⟨some 26, .nilCheck (.tmp 25), 0, "take.go:18", #[⟨0, .data⟩], none⟩ (.pointer (some ⟨p.g, 0, none⟩)) ?_
    simp only [Act.put, List.setIfInBounds_toArray, List.set_cons_zero, List.set_cons_succ]
    refine tk 2 ⟨some 27, .fieldAddr 117 (.tmp 26) 0, 0, "take.go:18", #[⟨1, .data⟩], none⟩ (.pointer (some ⟨p.g, 0, none⟩)) ?_
    simp only [Act.put, List.setIfInBounds_toArray, List.set_cons_zero, List.set_cons_succ]
    refine tk 3 ⟨some 28, .load 36 (.tmp 27), 36, "take.go:18", #[⟨2, .data⟩], none⟩ (.pointer (some ⟨p.f.gm, 0, none⟩)) ?_ (hy := Or.inl ⟨by rfl, by intro w hSw; have hc := hSw.1; go_simp⟩)
    simp only [Act.put, List.setIfInBounds_toArray, List.set_cons_zero, List.set_cons_succ]
    refine tk 4 ⟨some 29, .move (.tmp 1), 3, "take.go:18", #[], none⟩ (.int .i64 s) ?_
    simp only [Act.put, List.setIfInBounds_toArray, List.set_cons_zero, List.set_cons_succ]
    refine tk 6 ⟨some 31, .move (.tmp 2), 3, "take.go:18", #[], none⟩ (.int .i64 f) ?_
    simp only [Act.put, List.setIfInBounds_toArray, List.set_cons_zero, List.set_cons_succ]
    refine tk 7 ⟨some 32, .convert 3 29 (.tmp 31), 29, "take.go:18", #[⟨6, .data⟩], none⟩ (.int .u32 f) ?_
    simp only [Act.put, List.setIfInBounds_toArray, List.set_cons_zero, List.set_cons_succ]
    refine wpAnyH_ready (rs := [5]) (by kernel_rfl) (by simp) (AllReadyH.cons (o := ⟨some 30, .call { callee := .value (.func 61), args := #[.tmp 29], argTypes := #[3] }, 67, "take.go:18", #[⟨4, .data⟩], none⟩) rfl (fun KQ hK => ?_) AllReadyH.nil)
    go_simp
    refine (frame_any _ s).mono ?_
    rintro e w4 ⟨rfl, hb⟩
    have D5 := hid (D4.out.on hb)
    clear hb
    go_wp2_with fail
    refine hK.out _ _ (hc3.out _ _ D5.out.db rfl) (fun hHeld => ?_)
    clear hK KQ
    try simp only [Act.put, List.setIfInBounds_toArray, List.set_cons_zero, List.set_cons_succ]
    refine wpAnyH_ready (rs := [8]) (by kernel_rfl) (by simp) (AllReadyH.cons (o := ⟨some 33, .call { callee := .value (.func 25), args := #[.tmp 28, .tmp 30, .const (.int .i64 0), .tmp 32], argTypes := #[36, 67, 3, 29] }, 37, "take.go:18", #[⟨3, .data⟩, ⟨5, .data⟩, ⟨7, .data⟩, ⟨5, .chain⟩], none⟩) rfl (fun KQ hK => ?_) AllReadyH.nil)
    go_simp
    refine (write_any _ p.f _ D5.out.db.mem true s 0 f).mono ?_
    rintro e w5 ⟨rfl, hm, hb⟩
    have D6 := hid (D5.out.step (D5.out.db.memory hm hb (MS.write_ns _ _ _ _ _)) hb (fun k hk => by simp only [Dp.w, List.mem_cons]; exact .inr hk))
    clear hb hm
    go_wp2_with fail
    refine hK.out _ _ (hc3.out _ _ D6.out.db (MS.write_ns _ _ _ _ _)) (fun hHeld => ?_)
    clear hK KQ
    try simp only [Act.put, List.setIfInBounds_toArray, List.set_cons_zero, List.set_cons_succ]
    refine wpAnyH_done (by kernel_rfl) ?_ _
    go_upto_region 7 with fail
    have D7 := hid (D6.out.on (Below.refl _ _).drew)
    clear D4 D5 D6
    refine wp_region_held_drew (S := fun w => w.cell? ⟨p.g, 0, none⟩ = some (.pointer (some ⟨p.f.gm, 0, none⟩)) ∧ w.cell? ⟨p.g, 1, none⟩ = some (.slice (some ⟨p.gw, 0, none⟩) N N) ∧ w.cell? ⟨p.gw, 0, none⟩ = some (.int .u32 d2.b)) (by kernel_rfl) (hc3.out _ _ D7.out.db (MS.write_ns _ _ _ _ _)) (fun hHeld => ?_)
    refine tk 0 ⟨some 34, .move (.tmp 0), 43, "take.go:19", #[], none⟩ (.pointer (some ⟨p.g, 0, none⟩)) ?_
    simp only [Act.put, List.setIfInBounds_toArray, List.set_cons_zero, List.set_cons_succ]
    refine tk 1 ⟨some 35, .nilCheck (.tmp 34), 0, "take.go:19", #[⟨0, .data⟩], none⟩ (.pointer (some ⟨p.g, 0, none⟩)) ?_
    simp only [Act.put, List.setIfInBounds_toArray, List.set_cons_zero, List.set_cons_succ]
    refine tk 2 ⟨some 36, .fieldAddr 117 (.tmp 35) 0, 0, "take.go:19", #[⟨1, .data⟩], none⟩ (.pointer (some ⟨p.g, 0, none⟩)) ?_
    simp only [Act.put, List.setIfInBounds_toArray, List.set_cons_zero, List.set_cons_succ]
    refine tk 3 ⟨some 37, .load 36 (.tmp 36), 36, "take.go:19", #[⟨2, .data⟩], none⟩ (.pointer (some ⟨p.f.gm, 0, none⟩)) ?_ (hy := Or.inl ⟨by rfl, by intro w hSw; have hc := hSw.1; go_simp⟩)
    simp only [Act.put, List.setIfInBounds_toArray, List.set_cons_zero, List.set_cons_succ]
    refine tk 4 ⟨some 38, .move (.tmp 1), 3, "take.go:19", #[], none⟩ (.int .i64 s) ?_
    simp only [Act.put, List.setIfInBounds_toArray, List.set_cons_zero, List.set_cons_succ]
    refine tk 6 ⟨some 40, .move (.tmp 0), 43, "take.go:19", #[], none⟩ (.pointer (some ⟨p.g, 0, none⟩)) ?_
    simp only [Act.put, List.setIfInBounds_toArray, List.set_cons_zero, List.set_cons_succ]
    refine tk 7 ⟨some 41, .nilCheck (.tmp 40), 0, "take.go:19", #[⟨6, .data⟩], none⟩ (.pointer (some ⟨p.g, 0, none⟩)) ?_
    simp only [Act.put, List.setIfInBounds_toArray, List.set_cons_zero, List.set_cons_succ]
    refine tk 8 ⟨some 42, .fieldAddr 117 (.tmp 41) 1, 0, "take.go:19", #[⟨7, .data⟩], none⟩ (.pointer (some ⟨p.g, 1, none⟩)) ?_
    simp only [Act.put, List.setIfInBounds_toArray, List.set_cons_zero, List.set_cons_succ]
    refine tk 9 ⟨some 43, .load 102 (.tmp 42), 102, "take.go:19", #[⟨8, .data⟩], none⟩ (.slice (some ⟨p.gw, 0, none⟩) N N) ?_ (hy := Or.inl ⟨by rfl, by intro w hSw; have hc := hSw.2.1; go_simp⟩)
    simp only [Act.put, List.setIfInBounds_toArray, List.set_cons_zero, List.set_cons_succ]
    refine tk 10 ⟨some 44, .indexAddr 102 (.tmp 43) (.const (.int .i64 0)), 0, "take.go:19", #[⟨9, .data⟩], none⟩ (.pointer (some ⟨p.gw, 0, none⟩)) ?_
    simp only [Act.put, List.setIfInBounds_toArray, List.set_cons_zero, List.set_cons_succ]
    refine tk 11 ⟨some 45, .load 29 (.tmp 44), 29, "take.go:19", #[⟨10, .data⟩], none⟩ (.int .u32 d2.b) ?_ (hy := Or.inl ⟨by rfl, by intro w hSw; have hc := hSw.2.2; go_simp⟩)
    simp only [Act.put, List.setIfInBounds_toArray, List.set_cons_zero, List.set_cons_succ]
    refine wpAnyH_ready (rs := [5]) (by kernel_rfl) (by simp) (AllReadyH.cons (o := ⟨some 39, .call { callee := .value (.func 61), args := #[.tmp 38], argTypes := #[3] }, 67, "take.go:19", #[⟨4, .data⟩], none⟩) rfl (fun KQ hK => ?_) AllReadyH.nil)
    go_simp
    refine (frame_any _ s).mono ?_
    rintro e w6 ⟨rfl, hb⟩
    have D8 := hid (D7.out.on hb)
    clear hb
    go_wp2_with fail
    refine hK.out _ _ (hc3.out _ _ D8.out.db (MS.write_ns _ _ _ _ _)) (fun hHeld => ?_)
    clear hK KQ
    try simp only [Act.put, List.setIfInBounds_toArray, List.set_cons_zero, List.set_cons_succ]
    refine wpAnyH_ready (rs := [12]) (by kernel_rfl) (by simp) (AllReadyH.cons (o := ⟨some 46, .call { callee := .value (.func 25), args := #[.tmp 37, .tmp 39, .const (.int .i64 1), .tmp 45], argTypes := #[36, 67, 3, 29] }, 37, "take.go:19", #[⟨3, .data⟩, ⟨5, .data⟩, ⟨11, .data⟩, ⟨5, .chain⟩], none⟩) rfl (fun KQ hK => ?_) AllReadyH.nil)
    go_simp
    refine (write_any _ p.f _ D8.out.db.mem true s 1 d2.b).mono ?_
    rintro e w7 ⟨rfl, hm, hb⟩
    have D9 := hid (D8.out.step (D8.out.db.memory hm hb (MS.write_ns _ _ _ _ _)) hb (fun k hk => by simp only [Dp.w, List.mem_cons]; exact .inr hk))
    clear hb hm
    go_wp2_with fail
    refine hK.out _ _ (hc3.out _ _ D9.out.db ((MS.write_ns _ _ _ _ _).trans (MS.write_ns _ _ _ _ _))) (fun hHeld => ?_)
    clear hK KQ
    try simp only [Act.put, List.setIfInBounds_toArray, List.set_cons_zero, List.set_cons_succ]
    refine wpAnyH_done (by kernel_rfl) ?_ _
    go_upto_region 8 with fail
    have DA := hid (D9.out.on (Below.refl _ _).drew)
    clear D7 D8 D9
    refine wp_region_held_drew (S := fun w => w.cell? ⟨p.g, 0, none⟩ = some (.pointer (some ⟨p.f.gm, 0, none⟩)) ∧ w.cell? ⟨p.g, 1, none⟩ = some (.slice (some ⟨p.gw, 0, none⟩) N N) ∧ w.cell? ⟨p.gw, 0, none⟩ = some (.int .u32 d2.b)) (by kernel_rfl) (hc3.out _ _ DA.out.db ((MS.write_ns _ _ _ _ _).trans (MS.write_ns _ _ _ _ _))) (fun hHeld => ?_)
    refine tk 0 ⟨some 47, .move (.tmp 0), 43, "take.go:21", #[], none⟩ (.pointer (some ⟨p.g, 0, none⟩)) ?_
    simp only [Act.put, List.setIfInBounds_toArray, List.set_cons_zero, List.set_cons_succ]
    refine tk 1 ⟨some 48, .nilCheck (.tmp 47), 0, "take.go:21", #[⟨0, .data⟩], none⟩ (.pointer (some ⟨p.g, 0, none⟩)) ?_
    simp only [Act.put, List.setIfInBounds_toArray, List.set_cons_zero, List.set_cons_succ]
    refine tk 2 ⟨some 49, .fieldAddr 117 (.tmp 48) 0, 0, "take.go:21", #[⟨1, .data⟩], none⟩ (.pointer (some ⟨p.g, 0, none⟩)) ?_
    simp only [Act.put, List.setIfInBounds_toArray, List.set_cons_zero, List.set_cons_succ]
    refine tk 3 ⟨some 50, .load 36 (.tmp 49), 36, "take.go:21", #[⟨2, .data⟩], none⟩ (.pointer (some ⟨p.f.gm, 0, none⟩)) ?_ (hy := Or.inl ⟨by rfl, by intro w hSw; have hc := hSw.1; go_simp⟩)
    simp only [Act.put, List.setIfInBounds_toArray, List.set_cons_zero, List.set_cons_succ]
    refine tk 4 ⟨some 51, .move (.tmp 1), 3, "take.go:21", #[], none⟩ (.int .i64 s) ?_
    simp only [Act.put, List.setIfInBounds_toArray, List.set_cons_zero, List.set_cons_succ]
    refine wpAnyH_ready (rs := [5]) (by kernel_rfl) (by simp) (AllReadyH.cons (o := ⟨some 52, .call { callee := .value (.func 61), args := #[.tmp 51], argTypes := #[3] }, 67, "take.go:21", #[⟨4, .data⟩], none⟩) rfl (fun KQ hK => ?_) AllReadyH.nil)
    go_simp
    refine (frame_any _ s).mono ?_
    rintro e w8 ⟨rfl, hb⟩
    have DB := hid (DA.out.on hb)
    clear hb
    go_wp2_with fail
    refine hK.out _ _ (hc3.out _ _ DB.out.db ((MS.write_ns _ _ _ _ _).trans (MS.write_ns _ _ _ _ _))) (fun hHeld => ?_)
    clear hK KQ
    try simp only [Act.put, List.setIfInBounds_toArray, List.set_cons_zero, List.set_cons_succ]
    refine wpAnyH_ready (rs := [6]) (by kernel_rfl) (by simp) (AllReadyH.cons (o := ⟨some 53, .call { callee := .value (.func 25), args := #[.tmp 50, .tmp 52, .const (.int .i64 2), .const (.int .u32 0)], argTypes := #[36, 67, 3, 29] }, 37, "take.go:21", #[⟨3, .data⟩, ⟨5, .data⟩, ⟨5, .chain⟩], none⟩) rfl (fun KQ hK => ?_) AllReadyH.nil)
    go_simp
    refine (write_any _ p.f _ DB.out.db.mem true s 2 0).mono ?_
    rintro e w9 ⟨rfl, hm, hb⟩
    have DC := hid (DB.out.step (DB.out.db.memory hm hb (MS.write_ns _ _ _ _ _)) hb (fun k hk => by simp only [Dp.w, List.mem_cons]; exact .inr hk))
    clear hb hm
    go_wp2_with fail
    refine hK.out _ _ (hc3.out _ _ DC.out.db ((MS.write_ns _ _ _ _ _).trans ((MS.write_ns _ _ _ _ _).trans (MS.write_ns _ _ _ _ _)))) (fun hHeld => ?_)
    clear hK KQ
    try simp only [Act.put, List.setIfInBounds_toArray, List.set_cons_zero, List.set_cons_succ]
    refine wpAnyH_done (by kernel_rfl) ?_ _
    obtain ⟨k0, k1, k2⟩ := hc3.out _ _ DC.out.db (MS.write_ns _ _ _ _ _ |>.trans ((MS.write_ns _ _ _ _ _).trans (MS.write_ns _ _ _ _ _)))
    have kf := DC.out.db.wds.free 0
    have HZ := hid (DC.out.step (DC.out.db.born (by show d2.b < 64; rw [HD2.out.2]; exact HBB.out)) (.setCell (G := [p.gw]) _ _ _ _ (by simp)) (by simp [Dp.w]))
    rw [← HD2.out.2] at wb
    go_wp2_with fail
    go_ret
    refine ⟨rfl, ?_, HZ.out.but⟩
    have hz := HZ.out.db
    rw [HSP.out]
    rw [MS.born, ← HD2.out.1, ← HD2.out.2]
    exact hz
  · rw [if_neg hz]
    have hz' : (d.bearE s f == 0) = false := by simpa using hz
    generalize d.bearE s f = R at *
    clear hz h
    simp only [ptr] at HM ⊢
    go_enter Tryz.func15, Tryz.ntmps15
    go_wp2_with (go_at_call 59; refine HM.out.mono ?_; rintro e w1 ⟨rfl, hb⟩; have D1 := hid (D0.out.on hb); clear hb D0)
    go_ret
    exact ⟨rfl, D1.out.db, D1.out.but⟩
end Go.Proofs.YtgbpbfnpeeciaaaGreat
namespace Go.Proofs.YtgbpbfnpeeciaaaGreat
open Go.RowKit
set_option maxHeartbeats 2000000
set_option maxRecDepth 100000
theorem En.okR {x : En} (h : x.ok = true) (ht : x.t = 1) (r : Int) (r0 : 0 ≤ r) (r1 : r < 64) : En.ok { x with r := r } = true := by
  rw [En.ok_iff] at *
  obtain ⟨t0, t1, o0, o1, _, _, s0, s1, z, sp, ns, en⟩ := h
  exact ⟨t0, t1, o0, o1, r0, r1, s0, s1, z, sp, fun h => absurd ht h, en⟩
theorem En.okS {x : En} (h : x.ok = true) (ht : x.t = 1) (s : Int) (r0 : 1 ≤ s) (r1 : s < 4) : En.ok { x with s := s } = true := by
  rw [En.ok_iff] at *
  obtain ⟨t0, t1, o0, o1, q0, q1, s0, s1, z, sp, ns, en⟩ := h
  exact ⟨t0, t1, o0, o1, q0, q1, by show 0 ≤ s; omega, r1, z, fun _ => r0, fun h => absurd ht h, en⟩
def enT (t o : Int) : En := ⟨t, o, 0, 0, false⟩
theorem enT_ok {t o : Int} (t0 : 2 ≤ t) (t1 : t ≤ 6) (h0 : 0 ≤ o) (h1 : o < 64) : (enT t o).ok = true := by
  rw [En.ok_iff]
  exact ⟨by show 0 ≤ t; omega, t1, h0, h1, by simp [enT], by simp [enT], by simp [enT], by simp [enT], by show t = 0 → _; omega, by show t = 1 → _; omega, by simp [enT], by simp [enT]⟩
theorem zero_ok : En.zero.ok = true := by decide
theorem built_T (t s : Int) : Tryz.prog.built 125 [(0, .int .i64 t), (1, .int .i64 s)] = some (enT t s).cs.toArray := by kernel_rfl
def DS.takeE (d : DS) (q t s : Int) : Int := if d.entE q ≠ 0 then d.entE q else if t ≠ 2 ∧ trn t = false then 124 else if d.more s = false then 122 else if (d.ent q).t ≠ 0 then 120 else 0
def DS.taken (d : DS) (q t s : Int) : DS := (d.lay q.toNat (enT t s)).cnt s.toNat 1
def DS.take (d : DS) (q t s : Int) : DS := if d.takeE q t s = 0 then d.taken q t s else d
theorem trn_iff (t : Int) : trn t = true ↔ t = 4 ∨ t = 5 ∨ t = 6 := by simp [trn]
theorem take_zero {d : DS} {q t s : Int} (h : d.takeE q t s = 0) : d.there q = true ∧ (2 ≤ t ∧ t ≤ 6) ∧ (t = 2 ∨ trn t = true) ∧ d.more s = true ∧ (d.ent q).t = 0 := by
  cases hq : d.there q
  · simp [DS.takeE, DS.entE, hq] at h
  simp only [DS.takeE, DS.entE, hq, if_true, ne_eq, not_true_eq_false, if_false] at h
  by_cases h1 : t ≠ 2 ∧ trn t = false
  · rw [if_pos h1] at h; cases h
  rw [if_neg h1] at h
  have h2 : t = 2 ∨ trn t = true := by
    by_cases e : t = 2
    · exact .inl e
    · refine .inr ?_
      cases hh : trn t
      · exact absurd ⟨e, hh⟩ h1
      · rfl
  cases hm : d.more s
  · rw [hm, if_pos rfl] at h; cases h
  rw [hm, if_neg (by decide)] at h
  by_cases h4 : (d.ent q).t = 0
  · refine ⟨rfl, ?_, h2, rfl, h4⟩
    rcases h2 with h2 | h2
    · omega
    · rw [trn_iff] at h2; omega
  · simp [h4] at h
theorem there_of {d : DS} {q : Int} (h : (d.ent q).t ≠ 0) : d.there q = true := by
  cases hh : d.there q
  · simp [DS.ent, hh, En.zero] at h
  · rfl
theorem more_of {d : DS} {s : Int} (h : d.more s = true) : d.there s = true ∧ (d.ent s).t = 1 ∧ (d.ent s).r < 63 := by
  simp only [DS.more, Bool.and_eq_true, beq_iff_eq, decide_eq_true_eq] at h
  exact ⟨there_of (by rw [h.1]; decide), h⟩
theorem lay_at {d : DS} (k j : Nat) (x : En) (hk : k < d.E.length) : (d.lay k x).at j = if j = k then x else d.at j := by
  by_cases e : j = k
  · subst e; rw [if_pos rfl]; simp [DS.at, DS.lay, List.getD_eq_getElem?_getD, List.getElem?_set_self hk]
  · rw [if_neg e]; simp [DS.at, DS.lay, List.getD_eq_getElem?_getD, List.getElem?_set_ne (Ne.symm e)]
theorem ent_at {d : DS} {q : Int} (h : d.there q = true) : d.ent q = d.at q.toNat := by rw [DS.ent, if_pos h]
theorem there_lt {d : DS} {q : Int} (h : d.there q = true) : 0 ≤ q ∧ q.toNat < d.m.ns ∧ q = ((q.toNat : Nat) : Int) := by
  obtain ⟨a, b⟩ := of_decide_eq_true h
  exact ⟨a, by omega, by omega⟩
theorem take_any (W : World) (p : Dp) (d : DS) (h : DB W p d) (q t s : Int) :
    Calls Tryz.prog 17 #[ptr p.g, .int .i64 q, .int .i64 t, .int .i64 s] W fun e W' => e = .returned (.int .i64 (d.takeE q t s)) ∧ DB W' p (d.take q t s) ∧ ButL p.w W W' := by
  have D0 := hid (DG.start h p.w h.wlt)
  have HE := hid (fun w (hw : DB w p d) => entry_any w p d hw q)
  have HT := hid (fun W => turns_any W t)
  have HM := hid (fun w (hw : DB w p d) => ownsMore_any w p d hw s)
  unfold DS.take
  by_cases hz : d.takeE q t s = 0
  · rw [if_pos hz, hz]
    obtain ⟨tq, ⟨t0, t1⟩, ht, hm, hf⟩ := take_zero hz
    obtain ⟨ts, s1, s2⟩ := more_of hm
    obtain ⟨q0, q1, eq⟩ := there_lt tq
    obtain ⟨s0, s3, es⟩ := there_lt ts
    have n64 := h.ok.n64
    have hne : s.toNat ≠ q.toNat := fun e => by
      rw [ent_at ts, e, ← ent_at tq, hf] at s1
      cases s1
    have hql : q.toNat < d.E.length := by rw [h.ok.len]; exact q1
    have ha : (d.lay q.toNat (enT t s)).at s.toNat = d.ent s := by rw [lay_at _ _ _ hql, if_neg hne, ent_at ts]
    have hok := h.ok.ok _ s3
    rw [← ent_at ts] at hok
    have HL := hid (fun w (hw : DB w p d) => lay_any w p d hw q.toNat q1 (enT t s) (enT_ok t0 t1 s0 (by omega)) (by show s < _; omega))
    have HC := hid (fun w (hw : DB w p (d.lay q.toNat (enT t s))) => count_any w p _ hw s.toNat s3 1 (by rw [ha]; exact En.okR hok s1 _ (by have := ((En.ok_iff _).1 hok).r0; omega) (by omega)))
    rw [← eq] at HL
    rw [← es] at HC
    have e2 : d.entE q = 0 := by simp [DS.entE, tq]
    rw [e2] at HE
    rw [hm] at HM
    unfold DS.taken
    generalize d.lay q.toNat (enT t s) = d1 at *
    generalize d1.cnt s.toNat 1 = d2 at *
    generalize hX : d.ent q = X at *
    obtain ⟨xt, xo, xr, xs, xx⟩ := X
    simp only at hf
    subst hf
    have hT : t = 2 ∨ ((t != 2) = true ∧ trn t = true) := by
      by_cases e : t = 2
      · exact .inl e
      · exact .inr ⟨by simpa using e, ht.resolve_left e⟩
    clear h hz tq t0 t1 ht hm ts s1 s2 q0 q1 eq s0 s3 es n64 hne hql ha hok e2 hX
    simp only [ptr, En.v, En.cs] at HE
    simp only [ptr, En.v] at HT HM HL HC ⊢
    go_enter Tryz.func17, Tryz.ntmps17
    go_upto_region 2 with (first | (go_at_call 62; refine (HE.out _ D0.out.db).mono ?_; rintro e w1 ⟨rfl, hb⟩; have D1 := hid (D0.out.on hb); clear hb) | (refine wpList_store_st rfl 125 _ _ rfl w1.heap.size [.int .i64 0, .int .i64 xo, .int .i64 xr, .int .i64 xs, .bool xx] rfl rfl (Cel.new w1 125 En.zero.cs) sizeE rfl rfl ?_; intro w2 hc hb hs; have D2 := hid (D1.out.add hc hb); clear hc hb hs))
    clear D0 D1 HE
    generalize w1.heap.size = g9 at *
    rcases hT with hT | ⟨hT, hT2⟩
    · subst hT
      go_upto_region 8 with (go_at_call 64; refine (HM.out _ D2.out.db).mono ?_; rintro e w3 ⟨rfl, hb⟩; have D3 := hid (D2.out.on hb); clear hb)
      clear D2 HM HT
      have c0 := (D3.out.get 0 rfl).cell 0
      simp only [List.getElem?_cons_zero] at c0
      go_upto_region 11 with (first | (refine wpList_build_f rfl 125 _ rfl #[(0, .int .i64 2), (1, .int .i64 s)] (by rfl) _ (built_T 2 s) ?_) | (go_at_call 60; refine (HL.out _ D3.out.db).mono ?_; rintro e w4 ⟨rfl, hd, hb⟩; have D4 := hid (D3.out.step hd hb (by simp [Dp.w])); clear hb hd))
      go_wp2_with (go_at_call 65; refine (HC.out _ D4.out.db).mono ?_; rintro e w5 ⟨rfl, hd, hb⟩; have D5 := hid (D4.out.step hd hb (by simp [Dp.w])); clear hb hd)
      go_ret
      exact ⟨rfl, D5.out.db, D5.out.but⟩
    · rw [hT2] at HT
      go_upto_region 8 with (first | (go_at_call 63; refine (HT.out _).mono ?_; rintro e w6 ⟨rfl, rfl⟩) | (go_at_call 64; refine (HM.out _ D2.out.db).mono ?_; rintro e w3 ⟨rfl, hb⟩; have D3 := hid (D2.out.on hb); clear hb))
      clear D2 HM HT
      have c0 := (D3.out.get 0 rfl).cell 0
      simp only [List.getElem?_cons_zero] at c0
      go_upto_region 11 with (first | (refine wpList_build_f rfl 125 _ rfl #[(0, .int .i64 t), (1, .int .i64 s)] (by rfl) _ (built_T t s) ?_) | (go_at_call 60; refine (HL.out _ D3.out.db).mono ?_; rintro e w4 ⟨rfl, hd, hb⟩; have D4 := hid (D3.out.step hd hb (by simp [Dp.w])); clear hb hd))
      go_wp2_with (go_at_call 65; refine (HC.out _ D4.out.db).mono ?_; rintro e w5 ⟨rfl, hd, hb⟩; have D5 := hid (D4.out.step hd hb (by simp [Dp.w])); clear hb hd)
      go_ret
      exact ⟨rfl, D5.out.db, D5.out.but⟩
  · rw [if_neg hz]
    have HR : Hid (d.takeE q t s ≠ 0 ∧ d.takeE q t s = if d.entE q ≠ 0 then d.entE q else if t ≠ 2 ∧ trn t = false then 124 else if d.more s = false then 122 else if (d.ent q).t ≠ 0 then 120 else 0) := hid ⟨hz, rfl⟩
    generalize d.takeE q t s = R at *
    clear h hz
    generalize d.ent q = X at *
    obtain ⟨xt, xo, xr, xs, xx⟩ := X
    generalize d.entE q = xe at *
    generalize trn t = tt at *
    generalize d.more s = mm at *
    simp only [ptr, En.v, En.cs] at HE HT HM ⊢
    go_enter Tryz.func17, Tryz.ntmps17
    go_upto_region 2 with (first | (go_at_call 62; refine (HE.out _ D0.out.db).mono ?_; rintro e w1 ⟨rfl, hb⟩; have D1 := hid (D0.out.on hb); clear hb) | (refine wpList_store_st rfl 125 _ _ rfl w1.heap.size [.int .i64 xt, .int .i64 xo, .int .i64 xr, .int .i64 xs, .bool xx] rfl rfl (Cel.new w1 125 En.zero.cs) sizeE rfl rfl ?_; intro w2 hc hb hs; have D2 := hid (D1.out.add hc hb); clear hc hb hs))
    clear D0 D1 HE
    generalize w1.heap.size = g9 at *
    by_cases h1 : xe = 0
    · subst h1
      have HT2 : Hid ((t ≠ 2 ∧ tt = false) ∨ t = 2 ∨ ((t != 2) = true ∧ tt = true)) := hid (by
        by_cases e : t = 2
        · exact .inr (.inl e)
        · cases tt
          · exact .inl ⟨e, rfl⟩
          · exact .inr (.inr ⟨by simpa using e, rfl⟩))
      rcases HT2.out with hT | hT | ⟨hT, hT2⟩
      · have hR : R = 124 := by rw [HR.out.2]; simp [hT.1, hT.2]
        have hT' : (t != 2) = true := by simpa using hT.1
        subst hR
        rw [hT.2] at HT
        clear HR HT2 hT
        go_wp2_with (go_at_call 63; refine (HT.out _).mono ?_; rintro e w6 ⟨rfl, rfl⟩)
        go_ret
        exact ⟨rfl, D2.out.db, D2.out.but⟩
      · subst hT
        cases mm
        · have hR : R = 122 := by rw [HR.out.2]; simp
          subst hR
          clear HR HT2 HT
          go_wp2_with (go_at_call 64; refine (HM.out _ D2.out.db).mono ?_; rintro e w3 ⟨rfl, hb⟩; have D3 := hid (D2.out.on hb); clear hb)
          go_ret
          exact ⟨rfl, D3.out.db, D3.out.but⟩
        · have hX : xt ≠ 0 := fun e => HR.out.1 (by rw [HR.out.2, e]; simp)
          have hR : R = 120 := by rw [HR.out.2]; simp [hX]
          have hX' : (xt == 0) = false := by simpa using hX
          subst hR
          clear HR HT2 HT hX
          go_upto_region 8 with (go_at_call 64; refine (HM.out _ D2.out.db).mono ?_; rintro e w3 ⟨rfl, hb⟩; have D3 := hid (D2.out.on hb); clear hb)
          have c0 := (D3.out.get 0 rfl).cell 0
          simp only [List.getElem?_cons_zero] at c0
          go_wp2_with fail
          go_ret
          exact ⟨rfl, D3.out.db, D3.out.but⟩
      · subst hT2
        cases mm
        · have hR : R = 122 := by rw [HR.out.2]; simp
          subst hR
          clear HR HT2
          go_wp2_with (first | (go_at_call 63; refine (HT.out _).mono ?_; rintro e w6 ⟨rfl, rfl⟩) | (go_at_call 64; refine (HM.out _ D2.out.db).mono ?_; rintro e w3 ⟨rfl, hb⟩; have D3 := hid (D2.out.on hb); clear hb))
          go_ret
          exact ⟨rfl, D3.out.db, D3.out.but⟩
        · have hX : xt ≠ 0 := fun e => HR.out.1 (by rw [HR.out.2, e]; simp)
          have hR : R = 120 := by rw [HR.out.2]; simp [hX]
          have hX' : (xt == 0) = false := by simpa using hX
          subst hR
          clear HR HT2 hX
          go_upto_region 8 with (first | (go_at_call 63; refine (HT.out _).mono ?_; rintro e w6 ⟨rfl, rfl⟩) | (go_at_call 64; refine (HM.out _ D2.out.db).mono ?_; rintro e w3 ⟨rfl, hb⟩; have D3 := hid (D2.out.on hb); clear hb))
          have c0 := (D3.out.get 0 rfl).cell 0
          simp only [List.getElem?_cons_zero] at c0
          go_wp2_with fail
          go_ret
          exact ⟨rfl, D3.out.db, D3.out.but⟩
    · have h1' : (xe == 0) = false := by simpa using h1
      have hR : R = xe := by rw [HR.out.2]; simp [h1]
      subst hR
      clear HR h1
      go_wp2_with fail
      go_ret
      exact ⟨rfl, D2.out.db, D2.out.but⟩
end Go.Proofs.YtgbpbfnpeeciaaaGreat
