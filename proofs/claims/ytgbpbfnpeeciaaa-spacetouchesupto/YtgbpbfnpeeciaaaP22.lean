import Derived.Test.YtgbpbfnpeeciaaaP21
import Derived.Test.YtgbpbfnpeeciaaaP01
namespace Go.Proofs.Ytgbpbfnpeeciaaa
open Go.RowKit
set_option maxHeartbeats 8000000
set_option maxRecDepth 100000
theorem wr32 (x : Int) (h0 : 0 ≤ x) (h1 : x < 4294967296) : IntKind.wrap .u32 x = x := by rw [IntKind.wrap_u32]; omega
def DS.bearE (d : DS) (s f : Int) : Int :=
  if d.entE s ≠ 0 then d.entE s else if d.entE f ≠ 0 then d.entE f else if s = f then 1 else if (d.ent s).t ≠ 0 then 120 else if (d.ent f).t ≠ 0 then 120 else if 64 ≤ d.b then 240 else 0
theorem mayBear_any (W : World) (p : Dp) (d : DS) (h : DB W p d) (s f : Int) :
    Calls Try.prog 65 #[ptr p.g, .int .i64 s, .int .i64 f] W fun e W' => e = .returned (.int .i64 (d.bearE s f)) ∧ Below W.heap.size W W' := by
  have D0 := hid (DG.start h [] (by simp))
  have HE1 := hid (fun w (hw : DB w p d) => entry_any w p d hw s)
  have HE2 := hid (fun w (hw : DB w p d) => entry_any w p d hw f)
  have HB := hid (fun w (hw : DB w p d) => births_any w p d hw)
  clear h
  unfold DS.bearE
  generalize d.ent s = X at *
  generalize d.ent f = Y at *
  generalize d.entE s = xe at *
  generalize d.entE f = ye at *
  obtain ⟨xt, xo, xr, xs, xx⟩ := X
  obtain ⟨yt, yo, yr, ys, yx⟩ := Y
  generalize hr : (if xe ≠ 0 then xe else _ : Int) = R
  have HR := hid hr
  clear hr
  simp only [ptr, En.v, En.cs] at HE1 HE2 HB ⊢
  go_enter Try.func65, Try.ntmps65
  go_upto_region 2 with (first | (go_at_call 69; refine (HE1.out _ D0.out.db).mono ?_; rintro e w1 ⟨rfl, hb⟩; have D1 := hid (D0.out.on hb); clear hb) | (refine wpList_store_st rfl 136 _ _ rfl w1.heap.size [.int .i64 xt, .int .i64 xo, .int .i64 xr, .int .i64 xs, .bool xx] rfl rfl (Cel.new w1 136 En.zero.cs) sizeE rfl rfl ?_; intro w2 hc hb hs; have D2 := hid (D1.out.add hc hb); clear hc hb hs))
  clear D0 D1
  generalize w1.heap.size = g7 at *
  go_upto_region 3 with (first | (go_at_call 69; refine (HE2.out _ D2.out.db).mono ?_; rintro e w3 ⟨rfl, hb⟩; have D3 := hid (D2.out.on hb); clear hb) | (refine wpList_store_st rfl 136 _ _ rfl w3.heap.size [.int .i64 yt, .int .i64 yo, .int .i64 yr, .int .i64 ys, .bool yx] rfl rfl (Cel.new w3 136 En.zero.cs) sizeE rfl rfl ?_; intro w4 hc hb hs; have D4 := hid (D3.out.add hc hb); clear hc hb hs))
  clear D2 D3 HE1 HE2
  generalize w3.heap.size = g9 at *
  have c0 := (D4.out.get 0 rfl).cell 0
  have c1 := (D4.out.get 1 rfl).cell 0
  simp only [List.getElem?_cons_zero] at c0 c1
  have HF := hid (D4.out.but.below (B := W.heap.size) (by simp) (Nat.le_refl _))
  by_cases h1 : xe = 0
  · subst h1
    by_cases h2 : ye = 0
    · subst h2
      by_cases h3 : s = f
      · subst h3
        have hR : R = 1 := by rw [← HR.out]; simp
        subst hR
        clear HR
        go_wp2_with fail
        go_ret
        exact ⟨rfl, HF.out⟩
      · have h3' : (s == f) = false := by simpa using h3
        by_cases h4 : xt = 0
        · subst h4
          by_cases h5 : yt = 0
          · subst h5
            by_cases h6 : 64 ≤ d.b
            · have hR : R = 240 := by rw [← HR.out]; simp [h3, h6]
              subst hR
              clear HR h3
              go_wp2_with (go_at_call 95; refine (HB.out _ D4.out.db).mono ?_; rintro e w5 ⟨rfl, rfl⟩)
              go_ret
              exact ⟨rfl, HF.out⟩
            · have hR : R = 0 := by rw [← HR.out]; simp [h3, h6]
              have h6' : d.b < 64 := by omega
              subst hR
              clear HR h3 h6
              go_wp2_with (go_at_call 95; refine (HB.out _ D4.out.db).mono ?_; rintro e w5 ⟨rfl, rfl⟩)
              go_ret
              exact ⟨rfl, HF.out⟩
          · have h5' : (yt == 0) = false := by simpa using h5
            have hR : R = 120 := by rw [← HR.out]; simp [h3, h5]
            subst hR
            clear HR h3 h5
            go_wp2_with fail
            go_ret
            exact ⟨rfl, HF.out⟩
        · have h4' : (xt == 0) = false := by simpa using h4
          have hR : R = 120 := by rw [← HR.out]; simp [h3, h4]
          subst hR
          clear HR h3 h4
          go_wp2_with fail
          go_ret
          exact ⟨rfl, HF.out⟩
    · have h2' : (ye == 0) = false := by simpa using h2
      have hR : R = ye := by rw [← HR.out]; simp [h2]
      subst hR
      clear HR h2
      go_wp2_with fail
      go_ret
      exact ⟨rfl, HF.out⟩
  · have h1' : (xe == 0) = false := by simpa using h1
    have hR : R = xe := by rw [← HR.out]; simp [h1]
    subst hR
    clear HR h1
    go_wp2_with fail
    go_ret
    exact ⟨rfl, HF.out⟩
def enF (s : Int) : En := ⟨3, s, 0, 0, false⟩
def enS (s : Int) : En := ⟨1, s, 1, 1, false⟩
def MS.born (m : MS) (s f b : Int) : MS := ((m.write true s 0 f).write true s 1 b).write true s 2 0
def DS.space (d : DS) (s f : Int) : DS := { ((d.lay f.toNat (enF s)).lay s.toNat (enS s)) with m := d.m.born s f d.b, b := d.b + 1 }
def DS.takeSpace (d : DS) (s f : Int) : DS := if d.bearE s f = 0 then d.space s f else d
theorem bear_zero {d : DS} {s f : Int} (h : d.bearE s f = 0) : d.there s = true ∧ d.there f = true ∧ s ≠ f ∧ (d.ent s).t = 0 ∧ (d.ent f).t = 0 ∧ d.b < 64 := by
  cases hs : d.there s
  · simp [DS.bearE, DS.entE, hs] at h
  cases hf : d.there f
  · simp [DS.bearE, DS.entE, hs, hf] at h
  simp only [DS.bearE, DS.entE, hs, hf, if_true, ne_eq, not_true_eq_false, if_false] at h
  by_cases h3 : s = f
  · simp [h3] at h
  rw [if_neg h3] at h
  by_cases h4 : (d.ent s).t = 0
  · by_cases h5 : (d.ent f).t = 0
    · by_cases h6 : 64 ≤ d.b
      · simp [h4, h5, h6] at h
      · exact ⟨rfl, rfl, h3, h4, h5, by omega⟩
    · simp [h4, h5] at h
  · simp [h4] at h
theorem enF_ok {s : Int} (h0 : 0 ≤ s) (h1 : s < 64) : (enF s).ok = true := by
  rw [En.ok_iff]
  exact ⟨by simp [enF], by simp [enF], h0, h1, by simp [enF], by simp [enF], by simp [enF], by simp [enF], by simp [enF], by simp [enF], by simp [enF], by simp [enF]⟩
theorem enS_ok {s : Int} (h0 : 0 ≤ s) (h1 : s < 64) : (enS s).ok = true := by
  rw [En.ok_iff]
  exact ⟨by simp [enS], by simp [enS], h0, h1, by simp [enS], by simp [enS], by simp [enS], by simp [enS], by simp [enS], by simp [enS], by simp [enS], by simp [enS]⟩
theorem built_F (s : Int) : Try.prog.built 136 [(0, .int .i64 3), (1, .int .i64 s)] = some (enF s).cs.toArray := by kernel_rfl
theorem built_S (s : Int) : Try.prog.built 136 [(0, .int .i64 1), (1, .int .i64 s), (2, .int .i64 1), (3, .int .i64 1)] = some (enS s).cs.toArray := by kernel_rfl
theorem DB.born {w : World} {p : Dp} {d : DS} (h : DB w p d) (hb : d.b < 64) : DB (w.setCell ⟨p.gw, 0, none⟩ (.int .u32 (d.b + 1))) p { d with b := d.b + 1 } :=
  h.words (b' := d.b + 1) (E' := d.E) (by
    have := h.wds.setCell 0 (.int .u32 (d.b + 1))
    rw [u32s_set] at this
    exact this) (.setCell _ _ _ _ (by simp)) (by
    obtain ⟨a, b, c, e, f, g⟩ := h.ok
    exact ⟨a, b, c, e, by show 0 ≤ d.b + 1; omega, by show d.b + 1 ≤ 64; omega⟩)
theorem cells3 {w : World} {p : Dp} {d : DS} (h : DB w p d) : w.cell? ⟨p.g, 0, none⟩ = some (.pointer (some ⟨p.f.gm, 0, none⟩)) ∧ w.cell? ⟨p.g, 1, none⟩ = some (.slice (some ⟨p.gw, 0, none⟩) (1 + 2 * d.m.ns) (1 + 2 * d.m.ns)) ∧ w.cell? ⟨p.gw, 0, none⟩ = some (.int .u32 d.b) :=
  ⟨h.dv.mp, h.dv.sl, by have := h.wds.cell 0; rw [this]; rfl⟩
theorem takeSpace_any (W : World) (p : Dp) (d : DS) (h : DB W p d) (s f : Int) :
    Calls Try.prog 31 #[ptr p.g, .int .i64 s, .int .i64 f] W fun e W' => e = .returned (.int .i64 (d.bearE s f)) ∧ DB W' p (d.takeSpace s f) ∧ ButL p.w W W' := by
  have D0 := hid (DG.start h p.w h.wlt)
  have HM := hid (mayBear_any W p d h s f)
  unfold DS.takeSpace
  by_cases hz : d.bearE s f = 0
  · rw [if_pos hz]
    rw [hz] at HM ⊢
    obtain ⟨ts, tf, hsf, t1, t2, hb⟩ := bear_zero hz
    obtain ⟨s0, s1⟩ := of_decide_eq_true ts
    obtain ⟨f0, f1⟩ := of_decide_eq_true tf
    have n64 := h.ok.n64
    have b0 := h.ok.b0
    have es : s = ((s.toNat : Nat) : Int) := by omega
    have ef : f = ((f.toNat : Nat) : Int) := by omega
    have HL1 := hid (fun w (hw : DB w p d) => lay_any w p d hw f.toNat (by omega) (enF s) (enF_ok s0 (by omega)) (by simpa [enF] using s1))
    have HL2 := hid (fun w (hw : DB w p (d.lay f.toNat (enF s))) => lay_any w p _ hw s.toNat (by show s.toNat < d.m.ns; omega) (enS s) (enS_ok s0 (by omega)) (by simpa [enS, DS.lay] using s1))
    rw [← ef] at HL1
    rw [← es] at HL2
    have wf : f % 4294967296 = f := by omega
    have wf2 : IntKind.wrap .u32 f = f := wr32 f (by omega) (by omega)
    have wb : (d.b + 1) % 4294967296 = d.b + 1 := by omega
    have HBB : Hid (d.b < 64) := hid hb
    have HSP : Hid (d.space s f = { (d.lay f.toNat (enF s)).lay s.toNat (enS s) with m := d.m.born s f d.b, b := d.b + 1 }) := hid rfl
    obtain ⟨d1, hd1⟩ : ∃ d1, d1 = d.lay f.toNat (enF s) := ⟨_, rfl⟩
    obtain ⟨d2, hd2⟩ : ∃ d2, d2 = d1.lay s.toNat (enS s) := ⟨_, rfl⟩
    rw [← hd1] at HL1 HL2 HSP
    rw [← hd2] at HL2 HSP
    have HD2 : Hid (d2.m = d.m ∧ d2.b = d.b) := hid (by rw [hd2, hd1]; exact ⟨rfl, rfl⟩)
    clear h hz ts tf hsf t1 t2 hb s0 s1 f0 f1 n64 b0 es ef hd1 hd2
    simp only [ptr, En.v] at HM HL1 HL2 ⊢
    go_enter Try.func31, Try.ntmps31
    go_upto_region 4 with (go_at_call 65; refine HM.out.mono ?_; rintro e w1 ⟨rfl, hb⟩; have D1 := hid (D0.out.on hb); clear hb D0)
    clear HM
    go_upto_region 5 with (first | (refine wpList_build_f rfl 136 _ rfl #[(0, .int .i64 3), (1, .int .i64 s)] (by rfl) _ (built_F s) ?_) | (go_at_call 66; refine (HL1.out _ D1.out.db).mono ?_; rintro e w2 ⟨rfl, hd, hb⟩; have D2 := hid (D1.out.step hd hb (by simp [Dp.w])); clear hb hd))
    clear HL1 D1
    go_upto_region 6 with (first | (refine wpList_build_f rfl 136 _ rfl #[(0, .int .i64 1), (1, .int .i64 s), (2, .int .i64 1), (3, .int .i64 1)] (by rfl) _ (built_S s) ?_) | (go_at_call 66; refine (HL2.out _ D2.out.db).mono ?_; rintro e w3 ⟨rfl, hd, hb⟩; have D3 := hid (D2.out.step hd hb (by simp [Dp.w])); clear hb hd))
    clear HL2 D2
    have D4 := hid (D3.out.on (Below.refl _ _).drew)
    clear D3
    obtain ⟨N, hN⟩ : ∃ N, N = 1 + 2 * d2.m.ns := ⟨_, rfl⟩
    have hc3 : Hid (∀ w m', DB w p { d2 with m := m' } → m'.ns = d2.m.ns → w.cell? ⟨p.g, 0, none⟩ = some (.pointer (some ⟨p.f.gm, 0, none⟩)) ∧ w.cell? ⟨p.g, 1, none⟩ = some (.slice (some ⟨p.gw, 0, none⟩) N N) ∧ w.cell? ⟨p.gw, 0, none⟩ = some (.int .u32 d2.b)) := hid (fun w m' hw hn => by
      have := cells3 hw
      rw [hN, ← hn]
      exact this)
    have N0 : (0 : Int) < (N : Int) := by omega
    have N1 : ¬ N = 0 := by omega
    clear hN
    refine wp_region_held_drew (S := fun w => w.cell? ⟨p.g, 0, none⟩ = some (.pointer (some ⟨p.f.gm, 0, none⟩)) ∧ w.cell? ⟨p.g, 1, none⟩ = some (.slice (some ⟨p.gw, 0, none⟩) N N) ∧ w.cell? ⟨p.gw, 0, none⟩ = some (.int .u32 d2.b)) (by kernel_rfl) (hc3.out _ _ D4.out.db rfl) (fun hHeld => ?_)
    refine tk 0 ⟨some 25, .move (.tmp 0), 34, "take.go:18", #[], none⟩ (.pointer (some ⟨p.g, 0, none⟩)) ?_
    simp only [Act.put, List.setIfInBounds_toArray, List.set_cons_zero, List.set_cons_succ]
    refine tk 1 ⟨some 26, .nilCheck (.tmp 25), 0, "take.go:18", #[⟨0, .data⟩], none⟩ (.pointer (some ⟨p.g, 0, none⟩)) ?_
    simp only [Act.put, List.setIfInBounds_toArray, List.set_cons_zero, List.set_cons_succ]
    refine tk 2 ⟨some 27, .fieldAddr 115 (.tmp 26) 0, 0, "take.go:18", #[⟨1, .data⟩], none⟩ (.pointer (some ⟨p.g, 0, none⟩)) ?_
    simp only [Act.put, List.setIfInBounds_toArray, List.set_cons_zero, List.set_cons_succ]
    refine tk 3 ⟨some 28, .load 65 (.tmp 27), 65, "take.go:18", #[⟨2, .data⟩], none⟩ (.pointer (some ⟨p.f.gm, 0, none⟩)) ?_ (hy := Or.inl ⟨by rfl, by intro w hSw; have hc := hSw.1; go_simp⟩)
    simp only [Act.put, List.setIfInBounds_toArray, List.set_cons_zero, List.set_cons_succ]
    refine tk 4 ⟨some 29, .move (.tmp 1), 3, "take.go:18", #[], none⟩ (.int .i64 s) ?_
    simp only [Act.put, List.setIfInBounds_toArray, List.set_cons_zero, List.set_cons_succ]
    refine tk 6 ⟨some 31, .move (.tmp 2), 3, "take.go:18", #[], none⟩ (.int .i64 f) ?_
    simp only [Act.put, List.setIfInBounds_toArray, List.set_cons_zero, List.set_cons_succ]
    refine tk 7 ⟨some 32, .convert 3 22 (.tmp 31), 22, "take.go:18", #[⟨6, .data⟩], none⟩ (.int .u32 f) ?_
    simp only [Act.put, List.setIfInBounds_toArray, List.set_cons_zero, List.set_cons_succ]
    refine wpAnyH_ready (rs := [5]) (by kernel_rfl) (by simp) (AllReadyH.cons (o := ⟨some 30, .call { callee := .value (.func 68), args := #[.tmp 29], argTypes := #[3] }, 47, "take.go:18", #[⟨4, .data⟩], none⟩) rfl (fun KQ hK => ?_) AllReadyH.nil)
    go_simp
    refine (frame_any _ s).mono ?_
    rintro e w4 ⟨rfl, hb⟩
    have D5 := hid (D4.out.on hb)
    clear hb
    go_wp2_with fail
    refine hK.out _ _ (hc3.out _ _ D5.out.db rfl) (fun hHeld => ?_)
    clear hK KQ
    try simp only [Act.put, List.setIfInBounds_toArray, List.set_cons_zero, List.set_cons_succ]
    refine wpAnyH_ready (rs := [8]) (by kernel_rfl) (by simp) (AllReadyH.cons (o := ⟨some 33, .call { callee := .value (.func 67), args := #[.tmp 28, .tmp 30, .const (.int .i64 0), .tmp 32], argTypes := #[65, 47, 3, 22] }, 27, "take.go:18", #[⟨3, .data⟩, ⟨5, .data⟩, ⟨7, .data⟩, ⟨5, .chain⟩], none⟩) rfl (fun KQ hK => ?_) AllReadyH.nil)
    go_simp
    refine (write_any _ p.f _ D5.out.db.mem true s 0 f).mono ?_
    rintro e w5 ⟨rfl, hm, hb⟩
    have D6 := hid (D5.out.step (D5.out.db.memory hm hb (MS.write_ns _ _ _ _ _)) hb (fun k hk => by simp only [Dp.w, List.mem_cons]; exact .inr hk))
    clear hb hm
    go_wp2_with fail
    refine hK.out _ _ (hc3.out _ _ D6.out.db (MS.write_ns _ _ _ _ _)) (fun hHeld => ?_)
    clear hK KQ
    try simp only [Act.put, List.setIfInBounds_toArray, List.set_cons_zero, List.set_cons_succ]
    refine wpAnyH_done (by kernel_rfl) ?_ _
    go_upto_region 7 with fail
    have D7 := hid (D6.out.on (Below.refl _ _).drew)
    clear D4 D5 D6
    refine wp_region_held_drew (S := fun w => w.cell? ⟨p.g, 0, none⟩ = some (.pointer (some ⟨p.f.gm, 0, none⟩)) ∧ w.cell? ⟨p.g, 1, none⟩ = some (.slice (some ⟨p.gw, 0, none⟩) N N) ∧ w.cell? ⟨p.gw, 0, none⟩ = some (.int .u32 d2.b)) (by kernel_rfl) (hc3.out _ _ D7.out.db (MS.write_ns _ _ _ _ _)) (fun hHeld => ?_)
    refine tk 0 ⟨some 34, .move (.tmp 0), 34, "take.go:19", #[], none⟩ (.pointer (some ⟨p.g, 0, none⟩)) ?_
    simp only [Act.put, List.setIfInBounds_toArray, List.set_cons_zero, List.set_cons_succ]
    refine tk 1 ⟨some 35, .nilCheck (.tmp 34), 0, "take.go:19", #[⟨0, .data⟩], none⟩ (.pointer (some ⟨p.g, 0, none⟩)) ?_
    simp only [Act.put, List.setIfInBounds_toArray, List.set_cons_zero, List.set_cons_succ]
    refine tk 2 ⟨some 36, .fieldAddr 115 (.tmp 35) 0, 0, "take.go:19", #[⟨1, .data⟩], none⟩ (.pointer (some ⟨p.g, 0, none⟩)) ?_
    simp only [Act.put, List.setIfInBounds_toArray, List.set_cons_zero, List.set_cons_succ]
    refine tk 3 ⟨some 37, .load 65 (.tmp 36), 65, "take.go:19", #[⟨2, .data⟩], none⟩ (.pointer (some ⟨p.f.gm, 0, none⟩)) ?_ (hy := Or.inl ⟨by rfl, by intro w hSw; have hc := hSw.1; go_simp⟩)
    simp only [Act.put, List.setIfInBounds_toArray, List.set_cons_zero, List.set_cons_succ]
    refine tk 4 ⟨some 38, .move (.tmp 1), 3, "take.go:19", #[], none⟩ (.int .i64 s) ?_
    simp only [Act.put, List.setIfInBounds_toArray, List.set_cons_zero, List.set_cons_succ]
    refine tk 6 ⟨some 40, .move (.tmp 0), 34, "take.go:19", #[], none⟩ (.pointer (some ⟨p.g, 0, none⟩)) ?_
    simp only [Act.put, List.setIfInBounds_toArray, List.set_cons_zero, List.set_cons_succ]
    refine tk 7 ⟨some 41, .nilCheck (.tmp 40), 0, "take.go:19", #[⟨6, .data⟩], none⟩ (.pointer (some ⟨p.g, 0, none⟩)) ?_
    simp only [Act.put, List.setIfInBounds_toArray, List.set_cons_zero, List.set_cons_succ]
    refine tk 8 ⟨some 42, .fieldAddr 115 (.tmp 41) 1, 0, "take.go:19", #[⟨7, .data⟩], none⟩ (.pointer (some ⟨p.g, 1, none⟩)) ?_
    simp only [Act.put, List.setIfInBounds_toArray, List.set_cons_zero, List.set_cons_succ]
    refine tk 9 ⟨some 43, .load 113 (.tmp 42), 113, "take.go:19", #[⟨8, .data⟩], none⟩ (.slice (some ⟨p.gw, 0, none⟩) N N) ?_ (hy := Or.inl ⟨by rfl, by intro w hSw; have hc := hSw.2.1; go_simp⟩)
    simp only [Act.put, List.setIfInBounds_toArray, List.set_cons_zero, List.set_cons_succ]
    refine tk 10 ⟨some 44, .indexAddr 113 (.tmp 43) (.const (.int .i64 0)), 0, "take.go:19", #[⟨9, .data⟩], none⟩ (.pointer (some ⟨p.gw, 0, none⟩)) ?_
    simp only [Act.put, List.setIfInBounds_toArray, List.set_cons_zero, List.set_cons_succ]
    refine tk 11 ⟨some 45, .load 22 (.tmp 44), 22, "take.go:19", #[⟨10, .data⟩], none⟩ (.int .u32 d2.b) ?_ (hy := Or.inl ⟨by rfl, by intro w hSw; have hc := hSw.2.2; go_simp⟩)
    simp only [Act.put, List.setIfInBounds_toArray, List.set_cons_zero, List.set_cons_succ]
    refine wpAnyH_ready (rs := [5]) (by kernel_rfl) (by simp) (AllReadyH.cons (o := ⟨some 39, .call { callee := .value (.func 68), args := #[.tmp 38], argTypes := #[3] }, 47, "take.go:19", #[⟨4, .data⟩], none⟩) rfl (fun KQ hK => ?_) AllReadyH.nil)
    go_simp
    refine (frame_any _ s).mono ?_
    rintro e w6 ⟨rfl, hb⟩
    have D8 := hid (D7.out.on hb)
    clear hb
    go_wp2_with fail
    refine hK.out _ _ (hc3.out _ _ D8.out.db (MS.write_ns _ _ _ _ _)) (fun hHeld => ?_)
    clear hK KQ
    try simp only [Act.put, List.setIfInBounds_toArray, List.set_cons_zero, List.set_cons_succ]
    refine wpAnyH_ready (rs := [12]) (by kernel_rfl) (by simp) (AllReadyH.cons (o := ⟨some 46, .call { callee := .value (.func 67), args := #[.tmp 37, .tmp 39, .const (.int .i64 1), .tmp 45], argTypes := #[65, 47, 3, 22] }, 27, "take.go:19", #[⟨3, .data⟩, ⟨5, .data⟩, ⟨11, .data⟩, ⟨5, .chain⟩], none⟩) rfl (fun KQ hK => ?_) AllReadyH.nil)
    go_simp
    refine (write_any _ p.f _ D8.out.db.mem true s 1 d2.b).mono ?_
    rintro e w7 ⟨rfl, hm, hb⟩
    have D9 := hid (D8.out.step (D8.out.db.memory hm hb (MS.write_ns _ _ _ _ _)) hb (fun k hk => by simp only [Dp.w, List.mem_cons]; exact .inr hk))
    clear hb hm
    go_wp2_with fail
    refine hK.out _ _ (hc3.out _ _ D9.out.db ((MS.write_ns _ _ _ _ _).trans (MS.write_ns _ _ _ _ _))) (fun hHeld => ?_)
    clear hK KQ
    try simp only [Act.put, List.setIfInBounds_toArray, List.set_cons_zero, List.set_cons_succ]
    refine wpAnyH_done (by kernel_rfl) ?_ _
    go_upto_region 8 with fail
    have DA := hid (D9.out.on (Below.refl _ _).drew)
    clear D7 D8 D9
    refine wp_region_held_drew (S := fun w => w.cell? ⟨p.g, 0, none⟩ = some (.pointer (some ⟨p.f.gm, 0, none⟩)) ∧ w.cell? ⟨p.g, 1, none⟩ = some (.slice (some ⟨p.gw, 0, none⟩) N N) ∧ w.cell? ⟨p.gw, 0, none⟩ = some (.int .u32 d2.b)) (by kernel_rfl) (hc3.out _ _ DA.out.db ((MS.write_ns _ _ _ _ _).trans (MS.write_ns _ _ _ _ _))) (fun hHeld => ?_)
    refine tk 0 ⟨some 47, .move (.tmp 0), 34, "take.go:21", #[], none⟩ (.pointer (some ⟨p.g, 0, none⟩)) ?_
    simp only [Act.put, List.setIfInBounds_toArray, List.set_cons_zero, List.set_cons_succ]
    refine tk 1 ⟨some 48, .nilCheck (.tmp 47), 0, "take.go:21", #[⟨0, .data⟩], none⟩ (.pointer (some ⟨p.g, 0, none⟩)) ?_
    simp only [Act.put, List.setIfInBounds_toArray, List.set_cons_zero, List.set_cons_succ]
    refine tk 2 ⟨some 49, .fieldAddr 115 (.tmp 48) 0, 0, "take.go:21", #[⟨1, .data⟩], none⟩ (.pointer (some ⟨p.g, 0, none⟩)) ?_
    simp only [Act.put, List.setIfInBounds_toArray, List.set_cons_zero, List.set_cons_succ]
    refine tk 3 ⟨some 50, .load 65 (.tmp 49), 65, "take.go:21", #[⟨2, .data⟩], none⟩ (.pointer (some ⟨p.f.gm, 0, none⟩)) ?_ (hy := Or.inl ⟨by rfl, by intro w hSw; have hc := hSw.1; go_simp⟩)
    simp only [Act.put, List.setIfInBounds_toArray, List.set_cons_zero, List.set_cons_succ]
    refine tk 4 ⟨some 51, .move (.tmp 1), 3, "take.go:21", #[], none⟩ (.int .i64 s) ?_
    simp only [Act.put, List.setIfInBounds_toArray, List.set_cons_zero, List.set_cons_succ]
    refine wpAnyH_ready (rs := [5]) (by kernel_rfl) (by simp) (AllReadyH.cons (o := ⟨some 52, .call { callee := .value (.func 68), args := #[.tmp 51], argTypes := #[3] }, 47, "take.go:21", #[⟨4, .data⟩], none⟩) rfl (fun KQ hK => ?_) AllReadyH.nil)
    go_simp
    refine (frame_any _ s).mono ?_
    rintro e w8 ⟨rfl, hb⟩
    have DB := hid (DA.out.on hb)
    clear hb
    go_wp2_with fail
    refine hK.out _ _ (hc3.out _ _ DB.out.db ((MS.write_ns _ _ _ _ _).trans (MS.write_ns _ _ _ _ _))) (fun hHeld => ?_)
    clear hK KQ
    try simp only [Act.put, List.setIfInBounds_toArray, List.set_cons_zero, List.set_cons_succ]
    refine wpAnyH_ready (rs := [6]) (by kernel_rfl) (by simp) (AllReadyH.cons (o := ⟨some 53, .call { callee := .value (.func 67), args := #[.tmp 50, .tmp 52, .const (.int .i64 2), .const (.int .u32 0)], argTypes := #[65, 47, 3, 22] }, 27, "take.go:21", #[⟨3, .data⟩, ⟨5, .data⟩, ⟨5, .chain⟩], none⟩) rfl (fun KQ hK => ?_) AllReadyH.nil)
    go_simp
    refine (write_any _ p.f _ DB.out.db.mem true s 2 0).mono ?_
    rintro e w9 ⟨rfl, hm, hb⟩
    have DC := hid (DB.out.step (DB.out.db.memory hm hb (MS.write_ns _ _ _ _ _)) hb (fun k hk => by simp only [Dp.w, List.mem_cons]; exact .inr hk))
    clear hb hm
    go_wp2_with fail
    refine hK.out _ _ (hc3.out _ _ DC.out.db ((MS.write_ns _ _ _ _ _).trans ((MS.write_ns _ _ _ _ _).trans (MS.write_ns _ _ _ _ _)))) (fun hHeld => ?_)
    clear hK KQ
    try simp only [Act.put, List.setIfInBounds_toArray, List.set_cons_zero, List.set_cons_succ]
    refine wpAnyH_done (by kernel_rfl) ?_ _
    obtain ⟨k0, k1, k2⟩ := hc3.out _ _ DC.out.db (MS.write_ns _ _ _ _ _ |>.trans ((MS.write_ns _ _ _ _ _).trans (MS.write_ns _ _ _ _ _)))
    have kf := DC.out.db.wds.free 0
    have HZ := hid (DC.out.step (DC.out.db.born (by show d2.b < 64; rw [HD2.out.2]; exact HBB.out)) (.setCell (G := [p.gw]) _ _ _ _ (by simp)) (by simp [Dp.w]))
    rw [← HD2.out.2] at wb
    go_wp2_with fail
    go_ret
    refine ⟨rfl, ?_, HZ.out.but⟩
    have hz := HZ.out.db
    rw [HSP.out]
    rw [MS.born, ← HD2.out.1, ← HD2.out.2]
    exact hz
  · rw [if_neg hz]
    have hz' : (d.bearE s f == 0) = false := by simpa using hz
    generalize d.bearE s f = R at *
    clear hz h
    simp only [ptr] at HM ⊢
    go_enter Try.func31, Try.ntmps31
    go_wp2_with (go_at_call 65; refine HM.out.mono ?_; rintro e w1 ⟨rfl, hb⟩; have D1 := hid (D0.out.on hb); clear hb D0)
    go_ret
    exact ⟨rfl, D1.out.db, D1.out.but⟩
end Go.Proofs.Ytgbpbfnpeeciaaa
