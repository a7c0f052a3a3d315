import Derived.Test.YtgbpbfnpeeciaaaGreatP17
import Derived.Test.YtgbpbfnpeeciaaaGreatP01
namespace Go.Proofs.YtgbpbfnpeeciaaaGreat
open Go.RowKit
set_option maxHeartbeats 8000000
set_option maxRecDepth 100000
theorem RG.s2 {W w : World} {pg pe pc : Nat} {pr r : Rf} {d : DS} {b : Int} (h : RG W w ⟨pg, pe, pc, pr⟩ ⟨pg, pe, pc, r⟩ d) (hr : r.g = pr.g) (hb : d.b = b) : w.cell? ⟨pg, 0, none⟩ = some (.pointer (some ⟨pr.g, 0, none⟩)) ∧ w.cell? ⟨pg, 2, none⟩ = some (.int .i64 b) := by
  refine ⟨h.s0 hr, ?_⟩
  rw [← hb]
  exact h.db.c2
theorem rwrite_g (w : World) (r : Rf) (m : MS) (h : RMem w r m) (g : Nat) (hg : r.g = g) (s : Bool) (p off v : Int) : Calls Tryz.prog 26 #[.pointer (some ⟨g, 0, none⟩), fr s p, .int .i64 off, .int .u32 v] w fun x w' => x = .returned (.int .i64 (m.err s p off)) ∧ ∃ r', RSt w w' r r' (m.write s p off v) := by
  subst hg
  exact rwrite_any w r m h s p off v
theorem bear_s {d : DS} {s f : Int} (h : d.there s = false) : d.bearE s f = 5 := by simp [DS.bearE, DS.entE, h]
theorem bear_f {d : DS} {s f : Int} (h : d.there s = true) (h1 : d.there f = false) : d.bearE s f = 5 := by simp [DS.bearE, DS.entE, h, h1]
theorem bear_e {d : DS} {s f : Int} (_h : d.there s = true) (h1 : d.there f = true) (h2 : s = f) : d.bearE s f = 1 := by simp [DS.bearE, DS.entE, h1, h2]
theorem bear_u {d : DS} {s f : Int} (h : d.there s = true) (h1 : d.there f = true) (h2 : s ≠ f) (h3 : (d.ent s).t ≠ 0) : d.bearE s f = 120 := by simp [DS.bearE, DS.entE, h, h1, h2, h3]
theorem bear_v {d : DS} {s f : Int} (h : d.there s = true) (h1 : d.there f = true) (h2 : s ≠ f) (h3 : (d.ent s).t = 0) (h4 : (d.ent f).t ≠ 0) : d.bearE s f = 120 := by simp [DS.bearE, DS.entE, h, h1, h2, h3, h4]
theorem bear_b {d : DS} {s f : Int} (h : d.there s = true) (h1 : d.there f = true) (h2 : s ≠ f) (h3 : (d.ent s).t = 0) (h4 : (d.ent f).t = 0) (h5 : 64 ≤ d.b) : d.bearE s f = 240 := by simp [DS.bearE, DS.entE, h, h1, h2, h3, h4, h5]
theorem bear_y {d : DS} {s f : Int} (h : d.there s = true) (h1 : d.there f = true) (h2 : s ≠ f) (h3 : (d.ent s).t = 0) (h4 : (d.ent f).t = 0) (h5 : d.b < 64) : d.bearE s f = 0 := by
  have : ¬ 64 ≤ d.b := by omega
  simp [DS.bearE, DS.entE, h, h1, h2, h3, h4, this]
theorem rtakeSpace_any (W : World) (p : Rp) (d : DS) (h : RDB W p d) (s f : Int) :
    Calls Tryz.prog 16 #[ptr p.g, .int .i64 s, .int .i64 f] W fun e W' => e = .returned (.int .i64 (d.bearE s f)) ∧ ∃ r', RG W W' p ⟨p.g, p.ge, p.cap, r'⟩ (d.takeSpace s f) := by
  unfold DS.takeSpace
  have c1 := h.c1
  have HG := hid (RG.start h)
  by_cases hs : d.there s = true
  · obtain ⟨s0, s1, es⟩ := there_lt hs
    have s2 : s < (d.m.ns : Int) := by omega
    by_cases hf : d.there f = true
    · obtain ⟨f0, f1, ef⟩ := there_lt hf
      have f2 : f < (d.m.ns : Int) := by omega
      obtain ⟨x0, x1, x2, x3, x4⟩ := h.row s.toNat s1
      obtain ⟨y0, y1, y2, y3, y4⟩ := h.row f.toNat f1
      rw [← ent_at hs] at x0 x1 x2 x3 x4
      rw [← ent_at hf] at y0 y1 y2 y3 y4
      have c2 := h.c2
      by_cases h3 : s = f
      · rw [if_neg (by rw [bear_e hs hf h3]; decide), bear_e hs hf h3]
        subst h3
        clear y0 y1 y2 y3 y4 x0 x1 x2 x3 x4 h hs hf ef
        generalize s.toNat = k at *
        subst es
        generalize d.m.ns = n at *
        simp only [ptr] at *
        go_enter Tryz.func16, Tryz.ntmps16
        go_wp2_with fail
        go_ret
        exact ⟨rfl, p.r, HG.out⟩
      · by_cases h4 : (d.ent s).t = 0
        · by_cases h5 : (d.ent f).t = 0
          · by_cases h6 : 64 ≤ d.b
            · rw [if_neg (by rw [bear_b hs hf h3 h4 h5 h6]; decide), bear_b hs hf h3 h4 h5 h6]
              have h3' : (s == f) = false := by simpa using h3
              rw [h4] at x0
              rw [h5] at y0
              generalize d.ent s = X at *
              generalize d.ent f = Y at *
              clear h hs hf h3 h4 h5
              generalize s.toNat = k at *
              generalize f.toNat = j at *
              subst es
              subst ef
              generalize d.m.ns = n at *
              simp only [ptr] at *
              go_enter Tryz.func16, Tryz.ntmps16
              go_wp2_with fail
              go_ret
              exact ⟨rfl, p.r, HG.out⟩
            · have h6' : d.b < 64 := by omega
              have hz := bear_y hs hf h3 h4 h5 h6'
              rw [if_pos hz, hz]
              have h3' : (s == f) = false := by simpa using h3
              have n64 := h.ok.n64
              have b0 := h.ok.b0
              have HFZ := hid (fun i => h.fz i)
              have HL1 := hid (fun w' e => HG.out.lay5 (w' := w') f.toNat f1 (enF s) (enF_ok s0 (by omega)) (by simpa [enF] using s2) e)
              have HL2 := hid (fun w (hw : RG W w p p (d.lay f.toNat (enF s))) w' e => hw.lay5 (w' := w') s.toNat s1 (enS s) (enS_ok s0 (by omega)) (by simpa [enS, DS.lay] using s2) e)
              have HR2 := hid (fun w (hw : RG W w p p (d.lay f.toNat (enF s))) => And.intro hw.db.c1 (And.intro (hw.db.row s.toNat s1) (fun i => hw.db.fz i)))
              have HSP : Hid (d.space s f = { (d.lay f.toNat (enF s)).lay s.toNat (enS s) with m := d.m.born s f d.b, b := d.b + 1 }) := hid rfl
              have HN : Hid ((d.lay f.toNat (enF s)).m.ns = d.m.ns) := hid rfl
              have HD2 : Hid (((d.lay f.toNat (enF s)).lay s.toNat (enS s)).m = d.m ∧ ((d.lay f.toNat (enF s)).lay s.toNat (enS s)).b = d.b) := hid ⟨rfl, rfl⟩
              have wf : f % 4294967296 = f := by omega
              have wf2 : IntKind.wrap .u32 f = f := wr32 f (by omega) (by omega)
              have wb2 : IntKind.wrap .u32 d.b = d.b := wr32 d.b b0 (by omega)
              have wb : d.b % 4294967296 = d.b := by omega
              have wb3 : wrap64 (d.b + 1) = d.b + 1 := by unfold wrap64; omega
              have HBB := hid h6'
              rw [h4] at x0
              rw [h5] at y0
              generalize d.lay f.toNat (enF s) = d1 at *
              generalize d1.lay s.toNat (enS s) = d2 at *
              generalize d1.at s.toNat = Z at *
              generalize d.ent s = X at *
              generalize d.ent f = Y at *
              clear h hs hf h3 h4 h5 h6 hz
              generalize s.toNat = k at *
              generalize f.toNat = j at *
              subst es
              subst ef
              generalize d.m.ns = n at *
              obtain ⟨pg, pe, pc, pr⟩ := p
              simp only [ptr, enF, enS] at *
              have g0 := HFZ.out (j * 5)
              have g1 := HFZ.out (j * 5 + 1)
              have g2 := HFZ.out (j * 5 + 2)
              have g3 := HFZ.out (j * 5 + 3)
              have g4 := HFZ.out (j * 5 + 4)
              go_enter Tryz.func16, Tryz.ntmps16
              go_upto_region 10 with fail
              generalize hX8 : World.setCell _ _ _ = x8
              have HG1 := hid (HL1.out _ hX8)
              clear hX8 x0 x1 x2 x3 x4 y0 y1 y2 y3 y4 c1 c2 g0 g1 g2 g3 g4 HL1
              obtain ⟨c1, ⟨x0, x1, x2, x3, x4⟩, hz⟩ := HR2.out _ HG1.out
              rw [HN.out] at c1
              have g0 := hz (k * 5)
              have g1 := hz (k * 5 + 1)
              have g2 := hz (k * 5 + 2)
              have g3 := hz (k * 5 + 3)
              have g4 := hz (k * 5 + 4)
              have HL3 := hid (HL2.out _ HG1.out)
              clear hz HR2 HL2
              go_upto_region 11 with fail
              generalize hX9 : World.setCell _ _ _ = x9
              have HG2 := hid (HL3.out _ hX9)
              clear hX9 x0 x1 x2 x3 x4 c1 g0 g1 g2 g3 g4 HL3 HG1
              have HA0 := hid (HG2.out.on (Below.refl _ _).drew)
              have HB0 : Hid (d2.b = d.b) := hid HD2.out.2
              refine wp_region_held_drew (S := fun w => w.cell? ⟨pg, 0, none⟩ = some (.pointer (some ⟨pr.g, 0, none⟩)) ∧ w.cell? ⟨pg, 2, none⟩ = some (.int .i64 d.b)) (by kernel_rfl) (HA0.out.s2 rfl HB0.out) (fun hHeld => ?_)
              refine tk 0 ⟨some 75, .move (.tmp 0), 45, "ref.go:105", #[], none⟩ (.pointer (some ⟨pg, 0, none⟩)) ?_
              simp only [Act.put, List.setIfInBounds_toArray, List.set_cons_zero, List.set_cons_succ]
              refine tk 1 ⟨some 76, .nilCheck (.tmp 75), 0, "ref.go:105", #[⟨0, .data⟩], none⟩ (.pointer (some ⟨pg, 0, none⟩)) ?_
              simp only [Act.put, List.setIfInBounds_toArray, List.set_cons_zero, List.set_cons_succ]
              refine tk 2 ⟨some 77, .fieldAddr 70 (.tmp 76) 0, 0, "ref.go:105", #[⟨1, .data⟩], none⟩ (.pointer (some ⟨pg, 0, none⟩)) ?_
              simp only [Act.put, List.setIfInBounds_toArray, List.set_cons_zero, List.set_cons_succ]
              refine tk 3 ⟨some 78, .load 40 (.tmp 77), 40, "ref.go:105", #[⟨2, .data⟩], none⟩ (.pointer (some ⟨pr.g, 0, none⟩)) ?_ (hy := Or.inl ⟨by rfl, by intro w hSw; have hc := hSw.1; go_simp⟩)
              simp only [Act.put, List.setIfInBounds_toArray, List.set_cons_zero, List.set_cons_succ]
              refine tk 4 ⟨some 79, .move (.tmp 1), 3, "ref.go:105", #[], none⟩ (.int .i64 (k : Int)) ?_
              simp only [Act.put, List.setIfInBounds_toArray, List.set_cons_zero, List.set_cons_succ]
              refine tk 6 ⟨some 81, .move (.tmp 2), 3, "ref.go:105", #[], none⟩ (.int .i64 (j : Int)) ?_
              simp only [Act.put, List.setIfInBounds_toArray, List.set_cons_zero, List.set_cons_succ]
              refine tk 7 ⟨some 82, .convert 3 29 (.tmp 81), 29, "ref.go:105", #[⟨6, .data⟩], none⟩ (.int .u32 (j : Int)) ?_
              simp only [Act.put, List.setIfInBounds_toArray, List.set_cons_zero, List.set_cons_succ]
              refine wpAnyH_ready (rs := [5]) (by kernel_rfl) (by simp) (AllReadyH.cons (o := ⟨some 80, .call { callee := .value (.func 58), args := #[.tmp 79], argTypes := #[3] }, 72, "ref.go:105", #[⟨4, .data⟩], none⟩) rfl (fun KQ hK => ?_) AllReadyH.nil)
              go_simp
              refine (rframe_any _ (k : Int)).mono ?_
              rintro e w3 ⟨rfl, hb⟩
              have HA1 := hid (HA0.out.on hb)
              clear hb
              go_wp2_with fail
              refine hK.out _ _ (HA1.out.s2 rfl HB0.out) (fun hHeld => ?_)
              clear hK KQ
              try simp only [Act.put, List.setIfInBounds_toArray, List.set_cons_zero, List.set_cons_succ]
              refine wpAnyH_ready (rs := [8]) (by kernel_rfl) (by simp) (AllReadyH.cons (o := ⟨some 83, .call { callee := .value (.func 26), args := #[.tmp 78, .tmp 80, .const (.int .i64 0), .tmp 82], argTypes := #[40, 72, 3, 29] }, 3, "ref.go:105", #[⟨3, .data⟩, ⟨5, .data⟩, ⟨7, .data⟩, ⟨5, .chain⟩], none⟩) rfl (fun KQ hK => ?_) AllReadyH.nil)
              go_simp
              refine (rwrite_g _ _ _ HA1.out.db.mem pr.g rfl true (k : Int) 0 (j : Int)).mono ?_
              rintro e w4 ⟨rfl, r1, hs⟩
              have HR1 := hid (hs.g.trans rfl)
              have HA2 := hid (HA1.out.mem hs (MS.write_ns _ _ _ _ _))
              clear hs
              go_wp2_with fail
              refine hK.out _ _ (HA2.out.s2 HR1.out HB0.out) (fun hHeld => ?_)
              clear hK KQ
              try simp only [Act.put, List.setIfInBounds_toArray, List.set_cons_zero, List.set_cons_succ]
              refine wpAnyH_done (by kernel_rfl) ?_ _
              go_upto_region 12 with fail
              have HA3 := hid (HA2.out.on (Below.refl _ _).drew)
              clear HA0 HA1 HA2
              refine wp_region_held_drew (S := fun w => w.cell? ⟨pg, 0, none⟩ = some (.pointer (some ⟨pr.g, 0, none⟩)) ∧ w.cell? ⟨pg, 2, none⟩ = some (.int .i64 d.b)) (by kernel_rfl) (HA3.out.s2 HR1.out HB0.out) (fun hHeld => ?_)
              refine tk 0 ⟨some 84, .move (.tmp 0), 45, "ref.go:106", #[], none⟩ (.pointer (some ⟨pg, 0, none⟩)) ?_
              simp only [Act.put, List.setIfInBounds_toArray, List.set_cons_zero, List.set_cons_succ]
              refine tk 1 ⟨some 85, .nilCheck (.tmp 84), 0, "ref.go:106", #[⟨0, .data⟩], none⟩ (.pointer (some ⟨pg, 0, none⟩)) ?_
              simp only [Act.put, List.setIfInBounds_toArray, List.set_cons_zero, List.set_cons_succ]
              refine tk 2 ⟨some 86, .fieldAddr 70 (.tmp 85) 0, 0, "ref.go:106", #[⟨1, .data⟩], none⟩ (.pointer (some ⟨pg, 0, none⟩)) ?_
              simp only [Act.put, List.setIfInBounds_toArray, List.set_cons_zero, List.set_cons_succ]
              refine tk 3 ⟨some 87, .load 40 (.tmp 86), 40, "ref.go:106", #[⟨2, .data⟩], none⟩ (.pointer (some ⟨pr.g, 0, none⟩)) ?_ (hy := Or.inl ⟨by rfl, by intro w hSw; have hc := hSw.1; go_simp⟩)
              simp only [Act.put, List.setIfInBounds_toArray, List.set_cons_zero, List.set_cons_succ]
              refine tk 4 ⟨some 88, .move (.tmp 1), 3, "ref.go:106", #[], none⟩ (.int .i64 (k : Int)) ?_
              simp only [Act.put, List.setIfInBounds_toArray, List.set_cons_zero, List.set_cons_succ]
              refine tk 6 ⟨some 90, .move (.tmp 0), 45, "ref.go:106", #[], none⟩ (.pointer (some ⟨pg, 0, none⟩)) ?_
              simp only [Act.put, List.setIfInBounds_toArray, List.set_cons_zero, List.set_cons_succ]
              refine tk 7 ⟨some 91, .nilCheck (.tmp 90), 0, "ref.go:106", #[⟨6, .data⟩], none⟩ (.pointer (some ⟨pg, 0, none⟩)) ?_
              simp only [Act.put, List.setIfInBounds_toArray, List.set_cons_zero, List.set_cons_succ]
              refine tk 8 ⟨some 92, .fieldAddr 70 (.tmp 91) 2, 0, "ref.go:106", #[⟨7, .data⟩], none⟩ (.pointer (some ⟨pg, 2, none⟩)) ?_
              simp only [Act.put, List.setIfInBounds_toArray, List.set_cons_zero, List.set_cons_succ]
              refine tk 9 ⟨some 93, .load 3 (.tmp 92), 3, "ref.go:106", #[⟨8, .data⟩], none⟩ (.int .i64 d.b) ?_ (hy := Or.inl ⟨by rfl, by intro w hSw; have hc := hSw.2; go_simp⟩)
              simp only [Act.put, List.setIfInBounds_toArray, List.set_cons_zero, List.set_cons_succ]
              refine tk 10 ⟨some 94, .convert 3 29 (.tmp 93), 29, "ref.go:106", #[⟨9, .data⟩], none⟩ (.int .u32 d.b) ?_
              simp only [Act.put, List.setIfInBounds_toArray, List.set_cons_zero, List.set_cons_succ]
              refine wpAnyH_ready (rs := [5]) (by kernel_rfl) (by simp) (AllReadyH.cons (o := ⟨some 89, .call { callee := .value (.func 58), args := #[.tmp 88], argTypes := #[3] }, 72, "ref.go:106", #[⟨4, .data⟩], none⟩) rfl (fun KQ hK => ?_) AllReadyH.nil)
              go_simp
              refine (rframe_any _ (k : Int)).mono ?_
              rintro e w5 ⟨rfl, hb⟩
              have HA4 := hid (HA3.out.on hb)
              clear hb
              go_wp2_with fail
              refine hK.out _ _ (HA4.out.s2 HR1.out HB0.out) (fun hHeld => ?_)
              clear hK KQ
              try simp only [Act.put, List.setIfInBounds_toArray, List.set_cons_zero, List.set_cons_succ]
              refine wpAnyH_ready (rs := [11]) (by kernel_rfl) (by simp) (AllReadyH.cons (o := ⟨some 95, .call { callee := .value (.func 26), args := #[.tmp 87, .tmp 89, .const (.int .i64 1), .tmp 94], argTypes := #[40, 72, 3, 29] }, 3, "ref.go:106", #[⟨3, .data⟩, ⟨5, .data⟩, ⟨10, .data⟩, ⟨5, .chain⟩], none⟩) rfl (fun KQ hK => ?_) AllReadyH.nil)
              go_simp
              refine (rwrite_g _ _ _ HA4.out.db.mem pr.g HR1.out true (k : Int) 1 d.b).mono ?_
              rintro e w6 ⟨rfl, r2, hs⟩
              have HR2 := hid (hs.g.trans HR1.out)
              have HA5 := hid (HA4.out.mem hs (MS.write_ns _ _ _ _ _))
              clear hs
              go_wp2_with fail
              refine hK.out _ _ (HA5.out.s2 HR2.out HB0.out) (fun hHeld => ?_)
              clear hK KQ
              try simp only [Act.put, List.setIfInBounds_toArray, List.set_cons_zero, List.set_cons_succ]
              refine wpAnyH_done (by kernel_rfl) ?_ _
              go_upto_region 13 with fail
              have HA6 := hid (HA5.out.on (Below.refl _ _).drew)
              clear HA3 HA4 HA5
              refine wp_region_held_drew (S := fun w => w.cell? ⟨pg, 0, none⟩ = some (.pointer (some ⟨pr.g, 0, none⟩)) ∧ w.cell? ⟨pg, 2, none⟩ = some (.int .i64 d.b)) (by kernel_rfl) (HA6.out.s2 HR2.out HB0.out) (fun hHeld => ?_)
              refine tk 0 ⟨some 96, .move (.tmp 0), 45, "ref.go:107", #[], none⟩ (.pointer (some ⟨pg, 0, none⟩)) ?_
              simp only [Act.put, List.setIfInBounds_toArray, List.set_cons_zero, List.set_cons_succ]
              refine tk 1 ⟨some 97, .nilCheck (.tmp 96), 0, "ref.go:107", #[⟨0, .data⟩], none⟩ (.pointer (some ⟨pg, 0, none⟩)) ?_
              simp only [Act.put, List.setIfInBounds_toArray, List.set_cons_zero, List.set_cons_succ]
              refine tk 2 ⟨some 98, .fieldAddr 70 (.tmp 97) 0, 0, "ref.go:107", #[⟨1, .data⟩], none⟩ (.pointer (some ⟨pg, 0, none⟩)) ?_
              simp only [Act.put, List.setIfInBounds_toArray, List.set_cons_zero, List.set_cons_succ]
              refine tk 3 ⟨some 99, .load 40 (.tmp 98), 40, "ref.go:107", #[⟨2, .data⟩], none⟩ (.pointer (some ⟨pr.g, 0, none⟩)) ?_ (hy := Or.inl ⟨by rfl, by intro w hSw; have hc := hSw.1; go_simp⟩)
              simp only [Act.put, List.setIfInBounds_toArray, List.set_cons_zero, List.set_cons_succ]
              refine tk 4 ⟨some 100, .move (.tmp 1), 3, "ref.go:107", #[], none⟩ (.int .i64 (k : Int)) ?_
              simp only [Act.put, List.setIfInBounds_toArray, List.set_cons_zero, List.set_cons_succ]
              refine wpAnyH_ready (rs := [5]) (by kernel_rfl) (by simp) (AllReadyH.cons (o := ⟨some 101, .call { callee := .value (.func 58), args := #[.tmp 100], argTypes := #[3] }, 72, "ref.go:107", #[⟨4, .data⟩], none⟩) rfl (fun KQ hK => ?_) AllReadyH.nil)
              go_simp
              refine (rframe_any _ (k : Int)).mono ?_
              rintro e w7 ⟨rfl, hb⟩
              have HA7 := hid (HA6.out.on hb)
              clear hb
              go_wp2_with fail
              refine hK.out _ _ (HA7.out.s2 HR2.out HB0.out) (fun hHeld => ?_)
              clear hK KQ
              try simp only [Act.put, List.setIfInBounds_toArray, List.set_cons_zero, List.set_cons_succ]
              refine wpAnyH_ready (rs := [6]) (by kernel_rfl) (by simp) (AllReadyH.cons (o := ⟨some 102, .call { callee := .value (.func 26), args := #[.tmp 99, .tmp 101, .const (.int .i64 2), .const (.int .u32 0)], argTypes := #[40, 72, 3, 29] }, 3, "ref.go:107", #[⟨3, .data⟩, ⟨5, .data⟩, ⟨5, .chain⟩], none⟩) rfl (fun KQ hK => ?_) AllReadyH.nil)
              go_simp
              refine (rwrite_g _ _ _ HA7.out.db.mem pr.g HR2.out true (k : Int) 2 0).mono ?_
              rintro e w8 ⟨rfl, r3, hs⟩
              have HR3 := hid (hs.g.trans HR2.out)
              have HA8 := hid (HA7.out.mem hs (MS.write_ns _ _ _ _ _))
              clear hs
              go_wp2_with fail
              refine hK.out _ _ (HA8.out.s2 HR3.out HB0.out) (fun hHeld => ?_)
              clear hK KQ
              try simp only [Act.put, List.setIfInBounds_toArray, List.set_cons_zero, List.set_cons_succ]
              refine wpAnyH_done (by kernel_rfl) ?_ _
              obtain ⟨k0, k2⟩ := HA8.out.s2 HR3.out HB0.out
              have kf := HA8.out.db.cel.free 2
              have HZ := hid (HA8.out.born (by show d2.b < 64; rw [HB0.out]; exact HBB.out))
              go_wp2_with fail
              go_ret
              refine ⟨rfl, r3, ?_⟩
              have hz := HZ.out
              rw [HSP.out]
              rw [MS.born, ← HD2.out.1, ← HD2.out.2]
              simp only [HB0.out] at hz ⊢
              exact hz
          · rw [if_neg (by rw [bear_v hs hf h3 h4 h5]; decide), bear_v hs hf h3 h4 h5]
            have h3' : (s == f) = false := by simpa using h3
            have h5' : ((d.ent f).t != 0) = true := by simpa using h5
            have h5'' : ((d.ent f).t == 0) = false := by simpa using h5
            rw [h4] at x0
            generalize d.ent s = X at *
            generalize d.ent f = Y at *
            clear h hs hf h3 h4 h5
            generalize s.toNat = k at *
            generalize f.toNat = j at *
            subst es
            subst ef
            generalize d.m.ns = n at *
            simp only [ptr] at *
            go_enter Tryz.func16, Tryz.ntmps16
            go_wp2_with fail
            go_ret
            exact ⟨rfl, p.r, HG.out⟩
        · rw [if_neg (by rw [bear_u hs hf h3 h4]; decide), bear_u hs hf h3 h4]
          have h3' : (s == f) = false := by simpa using h3
          have h4' : ((d.ent s).t != 0) = true := by simpa using h4
          have h4'' : ((d.ent s).t == 0) = false := by simpa using h4
          generalize d.ent s = X at *
          generalize d.ent f = Y at *
          clear h hs hf h3 h4
          generalize s.toNat = k at *
          generalize f.toNat = j at *
          subst es
          subst ef
          generalize d.m.ns = n at *
          simp only [ptr] at *
          go_enter Tryz.func16, Tryz.ntmps16
          go_wp2_with fail
          go_ret
          exact ⟨rfl, p.r, HG.out⟩
    · have hf' : d.there f = false := by simpa using hf
      rw [if_neg (by rw [bear_f hs hf']; decide), bear_f hs hf']
      rcases there_cases hf' with hc | ⟨h0, hc⟩
      · clear h hs hf hf'
        generalize s.toNat = k at *
        subst es
        generalize d.m.ns = n at *
        simp only [ptr] at *
        go_enter Tryz.func16, Tryz.ntmps16
        go_wp2_with fail
        go_ret
        exact ⟨rfl, p.r, HG.out⟩
      · clear h hs hf hf'
        generalize s.toNat = k at *
        subst es
        generalize d.m.ns = n at *
        simp only [ptr] at *
        go_enter Tryz.func16, Tryz.ntmps16
        go_wp2_with fail
        go_ret
        exact ⟨rfl, p.r, HG.out⟩
  · have hs' : d.there s = false := by simpa using hs
    rw [if_neg (by rw [bear_s hs']; decide), bear_s hs']
    rcases there_cases hs' with hc | ⟨h0, hc⟩
    · clear h hs hs'
      generalize d.m.ns = n at *
      simp only [ptr] at *
      go_enter Tryz.func16, Tryz.ntmps16
      go_wp2_with fail
      go_ret
      exact ⟨rfl, p.r, HG.out⟩
    · clear h hs hs'
      generalize d.m.ns = n at *
      simp only [ptr] at *
      go_enter Tryz.func16, Tryz.ntmps16
      go_wp2_with fail
      go_ret
      exact ⟨rfl, p.r, HG.out⟩
end Go.Proofs.YtgbpbfnpeeciaaaGreat
