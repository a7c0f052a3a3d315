import Derived.Test.YtdfnbcbnmiohnaaGreatDoorP33
import Derived.Test.YtdfnbcbnmiohnaaGreatDoorP01
import Derived.Test.YtdfnbcbnmiohnaaGreatDoorP31
import Derived.Test.YtdfnbcbnmiohnaaGreatDoorP44
namespace Go.Proofs.YtdfnbcbnmiohnaaGreatDoor
open Go.RowKit
set_option maxHeartbeats 8000000
set_option maxRecDepth 100000
theorem RG.s2 {W w : World} {pg pe pc : Nat} {pr r : Rf} {d : DS} {b : Int} (h : RG W w ⟨pg, pe, pc, pr⟩ ⟨pg, pe, pc, r⟩ d) (hr : r.g = pr.g) (hb : d.b = b) : w.cell? ⟨pg, 0, none⟩ = some (.pointer (some ⟨pr.g, 0, none⟩)) ∧ w.cell? ⟨pg, 2, none⟩ = some (.int .i64 b) := by
  refine ⟨h.s0 hr, ?_⟩
  rw [← hb]
  exact h.db.c2
theorem rwrite_g (w : World) (r : Rf) (m : MS) (h : RMem w r m) (g : Nat) (hg : r.g = g) (s : Bool) (p off v : Int) : Calls Tryz.prog 84 #[.pointer (some ⟨g, 0, none⟩), fr s p, .int .i64 off, .int .u32 v] w fun x w' => x = .returned (.int .i64 (m.err s p off)) ∧ ∃ r', RSt w w' r r' (m.write s p off v) := by
  subst hg
  exact rwrite_any w r m h s p off v
theorem bear_s {d : DS} {s f : Int} (h : d.there s = false) : d.bearE s f = 5 := by simp [DS.bearE, DS.entE, h]
theorem bear_f {d : DS} {s f : Int} (h : d.there s = true) (h1 : d.there f = false) : d.bearE s f = 5 := by simp [DS.bearE, DS.entE, h, h1]
theorem bear_e {d : DS} {s f : Int} (_h : d.there s = true) (h1 : d.there f = true) (h2 : s = f) : d.bearE s f = 1 := by simp [DS.bearE, DS.entE, h1, h2]
theorem bear_u {d : DS} {s f : Int} (h : d.there s = true) (h1 : d.there f = true) (h2 : s ≠ f) (h3 : (d.ent s).t ≠ 0) : d.bearE s f = 120 := by simp [DS.bearE, DS.entE, h, h1, h2, h3]
theorem bear_v {d : DS} {s f : Int} (h : d.there s = true) (h1 : d.there f = true) (h2 : s ≠ f) (h3 : (d.ent s).t = 0) (h4 : (d.ent f).t ≠ 0) : d.bearE s f = 120 := by simp [DS.bearE, DS.entE, h, h1, h2, h3, h4]
theorem bear_b {d : DS} {s f : Int} (h : d.there s = true) (h1 : d.there f = true) (h2 : s ≠ f) (h3 : (d.ent s).t = 0) (h4 : (d.ent f).t = 0) (h5 : 64 ≤ d.b) : d.bearE s f = 240 := by simp [DS.bearE, DS.entE, h, h1, h2, h3, h4, h5]
theorem bear_y {d : DS} {s f : Int} (h : d.there s = true) (h1 : d.there f = true) (h2 : s ≠ f) (h3 : (d.ent s).t = 0) (h4 : (d.ent f).t = 0) (h5 : d.b < 64) : d.bearE s f = 0 := by
  have : ¬ 64 ≤ d.b := by omega
  simp [DS.bearE, DS.entE, h, h1, h2, h3, h4, this]
theorem rtakeSpace_any (W : World) (p : Rp) (d : DS) (h : RDB W p d) (s f : Int) :
    Calls Tryz.prog 82 #[ptr p.g, .int .i64 s, .int .i64 f] W fun e W' => e = .returned (.int .i64 (d.bearE s f)) ∧ ∃ r', RG W W' p ⟨p.g, p.ge, p.cap, r'⟩ (d.takeSpace s f) := by
  unfold DS.takeSpace
  have c1 := h.c1
  have HG := hid (RG.start h)
  by_cases hs : d.there s = true
  · obtain ⟨s0, s1, es⟩ := there_lt hs
    have s2 : s < (d.m.ns : Int) := by omega
    by_cases hf : d.there f = true
    · obtain ⟨f0, f1, ef⟩ := there_lt hf
      have f2 : f < (d.m.ns : Int) := by omega
      obtain ⟨x0, x1, x2, x3, x4⟩ := h.row s.toNat s1
      obtain ⟨y0, y1, y2, y3, y4⟩ := h.row f.toNat f1
      rw [← ent_at hs] at x0 x1 x2 x3 x4
      rw [← ent_at hf] at y0 y1 y2 y3 y4
      have c2 := h.c2
      by_cases h3 : s = f
      · rw [if_neg (by rw [bear_e hs hf h3]; decide), bear_e hs hf h3]
        subst h3
        clear y0 y1 y2 y3 y4 x0 x1 x2 x3 x4 h hs hf ef
        generalize s.toNat = k at *
        subst es
        generalize d.m.ns = n at *
        simp only [ptr] at *
        go_enter Tryz.func82, Tryz.ntmps82
        go_wp2_with fail
        go_ret
        exact ⟨rfl, p.r, HG.out⟩
      · by_cases h4 : (d.ent s).t = 0
        · by_cases h5 : (d.ent f).t = 0
          · by_cases h6 : 64 ≤ d.b
            · rw [if_neg (by rw [bear_b hs hf h3 h4 h5 h6]; decide), bear_b hs hf h3 h4 h5 h6]
              have h3' : (s == f) = false := by simpa using h3
              rw [h4] at x0
              rw [h5] at y0
              generalize d.ent s = X at *
              generalize d.ent f = Y at *
              clear h hs hf h3 h4 h5
              generalize s.toNat = k at *
              generalize f.toNat = j at *
              subst es
              subst ef
              generalize d.m.ns = n at *
              simp only [ptr] at *
              go_enter Tryz.func82, Tryz.ntmps82
              go_wp2_with fail
              go_ret
              exact ⟨rfl, p.r, HG.out⟩
            · have h6' : d.b < 64 := by omega
              have hz := bear_y hs hf h3 h4 h5 h6'
              rw [if_pos hz, hz]
              have h3' : (s == f) = false := by simpa using h3
              have n64 := h.ok.n64
              have b0 := h.ok.b0
              have HFZ := hid (fun i => h.fz i)
              have HL1 := hid (fun w' e => HG.out.lay5 (w' := w') f.toNat f1 (enF s) (enF_ok s0 (by omega)) (by simpa [enF] using s2) e)
              have HL2 := hid (fun w (hw : RG W w p p (d.lay f.toNat (enF s))) w' e => hw.lay5 (w' := w') s.toNat s1 (enS s) (enS_ok s0 (by omega)) (by simpa [enS, DS.lay] using s2) e)
              have HR2 := hid (fun w (hw : RG W w p p (d.lay f.toNat (enF s))) => And.intro hw.db.c1 (And.intro (hw.db.row s.toNat s1) (fun i => hw.db.fz i)))
              have HSP : Hid (d.space s f = { (d.lay f.toNat (enF s)).lay s.toNat (enS s) with m := d.m.born s f d.b, b := d.b + 1 }) := hid rfl
              have HN : Hid ((d.lay f.toNat (enF s)).m.ns = d.m.ns) := hid rfl
              have HD2 : Hid (((d.lay f.toNat (enF s)).lay s.toNat (enS s)).m = d.m ∧ ((d.lay f.toNat (enF s)).lay s.toNat (enS s)).b = d.b) := hid ⟨rfl, rfl⟩
              have wf : f % 4294967296 = f := by omega
              have wf2 : IntKind.wrap .u32 f = f := wr32 f (by omega) (by omega)
              have wb2 : IntKind.wrap .u32 d.b = d.b := wr32 d.b b0 (by omega)
              have wb : d.b % 4294967296 = d.b := by omega
              have wb3 : wrap64 (d.b + 1) = d.b + 1 := by unfold wrap64; omega
              have HBB := hid h6'
              rw [h4] at x0
              rw [h5] at y0
              generalize d.lay f.toNat (enF s) = d1 at *
              generalize d1.lay s.toNat (enS s) = d2 at *
              generalize d1.at s.toNat = Z at *
              generalize d.ent s = X at *
              generalize d.ent f = Y at *
              clear h hs hf h3 h4 h5 h6 hz
              generalize s.toNat = k at *
              generalize f.toNat = j at *
              subst es
              subst ef
              generalize d.m.ns = n at *
              obtain ⟨pg, pe, pc, pr⟩ := p
              simp only [ptr, enF, enS] at *
              have g0 := HFZ.out (j * 5)
              have g1 := HFZ.out (j * 5 + 1)
              have g2 := HFZ.out (j * 5 + 2)
              have g3 := HFZ.out (j * 5 + 3)
              have g4 := HFZ.out (j * 5 + 4)
              go_enter Tryz.func82, Tryz.ntmps82
              go_upto_region 10 with fail
              generalize hX8 : World.setCell _ _ _ = x8
              have HG1 := hid (HL1.out _ hX8)
              clear hX8 x0 x1 x2 x3 x4 y0 y1 y2 y3 y4 c1 c2 g0 g1 g2 g3 g4 HL1
              obtain ⟨c1, ⟨x0, x1, x2, x3, x4⟩, hz⟩ := HR2.out _ HG1.out
              rw [HN.out] at c1
              have g0 := hz (k * 5)
              have g1 := hz (k * 5 + 1)
              have g2 := hz (k * 5 + 2)
              have g3 := hz (k * 5 + 3)
              have g4 := hz (k * 5 + 4)
              have HL3 := hid (HL2.out _ HG1.out)
              clear hz HR2 HL2
              go_upto_region 11 with fail
              generalize hX9 : World.setCell _ _ _ = x9
              have HG2 := hid (HL3.out _ hX9)
              clear hX9 x0 x1 x2 x3 x4 c1 g0 g1 g2 g3 g4 HL3 HG1
              have HA0 := hid (HG2.out.on (Below.refl _ _).drew)
              have HB0 : Hid (d2.b = d.b) := hid HD2.out.2
              refine wp_region_held_drew (S := fun w => w.cell? ⟨pg, 0, none⟩ = some (.pointer (some ⟨pr.g, 0, none⟩)) ∧ w.cell? ⟨pg, 2, none⟩ = some (.int .i64 d.b)) (by kernel_rfl) (HA0.out.s2 rfl HB0.out) (fun hHeld => ?_)
              refine tk 0 _ (.pointer (some ⟨pg, 0, none⟩)) ?_
              simp only [Act.put, xzA]
              refine tk 1 _ (.pointer (some ⟨pg, 0, none⟩)) ?_
              simp only [Act.put, xzA]
              refine tk 2 _ (.pointer (some ⟨pg, 0, none⟩)) ?_
              simp only [Act.put, xzA]
              refine tk 3 _ (.pointer (some ⟨pr.g, 0, none⟩)) ?_ (hy := Or.inl ⟨by rfl, by intro w hSw; have hc := hSw.1; go_simp⟩)
              simp only [Act.put, xzA]
              refine tk 4 _ (.int .i64 (k : Int)) ?_
              simp only [Act.put, xzA]
              refine tk 6 _ (.int .i64 (j : Int)) ?_
              simp only [Act.put, xzA]
              refine tk 7 _ (.int .u32 (j : Int)) ?_
              simp only [Act.put, xzA]
              refine wpAnyH_ready (rs := [5]) (by kernel_rfl) (by simp) (AllReadyH.cons rfl (fun KQ hK => ?_) AllReadyH.nil)
              go_simp
              refine (rframe_any _ (k : Int)).mono ?_
              rintro e w3 ⟨rfl, hb⟩
              have HA1 := hid (HA0.out.on hb)
              clear hb
              go_wp2_with fail
              refine hK.out _ _ (HA1.out.s2 rfl HB0.out) (fun hHeld => ?_)
              clear hK KQ
              try simp only [Act.put, xzA]
              refine wpAnyH_ready (rs := [8]) (by kernel_rfl) (by simp) (AllReadyH.cons rfl (fun KQ hK => ?_) AllReadyH.nil)
              go_simp
              refine (rwrite_g _ _ _ HA1.out.db.mem pr.g rfl true (k : Int) 0 (j : Int)).mono ?_
              rintro e w4 ⟨rfl, r1, hs⟩
              have HR1 := hid (hs.g.trans rfl)
              have HA2 := hid (HA1.out.mem hs (MS.write_ns _ _ _ _ _))
              clear hs
              go_wp2_with fail
              refine hK.out _ _ (HA2.out.s2 HR1.out HB0.out) (fun hHeld => ?_)
              clear hK KQ
              try simp only [Act.put, xzA]
              refine wpAnyH_done (by kernel_rfl) ?_ _
              go_upto_region 12 with fail
              have HA3 := hid (HA2.out.on (Below.refl _ _).drew)
              clear HA0 HA1 HA2
              refine wp_region_held_drew (S := fun w => w.cell? ⟨pg, 0, none⟩ = some (.pointer (some ⟨pr.g, 0, none⟩)) ∧ w.cell? ⟨pg, 2, none⟩ = some (.int .i64 d.b)) (by kernel_rfl) (HA3.out.s2 HR1.out HB0.out) (fun hHeld => ?_)
              refine tk 0 _ (.pointer (some ⟨pg, 0, none⟩)) ?_
              simp only [Act.put, xzA]
              refine tk 1 _ (.pointer (some ⟨pg, 0, none⟩)) ?_
              simp only [Act.put, xzA]
              refine tk 2 _ (.pointer (some ⟨pg, 0, none⟩)) ?_
              simp only [Act.put, xzA]
              refine tk 3 _ (.pointer (some ⟨pr.g, 0, none⟩)) ?_ (hy := Or.inl ⟨by rfl, by intro w hSw; have hc := hSw.1; go_simp⟩)
              simp only [Act.put, xzA]
              refine tk 4 _ (.int .i64 (k : Int)) ?_
              simp only [Act.put, xzA]
              refine tk 6 _ (.pointer (some ⟨pg, 0, none⟩)) ?_
              simp only [Act.put, xzA]
              refine tk 7 _ (.pointer (some ⟨pg, 0, none⟩)) ?_
              simp only [Act.put, xzA]
              refine tk 8 _ (.pointer (some ⟨pg, 2, none⟩)) ?_
              simp only [Act.put, xzA]
              refine tk 9 _ (.int .i64 d.b) ?_ (hy := Or.inl ⟨by rfl, by intro w hSw; have hc := hSw.2; go_simp⟩)
              simp only [Act.put, xzA]
              refine tk 10 _ (.int .u32 d.b) ?_
              simp only [Act.put, xzA]
              refine wpAnyH_ready (rs := [5]) (by kernel_rfl) (by simp) (AllReadyH.cons rfl (fun KQ hK => ?_) AllReadyH.nil)
              go_simp
              refine (rframe_any _ (k : Int)).mono ?_
              rintro e w5 ⟨rfl, hb⟩
              have HA4 := hid (HA3.out.on hb)
              clear hb
              go_wp2_with fail
              refine hK.out _ _ (HA4.out.s2 HR1.out HB0.out) (fun hHeld => ?_)
              clear hK KQ
              try simp only [Act.put, xzA]
              refine wpAnyH_ready (rs := [11]) (by kernel_rfl) (by simp) (AllReadyH.cons rfl (fun KQ hK => ?_) AllReadyH.nil)
              go_simp
              refine (rwrite_g _ _ _ HA4.out.db.mem pr.g HR1.out true (k : Int) 1 d.b).mono ?_
              rintro e w6 ⟨rfl, r2, hs⟩
              have HR2 := hid (hs.g.trans HR1.out)
              have HA5 := hid (HA4.out.mem hs (MS.write_ns _ _ _ _ _))
              clear hs
              go_wp2_with fail
              refine hK.out _ _ (HA5.out.s2 HR2.out HB0.out) (fun hHeld => ?_)
              clear hK KQ
              try simp only [Act.put, xzA]
              refine wpAnyH_done (by kernel_rfl) ?_ _
              go_upto_region 13 with fail
              have HA6 := hid (HA5.out.on (Below.refl _ _).drew)
              clear HA3 HA4 HA5
              refine wp_region_held_drew (S := fun w => w.cell? ⟨pg, 0, none⟩ = some (.pointer (some ⟨pr.g, 0, none⟩)) ∧ w.cell? ⟨pg, 2, none⟩ = some (.int .i64 d.b)) (by kernel_rfl) (HA6.out.s2 HR2.out HB0.out) (fun hHeld => ?_)
              refine tk 0 _ (.pointer (some ⟨pg, 0, none⟩)) ?_
              simp only [Act.put, xzA]
              refine tk 1 _ (.pointer (some ⟨pg, 0, none⟩)) ?_
              simp only [Act.put, xzA]
              refine tk 2 _ (.pointer (some ⟨pg, 0, none⟩)) ?_
              simp only [Act.put, xzA]
              refine tk 3 _ (.pointer (some ⟨pr.g, 0, none⟩)) ?_ (hy := Or.inl ⟨by rfl, by intro w hSw; have hc := hSw.1; go_simp⟩)
              simp only [Act.put, xzA]
              refine tk 4 _ (.int .i64 (k : Int)) ?_
              simp only [Act.put, xzA]
              refine wpAnyH_ready (rs := [5]) (by kernel_rfl) (by simp) (AllReadyH.cons rfl (fun KQ hK => ?_) AllReadyH.nil)
              go_simp
              refine (rframe_any _ (k : Int)).mono ?_
              rintro e w7 ⟨rfl, hb⟩
              have HA7 := hid (HA6.out.on hb)
              clear hb
              go_wp2_with fail
              refine hK.out _ _ (HA7.out.s2 HR2.out HB0.out) (fun hHeld => ?_)
              clear hK KQ
              try simp only [Act.put, xzA]
              refine wpAnyH_ready (rs := [6]) (by kernel_rfl) (by simp) (AllReadyH.cons rfl (fun KQ hK => ?_) AllReadyH.nil)
              go_simp
              refine (rwrite_g _ _ _ HA7.out.db.mem pr.g HR2.out true (k : Int) 2 0).mono ?_
              rintro e w8 ⟨rfl, r3, hs⟩
              have HR3 := hid (hs.g.trans HR2.out)
              have HA8 := hid (HA7.out.mem hs (MS.write_ns _ _ _ _ _))
              clear hs
              go_wp2_with fail
              refine hK.out _ _ (HA8.out.s2 HR3.out HB0.out) (fun hHeld => ?_)
              clear hK KQ
              try simp only [Act.put, xzA]
              refine wpAnyH_done (by kernel_rfl) ?_ _
              obtain ⟨k0, k2⟩ := HA8.out.s2 HR3.out HB0.out
              have kf := HA8.out.db.cel.free 2
              have HZ := hid (HA8.out.born (by show d2.b < 64; rw [HB0.out]; exact HBB.out))
              go_wp2_with fail
              go_ret
              refine ⟨rfl, r3, ?_⟩
              have hz := HZ.out
              rw [HSP.out]
              rw [MS.born, ← HD2.out.1, ← HD2.out.2]
              simp only [HB0.out] at hz ⊢
              exact hz
          · rw [if_neg (by rw [bear_v hs hf h3 h4 h5]; decide), bear_v hs hf h3 h4 h5]
            have h3' : (s == f) = false := by simpa using h3
            have h5' : ((d.ent f).t != 0) = true := by simpa using h5
            have h5'' : ((d.ent f).t == 0) = false := by simpa using h5
            rw [h4] at x0
            generalize d.ent s = X at *
            generalize d.ent f = Y at *
            clear h hs hf h3 h4 h5
            generalize s.toNat = k at *
            generalize f.toNat = j at *
            subst es
            subst ef
            generalize d.m.ns = n at *
            simp only [ptr] at *
            go_enter Tryz.func82, Tryz.ntmps82
            go_wp2_with fail
            go_ret
            exact ⟨rfl, p.r, HG.out⟩
        · rw [if_neg (by rw [bear_u hs hf h3 h4]; decide), bear_u hs hf h3 h4]
          have h3' : (s == f) = false := by simpa using h3
          have h4' : ((d.ent s).t != 0) = true := by simpa using h4
          have h4'' : ((d.ent s).t == 0) = false := by simpa using h4
          generalize d.ent s = X at *
          generalize d.ent f = Y at *
          clear h hs hf h3 h4
          generalize s.toNat = k at *
          generalize f.toNat = j at *
          subst es
          subst ef
          generalize d.m.ns = n at *
          simp only [ptr] at *
          go_enter Tryz.func82, Tryz.ntmps82
          go_wp2_with fail
          go_ret
          exact ⟨rfl, p.r, HG.out⟩
    · have hf' : d.there f = false := by simpa using hf
      rw [if_neg (by rw [bear_f hs hf']; decide), bear_f hs hf']
      rcases there_cases hf' with hc | ⟨h0, hc⟩
      · clear h hs hf hf'
        generalize s.toNat = k at *
        subst es
        generalize d.m.ns = n at *
        simp only [ptr] at *
        go_enter Tryz.func82, Tryz.ntmps82
        go_wp2_with fail
        go_ret
        exact ⟨rfl, p.r, HG.out⟩
      · clear h hs hf hf'
        generalize s.toNat = k at *
        subst es
        generalize d.m.ns = n at *
        simp only [ptr] at *
        go_enter Tryz.func82, Tryz.ntmps82
        go_wp2_with fail
        go_ret
        exact ⟨rfl, p.r, HG.out⟩
  · have hs' : d.there s = false := by simpa using hs
    rw [if_neg (by rw [bear_s hs']; decide), bear_s hs']
    rcases there_cases hs' with hc | ⟨h0, hc⟩
    · clear h hs hs'
      generalize d.m.ns = n at *
      simp only [ptr] at *
      go_enter Tryz.func82, Tryz.ntmps82
      go_wp2_with fail
      go_ret
      exact ⟨rfl, p.r, HG.out⟩
    · clear h hs hs'
      generalize d.m.ns = n at *
      simp only [ptr] at *
      go_enter Tryz.func82, Tryz.ntmps82
      go_wp2_with fail
      go_ret
      exact ⟨rfl, p.r, HG.out⟩
end Go.Proofs.YtdfnbcbnmiohnaaGreatDoor
namespace Go.Proofs.YtdfnbcbnmiohnaaGreatDoor
open Go.RowKit
set_option maxHeartbeats 4000000
set_option maxRecDepth 100000
theorem Hl.one (W : World) (x : Int) : Hl W (W.alloc (.cells #[.int .u32 x] 43)) (.slice (some ⟨W.heap.size, 0, none⟩) 1 1) [x] :=
  ⟨⟨rfl, .inr ⟨W.heap.size, 1, #[.int .u32 x], rfl, Nat.le_refl _, heap_alloc_new _ _, Nat.le_refl _, by unfold maxLen; decide, rfl, rfl⟩⟩, below_one _ _⟩
def dws (b : Int) (E : List En) (j : Nat) : List Int := b :: (E.take j).flatMap ew
theorem dws_succ (b : Int) (E : List En) (j : Nat) (h : j < E.length) : dws b E (j + 1) = dws b E j ++ [e0 (E.getD j En.zero), e1 (E.getD j En.zero)] := by
  have e : E.take (j + 1) = E.take j ++ [E.getD j En.zero] := by
    rw [List.take_add_one, List.getD_eq_getElem?_getD]
    simp [h]
  simp [dws, e, ew]
theorem dws_len (b : Int) (E : List En) (j : Nat) (h : j ≤ E.length) : (dws b E j).length = 1 + 2 * j := by
  rw [dws, List.length_cons, flat_len, List.length_take]
  omega
theorem dws_all (b : Int) (E : List En) : dws b E E.length = wdsOf b E := by simp [dws, wdsOf]
theorem new_src2 (w : World) (x y : Int) : ∀ j u, (u32s [x, y])[j]? = some u → (w.alloc (.cells #[.int .u32 x, .int .u32 y] 43)).cell? ((⟨w.heap.size, 0, none⟩ : Addr).add j) = some u := (Cel.new w 43 (u32s [x, y])).src
theorem rwords_any (W : World) (p : Rp) (d : DS) (h : RDB W p d) :
    Calls Tryz.prog 87 #[ptr p.g] W fun x W' => ∃ v, x = .returned v ∧ Hl W W' v d.ws := by
  have c1 := h.c2
  have HW := hid h
  have HN : Hid (d.m.ns ≤ 64) := hid h.ok.n64
  have HE : Hid (d.E.length = d.m.ns) := hid h.ok.len
  have HR := hid (fun w (hw : RDB w p d) k hk => And.intro hw.c1 (hw.rng k hk))
  have HC := hid (fun w (hw : RDB w p d) => hw.c1)
  have HK := hid (fun w k => rencode_any w (d.at k))
  have wb : d.b % 4294967296 = d.b := by have := h.ok.b0; have := h.ok.b1; omega
  have HS0 := hid (Hl.one W d.b)
  clear h
  generalize d.m.ns = n at *
  simp only [ptr, En.v, twoV, two] at *
  go_enter Tryz.func87, Tryz.ntmps87
  go_wp2_with fail
  generalize W.alloc _ = X at *
  have HL0 : Hid (Hl W X (.slice (some ⟨W.heap.size, 0, none⟩) 1 1) (dws d.b d.E 0)) := HS0
  clear HS0 c1
  go_loopw [3, 4] (fun l i wr => ∃ j : Nat, j ≤ n ∧ i = .int .i64 (j : Int) ∧ Hid (Hl W wr l (dws d.b d.E j))) (fun _ i _ => n - (intOf i).toNat)
  case atStart => exact ⟨0, Nat.zero_le _, rfl, HL0⟩
  case round =>
    obtain ⟨j, hj, rfl, HQ⟩ := hrel
    clear HL0
    by_cases hlt : j < n
    · have q1 : (j : Int) < (n : Int) := by omega
      have HRW := hid (HW.out.on HQ.out.below)
      have c1 := HC.out _ HRW.out
      have HRR := hid (HR.out _ HRW.out j hlt).2
      have HJ := hid hlt
      have hn64 := HN.out
      have j64 : (j : Int) ≤ 64 := by omega
      have HS := hid (dws_succ d.b d.E j (by rw [HE.out]; exact hlt))
      have hll := dws_len d.b d.E j (by rw [HE.out]; exact hj)
      have hby : ((dws d.b d.E j).length + 2) * 4 ≤ 140737488355328 := by omega
      have HK2 := hid (fun w => HK.out w j)
      have hat : d.E.getD j En.zero = d.at j := rfl
      rw [hat] at HS
      clear hat
      generalize d.at j = D at *
      obtain ⟨ao, cc, hvf, _⟩ := HQ.out.form
      subst hvf
      clear hll hn64 hlt hj
      generalize dws d.b d.E j = LL at *
      generalize e0 D = a0 at *
      generalize e1 D = a1 at *
      generalize chk D = ck at *
      go_upto_region 6 with (first | (refine wpList_load_mid rfl 144 _ rfl p.ge (j * 5) (by go_simp) _ _ HRR.out underR rfl (by rw [sizeR]; rfl) ?_) | (go_at_call 133; refine (HK2.out _).mono ?_; rintro e w1 ⟨rfl, hb⟩; have HB1 := hid hb; clear hb) | (refine wpList_store_st rfl 162 _ _ rfl w1.heap.size [.int .u32 a0, .int .u32 a1] rfl rfl (Cel.new w1 162 [.int .u32 0, .int .u32 0]) sizeA rfl rfl ?_; intro w2 hc hb hs; have HC5 := hid hc; have HB2 := hid (new_below HB1.out hb); clear hc hb hs))
      have k0 := HC5.out.cell 0
      have k1 := HC5.out.cell 1
      simp only [xzD, xzE] at k0 k1
      generalize w1.heap.size = g5 at *
      have HQ2 := hid (HQ.out.on HB2.out)
      have HQ3 := hid (HQ2.out.on (below_one w2 (.cells #[.int .u32 a0, .int .u32 a1] 43)))
      clear c1
      go_wp2_with (at_builtin; refine wpList_append_w (W := W) rfl _ _ rfl (.slice ao LL.length cc) LL rfl HQ3.out ⟨w2.heap.size, 0, none⟩ 2 2 [a0, a1] rfl rfl (new_src2 _ a0 a1) hby ?_; intro v' w3 H3 _; obtain ⟨ao2, cc2, e9, _⟩ := H3.form; subst e9; have HN2 := hid H3; clear H3)
      go_roundw
      case measure => have := HJ.out; simp [intOf] <;> omega
      case rel => exact ⟨j + 1, HJ.out, by simp, by rw [HS.out]; have h9 := HN2.out; rw [List.length_append] at h9; exact hid h9⟩
    · have hjn : j = n := by omega
      subst hjn
      have c1 := HC.out _ (HW.out.on HQ.out.below)
      go_wp2_with fail
      go_ret
      refine ⟨_, rfl, ?_⟩
      have h9 := HQ.out
      rw [← HE.out, dws_all] at h9
      exact h9
end Go.Proofs.YtdfnbcbnmiohnaaGreatDoor
namespace Go.Proofs.YtdfnbcbnmiohnaaGreatDoor
open Go.RowKit
structure TP (W w : World) (p : Dp) (r q : Rp) (d e : DS) (L : List (Nat × TypeId × List Value)) : Prop where
  own : DB w p d
  doc : RDB w q e
  g : q.g = r.g
  but : ButL (p.all ++ r.all) W w
  sub : ∀ k ∈ q.all, k ∈ r.all ∨ W.heap.size ≤ k
  ap : ∀ k ∈ p.all, k ∉ q.all
  bag : ∀ x ∈ L, Cel w x.1 x.2.1 x.2.2
  bnew : ∀ x ∈ L, W.heap.size ≤ x.1
  boff : ∀ x ∈ L, x.1 ∉ q.all
  bown : ∀ x ∈ L, x.1 ∉ p.all
theorem TP.start {W : World} {p : Dp} {r : Rp} {d e : DS} (h : DB W p d) (h' : RDB W r e) (ha : ∀ k ∈ p.all, k ∉ r.all) : TP W W p r r d e [] :=
  ⟨h, h', rfl, .refl _ _, fun _ hk => .inl hk, ha, by simp, by simp, by simp, by simp⟩
theorem TP.on {W w w' : World} {p : Dp} {r q : Rp} {d e : DS} {L : List (Nat × TypeId × List Value)} (h : TP W w p r q d e L) (hb : Below w.heap.size w w') : TP W w' p r q d e L :=
  ⟨h.own.on hb, h.doc.on hb, h.g, h.but.on hb, h.sub, h.ap, fun x hx => (h.bag x hx).on hb, h.bnew, h.boff, h.bown⟩
theorem TP.box {W w : World} {p : Dp} {r q : Rp} {d e : DS} {L : List (Nat × TypeId × List Value)} (h : TP W w p r q d e L) (t : TypeId) (cs : List Value) : TP W (w.alloc (.cells cs.toArray t)) p r q d e ((w.heap.size, t, cs) :: L) := by
  have h1 := h.on (below_one w (.cells cs.toArray t))
  refine ⟨h1.own, h1.doc, h1.g, h1.but, h1.sub, h1.ap, fun x hx => ?_, fun x hx => ?_, fun x hx => ?_, fun x hx => ?_⟩
  · rcases List.mem_cons.1 hx with rfl | hx
    · exact Cel.new w t cs
    · exact h1.bag x hx
  · rcases List.mem_cons.1 hx with rfl | hx
    · exact h.but.size
    · exact h1.bnew x hx
  · rcases List.mem_cons.1 hx with rfl | hx
    · intro hm; exact Nat.lt_irrefl _ (h.doc.lt _ hm)
    · exact h1.boff x hx
  · rcases List.mem_cons.1 hx with rfl | hx
    · intro hm; exact Nat.lt_irrefl _ (h.own.lt _ hm)
    · exact h1.bown x hx
theorem TP.get {W w : World} {p : Dp} {r q : Rp} {d e : DS} {L : List (Nat × TypeId × List Value)} (h : TP W w p r q d e L) (k : Nat) {g : Nat} {t : TypeId} {cs : List Value} (hk : L[k]? = some (g, t, cs)) : Cel w g t cs := h.bag _ (List.mem_of_getElem? hk)
theorem TP.put {W w w' : World} {p : Dp} {r q : Rp} {d e : DS} {g : Nat} {t : TypeId} {cs es : List Value} {L : List (Nat × TypeId × List Value)} (h : TP W w p r q d e ((g, t, cs) :: L)) (hn : ∀ x ∈ L, x.1 ≠ g) (hc : Cel w' g t es) (hb : ButL [g] w w') : TP W w' p r q d e ((g, t, es) :: L) := by
  have hg := h.bnew (g, t, cs) (by simp)
  have hgo := h.bown (g, t, cs) (by simp)
  have hgq := h.boff (g, t, cs) (by simp)
  simp only at hg hgo hgq
  refine ⟨h.own.frame hb (fun k hk hm => ?_), h.doc.frame hb (fun k hk hm => ?_), h.g, h.but.trans_sub hb (fun k hk => ?_), h.sub, h.ap, fun x hx => ?_, fun x hx => ?_, fun x hx => ?_, fun x hx => ?_⟩
  · rw [List.mem_singleton] at hm; subst hm; exact hgo hk
  · rw [List.mem_singleton] at hm; subst hm; exact hgq hk
  · rw [List.mem_singleton] at hk; subst hk; exact .inr hg
  · rcases List.mem_cons.1 hx with rfl | hx
    · exact hc
    · exact (h.bag x (by simp [hx])).but hb (by rw [List.mem_singleton]; exact hn x hx)
  · rcases List.mem_cons.1 hx with rfl | hx
    · exact hg
    · exact h.bnew x (by simp [hx])
  · rcases List.mem_cons.1 hx with rfl | hx
    · exact hgq
    · exact h.boff x (by simp [hx])
  · rcases List.mem_cons.1 hx with rfl | hx
    · exact hgo
    · exact h.bown x (by simp [hx])
theorem TP.stepR {W w w' : World} {p : Dp} {r q q' : Rp} {d e e' : DS} {L : List (Nat × TypeId × List Value)} (h : TP W w p r q d e L) (hR : RG w w' q q' e') : TP W w' p r q' d e' L := by
  have hs := h.but.size
  refine ⟨h.own.frame hR.but (fun k hk => h.ap k hk), hR.db, hR.g.trans h.g, h.but.trans_sub hR.but (fun k hk => (h.sub k hk).imp (fun h => List.mem_append_right _ h) id), fun k hk => ?_, fun k hk hm => ?_, fun x hx => (h.bag x hx).but hR.but (h.boff x hx), h.bnew, fun x hx hm => ?_, h.bown⟩
  · rcases hR.sub k hk with hk | hk
    · exact h.sub k hk
    · exact .inr (Nat.le_trans hs hk)
  · rcases hR.sub k hm with hm | hm
    · exact h.ap k hk hm
    · have := h.own.lt k hk; omega
  · rcases hR.sub _ hm with hm | hm
    · exact h.boff x hx hm
    · have := (h.bag x hx).lt; omega
theorem TP.stepA {W w w' : World} {p : Dp} {r q : Rp} {d d' e : DS} {L : List (Nat × TypeId × List Value)} (h : TP W w p r q d e L) (hd : DB w' p d') (hb : ButL p.w w w') : TP W w' p r q d' e L :=
  ⟨hd, h.doc.frame hb (fun k hk hm => h.ap k (Dp.w_all hm) hk), h.g, h.but.trans_sub hb (fun _ hk => .inl (List.mem_append_left _ (Dp.w_all hk))), h.sub, h.ap, fun x hx => (h.bag x hx).but hb (fun hm => h.bown x hx (Dp.w_all hm)), h.bnew, h.boff, h.bown⟩
theorem TP.drop {W w : World} {p : Dp} {r q : Rp} {d e : DS} {L : List (Nat × TypeId × List Value)} (h : TP W w p r q d e L) : TP W w p r q d e [] :=
  ⟨h.own, h.doc, h.g, h.but, h.sub, h.ap, by simp, by simp, by simp, by simp⟩
theorem TP.pair {W w : World} {p : Dp} {r q : Rp} {d e : DS} {L : List (Nat × TypeId × List Value)} (h : TP W w p r q d e L) (k : Nat) {g : Nat} {t : TypeId} {a b : Value} (hk : L[k]? = some (g, t, [a, b])) : w.cell? ⟨g, 0, none⟩ = some a ∧ w.cell? ⟨g, 1, none⟩ = some b :=
  ⟨(h.get k hk).cell 0, (h.get k hk).cell 1⟩
theorem TP.op {W w : World} {p : Dp} {r q : Rp} {d e : DS} {L : List (Nat × TypeId × List Value)} (h : TP W w p r q d e L) (k : Nat) {g : Nat} {t : TypeId} {a0 a1 a2 a3 a4 a5 a6 a7 : Value} (hk : L[k]? = some (g, t, [a0, a1, a2, a3, a4, a5, a6, a7])) : w.cell? ⟨g, 0, none⟩ = some a0 ∧ w.cell? ⟨g, 1, none⟩ = some a1 ∧ w.cell? ⟨g, 2, none⟩ = some a2 ∧ w.cell? ⟨g, 3, none⟩ = some a3 ∧ w.cell? ⟨g, 4, none⟩ = some a4 ∧ w.cell? ⟨g, 5, none⟩ = some a5 ∧ w.cell? ⟨g, 6, none⟩ = some a6 ∧ w.cell? ⟨g, 7, none⟩ = some a7 :=
  ⟨(h.get k hk).cell 0, (h.get k hk).cell 1, (h.get k hk).cell 2, (h.get k hk).cell 3, (h.get k hk).cell 4, (h.get k hk).cell 5, (h.get k hk).cell 6, (h.get k hk).cell 7⟩
end Go.Proofs.YtdfnbcbnmiohnaaGreatDoor
