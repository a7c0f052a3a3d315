import Derived.Test.YtdfnbcbnmiohnaaGreatDoorP35
namespace Go.Proofs.YtdfnbcbnmiohnaaGreatDoor
open Go.RowKit
set_option maxHeartbeats 4000000
set_option maxRecDepth 100000
theorem there_cases {d : DS} {q : Int} (h : d.there q = false) : q < 0 ∨ (0 ≤ q ∧ (d.m.ns : Int) ≤ q) := by
  have := of_decide_eq_false h
  omega
theorem typE_no {d : DS} {q t : Int} (h : d.there q = false) : d.typE q t = 5 := by simp [DS.typE, h]
theorem typE_bad {d : DS} {q t : Int} (h : d.there q = true) (ht : (d.ent q).t ≠ t) : d.typE q t = 124 := by simp [DS.typE, h, ht]
theorem typE_ok {d : DS} {q t : Int} (h : d.there q = true) (ht : (d.ent q).t = t) : d.typE q t = 0 := by simp [DS.typE, h, ht]
theorem rsetState_any (W : World) (p : Rp) (d : DS) (h : RDB W p d) (q s : Int) :
    Calls Tryz.prog 126 #[ptr p.g, .int .i64 q, .int .i64 s] W fun e W' => e = .returned (.int .i64 (d.stateE q s)) ∧ RG W W' p p (d.state q s) := by
  unfold DS.state
  by_cases hq : d.there q = true
  · obtain ⟨q0, q1, eq⟩ := there_lt hq
    have c1 := h.c1
    obtain ⟨r0, r1, r2, r3, r4⟩ := h.row q.toNat q1
    have HG := hid (RG.start h)
    have f3 := h.fz (q.toNat * 5 + 3)
    have q2 : q < (d.m.ns : Int) := by omega
    by_cases ht : (d.ent q).t = 1
    · have hy := typE_ok hq ht
      have hok := h.ok.ok _ q1
      have how := h.ok.own _ q1
      have ht' : (d.at q.toNat).t = 1 := by rw [← ent_at hq]; exact ht
      rw [ht'] at r0
      by_cases hs : s = 3 ∨ (s = 2 ∧ (d.ent q).s = 1)
      · have hz : d.stateE q s = 0 := by simp [DS.stateE, hy, hs]
        rw [if_pos hz, hz]
        unfold DS.stated
        have HZ := hid (HG.out.fld q.toNat q1 3 (by decide) { d.at q.toNat with s := s } (.int .i64 s) (En.okS hok ht' s (by omega) (by omega)) how rfl)
        rw [ent_at hq] at hs ⊢
        generalize q.toNat = k at *
        subst eq
        clear h hq ht ht' hok how HG hy hz
        generalize d.lay k _ = d1 at *
        generalize d.at k = D at *
        generalize d.m.ns = n at *
        simp only [ptr] at *
        rcases hs with rfl | ⟨rfl, hs⟩
        · go_enter Tryz.func126, Tryz.ntmps126
          go_wp2_with fail
          go_ret
          exact ⟨rfl, HZ.out⟩
        · rw [hs] at r3
          go_enter Tryz.func126, Tryz.ntmps126
          go_wp2_with fail
          go_ret
          exact ⟨rfl, HZ.out⟩
      · have hz : d.stateE q s = 3 := by simp [DS.stateE, hy, hs]
        rw [if_neg (by rw [hz]; decide), hz]
        rw [ent_at hq] at hs
        have h3 : (s != 3) = true := by simp; omega
        generalize q.toNat = k at *
        subst eq
        clear h hq ht ht' hok how hy hz
        generalize d.at k = D at *
        generalize d.m.ns = n at *
        simp only [ptr] at *
        by_cases h2 : s = 2
        · subst h2
          have h1 : (D.s != 1) = true := by simp; intro e; exact hs (.inr ⟨rfl, e⟩)
          clear hs
          go_enter Tryz.func126, Tryz.ntmps126
          go_wp2_with fail
          go_ret
          exact ⟨rfl, HG.out⟩
        · have h2' : (s != 2) = true := by simpa using h2
          clear hs h2
          go_enter Tryz.func126, Tryz.ntmps126
          go_wp2_with fail
          go_ret
          exact ⟨rfl, HG.out⟩
    · have hy := typE_bad hq ht
      have hz : d.stateE q s = 124 := by simp [DS.stateE, hy]
      rw [if_neg (by rw [hz]; decide), hz]
      have ht' : ((d.at q.toNat).t == 1) = false := by rw [ent_at hq] at ht; simpa using ht
      generalize q.toNat = k at *
      subst eq
      clear h hq ht hy hz
      generalize d.at k = D at *
      generalize d.m.ns = n at *
      simp only [ptr] at *
      go_enter Tryz.func126, Tryz.ntmps126
      go_wp2_with fail
      go_ret
      exact ⟨rfl, HG.out⟩
  · have hq' : d.there q = false := by simpa using hq
    have hz : d.stateE q s = 5 := by simp [DS.stateE, typE_no hq']
    rw [if_neg (by rw [hz]; decide), hz]
    have c1 := h.c1
    have HG := hid (RG.start h)
    rcases there_cases hq' with hc | ⟨h0, hc⟩
    · clear h hq hq'
      generalize d.m.ns = n at c1
      simp only [ptr] at *
      go_enter Tryz.func126, Tryz.ntmps126
      go_wp2_with fail
      go_ret
      exact ⟨rfl, HG.out⟩
    · clear h hq hq'
      generalize d.m.ns = n at c1 hc
      simp only [ptr] at *
      go_enter Tryz.func126, Tryz.ntmps126
      go_wp2_with fail
      go_ret
      exact ⟨rfl, HG.out⟩
theorem is_one (d : DS) (s : Int) : (d.there s && ((d.ent s).t == 1)) = ((d.ent s).t == 1) := by
  cases h : d.there s
  · rw [DS.ent_no h]; rfl
  · rfl
theorem take_no {d : DS} {q t s : Int} (h : d.there q = false) : d.takeE q t s = 5 := by simp [DS.takeE, DS.entE, h]
theorem take_t {d : DS} {q t s : Int} (h : d.there q = true) (h1 : t ≠ 2) (h2 : trn t = false) : d.takeE q t s = 124 := by simp [DS.takeE, DS.entE, h, h1, h2]
theorem take_m {d : DS} {q t s : Int} (h : d.there q = true) (h1 : t = 2 ∨ trn t = true) (h2 : d.more s = false) : d.takeE q t s = 122 := by
  rcases h1 with h1 | h1 <;> simp [DS.takeE, DS.entE, h, h1, h2]
theorem take_u {d : DS} {q t s : Int} (h : d.there q = true) (h1 : t = 2 ∨ trn t = true) (h2 : d.more s = true) (h3 : (d.ent q).t ≠ 0) : d.takeE q t s = 120 := by
  rcases h1 with h1 | h1 <;> simp [DS.takeE, DS.entE, h, h1, h2, h3]
theorem take_y {d : DS} {q t s : Int} (h : d.there q = true) (h1 : t = 2 ∨ trn t = true) (h2 : d.more s = true) (h3 : (d.ent q).t = 0) : d.takeE q t s = 0 := by
  rcases h1 with h1 | h1 <;> simp [DS.takeE, DS.entE, h, h1, h2, h3]
theorem rtake_any (W : World) (p : Rp) (d : DS) (h : RDB W p d) (q t s : Int) :
    Calls Tryz.prog 85 #[ptr p.g, .int .i64 q, .int .i64 t, .int .i64 s] W fun e W' => e = .returned (.int .i64 (d.takeE q t s)) ∧ RG W W' p p (d.take q t s) := by
  unfold DS.take
  by_cases hq : d.there q = true
  · obtain ⟨q0, q1, eq⟩ := there_lt hq
    have c1 := h.c1
    have HG := hid (RG.start h)
    have HI := hid (ris_any W p d h s 1)
    rw [is_one] at HI
    have q2 : q < (d.m.ns : Int) := by omega
    by_cases ht : t = 2 ∨ trn t = true
    · have HT : Hid (t = 2 ∨ t = 4 ∨ t = 5 ∨ t = 6) := hid (ht.imp id (fun e => (trn_iff t).1 e))
      by_cases hm : d.more s = true
      · obtain ⟨ts, s1, s2⟩ := more_of hm
        obtain ⟨s0, s3, es⟩ := there_lt ts
        have s4 : s < (d.m.ns : Int) := by omega
        rw [s1] at HI
        by_cases hf : (d.ent q).t = 0
        · have hz := take_y hq ht hm hf
          rw [if_pos hz, hz]
          have n64 := h.ok.n64
          have hne : s.toNat ≠ q.toNat := fun e => by
            rw [ent_at ts, e, ← ent_at hq, hf] at s1
            cases s1
          have hql : q.toNat < d.E.length := by rw [h.ok.len]; exact q1
          have ha : (d.lay q.toNat (enT t s)).at s.toNat = d.ent s := by rw [lay_at _ _ _ hql, if_neg hne, ent_at ts]
          have hok := h.ok.ok _ s3
          have how := h.ok.own _ s3
          rw [← ent_at ts] at hok how
          have hr0 := ((En.ok_iff _).1 hok).r0
          have t01 : 2 ≤ t ∧ t ≤ 6 := by have := HT.out; omega
          obtain ⟨r0, r1, r2, r3, r4⟩ := h.row q.toNat q1
          obtain ⟨_, _, y2, _, _⟩ := h.row s.toNat s3
          have f0 := h.fz (q.toNat * 5)
          have f1 := h.fz (q.toNat * 5 + 1)
          have f2 := h.fz (q.toNat * 5 + 2)
          have f3 := h.fz (q.toNat * 5 + 3)
          have f4 := h.fz (q.toNat * 5 + 4)
          have rt : (d.at q.toNat).t = 0 := by rw [← ent_at hq]; exact hf
          rw [rt] at r0
          have HL := hid (fun w' e => HG.out.lay5 (w' := w') q.toNat q1 (enT t s) (enT_ok t01.1 t01.2 s0 (by omega)) (by show s < _; exact s4) e)
          have HC := hid (fun w' (hw : RG W w' p p (d.lay q.toNat (enT t s))) => hw.fld s.toNat s3 2 (by decide) { (d.lay q.toNat (enT t s)).at s.toNat with r := ((d.lay q.toNat (enT t s)).at s.toNat).r + 1 } (.int .i64 (((d.lay q.toNat (enT t s)).at s.toNat).r + 1)) (by rw [ha]; exact En.okR hok s1 _ (by omega) (by omega)) (by rw [ha]; exact how) rfl)
          have HR := hid (fun w' (hw : RG W w' p p (d.lay q.toNat (enT t s))) => And.intro hw.db.c1 (And.intro (hw.db.row s.toNat s3).2.2.1 (hw.db.fz (s.toNat * 5 + 2))))
          have wr : wrap64 ((d.ent s).r + 1) = (d.ent s).r + 1 := by unfold wrap64; omega
          have y63 : ((d.ent s).r ≥ 63) = False := by simp; omega
          have y63' : (d.ent s).r < 63 := s2
          rw [ha] at HC HR
          unfold DS.taken DS.cnt
          rw [ha]
          rw [← ent_at ts] at y2
          generalize q.toNat = k at *
          generalize s.toNat = j at *
          subst eq
          subst es
          clear h hq ht hm ts s1 hf hz hne hql hok how ha rt t01
          have HX : Hid ((d.lay k (enT t (j : Int))).m.ns = d.m.ns) := hid rfl
          generalize d.lay k (enT t (j : Int)) = d1 at *
          generalize d1.lay j _ = d2 at *
          generalize d.at k = D at *
          generalize d.ent (j : Int) = Y at *
          generalize d.m.ns = n at *
          simp only [ptr, enT] at *
          rcases HT.out with rfl | rfl | rfl | rfl
          · go_enter Tryz.func85, Tryz.ntmps85
            go_upto_region 11 with (go_at_call 131; refine HI.out.mono ?_; rintro e w1 ⟨rfl, rfl⟩)
            generalize hX : World.setCell _ _ _ = x9
            have HY := hid (HL.out _ hX)
            clear hX f0 f1 f2 f3 f4 r0 r1 r2 r3 r4 y2 c1
            obtain ⟨c1, y2, f2⟩ := HR.out _ HY.out
            rw [HX.out] at c1
            have HZ := hid (HC.out _ HY.out)
            go_wp2_with fail
            go_ret
            exact ⟨rfl, HZ.out⟩
          · go_enter Tryz.func85, Tryz.ntmps85
            go_upto_region 11 with (go_at_call 131; refine HI.out.mono ?_; rintro e w1 ⟨rfl, rfl⟩)
            generalize hX : World.setCell _ _ _ = x9
            have HY := hid (HL.out _ hX)
            clear hX f0 f1 f2 f3 f4 r0 r1 r2 r3 r4 y2 c1
            obtain ⟨c1, y2, f2⟩ := HR.out _ HY.out
            rw [HX.out] at c1
            have HZ := hid (HC.out _ HY.out)
            go_wp2_with fail
            go_ret
            exact ⟨rfl, HZ.out⟩
          · go_enter Tryz.func85, Tryz.ntmps85
            go_upto_region 11 with (go_at_call 131; refine HI.out.mono ?_; rintro e w1 ⟨rfl, rfl⟩)
            generalize hX : World.setCell _ _ _ = x9
            have HY := hid (HL.out _ hX)
            clear hX f0 f1 f2 f3 f4 r0 r1 r2 r3 r4 y2 c1
            obtain ⟨c1, y2, f2⟩ := HR.out _ HY.out
            rw [HX.out] at c1
            have HZ := hid (HC.out _ HY.out)
            go_wp2_with fail
            go_ret
            exact ⟨rfl, HZ.out⟩
          · go_enter Tryz.func85, Tryz.ntmps85
            go_upto_region 11 with (go_at_call 131; refine HI.out.mono ?_; rintro e w1 ⟨rfl, rfl⟩)
            generalize hX : World.setCell _ _ _ = x9
            have HY := hid (HL.out _ hX)
            clear hX f0 f1 f2 f3 f4 r0 r1 r2 r3 r4 y2 c1
            obtain ⟨c1, y2, f2⟩ := HR.out _ HY.out
            rw [HX.out] at c1
            have HZ := hid (HC.out _ HY.out)
            go_wp2_with fail
            go_ret
            exact ⟨rfl, HZ.out⟩
        · have hz := take_u hq ht hm hf
          rw [if_neg (by rw [hz]; decide), hz]
          obtain ⟨r0, _, _, _, _⟩ := h.row q.toNat q1
          obtain ⟨_, _, y2, _, _⟩ := h.row s.toNat s3
          rw [← ent_at hq] at r0
          rw [← ent_at ts] at y2
          have hf' : ((d.ent q).t == 0) = false := by simpa using hf
          generalize d.ent q = D at *
          generalize d.ent s = Y at *
          generalize q.toNat = k at *
          generalize s.toNat = j at *
          subst eq
          subst es
          clear h hq ht hm ts s1 hf hz
          generalize d.m.ns = n at *
          simp only [ptr] at *
          rcases HT.out with rfl | rfl | rfl | rfl
          · go_enter Tryz.func85, Tryz.ntmps85
            go_wp2_with (go_at_call 131; refine HI.out.mono ?_; rintro e w1 ⟨rfl, rfl⟩)
            go_ret
            exact ⟨rfl, HG.out⟩
          · go_enter Tryz.func85, Tryz.ntmps85
            go_wp2_with (go_at_call 131; refine HI.out.mono ?_; rintro e w1 ⟨rfl, rfl⟩)
            go_ret
            exact ⟨rfl, HG.out⟩
          · go_enter Tryz.func85, Tryz.ntmps85
            go_wp2_with (go_at_call 131; refine HI.out.mono ?_; rintro e w1 ⟨rfl, rfl⟩)
            go_ret
            exact ⟨rfl, HG.out⟩
          · go_enter Tryz.func85, Tryz.ntmps85
            go_wp2_with (go_at_call 131; refine HI.out.mono ?_; rintro e w1 ⟨rfl, rfl⟩)
            go_ret
            exact ⟨rfl, HG.out⟩
      · have hm' : d.more s = false := by simpa using hm
        have hz := take_m hq ht hm'
        rw [if_neg (by rw [hz]; decide), hz]
        by_cases s1 : (d.ent s).t = 1
        · have ts := there_of (d := d) (q := s) (by rw [s1]; decide)
          obtain ⟨s0, s3, es⟩ := there_lt ts
          have s4 : s < (d.m.ns : Int) := by omega
          obtain ⟨_, _, y2, _, _⟩ := h.row s.toNat s3
          rw [← ent_at ts] at y2
          have s5 : 63 ≤ (d.ent s).r := by
            simp only [DS.more, s1] at hm'
            simpa using hm'
          rw [s1] at HI
          generalize d.ent s = Y at *
          generalize s.toNat = j at *
          subst es
          clear h hq ht hm hm' ts s1 hz
          generalize q.toNat = k at *
          subst eq
          generalize d.m.ns = n at *
          simp only [ptr] at *
          rcases HT.out with rfl | rfl | rfl | rfl
          · go_enter Tryz.func85, Tryz.ntmps85
            go_wp2_with (go_at_call 131; refine HI.out.mono ?_; rintro e w1 ⟨rfl, rfl⟩)
            go_ret
            exact ⟨rfl, HG.out⟩
          · go_enter Tryz.func85, Tryz.ntmps85
            go_wp2_with (go_at_call 131; refine HI.out.mono ?_; rintro e w1 ⟨rfl, rfl⟩)
            go_ret
            exact ⟨rfl, HG.out⟩
          · go_enter Tryz.func85, Tryz.ntmps85
            go_wp2_with (go_at_call 131; refine HI.out.mono ?_; rintro e w1 ⟨rfl, rfl⟩)
            go_ret
            exact ⟨rfl, HG.out⟩
          · go_enter Tryz.func85, Tryz.ntmps85
            go_wp2_with (go_at_call 131; refine HI.out.mono ?_; rintro e w1 ⟨rfl, rfl⟩)
            go_ret
            exact ⟨rfl, HG.out⟩
        · have s1' : ((d.ent s).t == 1) = false := by simpa using s1
          rw [s1'] at HI
          clear h hq ht hm hm' s1 s1' hz
          generalize q.toNat = k at *
          subst eq
          generalize d.m.ns = n at *
          simp only [ptr] at *
          rcases HT.out with rfl | rfl | rfl | rfl
          · go_enter Tryz.func85, Tryz.ntmps85
            go_wp2_with (go_at_call 131; refine HI.out.mono ?_; rintro e w1 ⟨rfl, rfl⟩)
            go_ret
            exact ⟨rfl, HG.out⟩
          · go_enter Tryz.func85, Tryz.ntmps85
            go_wp2_with (go_at_call 131; refine HI.out.mono ?_; rintro e w1 ⟨rfl, rfl⟩)
            go_ret
            exact ⟨rfl, HG.out⟩
          · go_enter Tryz.func85, Tryz.ntmps85
            go_wp2_with (go_at_call 131; refine HI.out.mono ?_; rintro e w1 ⟨rfl, rfl⟩)
            go_ret
            exact ⟨rfl, HG.out⟩
          · go_enter Tryz.func85, Tryz.ntmps85
            go_wp2_with (go_at_call 131; refine HI.out.mono ?_; rintro e w1 ⟨rfl, rfl⟩)
            go_ret
            exact ⟨rfl, HG.out⟩
    · have h2 : t ≠ 2 := fun e => ht (.inl e)
      have h3 : trn t = false := by
        cases e : trn t
        · rfl
        · exact absurd (.inr e) ht
      have hz := take_t (s := s) hq h2 h3
      rw [if_neg (by rw [hz]; decide), hz]
      have g2 : (t != 2) = true := by simpa using h2
      have g4 : (t != 4) = true := by simp; intro e; subst e; cases h3
      have g5 : (t != 5) = true := by simp; intro e; subst e; cases h3
      have g6 : (t != 6) = true := by simp; intro e; subst e; cases h3
      clear h hq ht h2 h3 hz HI
      generalize q.toNat = k at *
      subst eq
      generalize d.m.ns = n at *
      simp only [ptr] at *
      go_enter Tryz.func85, Tryz.ntmps85
      go_wp2_with fail
      go_ret
      exact ⟨rfl, HG.out⟩
  · have hq' : d.there q = false := by simpa using hq
    rw [if_neg (by rw [take_no hq']; decide), take_no hq']
    have c1 := h.c1
    have HG := hid (RG.start h)
    rcases there_cases hq' with hc | ⟨h0, hc⟩
    · clear h hq hq'
      generalize d.m.ns = n at c1
      simp only [ptr] at *
      go_enter Tryz.func85, Tryz.ntmps85
      go_wp2_with fail
      go_ret
      exact ⟨rfl, HG.out⟩
    · clear h hq hq'
      generalize d.m.ns = n at c1 hc
      simp only [ptr] at *
      go_enter Tryz.func85, Tryz.ntmps85
      go_wp2_with fail
      go_ret
      exact ⟨rfl, HG.out⟩
end Go.Proofs.YtdfnbcbnmiohnaaGreatDoor
