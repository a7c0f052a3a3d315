import Derived.Test.YtdfnbcbnmiohnaaGreatDoorP36
import Derived.Test.YtdfnbcbnmiohnaaGreatDoorP01
namespace Go.Proofs.YtdfnbcbnmiohnaaGreatDoor
open Go.RowKit
set_option maxHeartbeats 8000000
set_option maxRecDepth 100000
theorem RG.pre {W w2 w : World} {p q : Rp} {d : DS} (hb : Below W.heap.size W w2) (k : RG w2 w p q d) : RG W w p q d :=
  ⟨k.db, (ButL.of hb).trans k.but, k.g, fun j hj => (k.sub j hj).imp id (fun e => Nat.le_trans hb.size e)⟩
theorem RG.s0 {W w : World} {pg pe pc : Nat} {pr r : Rf} {d : DS} (h : RG W w ⟨pg, pe, pc, pr⟩ ⟨pg, pe, pc, r⟩ d) (hr : r.g = pr.g) : w.cell? ⟨pg, 0, none⟩ = some (.pointer (some ⟨pr.g, 0, none⟩)) := by
  have := h.db.c0
  rw [hr] at this
  exact this
theorem give_no {d : DS} {q : Int} (h : d.there q = false) : d.giveE q = 5 := by simp [DS.giveE, DS.entE, h]
theorem give_f {d : DS} {q : Int} (h : d.there q = true) (h1 : (d.ent q).t = 0) : d.giveE q = 121 := by simp [DS.giveE, DS.entE, h, h1]
theorem give_h {d : DS} {q : Int} (h : d.there q = true) (h1 : (d.ent q).t = 1) (h2 : 0 < (d.ent q).r) : d.giveE q = 123 := by simp [DS.giveE, DS.entE, h, h1, h2]
theorem give_y {d : DS} {q : Int} (h : d.there q = true) (h1 : (d.ent q).t ≠ 0) (h2 : (d.ent q).t ≠ 1 ∨ (d.ent q).r ≤ 0) : d.giveE q = 0 := by
  have : ¬ ((d.ent q).t = 1 ∧ 0 < (d.ent q).r) := by omega
  simp [DS.giveE, DS.entE, h, h1, this]
theorem rgive_any (W : World) (p : Rp) (d : DS) (h : RDB W p d) (q : Int) :
    Calls Tryz.prog 127 #[ptr p.g, .int .i64 q] W fun e W' => e = .returned (.int .i64 (d.giveE q)) ∧ ∃ r', RG W W' p ⟨p.g, p.ge, p.cap, r'⟩ (d.give q) := by
  unfold DS.give
  by_cases hq : d.there q = true
  · obtain ⟨q0, q1, eq⟩ := there_lt hq
    have q2 : q < (d.m.ns : Int) := by omega
    have HH := hid h
    have HR := hid (h.rng q.toNat q1)
    have c1 := h.c1
    have HX : Hid (d.ent q = d.at q.toNat) := hid (ent_at hq)
    by_cases hf : (d.ent q).t = 0
    · have hz := give_f hq hf
      rw [if_neg (by rw [hz]; decide), hz]
      rw [ent_at hq] at hf
      generalize q.toNat = k at *
      subst eq
      generalize d.at k = X at *
      obtain ⟨xt, xo, xr, xs, xx⟩ := X
      simp only at hf
      subst hf
      clear h hq hz HX
      generalize d.m.ns = n at *
      simp only [ptr, En.cs] at *
      go_enter Tryz.func127, Tryz.ntmps127
      go_upto_region 4 with (first | (refine wpList_load_mid rfl 144 _ rfl p.ge (k * 5) (by go_simp) _ _ HR.out underR rfl (by rw [sizeR]; rfl) ?_) | (refine wpList_store_st rfl 144 _ _ rfl W.heap.size [.int .i64 0, .int .i64 xo, .int .i64 xr, .int .i64 xs, .bool xx] rfl rfl (Cel.new W 144 En.zero.cs) sizeR rfl rfl ?_; intro w2 hc hb hs; have HC := hid hc; have HB := hid (new_below (Below.refl _ W) hb); clear hc hb hs))
      have k0 := HC.out.cell 0
      have k1 := HC.out.cell 1
      have k2 := HC.out.cell 2
      simp only [tqG, tqH] at k0 k1 k2
      have HGS : Hid (W.heap.size = W.heap.size) := hid rfl
      generalize hg5 : W.heap.size = g5 at k0 k1 k2 HC HGS
      have HG5 := hid hg5
      clear hg5 HGS
      go_wp2_with fail
      go_ret
      exact ⟨rfl, p.r, (RG.start (HH.out.on HB.out)).pre HB.out⟩
    · by_cases hh : (d.ent q).t = 1 ∧ 0 < (d.ent q).r
      · have hz := give_h hq hh.1 hh.2
        rw [if_neg (by rw [hz]; decide), hz]
        rw [ent_at hq] at hh
        generalize q.toNat = k at *
        subst eq
        generalize d.at k = X at *
        obtain ⟨xt, xo, xr, xs, xx⟩ := X
        simp only at hh
        obtain ⟨rfl, hh⟩ := hh
        clear h hq hz HX hf
        generalize d.m.ns = n at *
        simp only [ptr, En.cs] at *
        go_enter Tryz.func127, Tryz.ntmps127
        go_upto_region 4 with (first | (refine wpList_load_mid rfl 144 _ rfl p.ge (k * 5) (by go_simp) _ _ HR.out underR rfl (by rw [sizeR]; rfl) ?_) | (refine wpList_store_st rfl 144 _ _ rfl W.heap.size [.int .i64 1, .int .i64 xo, .int .i64 xr, .int .i64 xs, .bool xx] rfl rfl (Cel.new W 144 En.zero.cs) sizeR rfl rfl ?_; intro w2 hc hb hs; have HC := hid hc; have HB := hid (new_below (Below.refl _ W) hb); clear hc hb hs))
        have k0 := HC.out.cell 0
        have k1 := HC.out.cell 1
        have k2 := HC.out.cell 2
        simp only [tqG, tqH] at k0 k1 k2
        have HGS : Hid (W.heap.size = W.heap.size) := hid rfl
        generalize hg5 : W.heap.size = g5 at k0 k1 k2 HC HGS
        have HG5 := hid hg5
        clear hg5 HGS
        go_wp2_with fail
        go_ret
        exact ⟨rfl, p.r, (RG.start (HH.out.on HB.out)).pre HB.out⟩
      · have hz := give_y hq hf (by omega)
        rw [if_pos hz, hz]
        have hok := (En.ok_iff _).1 (h.ok.ok _ q1)
        have how := h.ok.own _ q1
        have o0 := hok.o0
        have hns : (d.freed q).m.ns = d.m.ns := by show (d.m.zero true q).ns = _; exact MS.zero_ns _ _ _
        have on : (d.at q.toNat).o.toNat < d.m.ns := by omega
        have eo : (d.at q.toNat).o = (((d.at q.toNat).o.toNat : Nat) : Int) := by omega
        have HL := hid (fun w (hw : RDB w p d) w' e => (RG.start hw).lay5 (w' := w') q.toNat q1 En.zero zero_ok (by show (0 : Int) < _; omega) e)
        have HRW := hid (fun w (hw : RDB w p d) => And.intro hw.c1 (And.intro (hw.row q.toNat q1) (fun j => hw.fz j)))
        have HD2 : Hid ({ d.lay q.toNat En.zero with m := (d.lay q.toNat En.zero).m.zero true q } = d.freed q) := hid rfl
        have HY : Hid (∀ w p', RDB w p' (d.freed q) → (d.freed q).there (d.at q.toNat).o = true ∧ (d.freed q).ent (d.at q.toNat).o = (d.freed q).at (d.at q.toNat).o.toNat ∧ ((d.freed q).at (d.at q.toNat).o.toNat).Ok ∧ ((d.freed q).at (d.at q.toNat).o.toNat).o < ((d.freed q).m.ns : Int)) := hid (fun w p' hw => by
          have ht : (d.freed q).there (d.at q.toNat).o = true := by
            refine decide_eq_true ⟨o0, ?_⟩
            rw [hns]
            exact how
          exact ⟨ht, ent_at ht, (En.ok_iff _).1 (hw.ok.ok _ (by rw [hns]; exact on)), hw.ok.own _ (by rw [hns]; exact on)⟩)
        have HON : Hid ((d.at q.toNat).o.toNat < (d.freed q).m.ns) := hid (by rw [hns]; exact on)
        unfold DS.given
        rw [ent_at hq] at hf hh ⊢
        generalize d.freed q = d2 at *
        generalize q.toNat = k at *
        subst eq
        generalize d.lay k En.zero = d1 at *
        generalize hXX : d.at k = X at *
        obtain ⟨xt, xo, xr, xs, xx⟩ := X
        simp only at hf hh HY HON eo how o0 on ⊢
        generalize xo.toNat = j at *
        subst eo
        have hf' : (xt == 0) = false := by simpa using hf
        have HNS := hid hns
        clear h hq hz HX hok hns hXX
        have o2 : (j : Int) < (d.m.ns : Int) := by omega
        generalize hn : d.m.ns = n at *
        have HN := hid hn
        clear hn
        obtain ⟨pg, pe, pc, pr⟩ := p
        simp only [ptr, En.cs] at *
        by_cases h1 : xt = 1
        · subst h1
          rw [if_neg (by omega)]
          have hr : xr ≤ 0 := by omega
          go_enter Tryz.func127, Tryz.ntmps127
          go_upto_region 4 with (first | (refine wpList_load_mid rfl 144 _ rfl pe (k * 5) (by go_simp) _ _ HR.out underR rfl (by rw [sizeR]; rfl) ?_) | (refine wpList_store_st rfl 144 _ _ rfl W.heap.size [.int .i64 1, .int .i64 (j : Int), .int .i64 xr, .int .i64 xs, .bool xx] rfl rfl (Cel.new W 144 En.zero.cs) sizeR rfl rfl ?_; intro w2 hc hb hs; have HC := hid hc; have HB := hid (new_below (Below.refl _ W) hb); clear hc hb hs))
          have k0 := HC.out.cell 0
          have k1 := HC.out.cell 1
          have k2 := HC.out.cell 2
          simp only [tqG, tqH] at k0 k1 k2
          have HGS : Hid (W.heap.size = W.heap.size) := hid rfl
          generalize hg5 : W.heap.size = g5 at k0 k1 k2 HC HGS
          have HG5 := hid hg5
          clear hg5 HGS
          have HH2 := hid (HH.out.on HB.out)
          clear c1
          obtain ⟨c1, ⟨e0, e1, e2, e3, e4⟩, HFZ⟩ := HRW.out _ HH2.out
          have f0 := HFZ (k * 5)
          have f1 := HFZ (k * 5 + 1)
          have f2 := HFZ (k * 5 + 2)
          have f3 := HFZ (k * 5 + 3)
          have f4 := HFZ (k * 5 + 4)
          have HL2 := hid (HL.out _ HH2.out)
          clear HFZ HL HRW
          go_upto_region 9 with fail
          generalize hX9 : World.setCell _ _ _ = x9
          have HG9 := hid (HL2.out _ hX9)
          clear hX9 c1 e0 e1 e2 e3 e4 f0 f1 f2 f3 f4 HL2
          have HD := hid (HG9.out.on (Below.refl _ _).drew)
          refine wp_region_held_drew (S := fun w => w.cell? ⟨pg, 0, none⟩ = some (.pointer (some ⟨pr.g, 0, none⟩))) (by kernel_rfl) (HD.out.s0 rfl) (fun hHeld => ?_)
          refine tk 0 (some 43) (.pointer (some ⟨pg, 0, none⟩)) ?_
          simp only [Act.put, tqA, tqZ, tqS]
          refine tk 1 (some 44) (.pointer (some ⟨pg, 0, none⟩)) ?_
          simp only [Act.put, tqA, tqZ, tqS]
          refine tk 2 (some 45) (.pointer (some ⟨pg, 0, none⟩)) ?_
          simp only [Act.put, tqA, tqZ, tqS]
          refine tk 3 (some 46) (.pointer (some ⟨pr.g, 0, none⟩)) ?_ (hy := Or.inl ⟨by rfl, by intro w hSw; have hc := hSw; go_simp⟩)
          simp only [Act.put, tqA, tqZ, tqS]
          refine tk 4 (some 47) (.int .i64 (k : Int)) ?_
          simp only [Act.put, tqA, tqZ, tqS]
          refine wpAnyH_ready (rs := [5]) (by kernel_rfl) (by simp) (AllReadyH.cons rfl (fun KQ hK => ?_) AllReadyH.nil)
          go_simp
          refine (rframe_any _ (k : Int)).mono ?_
          rintro e w4 ⟨rfl, hb⟩
          have HE := hid (HD.out.on hb)
          clear hb
          go_wp2_with fail
          refine hK.out _ _ (HE.out.s0 rfl) (fun hHeld => ?_)
          clear hK KQ
          try simp only [Act.put, tqA, tqZ, tqS]
          refine wpAnyH_ready (rs := [6]) (by kernel_rfl) (by simp) (AllReadyH.cons rfl (fun KQ hK => ?_) AllReadyH.nil)
          go_simp
          refine (rzero_any _ _ _ HE.out.db.mem true (k : Int)).mono ?_
          rintro e w5 ⟨rfl, r1, hs⟩
          have HRG := hid hs.g
          have HZ := hid (HE.out.mem hs (MS.zero_ns _ _ _))
          clear hs
          go_wp2_with fail
          refine hK.out _ _ (HZ.out.s0 HRG.out) (fun hHeld => ?_)
          clear hK KQ
          try simp only [Act.put, tqA, tqZ, tqS]
          refine wpAnyH_done (by kernel_rfl) ?_ _
          go_upto_region 10 with fail
          rw [HD2.out] at HZ
          have HC5 := hid (HC.out.but HZ.out.but (fun hm => by have := HH.out.lt _ hm; have := HG5.out; omega))
          obtain ⟨ht, he, hyk, hyo⟩ := HY.out _ _ HZ.out.db
          have HI := hid (ris_any _ _ _ HZ.out.db (j : Int) 1)
          have HRW := hid (HZ.out.db.row j HON.out)
          have HCC := hid HZ.out.db.c1
          have HFF := hid (HZ.out.db.fz (j * 5 + 2))
          have HFL := hid (fun x v hx ho hv => HZ.out.fld j HON.out 2 (by decide) x v hx ho hv)
          rw [ht, he] at HI
          have HYK := hid hyk
          have HYO := hid hyo
          clear ht he hyk hyo HY HD HE HG9
          generalize hY : d2.at j = Y at *
          have HYY := hid hY
          clear hY
          obtain ⟨yt, yo, yr, ys, yx⟩ := Y
          simp only [Bool.true_and, ptr, En.cs] at *
          have k0 := HC5.out.cell 0
          have k1 := HC5.out.cell 1
          simp only [tqG, tqH] at k0 k1
          obtain ⟨e0, e1, e2, e3, e4⟩ := HRW.out
          have c1 := HCC.out
          rw [HNS.out] at c1
          go_upto_region 11 with (go_at_call 131; refine HI.out.mono ?_; rintro e w6 ⟨rfl, rfl⟩)
          refine wp_region_held_drew (S := fun w => w.cell? ⟨g5, 0, none⟩ = some (.int .i64 1) ∧ w.cell? ⟨g5, 1, none⟩ = some (.int .i64 (j : Int)) ∧ w.cell? ⟨pg, 1, none⟩ = some (.slice (some ⟨pe, 0, none⟩) n pc) ∧ w.cell? ⟨pe, j * 5 + 2, none⟩ = some (.int .i64 yr)) (by kernel_rfl) ⟨k0, k1, c1, e2⟩ (fun hHeld => ?_)
          refine tk 0 (some 54) (.pointer (some ⟨g5, 0, none⟩)) ?_
          simp only [Act.put, tqA, tqZ, tqS]
          refine tk 1 (some 55) (.int .i64 1) ?_ (hy := Or.inl ⟨by rfl, by intro w hSw; have hc := hSw.1; go_simp⟩)
          simp only [Act.put, tqA, tqZ, tqS]
          refine tk 2 (some 56) (.bool false) ?_
          simp only [Act.put, tqA, tqZ, tqS]
          refine tk 3 (some 57) (.bool false) ?_
          simp only [Act.put, tqA, tqZ, tqS]
          refine tk 4 (some 58) undef ?_ (hy := Or.inr ⟨by rfl, rfl⟩)
          simp only [Act.put, tqA, tqZ, tqS]
          refine tk 5 (some 59) (.bool false) ?_
          simp only [Act.put, tqA, tqZ, tqS]
          refine tk 6 (some 60) (.bool false) ?_
          simp only [Act.put, tqA, tqZ, tqS]
          refine tk 7 (some 61) undef ?_ (hy := Or.inr ⟨by rfl, rfl⟩)
          simp only [Act.put, tqA, tqZ, tqS]
          refine tk 8 (some 62) undef ?_ (hy := Or.inr ⟨by rfl, rfl⟩)
          simp only [Act.put, tqA, tqZ, tqS]
          refine tk 9 (some 63) undef ?_ (hy := Or.inr ⟨by rfl, rfl⟩)
          simp only [Act.put, tqA, tqZ, tqS]
          refine tk 10 (some 64) undef ?_ (hy := Or.inr ⟨by rfl, rfl⟩)
          simp only [Act.put, tqA, tqZ, tqS]
          refine tk 11 (some 65) undef ?_ (hy := Or.inr ⟨by rfl, rfl⟩)
          simp only [Act.put, tqA, tqZ, tqS]
          refine tk 12 (some 66) undef ?_ (hy := Or.inr ⟨by rfl, rfl⟩)
          simp only [Act.put, tqA, tqZ, tqS]
          refine tk 13 (some 67) undef ?_ (hy := Or.inr ⟨by rfl, rfl⟩)
          simp only [Act.put, tqA, tqZ, tqS]
          refine tk 14 (some 68) undef ?_ (hy := Or.inr ⟨by rfl, rfl⟩)
          simp only [Act.put, tqA, tqZ, tqS]
          refine tk 15 (some 69) undef ?_ (hy := Or.inr ⟨by rfl, rfl⟩)
          simp only [Act.put, tqA, tqZ, tqS]
          refine tk 16 (some 70) undef ?_ (hy := Or.inr ⟨by rfl, rfl⟩)
          simp only [Act.put, tqA, tqZ, tqS]
          refine tk 17 (some 71) (.bool false) ?_
          simp only [Act.put, tqA, tqZ, tqS]
          refine wpAnyH_done (by kernel_rfl) ?_ _
          go_wp2_with fail
          go_ret
          exact ⟨rfl, r1, (HZ.out.on (Below.refl _ _).drew).pre HB.out⟩
        · have h1' : (xt == 1) = false := by simpa using h1
          have h1n : (xt != 1) = true := by simpa using h1
          by_cases hyr : 0 < (d2.at j).r
          · rw [if_pos ⟨h1, hyr⟩]
            have HYR := hid hyr
            clear hyr
            go_enter Tryz.func127, Tryz.ntmps127
            go_upto_region 4 with (first | (refine wpList_load_mid rfl 144 _ rfl pe (k * 5) (by go_simp) _ _ HR.out underR rfl (by rw [sizeR]; rfl) ?_) | (refine wpList_store_st rfl 144 _ _ rfl W.heap.size [.int .i64 xt, .int .i64 (j : Int), .int .i64 xr, .int .i64 xs, .bool xx] rfl rfl (Cel.new W 144 En.zero.cs) sizeR rfl rfl ?_; intro w2 hc hb hs; have HC := hid hc; have HB := hid (new_below (Below.refl _ W) hb); clear hc hb hs))
            have k0 := HC.out.cell 0
            have k1 := HC.out.cell 1
            have k2 := HC.out.cell 2
            simp only [tqG, tqH] at k0 k1 k2
            have HGS : Hid (W.heap.size = W.heap.size) := hid rfl
            generalize hg5 : W.heap.size = g5 at k0 k1 k2 HC HGS
            have HG5 := hid hg5
            clear hg5 HGS
            have HH2 := hid (HH.out.on HB.out)
            clear c1
            obtain ⟨c1, ⟨e0, e1, e2, e3, e4⟩, HFZ⟩ := HRW.out _ HH2.out
            have f0 := HFZ (k * 5)
            have f1 := HFZ (k * 5 + 1)
            have f2 := HFZ (k * 5 + 2)
            have f3 := HFZ (k * 5 + 3)
            have f4 := HFZ (k * 5 + 4)
            have HL2 := hid (HL.out _ HH2.out)
            clear HFZ HL HRW
            go_upto_region 9 with fail
            generalize hX9 : World.setCell _ _ _ = x9
            have HG9 := hid (HL2.out _ hX9)
            clear hX9 c1 e0 e1 e2 e3 e4 f0 f1 f2 f3 f4 HL2
            have HD := hid (HG9.out.on (Below.refl _ _).drew)
            refine wp_region_held_drew (S := fun w => w.cell? ⟨pg, 0, none⟩ = some (.pointer (some ⟨pr.g, 0, none⟩))) (by kernel_rfl) (HD.out.s0 rfl) (fun hHeld => ?_)
            refine tk 0 (some 43) (.pointer (some ⟨pg, 0, none⟩)) ?_
            simp only [Act.put, tqA, tqZ, tqS]
            refine tk 1 (some 44) (.pointer (some ⟨pg, 0, none⟩)) ?_
            simp only [Act.put, tqA, tqZ, tqS]
            refine tk 2 (some 45) (.pointer (some ⟨pg, 0, none⟩)) ?_
            simp only [Act.put, tqA, tqZ, tqS]
            refine tk 3 (some 46) (.pointer (some ⟨pr.g, 0, none⟩)) ?_ (hy := Or.inl ⟨by rfl, by intro w hSw; have hc := hSw; go_simp⟩)
            simp only [Act.put, tqA, tqZ, tqS]
            refine tk 4 (some 47) (.int .i64 (k : Int)) ?_
            simp only [Act.put, tqA, tqZ, tqS]
            refine wpAnyH_ready (rs := [5]) (by kernel_rfl) (by simp) (AllReadyH.cons rfl (fun KQ hK => ?_) AllReadyH.nil)
            go_simp
            refine (rframe_any _ (k : Int)).mono ?_
            rintro e w4 ⟨rfl, hb⟩
            have HE := hid (HD.out.on hb)
            clear hb
            go_wp2_with fail
            refine hK.out _ _ (HE.out.s0 rfl) (fun hHeld => ?_)
            clear hK KQ
            try simp only [Act.put, tqA, tqZ, tqS]
            refine wpAnyH_ready (rs := [6]) (by kernel_rfl) (by simp) (AllReadyH.cons rfl (fun KQ hK => ?_) AllReadyH.nil)
            go_simp
            refine (rzero_any _ _ _ HE.out.db.mem true (k : Int)).mono ?_
            rintro e w5 ⟨rfl, r1, hs⟩
            have HRG := hid hs.g
            have HZ := hid (HE.out.mem hs (MS.zero_ns _ _ _))
            clear hs
            go_wp2_with fail
            refine hK.out _ _ (HZ.out.s0 HRG.out) (fun hHeld => ?_)
            clear hK KQ
            try simp only [Act.put, tqA, tqZ, tqS]
            refine wpAnyH_done (by kernel_rfl) ?_ _
            go_upto_region 10 with fail
            rw [HD2.out] at HZ
            have HC5 := hid (HC.out.but HZ.out.but (fun hm => by have := HH.out.lt _ hm; have := HG5.out; omega))
            obtain ⟨ht, he, hyk, hyo⟩ := HY.out _ _ HZ.out.db
            have HI := hid (ris_any _ _ _ HZ.out.db (j : Int) 1)
            have HRW := hid (HZ.out.db.row j HON.out)
            have HCC := hid HZ.out.db.c1
            have HFF := hid (HZ.out.db.fz (j * 5 + 2))
            have HFL := hid (fun x v hx ho hv => HZ.out.fld j HON.out 2 (by decide) x v hx ho hv)
            rw [ht, he] at HI
            have HYK := hid hyk
            have HYO := hid hyo
            clear ht he hyk hyo HY HD HE HG9
            generalize hY : d2.at j = Y at *
            have HYY := hid hY
            clear hY
            obtain ⟨yt, yo, yr, ys, yx⟩ := Y
            simp only [Bool.true_and, ptr, En.cs] at *
            have k0 := HC5.out.cell 0
            have k1 := HC5.out.cell 1
            simp only [tqG, tqH] at k0 k1
            obtain ⟨e0, e1, e2, e3, e4⟩ := HRW.out
            have c1 := HCC.out
            rw [HNS.out] at c1
            have hyr : 0 < yr := HYR.out
            have hyt : yt = 1 := by
              by_cases e : yt = 1
              · exact e
              · have := (HYK.out.ns e).1; simp only at this; omega
            subst hyt
            have wr : IntKind.wrap .i64 (yr - 1) = yr - 1 := wr64 _ (by omega) (by have := HYK.out.r1; simp only at this; omega)
            have wr' : wrap64 (yr - 1) = yr - 1 := by have := HYK.out.r1; simp only at this; unfold wrap64; omega
            go_upto_region 11 with (go_at_call 131; refine HI.out.mono ?_; rintro e w6 ⟨rfl, rfl⟩)
            refine wp_region_held_drew (S := fun w => w.cell? ⟨g5, 0, none⟩ = some (.int .i64 xt) ∧ w.cell? ⟨g5, 1, none⟩ = some (.int .i64 (j : Int)) ∧ w.cell? ⟨pg, 1, none⟩ = some (.slice (some ⟨pe, 0, none⟩) n pc) ∧ w.cell? ⟨pe, j * 5 + 2, none⟩ = some (.int .i64 yr)) (by kernel_rfl) ⟨k0, k1, c1, e2⟩ (fun hHeld => ?_)
            refine tk 0 (some 54) (.pointer (some ⟨g5, 0, none⟩)) ?_
            simp only [Act.put, tqA, tqZ, tqS]
            refine tk 1 (some 55) (.int .i64 xt) ?_ (hy := Or.inl ⟨by rfl, by intro w hSw; have hc := hSw.1; go_simp⟩)
            simp only [Act.put, tqA, tqZ, tqS]
            refine tk 2 (some 56) (.bool true) ?_
            simp only [Act.put, tqA, tqZ, tqS]
            refine tk 3 (some 57) (.bool true) ?_
            simp only [Act.put, tqA, tqZ, tqS]
            refine tk 4 (some 58) (.bool true) ?_
            simp only [Act.put, tqA, tqZ, tqS]
            refine tk 5 (some 59) (.bool true) ?_
            simp only [Act.put, tqA, tqZ, tqS]
            refine tk 6 (some 60) (.bool true) ?_
            simp only [Act.put, tqA, tqZ, tqS]
            refine tk 7 (some 61) (.pointer (some ⟨pg, 0, none⟩)) ?_
            simp only [Act.put, tqA, tqZ, tqS]
            refine tk 8 (some 62) (.pointer (some ⟨pg, 0, none⟩)) ?_
            simp only [Act.put, tqA, tqZ, tqS]
            refine tk 9 (some 63) (.pointer (some ⟨pg, 1, none⟩)) ?_
            simp only [Act.put, tqA, tqZ, tqS]
            refine tk 10 (some 64) (.slice (some ⟨pe, 0, none⟩) n pc) ?_ (hy := Or.inl ⟨by rfl, by intro w hSw; have hc := hSw.2.2.1; go_simp⟩)
            simp only [Act.put, tqA, tqZ, tqS]
            refine tk 11 (some 65) (.pointer (some ⟨g5, 1, none⟩)) ?_
            simp only [Act.put, tqA, tqZ, tqS]
            refine tk 12 (some 66) (.int .i64 (j : Int)) ?_ (hy := Or.inl ⟨by rfl, by intro w hSw; have hc := hSw.2.1; go_simp⟩)
            simp only [Act.put, tqA, tqZ, tqS]
            refine tk 13 (some 67) (.pointer (some ⟨pe, j * 5, none⟩)) ?_
            simp only [Act.put, tqA, tqZ, tqS]
            refine tk 14 (some 68) (.pointer (some ⟨pe, j * 5 + 2, none⟩)) ?_
            simp only [Act.put, tqA, tqZ, tqS]
            refine tk 15 (some 69) (.int .i64 yr) ?_ (hy := Or.inl ⟨by rfl, by intro w hSw; have hc := hSw.2.2.2; go_simp⟩)
            simp only [Act.put, tqA, tqZ, tqS]
            refine tk 16 (some 70) (.bool true) ?_
            simp only [Act.put, tqA, tqZ, tqS]
            refine tk 17 (some 71) (.bool true) ?_
            simp only [Act.put, tqA, tqZ, tqS]
            refine wpAnyH_done (by kernel_rfl) ?_ _
            go_upto_region 12 with fail
            have HZ2 := hid ((HZ.out.on (Below.refl _ _).drew).on (Below.refl _ _).drew)
            have hok2 : En.ok ⟨1, yo, yr + -1, ys, yx⟩ = true := by
              have h9 := HYK.out
              exact En.okR (x := ⟨1, yo, yr, ys, yx⟩) ((En.ok_iff _).2 h9) rfl _ (by omega) (by have := h9.r1; simp only at this; omega)
            have HQ := hid (HZ2.out.fld j HON.out 2 (by decide) ⟨1, yo, yr + -1, ys, yx⟩ (.int .i64 (yr - 1)) hok2 HYO.out (by rw [HYY.out, Int.sub_eq_add_neg]; rfl))
            have hc9 := HQ.out.db.c1
            rw [show (d2.lay j ⟨1, yo, yr + -1, ys, yx⟩).m.ns = n from HNS.out] at hc9
            have hne : g5 ≠ pe := fun e => by have := HH.out.lt pe (by simp [Rp.all]); have := HG5.out; omega
            have hk9 := (((HC5.out.on (Below.refl _ _).drew).on (Below.refl _ _).drew).but (G := [pe]) (.setCell _ pe (j * 5 + 2) (.int .i64 (yr - 1)) (by simp)) (by simpa using hne)).cell 1
            simp only [tqG, tqH] at hk9
            have HSS := hid (And.intro hk9 hc9)
            have f2 := HFF.out
            clear hk9 hc9 hne hok2
            refine wp_region_held_drew (S := fun w => w.cell? ⟨g5, 1, none⟩ = some (.int .i64 (j : Int)) ∧ w.cell? ⟨pg, 1, none⟩ = some (.slice (some ⟨pe, 0, none⟩) n pc)) (by kernel_rfl) ⟨k1, c1⟩ (fun hHeld => ?_)
            refine tk 0 (some 72) (.pointer (some ⟨pg, 0, none⟩)) ?_
            simp only [Act.put, tqA, tqZ, tqS]
            refine tk 1 (some 73) (.pointer (some ⟨pg, 0, none⟩)) ?_
            simp only [Act.put, tqA, tqZ, tqS]
            refine tk 2 (some 74) (.pointer (some ⟨pg, 1, none⟩)) ?_
            simp only [Act.put, tqA, tqZ, tqS]
            refine tk 3 (some 75) (.slice (some ⟨pe, 0, none⟩) n pc) ?_ (hy := Or.inl ⟨by rfl, by intro w hSw; have hc := hSw.2; go_simp⟩)
            simp only [Act.put, tqA, tqZ, tqS]
            refine tk 4 (some 76) (.pointer (some ⟨g5, 1, none⟩)) ?_
            simp only [Act.put, tqA, tqZ, tqS]
            refine tk 5 (some 77) (.int .i64 (j : Int)) ?_ (hy := Or.inl ⟨by rfl, by intro w hSw; have hc := hSw.1; go_simp⟩)
            simp only [Act.put, tqA, tqZ, tqS]
            refine tk 6 (some 78) (.pointer (some ⟨pe, j * 5, none⟩)) ?_
            simp only [Act.put, tqA, tqZ, tqS]
            refine tk 7 (some 79) (.pointer (some ⟨pe, j * 5 + 2, none⟩)) ?_
            simp only [Act.put, tqA, tqZ, tqS]
            refine wpAnyH_ready (rs := [8]) (by kernel_rfl) (by simp) (AllReadyH.cons rfl (fun KQ hK => ?_) AllReadyH.nil)
            go_simp
            refine hK.out _ _ ⟨k1, c1⟩ (fun hHeld => ?_)
            clear hK KQ
            try simp only [Act.put, tqA, tqZ, tqS]
            refine tk 9 (some 81) (.int .i64 (yr - 1)) ?_
            simp only [Act.put, tqA, tqZ, tqS]
            refine tk 10 (some 82) (.pointer (some ⟨pe, j * 5, none⟩)) ?_
            simp only [Act.put, tqA, tqZ, tqS]
            refine tk 11 (some 83) (.pointer (some ⟨pe, j * 5 + 2, none⟩)) ?_
            simp only [Act.put, tqA, tqZ, tqS]
            refine wpAnyH_ready (rs := [12]) (by kernel_rfl) (by simp) (AllReadyH.cons rfl (fun KQ hK => ?_) AllReadyH.nil)
            go_simp
            refine hK.out _ _ HSS.out (fun hHeld => ?_)
            clear hK KQ
            try simp only [Act.put]
            refine wpAnyH_done (by kernel_rfl) ?_ _
            go_wp2_with fail
            go_ret
            refine ⟨rfl, r1, RG.pre HB.out ?_⟩
            unfold DS.cnt
            rw [HYY.out]
            exact HQ.out
          · rw [if_neg (by omega)]
            have HYR := hid hyr
            clear hyr
            go_enter Tryz.func127, Tryz.ntmps127
            go_upto_region 4 with (first | (refine wpList_load_mid rfl 144 _ rfl pe (k * 5) (by go_simp) _ _ HR.out underR rfl (by rw [sizeR]; rfl) ?_) | (refine wpList_store_st rfl 144 _ _ rfl W.heap.size [.int .i64 xt, .int .i64 (j : Int), .int .i64 xr, .int .i64 xs, .bool xx] rfl rfl (Cel.new W 144 En.zero.cs) sizeR rfl rfl ?_; intro w2 hc hb hs; have HC := hid hc; have HB := hid (new_below (Below.refl _ W) hb); clear hc hb hs))
            have k0 := HC.out.cell 0
            have k1 := HC.out.cell 1
            have k2 := HC.out.cell 2
            simp only [tqG, tqH] at k0 k1 k2
            have HGS : Hid (W.heap.size = W.heap.size) := hid rfl
            generalize hg5 : W.heap.size = g5 at k0 k1 k2 HC HGS
            have HG5 := hid hg5
            clear hg5 HGS
            have HH2 := hid (HH.out.on HB.out)
            clear c1
            obtain ⟨c1, ⟨e0, e1, e2, e3, e4⟩, HFZ⟩ := HRW.out _ HH2.out
            have f0 := HFZ (k * 5)
            have f1 := HFZ (k * 5 + 1)
            have f2 := HFZ (k * 5 + 2)
            have f3 := HFZ (k * 5 + 3)
            have f4 := HFZ (k * 5 + 4)
            have HL2 := hid (HL.out _ HH2.out)
            clear HFZ HL HRW
            go_upto_region 9 with fail
            generalize hX9 : World.setCell _ _ _ = x9
            have HG9 := hid (HL2.out _ hX9)
            clear hX9 c1 e0 e1 e2 e3 e4 f0 f1 f2 f3 f4 HL2
            have HD := hid (HG9.out.on (Below.refl _ _).drew)
            refine wp_region_held_drew (S := fun w => w.cell? ⟨pg, 0, none⟩ = some (.pointer (some ⟨pr.g, 0, none⟩))) (by kernel_rfl) (HD.out.s0 rfl) (fun hHeld => ?_)
            refine tk 0 (some 43) (.pointer (some ⟨pg, 0, none⟩)) ?_
            simp only [Act.put, tqA, tqZ, tqS]
            refine tk 1 (some 44) (.pointer (some ⟨pg, 0, none⟩)) ?_
            simp only [Act.put, tqA, tqZ, tqS]
            refine tk 2 (some 45) (.pointer (some ⟨pg, 0, none⟩)) ?_
            simp only [Act.put, tqA, tqZ, tqS]
            refine tk 3 (some 46) (.pointer (some ⟨pr.g, 0, none⟩)) ?_ (hy := Or.inl ⟨by rfl, by intro w hSw; have hc := hSw; go_simp⟩)
            simp only [Act.put, tqA, tqZ, tqS]
            refine tk 4 (some 47) (.int .i64 (k : Int)) ?_
            simp only [Act.put, tqA, tqZ, tqS]
            refine wpAnyH_ready (rs := [5]) (by kernel_rfl) (by simp) (AllReadyH.cons rfl (fun KQ hK => ?_) AllReadyH.nil)
            go_simp
            refine (rframe_any _ (k : Int)).mono ?_
            rintro e w4 ⟨rfl, hb⟩
            have HE := hid (HD.out.on hb)
            clear hb
            go_wp2_with fail
            refine hK.out _ _ (HE.out.s0 rfl) (fun hHeld => ?_)
            clear hK KQ
            try simp only [Act.put, tqA, tqZ, tqS]
            refine wpAnyH_ready (rs := [6]) (by kernel_rfl) (by simp) (AllReadyH.cons rfl (fun KQ hK => ?_) AllReadyH.nil)
            go_simp
            refine (rzero_any _ _ _ HE.out.db.mem true (k : Int)).mono ?_
            rintro e w5 ⟨rfl, r1, hs⟩
            have HRG := hid hs.g
            have HZ := hid (HE.out.mem hs (MS.zero_ns _ _ _))
            clear hs
            go_wp2_with fail
            refine hK.out _ _ (HZ.out.s0 HRG.out) (fun hHeld => ?_)
            clear hK KQ
            try simp only [Act.put, tqA, tqZ, tqS]
            refine wpAnyH_done (by kernel_rfl) ?_ _
            go_upto_region 10 with fail
            rw [HD2.out] at HZ
            have HC5 := hid (HC.out.but HZ.out.but (fun hm => by have := HH.out.lt _ hm; have := HG5.out; omega))
            obtain ⟨ht, he, hyk, hyo⟩ := HY.out _ _ HZ.out.db
            have HI := hid (ris_any _ _ _ HZ.out.db (j : Int) 1)
            have HRW := hid (HZ.out.db.row j HON.out)
            have HCC := hid HZ.out.db.c1
            have HFF := hid (HZ.out.db.fz (j * 5 + 2))
            have HFL := hid (fun x v hx ho hv => HZ.out.fld j HON.out 2 (by decide) x v hx ho hv)
            rw [ht, he] at HI
            have HYK := hid hyk
            have HYO := hid hyo
            clear ht he hyk hyo HY HD HE HG9
            generalize hY : d2.at j = Y at *
            have HYY := hid hY
            clear hY
            obtain ⟨yt, yo, yr, ys, yx⟩ := Y
            simp only [Bool.true_and, ptr, En.cs] at *
            have k0 := HC5.out.cell 0
            have k1 := HC5.out.cell 1
            simp only [tqG, tqH] at k0 k1
            obtain ⟨e0, e1, e2, e3, e4⟩ := HRW.out
            have c1 := HCC.out
            rw [HNS.out] at c1
            have hyr : yr ≤ 0 := HYR.out
            by_cases hyt : yt = 1
            · subst hyt
              go_upto_region 11 with (go_at_call 131; refine HI.out.mono ?_; rintro e w6 ⟨rfl, rfl⟩)
              refine wp_region_held_drew (S := fun w => w.cell? ⟨g5, 0, none⟩ = some (.int .i64 xt) ∧ w.cell? ⟨g5, 1, none⟩ = some (.int .i64 (j : Int)) ∧ w.cell? ⟨pg, 1, none⟩ = some (.slice (some ⟨pe, 0, none⟩) n pc) ∧ w.cell? ⟨pe, j * 5 + 2, none⟩ = some (.int .i64 yr)) (by kernel_rfl) ⟨k0, k1, c1, e2⟩ (fun hHeld => ?_)
              refine tk 0 (some 54) (.pointer (some ⟨g5, 0, none⟩)) ?_
              simp only [Act.put, tqA, tqZ, tqS]
              refine tk 1 (some 55) (.int .i64 xt) ?_ (hy := Or.inl ⟨by rfl, by intro w hSw; have hc := hSw.1; go_simp⟩)
              simp only [Act.put, tqA, tqZ, tqS]
              refine tk 2 (some 56) (.bool true) ?_
              simp only [Act.put, tqA, tqZ, tqS]
              refine tk 3 (some 57) (.bool true) ?_
              simp only [Act.put, tqA, tqZ, tqS]
              refine tk 4 (some 58) (.bool true) ?_
              simp only [Act.put, tqA, tqZ, tqS]
              refine tk 5 (some 59) (.bool true) ?_
              simp only [Act.put, tqA, tqZ, tqS]
              refine tk 6 (some 60) (.bool true) ?_
              simp only [Act.put, tqA, tqZ, tqS]
              refine tk 7 (some 61) (.pointer (some ⟨pg, 0, none⟩)) ?_
              simp only [Act.put, tqA, tqZ, tqS]
              refine tk 8 (some 62) (.pointer (some ⟨pg, 0, none⟩)) ?_
              simp only [Act.put, tqA, tqZ, tqS]
              refine tk 9 (some 63) (.pointer (some ⟨pg, 1, none⟩)) ?_
              simp only [Act.put, tqA, tqZ, tqS]
              refine tk 10 (some 64) (.slice (some ⟨pe, 0, none⟩) n pc) ?_ (hy := Or.inl ⟨by rfl, by intro w hSw; have hc := hSw.2.2.1; go_simp⟩)
              simp only [Act.put, tqA, tqZ, tqS]
              refine tk 11 (some 65) (.pointer (some ⟨g5, 1, none⟩)) ?_
              simp only [Act.put, tqA, tqZ, tqS]
              refine tk 12 (some 66) (.int .i64 (j : Int)) ?_ (hy := Or.inl ⟨by rfl, by intro w hSw; have hc := hSw.2.1; go_simp⟩)
              simp only [Act.put, tqA, tqZ, tqS]
              refine tk 13 (some 67) (.pointer (some ⟨pe, j * 5, none⟩)) ?_
              simp only [Act.put, tqA, tqZ, tqS]
              refine tk 14 (some 68) (.pointer (some ⟨pe, j * 5 + 2, none⟩)) ?_
              simp only [Act.put, tqA, tqZ, tqS]
              refine tk 15 (some 69) (.int .i64 yr) ?_ (hy := Or.inl ⟨by rfl, by intro w hSw; have hc := hSw.2.2.2; go_simp⟩)
              simp only [Act.put, tqA, tqZ, tqS]
              refine tk 16 (some 70) (.bool false) ?_
              simp only [Act.put, tqA, tqZ, tqS]
              refine tk 17 (some 71) (.bool false) ?_
              simp only [Act.put, tqA, tqZ, tqS]
              refine wpAnyH_done (by kernel_rfl) ?_ _
              go_wp2_with fail
              go_ret
              exact ⟨rfl, r1, (HZ.out.on (Below.refl _ _).drew).pre HB.out⟩
            · have hyt' : (yt == 1) = false := by simpa using hyt
              go_upto_region 11 with (go_at_call 131; refine HI.out.mono ?_; rintro e w6 ⟨rfl, rfl⟩)
              refine wp_region_held_drew (S := fun w => w.cell? ⟨g5, 0, none⟩ = some (.int .i64 xt) ∧ w.cell? ⟨g5, 1, none⟩ = some (.int .i64 (j : Int)) ∧ w.cell? ⟨pg, 1, none⟩ = some (.slice (some ⟨pe, 0, none⟩) n pc) ∧ w.cell? ⟨pe, j * 5 + 2, none⟩ = some (.int .i64 yr)) (by kernel_rfl) ⟨k0, k1, c1, e2⟩ (fun hHeld => ?_)
              refine tk 0 (some 54) (.pointer (some ⟨g5, 0, none⟩)) ?_
              simp only [Act.put, tqA, tqZ, tqS]
              refine tk 1 (some 55) (.int .i64 xt) ?_ (hy := Or.inl ⟨by rfl, by intro w hSw; have hc := hSw.1; go_simp⟩)
              simp only [Act.put, tqA, tqZ, tqS]
              refine tk 2 (some 56) (.bool true) ?_
              simp only [Act.put, tqA, tqZ, tqS]
              refine tk 3 (some 57) (.bool true) ?_
              simp only [Act.put, tqA, tqZ, tqS]
              refine tk 4 (some 58) (.bool false) ?_
              simp only [Act.put, tqA, tqZ, tqS]
              refine tk 5 (some 59) (.bool false) ?_
              simp only [Act.put, tqA, tqZ, tqS]
              refine tk 6 (some 60) (.bool false) ?_
              simp only [Act.put, tqA, tqZ, tqS]
              refine tk 7 (some 61) undef ?_ (hy := Or.inr ⟨by rfl, rfl⟩)
              simp only [Act.put, tqA, tqZ, tqS]
              refine tk 8 (some 62) undef ?_ (hy := Or.inr ⟨by rfl, rfl⟩)
              simp only [Act.put, tqA, tqZ, tqS]
              refine tk 9 (some 63) undef ?_ (hy := Or.inr ⟨by rfl, rfl⟩)
              simp only [Act.put, tqA, tqZ, tqS]
              refine tk 10 (some 64) undef ?_ (hy := Or.inr ⟨by rfl, rfl⟩)
              simp only [Act.put, tqA, tqZ, tqS]
              refine tk 11 (some 65) undef ?_ (hy := Or.inr ⟨by rfl, rfl⟩)
              simp only [Act.put, tqA, tqZ, tqS]
              refine tk 12 (some 66) undef ?_ (hy := Or.inr ⟨by rfl, rfl⟩)
              simp only [Act.put, tqA, tqZ, tqS]
              refine tk 13 (some 67) undef ?_ (hy := Or.inr ⟨by rfl, rfl⟩)
              simp only [Act.put, tqA, tqZ, tqS]
              refine tk 14 (some 68) undef ?_ (hy := Or.inr ⟨by rfl, rfl⟩)
              simp only [Act.put, tqA, tqZ, tqS]
              refine tk 15 (some 69) undef ?_ (hy := Or.inr ⟨by rfl, rfl⟩)
              simp only [Act.put, tqA, tqZ, tqS]
              refine tk 16 (some 70) undef ?_ (hy := Or.inr ⟨by rfl, rfl⟩)
              simp only [Act.put, tqA, tqZ, tqS]
              refine tk 17 (some 71) (.bool false) ?_
              simp only [Act.put, tqA, tqZ, tqS]
              refine wpAnyH_done (by kernel_rfl) ?_ _
              go_wp2_with fail
              go_ret
              exact ⟨rfl, r1, (HZ.out.on (Below.refl _ _).drew).pre HB.out⟩
  · have hq' : d.there q = false := by simpa using hq
    rw [if_neg (by rw [give_no hq']; decide), give_no hq']
    have c1 := h.c1
    have HG := hid (RG.start h)
    rcases there_cases hq' with hc | ⟨h0, hc⟩
    · clear h hq hq'
      generalize d.m.ns = n at c1 
      simp only [ptr] at *
      go_enter Tryz.func127, Tryz.ntmps127
      go_wp2_with fail
      go_ret
      exact ⟨rfl, p.r, HG.out⟩
    · clear h hq hq'
      generalize d.m.ns = n at c1 hc
      simp only [ptr] at *
      go_enter Tryz.func127, Tryz.ntmps127
      go_wp2_with fail
      go_ret
      exact ⟨rfl, p.r, HG.out⟩
end Go.Proofs.YtdfnbcbnmiohnaaGreatDoor
