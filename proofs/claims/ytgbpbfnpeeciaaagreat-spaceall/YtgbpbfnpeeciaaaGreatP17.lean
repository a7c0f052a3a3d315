import Derived.Test.YtgbpbfnpeeciaaaGreatP16
import Derived.Test.YtgbpbfnpeeciaaaGreatP01
namespace Go.Proofs.YtgbpbfnpeeciaaaGreat
open Go.RowKit
set_option maxHeartbeats 8000000
set_option maxRecDepth 100000
theorem RG.pre {W w2 w : World} {p q : Rp} {d : DS} (hb : Below W.heap.size W w2) (k : RG w2 w p q d) : RG W w p q d :=
  ⟨k.db, (ButL.of hb).trans k.but, k.g, fun j hj => (k.sub j hj).imp id (fun e => Nat.le_trans hb.size e)⟩
theorem RG.s0 {W w : World} {pg pe pc : Nat} {pr r : Rf} {d : DS} (h : RG W w ⟨pg, pe, pc, pr⟩ ⟨pg, pe, pc, r⟩ d) (hr : r.g = pr.g) : w.cell? ⟨pg, 0, none⟩ = some (.pointer (some ⟨pr.g, 0, none⟩)) := by
  have := h.db.c0
  rw [hr] at this
  exact this
theorem turn_no {d : DS} {q t : Int} (h : d.there q = false) : d.turnE q t = 5 := by simp [DS.turnE, DS.entE, h]
theorem turn_f {d : DS} {q t : Int} (h : d.there q = true) (h1 : trn (d.ent q).t = false) : d.turnE q t = 124 := by simp [DS.turnE, DS.entE, h, h1]
theorem turn_t {d : DS} {q t : Int} (h : d.there q = true) (h1 : trn (d.ent q).t = true) (h2 : trn t = false) : d.turnE q t = 124 := by simp [DS.turnE, DS.entE, h, h1, h2]
theorem turn_y {d : DS} {q t : Int} (h : d.there q = true) (h1 : trn (d.ent q).t = true) (h2 : trn t = true) : d.turnE q t = 0 := by simp [DS.turnE, DS.entE, h, h1, h2]
theorem rturn_any (W : World) (p : Rp) (d : DS) (h : RDB W p d) (q t : Int) :
    Calls Tryz.prog 20 #[ptr p.g, .int .i64 q, .int .i64 t] W fun e W' => e = .returned (.int .i64 (d.turnE q t)) ∧ ∃ r', RG W W' p ⟨p.g, p.ge, p.cap, r'⟩ (d.turn q t) := by
  unfold DS.turn
  by_cases hq : d.there q = true
  · obtain ⟨q0, q1, eq⟩ := there_lt hq
    have c1 := h.c1
    have HG := hid (RG.start h)
    have HF := hid (fun w => rturns_any w (d.at q.toNat).t)
    have HT := hid (fun w => rturns_any w t)
    have T1 := hid trivial
    have q2 : q < (d.m.ns : Int) := by omega
    obtain ⟨r0, _, _, _, _⟩ := h.row q.toNat q1
    have f0 := h.fz (q.toNat * 5)
    by_cases hf : trn (d.ent q).t = true
    · by_cases ht : trn t = true
      · have hz := turn_y hq hf ht
        rw [if_pos hz, hz]
        have hok := h.ok.ok _ q1
        have how := h.ok.own _ q1
        have hk := (En.ok_iff _).1 hok
        rw [ent_at hq] at hf
        have hx : (enT t (d.at q.toNat).o).cs = (d.at q.toNat).cs.set 0 (.int .i64 t) := by
          have h1 := hk.ns
          have h2 := hk.en
          have h3 := (trn_iff _).1 hf
          generalize d.at q.toNat = X at *
          obtain ⟨xt, xo, xr, xs, xx⟩ := X
          simp only at h1 h2 h3
          obtain ⟨e1, e2⟩ := h1 (by omega)
          subst e1
          subst e2
          cases xx with
          | false => rfl
          | true => exact absurd (h2 rfl) (by omega)
        have t3 := (trn_iff _).1 ht
        have HL := hid (HG.out.fld q.toNat q1 0 (by decide) (enT t (d.at q.toNat).o) (.int .i64 t) (enT_ok (by omega) (by omega) hk.o0 hk.o1) how hx)
        rw [Nat.add_zero] at HL
        rw [hf] at HF
        rw [ht] at HT
        unfold DS.turned DS.wipe
        rw [ent_at hq]
        have HM : Hid ((d.lay q.toNat (enT t (d.at q.toNat).o)).m.ns = d.m.ns) := hid rfl
        generalize q.toNat = k at *
        subst eq
        clear h hq hf ht hz hok how hk hx HG t3
        generalize d.lay k (enT t (d.at k).o) = d1 at *
        generalize d.at k = D at *
        generalize d.m.ns = n at *
        obtain ⟨pg, pe, pc, pr⟩ := p
        simp only [ptr] at *
        go_enter Tryz.func20, Tryz.ntmps20
        go_upto_region 8 with (first | (revert T1; intro T1; go_at_call 67; refine (HF.out _).mono ?_; rintro e w1 ⟨rfl, rfl⟩; clear T1; have T2 := hid trivial) | (revert T2; intro T2; go_at_call 67; refine (HT.out _).mono ?_; rintro e w1 ⟨rfl, rfl⟩; clear T2))
        generalize W.setCell _ _ = x9 at *
        have HD := hid (HL.out.on (Below.refl _ _).drew)
        clear HL r0 c1 f0 HF HT
        refine wp_region_held_drew (S := fun w => w.cell? ⟨pg, 0, none⟩ = some (.pointer (some ⟨pr.g, 0, none⟩))) (by kernel_rfl) (HD.out.s0 rfl) (fun hHeld => ?_)
        refine tk 0 ⟨some 45, .move (.tmp 0), 45, "ref.go:148", #[], none⟩ (.pointer (some ⟨pg, 0, none⟩)) ?_
        simp only [Act.put, List.setIfInBounds_toArray, List.set_cons_zero, List.set_cons_succ]
        refine tk 1 ⟨some 46, .nilCheck (.tmp 45), 0, "ref.go:148", #[⟨0, .data⟩], none⟩ (.pointer (some ⟨pg, 0, none⟩)) ?_
        simp only [Act.put, List.setIfInBounds_toArray, List.set_cons_zero, List.set_cons_succ]
        refine tk 2 ⟨some 47, .fieldAddr 70 (.tmp 46) 0, 0, "ref.go:148", #[⟨1, .data⟩], none⟩ (.pointer (some ⟨pg, 0, none⟩)) ?_
        simp only [Act.put, List.setIfInBounds_toArray, List.set_cons_zero, List.set_cons_succ]
        refine tk 3 ⟨some 48, .load 40 (.tmp 47), 40, "ref.go:148", #[⟨2, .data⟩], none⟩ (.pointer (some ⟨pr.g, 0, none⟩)) ?_ (hy := Or.inl ⟨by rfl, by intro w hSw; have hc := hSw; go_simp⟩)
        simp only [Act.put, List.setIfInBounds_toArray, List.set_cons_zero, List.set_cons_succ]
        refine tk 4 ⟨some 49, .move (.tmp 1), 3, "ref.go:148", #[], none⟩ (.int .i64 (k : Int)) ?_
        simp only [Act.put, List.setIfInBounds_toArray, List.set_cons_zero, List.set_cons_succ]
        refine wpAnyH_ready (rs := [5]) (by kernel_rfl) (by simp) (AllReadyH.cons (o := ⟨some 50, .call { callee := .value (.func 58), args := #[.tmp 49], argTypes := #[3] }, 72, "ref.go:148", #[⟨4, .data⟩], none⟩) rfl (fun KQ hK => ?_) AllReadyH.nil)
        go_simp
        refine (rframe_any _ (k : Int)).mono ?_
        rintro e w4 ⟨rfl, hb⟩
        have HE := hid (HD.out.on hb)
        clear hb
        go_wp2_with fail
        refine hK.out _ _ (HE.out.s0 rfl) (fun hHeld => ?_)
        clear hK KQ
        try simp only [Act.put, List.setIfInBounds_toArray, List.set_cons_zero, List.set_cons_succ]
        refine wpAnyH_ready (rs := [6]) (by kernel_rfl) (by simp) (AllReadyH.cons (o := ⟨some 51, .call { callee := .value (.func 57), args := #[.tmp 48, .tmp 50], argTypes := #[40, 72] }, 3, "ref.go:148", #[⟨3, .data⟩, ⟨5, .data⟩, ⟨5, .chain⟩], none⟩) rfl (fun KQ hK => ?_) AllReadyH.nil)
        go_simp
        refine (rzero_any _ _ _ HE.out.db.mem true (k : Int)).mono ?_
        rintro e w5 ⟨rfl, r1, hs⟩
        have HRG := hid hs.g
        have HZ := hid (HE.out.mem hs (MS.zero_ns _ _ _))
        clear hs
        go_wp2_with fail
        refine hK.out _ _ (HZ.out.s0 HRG.out) (fun hHeld => ?_)
        clear hK KQ
        try simp only [Act.put, List.setIfInBounds_toArray, List.set_cons_zero, List.set_cons_succ]
        refine wpAnyH_done (by kernel_rfl) ?_ _
        go_wp2_with fail
        go_ret
        exact ⟨rfl, r1, HZ.out⟩
      · have ht' : trn t = false := by simpa using ht
        have hz := turn_t hq hf ht'
        rw [if_neg (by rw [hz]; decide), hz]
        rw [ent_at hq] at hf
        rw [hf] at HF
        rw [ht'] at HT
        generalize q.toNat = k at *
        subst eq
        clear h hq hf ht ht' hz
        generalize d.at k = D at *
        generalize d.m.ns = n at *
        simp only [ptr] at *
        go_enter Tryz.func20, Tryz.ntmps20
        go_wp2_with (first | (revert T1; intro T1; go_at_call 67; refine (HF.out _).mono ?_; rintro e w1 ⟨rfl, rfl⟩; clear T1; have T2 := hid trivial) | (revert T2; intro T2; go_at_call 67; refine (HT.out _).mono ?_; rintro e w1 ⟨rfl, rfl⟩; clear T2))
        go_ret
        exact ⟨rfl, p.r, HG.out⟩
    · have hf' : trn (d.ent q).t = false := by simpa using hf
      have hz := turn_f (t := t) hq hf'
      rw [if_neg (by rw [hz]; decide), hz]
      rw [ent_at hq] at hf'
      rw [hf'] at HF
      generalize q.toNat = k at *
      subst eq
      clear h hq hf hf' hz
      generalize d.at k = D at *
      generalize d.m.ns = n at *
      generalize trn t = tt at *
      simp only [ptr] at *
      go_enter Tryz.func20, Tryz.ntmps20
      go_wp2_with (first | (revert T1; intro T1; go_at_call 67; refine (HF.out _).mono ?_; rintro e w1 ⟨rfl, rfl⟩; clear T1; have T2 := hid trivial) | (revert T2; intro T2; go_at_call 67; refine (HT.out _).mono ?_; rintro e w1 ⟨rfl, rfl⟩; clear T2))
      go_ret
      exact ⟨rfl, p.r, HG.out⟩
  · have hq' : d.there q = false := by simpa using hq
    rw [if_neg (by rw [turn_no hq']; decide), turn_no hq']
    have c1 := h.c1
    have HG := hid (RG.start h)
    rcases there_cases hq' with hc | ⟨h0, hc⟩
    · clear h hq hq'
      generalize d.m.ns = n at c1 
      simp only [ptr] at *
      go_enter Tryz.func20, Tryz.ntmps20
      go_wp2_with fail
      go_ret
      exact ⟨rfl, p.r, HG.out⟩
    · clear h hq hq'
      generalize d.m.ns = n at c1 hc
      simp only [ptr] at *
      go_enter Tryz.func20, Tryz.ntmps20
      go_wp2_with fail
      go_ret
      exact ⟨rfl, p.r, HG.out⟩
theorem give_no {d : DS} {q : Int} (h : d.there q = false) : d.giveE q = 5 := by simp [DS.giveE, DS.entE, h]
theorem give_f {d : DS} {q : Int} (h : d.there q = true) (h1 : (d.ent q).t = 0) : d.giveE q = 121 := by simp [DS.giveE, DS.entE, h, h1]
theorem give_h {d : DS} {q : Int} (h : d.there q = true) (h1 : (d.ent q).t = 1) (h2 : 0 < (d.ent q).r) : d.giveE q = 123 := by simp [DS.giveE, DS.entE, h, h1, h2]
theorem give_y {d : DS} {q : Int} (h : d.there q = true) (h1 : (d.ent q).t ≠ 0) (h2 : (d.ent q).t ≠ 1 ∨ (d.ent q).r ≤ 0) : d.giveE q = 0 := by
  have : ¬ ((d.ent q).t = 1 ∧ 0 < (d.ent q).r) := by omega
  simp [DS.giveE, DS.entE, h, h1, this]
theorem rgive_any (W : World) (p : Rp) (d : DS) (h : RDB W p d) (q : Int) :
    Calls Tryz.prog 22 #[ptr p.g, .int .i64 q] W fun e W' => e = .returned (.int .i64 (d.giveE q)) ∧ ∃ r', RG W W' p ⟨p.g, p.ge, p.cap, r'⟩ (d.give q) := by
  unfold DS.give
  by_cases hq : d.there q = true
  · obtain ⟨q0, q1, eq⟩ := there_lt hq
    have q2 : q < (d.m.ns : Int) := by omega
    have HH := hid h
    have HR := hid (h.rng q.toNat q1)
    have c1 := h.c1
    have HX : Hid (d.ent q = d.at q.toNat) := hid (ent_at hq)
    by_cases hf : (d.ent q).t = 0
    · have hz := give_f hq hf
      rw [if_neg (by rw [hz]; decide), hz]
      rw [ent_at hq] at hf
      generalize q.toNat = k at *
      subst eq
      generalize d.at k = X at *
      obtain ⟨xt, xo, xr, xs, xx⟩ := X
      simp only at hf
      subst hf
      clear h hq hz HX
      generalize d.m.ns = n at *
      simp only [ptr, En.cs] at *
      go_enter Tryz.func22, Tryz.ntmps22
      go_upto_region 4 with (first | (refine wpList_load_mid rfl 122 _ rfl p.ge (k * 5) (by go_simp) _ _ HR.out underR rfl (by rw [sizeR]; rfl) ?_) | (refine wpList_store_st rfl 122 _ _ rfl W.heap.size [.int .i64 0, .int .i64 xo, .int .i64 xr, .int .i64 xs, .bool xx] rfl rfl (Cel.new W 122 En.zero.cs) sizeR rfl rfl ?_; intro w2 hc hb hs; have HC := hid hc; have HB := hid (new_below (Below.refl _ W) hb); clear hc hb hs))
      have k0 := HC.out.cell 0
      have k1 := HC.out.cell 1
      have k2 := HC.out.cell 2
      simp only [List.getElem?_cons_zero, List.getElem?_cons_succ] at k0 k1 k2
      have HGS : Hid (W.heap.size = W.heap.size) := hid rfl
      generalize hg5 : W.heap.size = g5 at k0 k1 k2 HC HGS
      have HG5 := hid hg5
      clear hg5 HGS
      go_wp2_with fail
      go_ret
      exact ⟨rfl, p.r, (RG.start (HH.out.on HB.out)).pre HB.out⟩
    · by_cases hh : (d.ent q).t = 1 ∧ 0 < (d.ent q).r
      · have hz := give_h hq hh.1 hh.2
        rw [if_neg (by rw [hz]; decide), hz]
        rw [ent_at hq] at hh
        generalize q.toNat = k at *
        subst eq
        generalize d.at k = X at *
        obtain ⟨xt, xo, xr, xs, xx⟩ := X
        simp only at hh
        obtain ⟨rfl, hh⟩ := hh
        clear h hq hz HX hf
        generalize d.m.ns = n at *
        simp only [ptr, En.cs] at *
        go_enter Tryz.func22, Tryz.ntmps22
        go_upto_region 4 with (first | (refine wpList_load_mid rfl 122 _ rfl p.ge (k * 5) (by go_simp) _ _ HR.out underR rfl (by rw [sizeR]; rfl) ?_) | (refine wpList_store_st rfl 122 _ _ rfl W.heap.size [.int .i64 1, .int .i64 xo, .int .i64 xr, .int .i64 xs, .bool xx] rfl rfl (Cel.new W 122 En.zero.cs) sizeR rfl rfl ?_; intro w2 hc hb hs; have HC := hid hc; have HB := hid (new_below (Below.refl _ W) hb); clear hc hb hs))
        have k0 := HC.out.cell 0
        have k1 := HC.out.cell 1
        have k2 := HC.out.cell 2
        simp only [List.getElem?_cons_zero, List.getElem?_cons_succ] at k0 k1 k2
        have HGS : Hid (W.heap.size = W.heap.size) := hid rfl
        generalize hg5 : W.heap.size = g5 at k0 k1 k2 HC HGS
        have HG5 := hid hg5
        clear hg5 HGS
        go_wp2_with fail
        go_ret
        exact ⟨rfl, p.r, (RG.start (HH.out.on HB.out)).pre HB.out⟩
      · have hz := give_y hq hf (by omega)
        rw [if_pos hz, hz]
        have hok := (En.ok_iff _).1 (h.ok.ok _ q1)
        have how := h.ok.own _ q1
        have o0 := hok.o0
        have hns : (d.freed q).m.ns = d.m.ns := by show (d.m.zero true q).ns = _; exact MS.zero_ns _ _ _
        have on : (d.at q.toNat).o.toNat < d.m.ns := by omega
        have eo : (d.at q.toNat).o = (((d.at q.toNat).o.toNat : Nat) : Int) := by omega
        have HL := hid (fun w (hw : RDB w p d) w' e => (RG.start hw).lay5 (w' := w') q.toNat q1 En.zero zero_ok (by show (0 : Int) < _; omega) e)
        have HRW := hid (fun w (hw : RDB w p d) => And.intro hw.c1 (And.intro (hw.row q.toNat q1) (fun j => hw.fz j)))
        have HD2 : Hid ({ d.lay q.toNat En.zero with m := (d.lay q.toNat En.zero).m.zero true q } = d.freed q) := hid rfl
        have HY : Hid (∀ w p', RDB w p' (d.freed q) → (d.freed q).there (d.at q.toNat).o = true ∧ (d.freed q).ent (d.at q.toNat).o = (d.freed q).at (d.at q.toNat).o.toNat ∧ ((d.freed q).at (d.at q.toNat).o.toNat).Ok ∧ ((d.freed q).at (d.at q.toNat).o.toNat).o < ((d.freed q).m.ns : Int)) := hid (fun w p' hw => by
          have ht : (d.freed q).there (d.at q.toNat).o = true := by
            refine decide_eq_true ⟨o0, ?_⟩
            rw [hns]
            exact how
          exact ⟨ht, ent_at ht, (En.ok_iff _).1 (hw.ok.ok _ (by rw [hns]; exact on)), hw.ok.own _ (by rw [hns]; exact on)⟩)
        have HON : Hid ((d.at q.toNat).o.toNat < (d.freed q).m.ns) := hid (by rw [hns]; exact on)
        unfold DS.given
        rw [ent_at hq] at hf hh ⊢
        generalize d.freed q = d2 at *
        generalize q.toNat = k at *
        subst eq
        generalize d.lay k En.zero = d1 at *
        generalize hXX : d.at k = X at *
        obtain ⟨xt, xo, xr, xs, xx⟩ := X
        simp only at hf hh HY HON eo how o0 on ⊢
        generalize xo.toNat = j at *
        subst eo
        have hf' : (xt == 0) = false := by simpa using hf
        have HNS := hid hns
        clear h hq hz HX hok hns hXX
        have o2 : (j : Int) < (d.m.ns : Int) := by omega
        generalize hn : d.m.ns = n at *
        have HN := hid hn
        clear hn
        obtain ⟨pg, pe, pc, pr⟩ := p
        simp only [ptr, En.cs] at *
        by_cases h1 : xt = 1
        · subst h1
          rw [if_neg (by omega)]
          have hr : xr ≤ 0 := by omega
          go_enter Tryz.func22, Tryz.ntmps22
          go_upto_region 4 with (first | (refine wpList_load_mid rfl 122 _ rfl pe (k * 5) (by go_simp) _ _ HR.out underR rfl (by rw [sizeR]; rfl) ?_) | (refine wpList_store_st rfl 122 _ _ rfl W.heap.size [.int .i64 1, .int .i64 (j : Int), .int .i64 xr, .int .i64 xs, .bool xx] rfl rfl (Cel.new W 122 En.zero.cs) sizeR rfl rfl ?_; intro w2 hc hb hs; have HC := hid hc; have HB := hid (new_below (Below.refl _ W) hb); clear hc hb hs))
          have k0 := HC.out.cell 0
          have k1 := HC.out.cell 1
          have k2 := HC.out.cell 2
          simp only [List.getElem?_cons_zero, List.getElem?_cons_succ] at k0 k1 k2
          have HGS : Hid (W.heap.size = W.heap.size) := hid rfl
          generalize hg5 : W.heap.size = g5 at k0 k1 k2 HC HGS
          have HG5 := hid hg5
          clear hg5 HGS
          have HH2 := hid (HH.out.on HB.out)
          clear c1
          obtain ⟨c1, ⟨e0, e1, e2, e3, e4⟩, HFZ⟩ := HRW.out _ HH2.out
          have f0 := HFZ (k * 5)
          have f1 := HFZ (k * 5 + 1)
          have f2 := HFZ (k * 5 + 2)
          have f3 := HFZ (k * 5 + 3)
          have f4 := HFZ (k * 5 + 4)
          have HL2 := hid (HL.out _ HH2.out)
          clear HFZ HL HRW
          go_upto_region 9 with fail
          generalize hX9 : World.setCell _ _ _ = x9
          have HG9 := hid (HL2.out _ hX9)
          clear hX9 c1 e0 e1 e2 e3 e4 f0 f1 f2 f3 f4 HL2
          have HD := hid (HG9.out.on (Below.refl _ _).drew)
          refine wp_region_held_drew (S := fun w => w.cell? ⟨pg, 0, none⟩ = some (.pointer (some ⟨pr.g, 0, none⟩))) (by kernel_rfl) (HD.out.s0 rfl) (fun hHeld => ?_)
          refine tk 0 ⟨some 43, .move (.tmp 0), 45, "ref.go:165", #[], none⟩ (.pointer (some ⟨pg, 0, none⟩)) ?_
          simp only [Act.put, List.setIfInBounds_toArray, List.set_cons_zero, List.set_cons_succ]
          refine tk 1 ⟨some 44, .nilCheck (.tmp 43), 0, "ref.go:165", #[⟨0, .data⟩], none⟩ (.pointer (some ⟨pg, 0, none⟩)) ?_
          simp only [Act.put, List.setIfInBounds_toArray, List.set_cons_zero, List.set_cons_succ]
          refine tk 2 ⟨some 45, .fieldAddr 70 (.tmp 44) 0, 0, "ref.go:165", #[⟨1, .data⟩], none⟩ (.pointer (some ⟨pg, 0, none⟩)) ?_
          simp only [Act.put, List.setIfInBounds_toArray, List.set_cons_zero, List.set_cons_succ]
          refine tk 3 ⟨some 46, .load 40 (.tmp 45), 40, "ref.go:165", #[⟨2, .data⟩], none⟩ (.pointer (some ⟨pr.g, 0, none⟩)) ?_ (hy := Or.inl ⟨by rfl, by intro w hSw; have hc := hSw; go_simp⟩)
          simp only [Act.put, List.setIfInBounds_toArray, List.set_cons_zero, List.set_cons_succ]
          refine tk 4 ⟨some 47, .move (.tmp 1), 3, "ref.go:165", #[], none⟩ (.int .i64 (k : Int)) ?_
          simp only [Act.put, List.setIfInBounds_toArray, List.set_cons_zero, List.set_cons_succ]
          refine wpAnyH_ready (rs := [5]) (by kernel_rfl) (by simp) (AllReadyH.cons (o := ⟨some 48, .call { callee := .value (.func 58), args := #[.tmp 47], argTypes := #[3] }, 72, "ref.go:165", #[⟨4, .data⟩], none⟩) rfl (fun KQ hK => ?_) AllReadyH.nil)
          go_simp
          refine (rframe_any _ (k : Int)).mono ?_
          rintro e w4 ⟨rfl, hb⟩
          have HE := hid (HD.out.on hb)
          clear hb
          go_wp2_with fail
          refine hK.out _ _ (HE.out.s0 rfl) (fun hHeld => ?_)
          clear hK KQ
          try simp only [Act.put, List.setIfInBounds_toArray, List.set_cons_zero, List.set_cons_succ]
          refine wpAnyH_ready (rs := [6]) (by kernel_rfl) (by simp) (AllReadyH.cons (o := ⟨some 49, .call { callee := .value (.func 57), args := #[.tmp 46, .tmp 48], argTypes := #[40, 72] }, 3, "ref.go:165", #[⟨3, .data⟩, ⟨5, .data⟩, ⟨5, .chain⟩], none⟩) rfl (fun KQ hK => ?_) AllReadyH.nil)
          go_simp
          refine (rzero_any _ _ _ HE.out.db.mem true (k : Int)).mono ?_
          rintro e w5 ⟨rfl, r1, hs⟩
          have HRG := hid hs.g
          have HZ := hid (HE.out.mem hs (MS.zero_ns _ _ _))
          clear hs
          go_wp2_with fail
          refine hK.out _ _ (HZ.out.s0 HRG.out) (fun hHeld => ?_)
          clear hK KQ
          try simp only [Act.put, List.setIfInBounds_toArray, List.set_cons_zero, List.set_cons_succ]
          refine wpAnyH_done (by kernel_rfl) ?_ _
          go_upto_region 10 with fail
          rw [HD2.out] at HZ
          have HC5 := hid (HC.out.but HZ.out.but (fun hm => by have := HH.out.lt _ hm; have := HG5.out; omega))
          obtain ⟨ht, he, hyk, hyo⟩ := HY.out _ _ HZ.out.db
          have HI := hid (ris_any _ _ _ HZ.out.db (j : Int) 1)
          have HRW := hid (HZ.out.db.row j HON.out)
          have HCC := hid HZ.out.db.c1
          have HFF := hid (HZ.out.db.fz (j * 5 + 2))
          have HFL := hid (fun x v hx ho hv => HZ.out.fld j HON.out 2 (by decide) x v hx ho hv)
          rw [ht, he] at HI
          have HYK := hid hyk
          have HYO := hid hyo
          clear ht he hyk hyo HY HD HE HG9
          generalize hY : d2.at j = Y at *
          have HYY := hid hY
          clear hY
          obtain ⟨yt, yo, yr, ys, yx⟩ := Y
          simp only [Bool.true_and, ptr, En.cs] at *
          have k0 := HC5.out.cell 0
          have k1 := HC5.out.cell 1
          simp only [List.getElem?_cons_zero, List.getElem?_cons_succ] at k0 k1
          obtain ⟨e0, e1, e2, e3, e4⟩ := HRW.out
          have c1 := HCC.out
          rw [HNS.out] at c1
          go_upto_region 11 with (go_at_call 66; refine HI.out.mono ?_; rintro e w6 ⟨rfl, rfl⟩)
          refine wp_region_held_drew (S := fun w => w.cell? ⟨g5, 0, none⟩ = some (.int .i64 1) ∧ w.cell? ⟨g5, 1, none⟩ = some (.int .i64 (j : Int)) ∧ w.cell? ⟨pg, 1, none⟩ = some (.slice (some ⟨pe, 0, none⟩) n pc) ∧ w.cell? ⟨pe, j * 5 + 2, none⟩ = some (.int .i64 yr)) (by kernel_rfl) ⟨k0, k1, c1, e2⟩ (fun hHeld => ?_)
          refine tk 0 ⟨some 54, .fieldAddr 122 (.tmp 5) 0, 0, "ref.go:167", #[], none⟩ (.pointer (some ⟨g5, 0, none⟩)) ?_
          simp only [Act.put, List.setIfInBounds_toArray, List.set_cons_zero, List.set_cons_succ]
          refine tk 1 ⟨some 55, .load 3 (.tmp 54), 3, "ref.go:167", #[⟨0, .data⟩], none⟩ (.int .i64 1) ?_ (hy := Or.inl ⟨by rfl, by intro w hSw; have hc := hSw.1; go_simp⟩)
          simp only [Act.put, List.setIfInBounds_toArray, List.set_cons_zero, List.set_cons_succ]
          refine tk 2 ⟨some 56, .binOp .neq 3 (.tmp 55) (.const (.int .i64 1)) 3, 4, "ref.go:167", #[⟨1, .data⟩], none⟩ (.bool false) ?_
          simp only [Act.put, List.setIfInBounds_toArray, List.set_cons_zero, List.set_cons_succ]
          refine tk 3 ⟨some 57, .move (.tmp 56), 4, "ref.go:167", #[⟨2, .data⟩], none⟩ (.bool false) ?_
          simp only [Act.put, List.setIfInBounds_toArray, List.set_cons_zero, List.set_cons_succ]
          refine tk 4 ⟨some 58, .move (.tmp 6), 4, "ref.go:167", #[⟨3, .guard⟩], some (3, true)⟩ undef ?_ (hy := Or.inr ⟨by rfl, rfl⟩)
          simp only [Act.put, List.setIfInBounds_toArray, List.set_cons_zero, List.set_cons_succ]
          refine tk 5 ⟨some 59, .pick (.tmp 57) (.tmp 58) (.const (.bool false)), 4, "ref.go:167", #[⟨3, .data⟩, ⟨4, .data⟩], none⟩ (.bool false) ?_
          simp only [Act.put, List.setIfInBounds_toArray, List.set_cons_zero, List.set_cons_succ]
          refine tk 6 ⟨some 60, .move (.tmp 59), 4, "ref.go:167", #[⟨5, .data⟩, ⟨3, .chain⟩], none⟩ (.bool false) ?_
          simp only [Act.put, List.setIfInBounds_toArray, List.set_cons_zero, List.set_cons_succ]
          refine tk 7 ⟨some 61, .move (.tmp 0), 45, "ref.go:167", #[⟨6, .guard⟩], some (6, true)⟩ undef ?_ (hy := Or.inr ⟨by rfl, rfl⟩)
          simp only [Act.put, List.setIfInBounds_toArray, List.set_cons_zero, List.set_cons_succ]
          refine tk 8 ⟨some 62, .nilCheck (.tmp 61), 0, "ref.go:167", #[⟨7, .data⟩, ⟨6, .guard⟩], some (6, true)⟩ undef ?_ (hy := Or.inr ⟨by rfl, rfl⟩)
          simp only [Act.put, List.setIfInBounds_toArray, List.set_cons_zero, List.set_cons_succ]
          refine tk 9 ⟨some 63, .fieldAddr 70 (.tmp 62) 1, 0, "ref.go:167", #[⟨8, .data⟩, ⟨6, .guard⟩], some (6, true)⟩ undef ?_ (hy := Or.inr ⟨by rfl, rfl⟩)
          simp only [Act.put, List.setIfInBounds_toArray, List.set_cons_zero, List.set_cons_succ]
          refine tk 10 ⟨some 64, .load 68 (.tmp 63), 68, "ref.go:167", #[⟨9, .data⟩, ⟨6, .guard⟩], some (6, true)⟩ undef ?_ (hy := Or.inr ⟨by rfl, rfl⟩)
          simp only [Act.put, List.setIfInBounds_toArray, List.set_cons_zero, List.set_cons_succ]
          refine tk 11 ⟨some 65, .fieldAddr 122 (.tmp 5) 1, 0, "ref.go:167", #[⟨6, .guard⟩], some (6, true)⟩ undef ?_ (hy := Or.inr ⟨by rfl, rfl⟩)
          simp only [Act.put, List.setIfInBounds_toArray, List.set_cons_zero, List.set_cons_succ]
          refine tk 12 ⟨some 66, .load 3 (.tmp 65), 3, "ref.go:167", #[⟨11, .data⟩, ⟨6, .guard⟩], some (6, true)⟩ undef ?_ (hy := Or.inr ⟨by rfl, rfl⟩)
          simp only [Act.put, List.setIfInBounds_toArray, List.set_cons_zero, List.set_cons_succ]
          refine tk 13 ⟨some 67, .indexAddr 68 (.tmp 64) (.tmp 66), 0, "ref.go:167", #[⟨10, .data⟩, ⟨12, .data⟩, ⟨6, .guard⟩], some (6, true)⟩ undef ?_ (hy := Or.inr ⟨by rfl, rfl⟩)
          simp only [Act.put, List.setIfInBounds_toArray, List.set_cons_zero, List.set_cons_succ]
          refine tk 14 ⟨some 68, .fieldAddr 122 (.tmp 67) 2, 0, "ref.go:167", #[⟨13, .data⟩, ⟨6, .guard⟩], some (6, true)⟩ undef ?_ (hy := Or.inr ⟨by rfl, rfl⟩)
          simp only [Act.put, List.setIfInBounds_toArray, List.set_cons_zero, List.set_cons_succ]
          refine tk 15 ⟨some 69, .load 3 (.tmp 68), 3, "ref.go:167", #[⟨14, .data⟩, ⟨6, .guard⟩], some (6, true)⟩ undef ?_ (hy := Or.inr ⟨by rfl, rfl⟩)
          simp only [Act.put, List.setIfInBounds_toArray, List.set_cons_zero, List.set_cons_succ]
          refine tk 16 ⟨some 70, .binOp .gtr 3 (.tmp 69) (.const (.int .i64 0)) 3, 4, "ref.go:167", #[⟨15, .data⟩, ⟨6, .guard⟩], some (6, true)⟩ undef ?_ (hy := Or.inr ⟨by rfl, rfl⟩)
          simp only [Act.put, List.setIfInBounds_toArray, List.set_cons_zero, List.set_cons_succ]
          refine tk 17 ⟨some 71, .pick (.tmp 60) (.tmp 70) (.const (.bool false)), 4, "ref.go:167", #[⟨6, .data⟩, ⟨16, .data⟩], none⟩ (.bool false) ?_
          simp only [Act.put, List.setIfInBounds_toArray, List.set_cons_zero, List.set_cons_succ]
          refine wpAnyH_done (by kernel_rfl) ?_ _
          go_wp2_with fail
          go_ret
          exact ⟨rfl, r1, (HZ.out.on (Below.refl _ _).drew).pre HB.out⟩
        · have h1' : (xt == 1) = false := by simpa using h1
          have h1n : (xt != 1) = true := by simpa using h1
          by_cases hyr : 0 < (d2.at j).r
          · rw [if_pos ⟨h1, hyr⟩]
            have HYR := hid hyr
            clear hyr
            go_enter Tryz.func22, Tryz.ntmps22
            go_upto_region 4 with (first | (refine wpList_load_mid rfl 122 _ rfl pe (k * 5) (by go_simp) _ _ HR.out underR rfl (by rw [sizeR]; rfl) ?_) | (refine wpList_store_st rfl 122 _ _ rfl W.heap.size [.int .i64 xt, .int .i64 (j : Int), .int .i64 xr, .int .i64 xs, .bool xx] rfl rfl (Cel.new W 122 En.zero.cs) sizeR rfl rfl ?_; intro w2 hc hb hs; have HC := hid hc; have HB := hid (new_below (Below.refl _ W) hb); clear hc hb hs))
            have k0 := HC.out.cell 0
            have k1 := HC.out.cell 1
            have k2 := HC.out.cell 2
            simp only [List.getElem?_cons_zero, List.getElem?_cons_succ] at k0 k1 k2
            have HGS : Hid (W.heap.size = W.heap.size) := hid rfl
            generalize hg5 : W.heap.size = g5 at k0 k1 k2 HC HGS
            have HG5 := hid hg5
            clear hg5 HGS
            have HH2 := hid (HH.out.on HB.out)
            clear c1
            obtain ⟨c1, ⟨e0, e1, e2, e3, e4⟩, HFZ⟩ := HRW.out _ HH2.out
            have f0 := HFZ (k * 5)
            have f1 := HFZ (k * 5 + 1)
            have f2 := HFZ (k * 5 + 2)
            have f3 := HFZ (k * 5 + 3)
            have f4 := HFZ (k * 5 + 4)
            have HL2 := hid (HL.out _ HH2.out)
            clear HFZ HL HRW
            go_upto_region 9 with fail
            generalize hX9 : World.setCell _ _ _ = x9
            have HG9 := hid (HL2.out _ hX9)
            clear hX9 c1 e0 e1 e2 e3 e4 f0 f1 f2 f3 f4 HL2
            have HD := hid (HG9.out.on (Below.refl _ _).drew)
            refine wp_region_held_drew (S := fun w => w.cell? ⟨pg, 0, none⟩ = some (.pointer (some ⟨pr.g, 0, none⟩))) (by kernel_rfl) (HD.out.s0 rfl) (fun hHeld => ?_)
            refine tk 0 ⟨some 43, .move (.tmp 0), 45, "ref.go:165", #[], none⟩ (.pointer (some ⟨pg, 0, none⟩)) ?_
            simp only [Act.put, List.setIfInBounds_toArray, List.set_cons_zero, List.set_cons_succ]
            refine tk 1 ⟨some 44, .nilCheck (.tmp 43), 0, "ref.go:165", #[⟨0, .data⟩], none⟩ (.pointer (some ⟨pg, 0, none⟩)) ?_
            simp only [Act.put, List.setIfInBounds_toArray, List.set_cons_zero, List.set_cons_succ]
            refine tk 2 ⟨some 45, .fieldAddr 70 (.tmp 44) 0, 0, "ref.go:165", #[⟨1, .data⟩], none⟩ (.pointer (some ⟨pg, 0, none⟩)) ?_
            simp only [Act.put, List.setIfInBounds_toArray, List.set_cons_zero, List.set_cons_succ]
            refine tk 3 ⟨some 46, .load 40 (.tmp 45), 40, "ref.go:165", #[⟨2, .data⟩], none⟩ (.pointer (some ⟨pr.g, 0, none⟩)) ?_ (hy := Or.inl ⟨by rfl, by intro w hSw; have hc := hSw; go_simp⟩)
            simp only [Act.put, List.setIfInBounds_toArray, List.set_cons_zero, List.set_cons_succ]
            refine tk 4 ⟨some 47, .move (.tmp 1), 3, "ref.go:165", #[], none⟩ (.int .i64 (k : Int)) ?_
            simp only [Act.put, List.setIfInBounds_toArray, List.set_cons_zero, List.set_cons_succ]
            refine wpAnyH_ready (rs := [5]) (by kernel_rfl) (by simp) (AllReadyH.cons (o := ⟨some 48, .call { callee := .value (.func 58), args := #[.tmp 47], argTypes := #[3] }, 72, "ref.go:165", #[⟨4, .data⟩], none⟩) rfl (fun KQ hK => ?_) AllReadyH.nil)
            go_simp
            refine (rframe_any _ (k : Int)).mono ?_
            rintro e w4 ⟨rfl, hb⟩
            have HE := hid (HD.out.on hb)
            clear hb
            go_wp2_with fail
            refine hK.out _ _ (HE.out.s0 rfl) (fun hHeld => ?_)
            clear hK KQ
            try simp only [Act.put, List.setIfInBounds_toArray, List.set_cons_zero, List.set_cons_succ]
            refine wpAnyH_ready (rs := [6]) (by kernel_rfl) (by simp) (AllReadyH.cons (o := ⟨some 49, .call { callee := .value (.func 57), args := #[.tmp 46, .tmp 48], argTypes := #[40, 72] }, 3, "ref.go:165", #[⟨3, .data⟩, ⟨5, .data⟩, ⟨5, .chain⟩], none⟩) rfl (fun KQ hK => ?_) AllReadyH.nil)
            go_simp
            refine (rzero_any _ _ _ HE.out.db.mem true (k : Int)).mono ?_
            rintro e w5 ⟨rfl, r1, hs⟩
            have HRG := hid hs.g
            have HZ := hid (HE.out.mem hs (MS.zero_ns _ _ _))
            clear hs
            go_wp2_with fail
            refine hK.out _ _ (HZ.out.s0 HRG.out) (fun hHeld => ?_)
            clear hK KQ
            try simp only [Act.put, List.setIfInBounds_toArray, List.set_cons_zero, List.set_cons_succ]
            refine wpAnyH_done (by kernel_rfl) ?_ _
            go_upto_region 10 with fail
            rw [HD2.out] at HZ
            have HC5 := hid (HC.out.but HZ.out.but (fun hm => by have := HH.out.lt _ hm; have := HG5.out; omega))
            obtain ⟨ht, he, hyk, hyo⟩ := HY.out _ _ HZ.out.db
            have HI := hid (ris_any _ _ _ HZ.out.db (j : Int) 1)
            have HRW := hid (HZ.out.db.row j HON.out)
            have HCC := hid HZ.out.db.c1
            have HFF := hid (HZ.out.db.fz (j * 5 + 2))
            have HFL := hid (fun x v hx ho hv => HZ.out.fld j HON.out 2 (by decide) x v hx ho hv)
            rw [ht, he] at HI
            have HYK := hid hyk
            have HYO := hid hyo
            clear ht he hyk hyo HY HD HE HG9
            generalize hY : d2.at j = Y at *
            have HYY := hid hY
            clear hY
            obtain ⟨yt, yo, yr, ys, yx⟩ := Y
            simp only [Bool.true_and, ptr, En.cs] at *
            have k0 := HC5.out.cell 0
            have k1 := HC5.out.cell 1
            simp only [List.getElem?_cons_zero, List.getElem?_cons_succ] at k0 k1
            obtain ⟨e0, e1, e2, e3, e4⟩ := HRW.out
            have c1 := HCC.out
            rw [HNS.out] at c1
            have hyr : 0 < yr := HYR.out
            have hyt : yt = 1 := by
              by_cases e : yt = 1
              · exact e
              · have := (HYK.out.ns e).1; simp only at this; omega
            subst hyt
            have wr : IntKind.wrap .i64 (yr - 1) = yr - 1 := wr64 _ (by omega) (by have := HYK.out.r1; simp only at this; omega)
            have wr' : wrap64 (yr - 1) = yr - 1 := by have := HYK.out.r1; simp only at this; unfold wrap64; omega
            go_upto_region 11 with (go_at_call 66; refine HI.out.mono ?_; rintro e w6 ⟨rfl, rfl⟩)
            refine wp_region_held_drew (S := fun w => w.cell? ⟨g5, 0, none⟩ = some (.int .i64 xt) ∧ w.cell? ⟨g5, 1, none⟩ = some (.int .i64 (j : Int)) ∧ w.cell? ⟨pg, 1, none⟩ = some (.slice (some ⟨pe, 0, none⟩) n pc) ∧ w.cell? ⟨pe, j * 5 + 2, none⟩ = some (.int .i64 yr)) (by kernel_rfl) ⟨k0, k1, c1, e2⟩ (fun hHeld => ?_)
            refine tk 0 ⟨some 54, .fieldAddr 122 (.tmp 5) 0, 0, "ref.go:167", #[], none⟩ (.pointer (some ⟨g5, 0, none⟩)) ?_
            simp only [Act.put, List.setIfInBounds_toArray, List.set_cons_zero, List.set_cons_succ]
            refine tk 1 ⟨some 55, .load 3 (.tmp 54), 3, "ref.go:167", #[⟨0, .data⟩], none⟩ (.int .i64 xt) ?_ (hy := Or.inl ⟨by rfl, by intro w hSw; have hc := hSw.1; go_simp⟩)
            simp only [Act.put, List.setIfInBounds_toArray, List.set_cons_zero, List.set_cons_succ]
            refine tk 2 ⟨some 56, .binOp .neq 3 (.tmp 55) (.const (.int .i64 1)) 3, 4, "ref.go:167", #[⟨1, .data⟩], none⟩ (.bool true) ?_
            simp only [Act.put, List.setIfInBounds_toArray, List.set_cons_zero, List.set_cons_succ]
            refine tk 3 ⟨some 57, .move (.tmp 56), 4, "ref.go:167", #[⟨2, .data⟩], none⟩ (.bool true) ?_
            simp only [Act.put, List.setIfInBounds_toArray, List.set_cons_zero, List.set_cons_succ]
            refine tk 4 ⟨some 58, .move (.tmp 6), 4, "ref.go:167", #[⟨3, .guard⟩], some (3, true)⟩ (.bool true) ?_
            simp only [Act.put, List.setIfInBounds_toArray, List.set_cons_zero, List.set_cons_succ]
            refine tk 5 ⟨some 59, .pick (.tmp 57) (.tmp 58) (.const (.bool false)), 4, "ref.go:167", #[⟨3, .data⟩, ⟨4, .data⟩], none⟩ (.bool true) ?_
            simp only [Act.put, List.setIfInBounds_toArray, List.set_cons_zero, List.set_cons_succ]
            refine tk 6 ⟨some 60, .move (.tmp 59), 4, "ref.go:167", #[⟨5, .data⟩, ⟨3, .chain⟩], none⟩ (.bool true) ?_
            simp only [Act.put, List.setIfInBounds_toArray, List.set_cons_zero, List.set_cons_succ]
            refine tk 7 ⟨some 61, .move (.tmp 0), 45, "ref.go:167", #[⟨6, .guard⟩], some (6, true)⟩ (.pointer (some ⟨pg, 0, none⟩)) ?_
            simp only [Act.put, List.setIfInBounds_toArray, List.set_cons_zero, List.set_cons_succ]
            refine tk 8 ⟨some 62, .nilCheck (.tmp 61), 0, "ref.go:167", #[⟨7, .data⟩, ⟨6, .guard⟩], some (6, true)⟩ (.pointer (some ⟨pg, 0, none⟩)) ?_
            simp only [Act.put, List.setIfInBounds_toArray, List.set_cons_zero, List.set_cons_succ]
            refine tk 9 ⟨some 63, .fieldAddr 70 (.tmp 62) 1, 0, "ref.go:167", #[⟨8, .data⟩, ⟨6, .guard⟩], some (6, true)⟩ (.pointer (some ⟨pg, 1, none⟩)) ?_
            simp only [Act.put, List.setIfInBounds_toArray, List.set_cons_zero, List.set_cons_succ]
            refine tk 10 ⟨some 64, .load 68 (.tmp 63), 68, "ref.go:167", #[⟨9, .data⟩, ⟨6, .guard⟩], some (6, true)⟩ (.slice (some ⟨pe, 0, none⟩) n pc) ?_ (hy := Or.inl ⟨by rfl, by intro w hSw; have hc := hSw.2.2.1; go_simp⟩)
            simp only [Act.put, List.setIfInBounds_toArray, List.set_cons_zero, List.set_cons_succ]
            refine tk 11 ⟨some 65, .fieldAddr 122 (.tmp 5) 1, 0, "ref.go:167", #[⟨6, .guard⟩], some (6, true)⟩ (.pointer (some ⟨g5, 1, none⟩)) ?_
            simp only [Act.put, List.setIfInBounds_toArray, List.set_cons_zero, List.set_cons_succ]
            refine tk 12 ⟨some 66, .load 3 (.tmp 65), 3, "ref.go:167", #[⟨11, .data⟩, ⟨6, .guard⟩], some (6, true)⟩ (.int .i64 (j : Int)) ?_ (hy := Or.inl ⟨by rfl, by intro w hSw; have hc := hSw.2.1; go_simp⟩)
            simp only [Act.put, List.setIfInBounds_toArray, List.set_cons_zero, List.set_cons_succ]
            refine tk 13 ⟨some 67, .indexAddr 68 (.tmp 64) (.tmp 66), 0, "ref.go:167", #[⟨10, .data⟩, ⟨12, .data⟩, ⟨6, .guard⟩], some (6, true)⟩ (.pointer (some ⟨pe, j * 5, none⟩)) ?_
            simp only [Act.put, List.setIfInBounds_toArray, List.set_cons_zero, List.set_cons_succ]
            refine tk 14 ⟨some 68, .fieldAddr 122 (.tmp 67) 2, 0, "ref.go:167", #[⟨13, .data⟩, ⟨6, .guard⟩], some (6, true)⟩ (.pointer (some ⟨pe, j * 5 + 2, none⟩)) ?_
            simp only [Act.put, List.setIfInBounds_toArray, List.set_cons_zero, List.set_cons_succ]
            refine tk 15 ⟨some 69, .load 3 (.tmp 68), 3, "ref.go:167", #[⟨14, .data⟩, ⟨6, .guard⟩], some (6, true)⟩ (.int .i64 yr) ?_ (hy := Or.inl ⟨by rfl, by intro w hSw; have hc := hSw.2.2.2; go_simp⟩)
            simp only [Act.put, List.setIfInBounds_toArray, List.set_cons_zero, List.set_cons_succ]
            refine tk 16 ⟨some 70, .binOp .gtr 3 (.tmp 69) (.const (.int .i64 0)) 3, 4, "ref.go:167", #[⟨15, .data⟩, ⟨6, .guard⟩], some (6, true)⟩ (.bool true) ?_
            simp only [Act.put, List.setIfInBounds_toArray, List.set_cons_zero, List.set_cons_succ]
            refine tk 17 ⟨some 71, .pick (.tmp 60) (.tmp 70) (.const (.bool false)), 4, "ref.go:167", #[⟨6, .data⟩, ⟨16, .data⟩], none⟩ (.bool true) ?_
            simp only [Act.put, List.setIfInBounds_toArray, List.set_cons_zero, List.set_cons_succ]
            refine wpAnyH_done (by kernel_rfl) ?_ _
            go_upto_region 12 with fail
            have HZ2 := hid ((HZ.out.on (Below.refl _ _).drew).on (Below.refl _ _).drew)
            have hok2 : En.ok ⟨1, yo, yr + -1, ys, yx⟩ = true := by
              have h9 := HYK.out
              exact En.okR (x := ⟨1, yo, yr, ys, yx⟩) ((En.ok_iff _).2 h9) rfl _ (by omega) (by have := h9.r1; simp only at this; omega)
            have HQ := hid (HZ2.out.fld j HON.out 2 (by decide) ⟨1, yo, yr + -1, ys, yx⟩ (.int .i64 (yr - 1)) hok2 HYO.out (by rw [HYY.out, Int.sub_eq_add_neg]; rfl))
            have hc9 := HQ.out.db.c1
            rw [show (d2.lay j ⟨1, yo, yr + -1, ys, yx⟩).m.ns = n from HNS.out] at hc9
            have hne : g5 ≠ pe := fun e => by have := HH.out.lt pe (by simp [Rp.all]); have := HG5.out; omega
            have hk9 := (((HC5.out.on (Below.refl _ _).drew).on (Below.refl _ _).drew).but (G := [pe]) (.setCell _ pe (j * 5 + 2) (.int .i64 (yr - 1)) (by simp)) (by simpa using hne)).cell 1
            simp only [List.getElem?_cons_zero, List.getElem?_cons_succ] at hk9
            have HSS := hid (And.intro hk9 hc9)
            have f2 := HFF.out
            clear hk9 hc9 hne hok2
            refine wp_region_held_drew (S := fun w => w.cell? ⟨g5, 1, none⟩ = some (.int .i64 (j : Int)) ∧ w.cell? ⟨pg, 1, none⟩ = some (.slice (some ⟨pe, 0, none⟩) n pc)) (by kernel_rfl) ⟨k1, c1⟩ (fun hHeld => ?_)
            refine tk 0 ⟨some 72, .move (.tmp 0), 45, "ref.go:168", #[], none⟩ (.pointer (some ⟨pg, 0, none⟩)) ?_
            simp only [Act.put, List.setIfInBounds_toArray, List.set_cons_zero, List.set_cons_succ]
            refine tk 1 ⟨some 73, .nilCheck (.tmp 72), 0, "ref.go:168", #[⟨0, .data⟩], none⟩ (.pointer (some ⟨pg, 0, none⟩)) ?_
            simp only [Act.put, List.setIfInBounds_toArray, List.set_cons_zero, List.set_cons_succ]
            refine tk 2 ⟨some 74, .fieldAddr 70 (.tmp 73) 1, 0, "ref.go:168", #[⟨1, .data⟩], none⟩ (.pointer (some ⟨pg, 1, none⟩)) ?_
            simp only [Act.put, List.setIfInBounds_toArray, List.set_cons_zero, List.set_cons_succ]
            refine tk 3 ⟨some 75, .load 68 (.tmp 74), 68, "ref.go:168", #[⟨2, .data⟩], none⟩ (.slice (some ⟨pe, 0, none⟩) n pc) ?_ (hy := Or.inl ⟨by rfl, by intro w hSw; have hc := hSw.2; go_simp⟩)
            simp only [Act.put, List.setIfInBounds_toArray, List.set_cons_zero, List.set_cons_succ]
            refine tk 4 ⟨some 76, .fieldAddr 122 (.tmp 5) 1, 0, "ref.go:168", #[], none⟩ (.pointer (some ⟨g5, 1, none⟩)) ?_
            simp only [Act.put, List.setIfInBounds_toArray, List.set_cons_zero, List.set_cons_succ]
            refine tk 5 ⟨some 77, .load 3 (.tmp 76), 3, "ref.go:168", #[⟨4, .data⟩], none⟩ (.int .i64 (j : Int)) ?_ (hy := Or.inl ⟨by rfl, by intro w hSw; have hc := hSw.1; go_simp⟩)
            simp only [Act.put, List.setIfInBounds_toArray, List.set_cons_zero, List.set_cons_succ]
            refine tk 6 ⟨some 78, .indexAddr 68 (.tmp 75) (.tmp 77), 0, "ref.go:168", #[⟨3, .data⟩, ⟨5, .data⟩], none⟩ (.pointer (some ⟨pe, j * 5, none⟩)) ?_
            simp only [Act.put, List.setIfInBounds_toArray, List.set_cons_zero, List.set_cons_succ]
            refine tk 7 ⟨some 79, .fieldAddr 122 (.tmp 78) 2, 0, "ref.go:168", #[⟨6, .data⟩], none⟩ (.pointer (some ⟨pe, j * 5 + 2, none⟩)) ?_
            simp only [Act.put, List.setIfInBounds_toArray, List.set_cons_zero, List.set_cons_succ]
            refine wpAnyH_ready (rs := [8]) (by kernel_rfl) (by simp) (AllReadyH.cons (o := ⟨some 80, .load 3 (.tmp 79), 3, "ref.go:168", #[⟨7, .data⟩], none⟩) rfl (fun KQ hK => ?_) AllReadyH.nil)
            go_simp
            refine hK.out _ _ ⟨k1, c1⟩ (fun hHeld => ?_)
            clear hK KQ
            try simp only [Act.put, List.setIfInBounds_toArray, List.set_cons_zero, List.set_cons_succ]
            refine tk 9 ⟨some 81, .binOp .sub 3 (.tmp 80) (.const (.int .i64 1)) 3, 3, "ref.go:168", #[⟨8, .data⟩], none⟩ (.int .i64 (yr - 1)) ?_
            simp only [Act.put, List.setIfInBounds_toArray, List.set_cons_zero, List.set_cons_succ]
            refine tk 10 ⟨some 82, .indexAddr 68 (.tmp 75) (.tmp 77), 0, "ref.go:168", #[⟨3, .data⟩, ⟨5, .data⟩, ⟨0, .phase⟩, ⟨1, .phase⟩, ⟨2, .phase⟩, ⟨3, .phase⟩, ⟨4, .phase⟩, ⟨5, .phase⟩, ⟨6, .phase⟩, ⟨7, .phase⟩, ⟨8, .phase⟩, ⟨9, .phase⟩], none⟩ (.pointer (some ⟨pe, j * 5, none⟩)) ?_
            simp only [Act.put, List.setIfInBounds_toArray, List.set_cons_zero, List.set_cons_succ]
            refine tk 11 ⟨some 83, .fieldAddr 122 (.tmp 82) 2, 0, "ref.go:168", #[⟨10, .data⟩, ⟨0, .phase⟩, ⟨1, .phase⟩, ⟨2, .phase⟩, ⟨3, .phase⟩, ⟨4, .phase⟩, ⟨5, .phase⟩, ⟨6, .phase⟩, ⟨7, .phase⟩, ⟨8, .phase⟩, ⟨9, .phase⟩], none⟩ (.pointer (some ⟨pe, j * 5 + 2, none⟩)) ?_
            simp only [Act.put, List.setIfInBounds_toArray, List.set_cons_zero, List.set_cons_succ]
            refine wpAnyH_ready (rs := [12]) (by kernel_rfl) (by simp) (AllReadyH.cons (o := ⟨none, .store 3 (.tmp 83) (.tmp 81), 0, "ref.go:168", #[⟨11, .data⟩, ⟨9, .data⟩, ⟨0, .phase⟩, ⟨1, .phase⟩, ⟨2, .phase⟩, ⟨3, .phase⟩, ⟨4, .phase⟩, ⟨5, .phase⟩, ⟨6, .phase⟩, ⟨7, .phase⟩, ⟨8, .phase⟩, ⟨9, .phase⟩], none⟩) rfl (fun KQ hK => ?_) AllReadyH.nil)
            go_simp
            refine hK.out _ _ HSS.out (fun hHeld => ?_)
            clear hK KQ
            try simp only [Act.put]
            refine wpAnyH_done (by kernel_rfl) ?_ _
            go_wp2_with fail
            go_ret
            refine ⟨rfl, r1, RG.pre HB.out ?_⟩
            unfold DS.cnt
            rw [HYY.out]
            exact HQ.out
          · rw [if_neg (by omega)]
            have HYR := hid hyr
            clear hyr
            go_enter Tryz.func22, Tryz.ntmps22
            go_upto_region 4 with (first | (refine wpList_load_mid rfl 122 _ rfl pe (k * 5) (by go_simp) _ _ HR.out underR rfl (by rw [sizeR]; rfl) ?_) | (refine wpList_store_st rfl 122 _ _ rfl W.heap.size [.int .i64 xt, .int .i64 (j : Int), .int .i64 xr, .int .i64 xs, .bool xx] rfl rfl (Cel.new W 122 En.zero.cs) sizeR rfl rfl ?_; intro w2 hc hb hs; have HC := hid hc; have HB := hid (new_below (Below.refl _ W) hb); clear hc hb hs))
            have k0 := HC.out.cell 0
            have k1 := HC.out.cell 1
            have k2 := HC.out.cell 2
            simp only [List.getElem?_cons_zero, List.getElem?_cons_succ] at k0 k1 k2
            have HGS : Hid (W.heap.size = W.heap.size) := hid rfl
            generalize hg5 : W.heap.size = g5 at k0 k1 k2 HC HGS
            have HG5 := hid hg5
            clear hg5 HGS
            have HH2 := hid (HH.out.on HB.out)
            clear c1
            obtain ⟨c1, ⟨e0, e1, e2, e3, e4⟩, HFZ⟩ := HRW.out _ HH2.out
            have f0 := HFZ (k * 5)
            have f1 := HFZ (k * 5 + 1)
            have f2 := HFZ (k * 5 + 2)
            have f3 := HFZ (k * 5 + 3)
            have f4 := HFZ (k * 5 + 4)
            have HL2 := hid (HL.out _ HH2.out)
            clear HFZ HL HRW
            go_upto_region 9 with fail
            generalize hX9 : World.setCell _ _ _ = x9
            have HG9 := hid (HL2.out _ hX9)
            clear hX9 c1 e0 e1 e2 e3 e4 f0 f1 f2 f3 f4 HL2
            have HD := hid (HG9.out.on (Below.refl _ _).drew)
            refine wp_region_held_drew (S := fun w => w.cell? ⟨pg, 0, none⟩ = some (.pointer (some ⟨pr.g, 0, none⟩))) (by kernel_rfl) (HD.out.s0 rfl) (fun hHeld => ?_)
            refine tk 0 ⟨some 43, .move (.tmp 0), 45, "ref.go:165", #[], none⟩ (.pointer (some ⟨pg, 0, none⟩)) ?_
            simp only [Act.put, List.setIfInBounds_toArray, List.set_cons_zero, List.set_cons_succ]
            refine tk 1 ⟨some 44, .nilCheck (.tmp 43), 0, "ref.go:165", #[⟨0, .data⟩], none⟩ (.pointer (some ⟨pg, 0, none⟩)) ?_
            simp only [Act.put, List.setIfInBounds_toArray, List.set_cons_zero, List.set_cons_succ]
            refine tk 2 ⟨some 45, .fieldAddr 70 (.tmp 44) 0, 0, "ref.go:165", #[⟨1, .data⟩], none⟩ (.pointer (some ⟨pg, 0, none⟩)) ?_
            simp only [Act.put, List.setIfInBounds_toArray, List.set_cons_zero, List.set_cons_succ]
            refine tk 3 ⟨some 46, .load 40 (.tmp 45), 40, "ref.go:165", #[⟨2, .data⟩], none⟩ (.pointer (some ⟨pr.g, 0, none⟩)) ?_ (hy := Or.inl ⟨by rfl, by intro w hSw; have hc := hSw; go_simp⟩)
            simp only [Act.put, List.setIfInBounds_toArray, List.set_cons_zero, List.set_cons_succ]
            refine tk 4 ⟨some 47, .move (.tmp 1), 3, "ref.go:165", #[], none⟩ (.int .i64 (k : Int)) ?_
            simp only [Act.put, List.setIfInBounds_toArray, List.set_cons_zero, List.set_cons_succ]
            refine wpAnyH_ready (rs := [5]) (by kernel_rfl) (by simp) (AllReadyH.cons (o := ⟨some 48, .call { callee := .value (.func 58), args := #[.tmp 47], argTypes := #[3] }, 72, "ref.go:165", #[⟨4, .data⟩], none⟩) rfl (fun KQ hK => ?_) AllReadyH.nil)
            go_simp
            refine (rframe_any _ (k : Int)).mono ?_
            rintro e w4 ⟨rfl, hb⟩
            have HE := hid (HD.out.on hb)
            clear hb
            go_wp2_with fail
            refine hK.out _ _ (HE.out.s0 rfl) (fun hHeld => ?_)
            clear hK KQ
            try simp only [Act.put, List.setIfInBounds_toArray, List.set_cons_zero, List.set_cons_succ]
            refine wpAnyH_ready (rs := [6]) (by kernel_rfl) (by simp) (AllReadyH.cons (o := ⟨some 49, .call { callee := .value (.func 57), args := #[.tmp 46, .tmp 48], argTypes := #[40, 72] }, 3, "ref.go:165", #[⟨3, .data⟩, ⟨5, .data⟩, ⟨5, .chain⟩], none⟩) rfl (fun KQ hK => ?_) AllReadyH.nil)
            go_simp
            refine (rzero_any _ _ _ HE.out.db.mem true (k : Int)).mono ?_
            rintro e w5 ⟨rfl, r1, hs⟩
            have HRG := hid hs.g
            have HZ := hid (HE.out.mem hs (MS.zero_ns _ _ _))
            clear hs
            go_wp2_with fail
            refine hK.out _ _ (HZ.out.s0 HRG.out) (fun hHeld => ?_)
            clear hK KQ
            try simp only [Act.put, List.setIfInBounds_toArray, List.set_cons_zero, List.set_cons_succ]
            refine wpAnyH_done (by kernel_rfl) ?_ _
            go_upto_region 10 with fail
            rw [HD2.out] at HZ
            have HC5 := hid (HC.out.but HZ.out.but (fun hm => by have := HH.out.lt _ hm; have := HG5.out; omega))
            obtain ⟨ht, he, hyk, hyo⟩ := HY.out _ _ HZ.out.db
            have HI := hid (ris_any _ _ _ HZ.out.db (j : Int) 1)
            have HRW := hid (HZ.out.db.row j HON.out)
            have HCC := hid HZ.out.db.c1
            have HFF := hid (HZ.out.db.fz (j * 5 + 2))
            have HFL := hid (fun x v hx ho hv => HZ.out.fld j HON.out 2 (by decide) x v hx ho hv)
            rw [ht, he] at HI
            have HYK := hid hyk
            have HYO := hid hyo
            clear ht he hyk hyo HY HD HE HG9
            generalize hY : d2.at j = Y at *
            have HYY := hid hY
            clear hY
            obtain ⟨yt, yo, yr, ys, yx⟩ := Y
            simp only [Bool.true_and, ptr, En.cs] at *
            have k0 := HC5.out.cell 0
            have k1 := HC5.out.cell 1
            simp only [List.getElem?_cons_zero, List.getElem?_cons_succ] at k0 k1
            obtain ⟨e0, e1, e2, e3, e4⟩ := HRW.out
            have c1 := HCC.out
            rw [HNS.out] at c1
            have hyr : yr ≤ 0 := HYR.out
            by_cases hyt : yt = 1
            · subst hyt
              go_upto_region 11 with (go_at_call 66; refine HI.out.mono ?_; rintro e w6 ⟨rfl, rfl⟩)
              refine wp_region_held_drew (S := fun w => w.cell? ⟨g5, 0, none⟩ = some (.int .i64 xt) ∧ w.cell? ⟨g5, 1, none⟩ = some (.int .i64 (j : Int)) ∧ w.cell? ⟨pg, 1, none⟩ = some (.slice (some ⟨pe, 0, none⟩) n pc) ∧ w.cell? ⟨pe, j * 5 + 2, none⟩ = some (.int .i64 yr)) (by kernel_rfl) ⟨k0, k1, c1, e2⟩ (fun hHeld => ?_)
              refine tk 0 ⟨some 54, .fieldAddr 122 (.tmp 5) 0, 0, "ref.go:167", #[], none⟩ (.pointer (some ⟨g5, 0, none⟩)) ?_
              simp only [Act.put, List.setIfInBounds_toArray, List.set_cons_zero, List.set_cons_succ]
              refine tk 1 ⟨some 55, .load 3 (.tmp 54), 3, "ref.go:167", #[⟨0, .data⟩], none⟩ (.int .i64 xt) ?_ (hy := Or.inl ⟨by rfl, by intro w hSw; have hc := hSw.1; go_simp⟩)
              simp only [Act.put, List.setIfInBounds_toArray, List.set_cons_zero, List.set_cons_succ]
              refine tk 2 ⟨some 56, .binOp .neq 3 (.tmp 55) (.const (.int .i64 1)) 3, 4, "ref.go:167", #[⟨1, .data⟩], none⟩ (.bool true) ?_
              simp only [Act.put, List.setIfInBounds_toArray, List.set_cons_zero, List.set_cons_succ]
              refine tk 3 ⟨some 57, .move (.tmp 56), 4, "ref.go:167", #[⟨2, .data⟩], none⟩ (.bool true) ?_
              simp only [Act.put, List.setIfInBounds_toArray, List.set_cons_zero, List.set_cons_succ]
              refine tk 4 ⟨some 58, .move (.tmp 6), 4, "ref.go:167", #[⟨3, .guard⟩], some (3, true)⟩ (.bool true) ?_
              simp only [Act.put, List.setIfInBounds_toArray, List.set_cons_zero, List.set_cons_succ]
              refine tk 5 ⟨some 59, .pick (.tmp 57) (.tmp 58) (.const (.bool false)), 4, "ref.go:167", #[⟨3, .data⟩, ⟨4, .data⟩], none⟩ (.bool true) ?_
              simp only [Act.put, List.setIfInBounds_toArray, List.set_cons_zero, List.set_cons_succ]
              refine tk 6 ⟨some 60, .move (.tmp 59), 4, "ref.go:167", #[⟨5, .data⟩, ⟨3, .chain⟩], none⟩ (.bool true) ?_
              simp only [Act.put, List.setIfInBounds_toArray, List.set_cons_zero, List.set_cons_succ]
              refine tk 7 ⟨some 61, .move (.tmp 0), 45, "ref.go:167", #[⟨6, .guard⟩], some (6, true)⟩ (.pointer (some ⟨pg, 0, none⟩)) ?_
              simp only [Act.put, List.setIfInBounds_toArray, List.set_cons_zero, List.set_cons_succ]
              refine tk 8 ⟨some 62, .nilCheck (.tmp 61), 0, "ref.go:167", #[⟨7, .data⟩, ⟨6, .guard⟩], some (6, true)⟩ (.pointer (some ⟨pg, 0, none⟩)) ?_
              simp only [Act.put, List.setIfInBounds_toArray, List.set_cons_zero, List.set_cons_succ]
              refine tk 9 ⟨some 63, .fieldAddr 70 (.tmp 62) 1, 0, "ref.go:167", #[⟨8, .data⟩, ⟨6, .guard⟩], some (6, true)⟩ (.pointer (some ⟨pg, 1, none⟩)) ?_
              simp only [Act.put, List.setIfInBounds_toArray, List.set_cons_zero, List.set_cons_succ]
              refine tk 10 ⟨some 64, .load 68 (.tmp 63), 68, "ref.go:167", #[⟨9, .data⟩, ⟨6, .guard⟩], some (6, true)⟩ (.slice (some ⟨pe, 0, none⟩) n pc) ?_ (hy := Or.inl ⟨by rfl, by intro w hSw; have hc := hSw.2.2.1; go_simp⟩)
              simp only [Act.put, List.setIfInBounds_toArray, List.set_cons_zero, List.set_cons_succ]
              refine tk 11 ⟨some 65, .fieldAddr 122 (.tmp 5) 1, 0, "ref.go:167", #[⟨6, .guard⟩], some (6, true)⟩ (.pointer (some ⟨g5, 1, none⟩)) ?_
              simp only [Act.put, List.setIfInBounds_toArray, List.set_cons_zero, List.set_cons_succ]
              refine tk 12 ⟨some 66, .load 3 (.tmp 65), 3, "ref.go:167", #[⟨11, .data⟩, ⟨6, .guard⟩], some (6, true)⟩ (.int .i64 (j : Int)) ?_ (hy := Or.inl ⟨by rfl, by intro w hSw; have hc := hSw.2.1; go_simp⟩)
              simp only [Act.put, List.setIfInBounds_toArray, List.set_cons_zero, List.set_cons_succ]
              refine tk 13 ⟨some 67, .indexAddr 68 (.tmp 64) (.tmp 66), 0, "ref.go:167", #[⟨10, .data⟩, ⟨12, .data⟩, ⟨6, .guard⟩], some (6, true)⟩ (.pointer (some ⟨pe, j * 5, none⟩)) ?_
              simp only [Act.put, List.setIfInBounds_toArray, List.set_cons_zero, List.set_cons_succ]
              refine tk 14 ⟨some 68, .fieldAddr 122 (.tmp 67) 2, 0, "ref.go:167", #[⟨13, .data⟩, ⟨6, .guard⟩], some (6, true)⟩ (.pointer (some ⟨pe, j * 5 + 2, none⟩)) ?_
              simp only [Act.put, List.setIfInBounds_toArray, List.set_cons_zero, List.set_cons_succ]
              refine tk 15 ⟨some 69, .load 3 (.tmp 68), 3, "ref.go:167", #[⟨14, .data⟩, ⟨6, .guard⟩], some (6, true)⟩ (.int .i64 yr) ?_ (hy := Or.inl ⟨by rfl, by intro w hSw; have hc := hSw.2.2.2; go_simp⟩)
              simp only [Act.put, List.setIfInBounds_toArray, List.set_cons_zero, List.set_cons_succ]
              refine tk 16 ⟨some 70, .binOp .gtr 3 (.tmp 69) (.const (.int .i64 0)) 3, 4, "ref.go:167", #[⟨15, .data⟩, ⟨6, .guard⟩], some (6, true)⟩ (.bool false) ?_
              simp only [Act.put, List.setIfInBounds_toArray, List.set_cons_zero, List.set_cons_succ]
              refine tk 17 ⟨some 71, .pick (.tmp 60) (.tmp 70) (.const (.bool false)), 4, "ref.go:167", #[⟨6, .data⟩, ⟨16, .data⟩], none⟩ (.bool false) ?_
              simp only [Act.put, List.setIfInBounds_toArray, List.set_cons_zero, List.set_cons_succ]
              refine wpAnyH_done (by kernel_rfl) ?_ _
              go_wp2_with fail
              go_ret
              exact ⟨rfl, r1, (HZ.out.on (Below.refl _ _).drew).pre HB.out⟩
            · have hyt' : (yt == 1) = false := by simpa using hyt
              go_upto_region 11 with (go_at_call 66; refine HI.out.mono ?_; rintro e w6 ⟨rfl, rfl⟩)
              refine wp_region_held_drew (S := fun w => w.cell? ⟨g5, 0, none⟩ = some (.int .i64 xt) ∧ w.cell? ⟨g5, 1, none⟩ = some (.int .i64 (j : Int)) ∧ w.cell? ⟨pg, 1, none⟩ = some (.slice (some ⟨pe, 0, none⟩) n pc) ∧ w.cell? ⟨pe, j * 5 + 2, none⟩ = some (.int .i64 yr)) (by kernel_rfl) ⟨k0, k1, c1, e2⟩ (fun hHeld => ?_)
              refine tk 0 ⟨some 54, .fieldAddr 122 (.tmp 5) 0, 0, "ref.go:167", #[], none⟩ (.pointer (some ⟨g5, 0, none⟩)) ?_
              simp only [Act.put, List.setIfInBounds_toArray, List.set_cons_zero, List.set_cons_succ]
              refine tk 1 ⟨some 55, .load 3 (.tmp 54), 3, "ref.go:167", #[⟨0, .data⟩], none⟩ (.int .i64 xt) ?_ (hy := Or.inl ⟨by rfl, by intro w hSw; have hc := hSw.1; go_simp⟩)
              simp only [Act.put, List.setIfInBounds_toArray, List.set_cons_zero, List.set_cons_succ]
              refine tk 2 ⟨some 56, .binOp .neq 3 (.tmp 55) (.const (.int .i64 1)) 3, 4, "ref.go:167", #[⟨1, .data⟩], none⟩ (.bool true) ?_
              simp only [Act.put, List.setIfInBounds_toArray, List.set_cons_zero, List.set_cons_succ]
              refine tk 3 ⟨some 57, .move (.tmp 56), 4, "ref.go:167", #[⟨2, .data⟩], none⟩ (.bool true) ?_
              simp only [Act.put, List.setIfInBounds_toArray, List.set_cons_zero, List.set_cons_succ]
              refine tk 4 ⟨some 58, .move (.tmp 6), 4, "ref.go:167", #[⟨3, .guard⟩], some (3, true)⟩ (.bool false) ?_
              simp only [Act.put, List.setIfInBounds_toArray, List.set_cons_zero, List.set_cons_succ]
              refine tk 5 ⟨some 59, .pick (.tmp 57) (.tmp 58) (.const (.bool false)), 4, "ref.go:167", #[⟨3, .data⟩, ⟨4, .data⟩], none⟩ (.bool false) ?_
              simp only [Act.put, List.setIfInBounds_toArray, List.set_cons_zero, List.set_cons_succ]
              refine tk 6 ⟨some 60, .move (.tmp 59), 4, "ref.go:167", #[⟨5, .data⟩, ⟨3, .chain⟩], none⟩ (.bool false) ?_
              simp only [Act.put, List.setIfInBounds_toArray, List.set_cons_zero, List.set_cons_succ]
              refine tk 7 ⟨some 61, .move (.tmp 0), 45, "ref.go:167", #[⟨6, .guard⟩], some (6, true)⟩ undef ?_ (hy := Or.inr ⟨by rfl, rfl⟩)
              simp only [Act.put, List.setIfInBounds_toArray, List.set_cons_zero, List.set_cons_succ]
              refine tk 8 ⟨some 62, .nilCheck (.tmp 61), 0, "ref.go:167", #[⟨7, .data⟩, ⟨6, .guard⟩], some (6, true)⟩ undef ?_ (hy := Or.inr ⟨by rfl, rfl⟩)
              simp only [Act.put, List.setIfInBounds_toArray, List.set_cons_zero, List.set_cons_succ]
              refine tk 9 ⟨some 63, .fieldAddr 70 (.tmp 62) 1, 0, "ref.go:167", #[⟨8, .data⟩, ⟨6, .guard⟩], some (6, true)⟩ undef ?_ (hy := Or.inr ⟨by rfl, rfl⟩)
              simp only [Act.put, List.setIfInBounds_toArray, List.set_cons_zero, List.set_cons_succ]
              refine tk 10 ⟨some 64, .load 68 (.tmp 63), 68, "ref.go:167", #[⟨9, .data⟩, ⟨6, .guard⟩], some (6, true)⟩ undef ?_ (hy := Or.inr ⟨by rfl, rfl⟩)
              simp only [Act.put, List.setIfInBounds_toArray, List.set_cons_zero, List.set_cons_succ]
              refine tk 11 ⟨some 65, .fieldAddr 122 (.tmp 5) 1, 0, "ref.go:167", #[⟨6, .guard⟩], some (6, true)⟩ undef ?_ (hy := Or.inr ⟨by rfl, rfl⟩)
              simp only [Act.put, List.setIfInBounds_toArray, List.set_cons_zero, List.set_cons_succ]
              refine tk 12 ⟨some 66, .load 3 (.tmp 65), 3, "ref.go:167", #[⟨11, .data⟩, ⟨6, .guard⟩], some (6, true)⟩ undef ?_ (hy := Or.inr ⟨by rfl, rfl⟩)
              simp only [Act.put, List.setIfInBounds_toArray, List.set_cons_zero, List.set_cons_succ]
              refine tk 13 ⟨some 67, .indexAddr 68 (.tmp 64) (.tmp 66), 0, "ref.go:167", #[⟨10, .data⟩, ⟨12, .data⟩, ⟨6, .guard⟩], some (6, true)⟩ undef ?_ (hy := Or.inr ⟨by rfl, rfl⟩)
              simp only [Act.put, List.setIfInBounds_toArray, List.set_cons_zero, List.set_cons_succ]
              refine tk 14 ⟨some 68, .fieldAddr 122 (.tmp 67) 2, 0, "ref.go:167", #[⟨13, .data⟩, ⟨6, .guard⟩], some (6, true)⟩ undef ?_ (hy := Or.inr ⟨by rfl, rfl⟩)
              simp only [Act.put, List.setIfInBounds_toArray, List.set_cons_zero, List.set_cons_succ]
              refine tk 15 ⟨some 69, .load 3 (.tmp 68), 3, "ref.go:167", #[⟨14, .data⟩, ⟨6, .guard⟩], some (6, true)⟩ undef ?_ (hy := Or.inr ⟨by rfl, rfl⟩)
              simp only [Act.put, List.setIfInBounds_toArray, List.set_cons_zero, List.set_cons_succ]
              refine tk 16 ⟨some 70, .binOp .gtr 3 (.tmp 69) (.const (.int .i64 0)) 3, 4, "ref.go:167", #[⟨15, .data⟩, ⟨6, .guard⟩], some (6, true)⟩ undef ?_ (hy := Or.inr ⟨by rfl, rfl⟩)
              simp only [Act.put, List.setIfInBounds_toArray, List.set_cons_zero, List.set_cons_succ]
              refine tk 17 ⟨some 71, .pick (.tmp 60) (.tmp 70) (.const (.bool false)), 4, "ref.go:167", #[⟨6, .data⟩, ⟨16, .data⟩], none⟩ (.bool false) ?_
              simp only [Act.put, List.setIfInBounds_toArray, List.set_cons_zero, List.set_cons_succ]
              refine wpAnyH_done (by kernel_rfl) ?_ _
              go_wp2_with fail
              go_ret
              exact ⟨rfl, r1, (HZ.out.on (Below.refl _ _).drew).pre HB.out⟩
  · have hq' : d.there q = false := by simpa using hq
    rw [if_neg (by rw [give_no hq']; decide), give_no hq']
    have c1 := h.c1
    have HG := hid (RG.start h)
    rcases there_cases hq' with hc | ⟨h0, hc⟩
    · clear h hq hq'
      generalize d.m.ns = n at c1 
      simp only [ptr] at *
      go_enter Tryz.func22, Tryz.ntmps22
      go_wp2_with fail
      go_ret
      exact ⟨rfl, p.r, HG.out⟩
    · clear h hq hq'
      generalize d.m.ns = n at c1 hc
      simp only [ptr] at *
      go_enter Tryz.func22, Tryz.ntmps22
      go_wp2_with fail
      go_ret
      exact ⟨rfl, p.r, HG.out⟩
end Go.Proofs.YtgbpbfnpeeciaaaGreat
