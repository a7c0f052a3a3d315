import Derived.Test.YtgbpbfnpeeciaaaGreatP13
namespace Go.Proofs.YtgbpbfnpeeciaaaGreat
open Go.RowKit
set_option maxHeartbeats 2000000
set_option maxRecDepth 100000
def DS.turnE (d : DS) (q t : Int) : Int := if d.entE q ≠ 0 then d.entE q else if trn (d.ent q).t = false then 124 else if trn t = false then 124 else 0
def DS.turned (d : DS) (q t : Int) : DS := (d.lay q.toNat (enT t (d.ent q).o)).wipe q
def DS.turn (d : DS) (q t : Int) : DS := if d.turnE q t = 0 then d.turned q t else d
theorem turn_zero {d : DS} {q t : Int} (h : d.turnE q t = 0) : d.there q = true ∧ trn (d.ent q).t = true ∧ trn t = true := by
  cases hq : d.there q
  · simp [DS.turnE, DS.entE, hq] at h
  simp only [DS.turnE, DS.entE, hq, if_true, ne_eq, not_true_eq_false, if_false] at h
  cases h1 : trn (d.ent q).t
  · rw [h1] at h; simp at h
  cases h2 : trn t
  · rw [h1, h2] at h; simp at h
  exact ⟨rfl, rfl, rfl⟩
theorem turn_any (W : World) (p : Dp) (d : DS) (h : DB W p d) (q t : Int) :
    Calls Tryz.prog 19 #[ptr p.g, .int .i64 q, .int .i64 t] W fun e W' => e = .returned (.int .i64 (d.turnE q t)) ∧ DB W' p (d.turn q t) ∧ ButL p.w W W' := by
  have D0 := hid (DG.start h p.w h.wlt)
  have HE := hid (fun w (hw : DB w p d) => entry_any w p d hw q)
  have HT := hid (fun W => turns_any W t)
  have HT0 := hid (fun W => turns_any W (d.ent q).t)
  unfold DS.turn
  by_cases hz : d.turnE q t = 0
  · rw [if_pos hz, hz]
    obtain ⟨tq, h1, h2⟩ := turn_zero hz
    obtain ⟨q0, q1, eq⟩ := there_lt tq
    have n64 := h.ok.n64
    have ht := (trn_iff t).1 h2
    have hok := (En.ok_iff _).1 (h.ok.ok _ q1)
    have how := h.ok.own _ q1
    rw [← ent_at tq] at hok how
    have HL := hid (fun w (hw : DB w p d) => lay_any w p d hw q.toNat q1 (enT t (d.ent q).o) (enT_ok (by omega) (by omega) hok.o0 hok.o1) how)
    rw [← eq] at HL
    have HW := hid (fun w (hw : DB w p (d.lay q.toNat (enT t (d.ent q).o))) => wipe_any w p _ hw q)
    have e2 : d.entE q = 0 := by simp [DS.entE, tq]
    rw [e2] at HE
    rw [h1] at HT0
    rw [h2] at HT
    unfold DS.turned
    generalize hX : d.ent q = X at *
    obtain ⟨xt, xo, xr, xs, xx⟩ := X
    simp only at HL HW HT0 ⊢
    generalize d.lay q.toNat (enT t xo) = d1 at *
    clear h hz tq h1 h2 q0 q1 eq n64 ht hok how e2 hX
    simp only [ptr, En.v, En.cs] at HE
    simp only [ptr, En.v] at HL HW ⊢
    go_enter Tryz.func19, Tryz.ntmps19
    go_upto_region 2 with (first | (go_at_call 62; refine (HE.out _ D0.out.db).mono ?_; rintro e w1 ⟨rfl, hb⟩; have D1 := hid (D0.out.on hb); clear hb) | (refine wpList_store_st rfl 125 _ _ rfl w1.heap.size [.int .i64 xt, .int .i64 xo, .int .i64 xr, .int .i64 xs, .bool xx] rfl rfl (Cel.new w1 125 En.zero.cs) sizeE rfl rfl ?_; intro w2 hc hb hs; have D2 := hid (D1.out.add hc hb); clear hc hb hs))
    clear D0 D1 HE
    generalize w1.heap.size = g7 at *
    have c0 := (D2.out.get 0 rfl).cell 0
    have c1 := (D2.out.get 0 rfl).cell 1
    simp only [List.getElem?_cons_zero, List.getElem?_cons_succ] at c0 c1
    go_upto_region 6 with (go_at_call 63; first | (refine (HT0.out _).mono ?_; clear HT0; rintro e w6 ⟨rfl, hw6⟩; subst hw6) | (refine (HT.out _).mono ?_; rintro e w6 ⟨rfl, hw6⟩; subst hw6))
    clear HT
    go_upto_region 7 with (first | (refine wpList_build_f rfl 125 _ rfl #[(0, .int .i64 t), (1, .int .i64 xo)] (by rfl) _ (built_T t xo) ?_) | (go_at_call 60; refine (HL.out _ D2.out.db).mono ?_; rintro e w4 ⟨rfl, hd, hb⟩; have D4 := hid (D2.out.step hd hb (by simp [Dp.w])); clear hb hd))
    go_wp2_with (go_at_call 55; refine (HW.out _ D4.out.db).mono ?_; rintro e w5 ⟨rfl, hd, hb⟩; have D5 := hid (D4.out.step hd hb (fun k hk => by simp only [Dp.w, List.mem_cons]; exact .inr hk)); clear hb hd)
    go_ret
    exact ⟨rfl, D5.out.db, D5.out.but⟩
  · rw [if_neg hz]
    have HR : Hid (d.turnE q t ≠ 0 ∧ d.turnE q t = if d.entE q ≠ 0 then d.entE q else if trn (d.ent q).t = false then 124 else if trn t = false then 124 else 0) := hid ⟨hz, rfl⟩
    generalize d.turnE q t = R at *
    clear h hz
    generalize d.ent q = X at *
    obtain ⟨xt, xo, xr, xs, xx⟩ := X
    generalize d.entE q = xe at *
    simp only at HR HT0
    generalize trn xt = tx at *
    generalize trn t = tt at *
    simp only [ptr, En.v, En.cs] at HE ⊢
    go_enter Tryz.func19, Tryz.ntmps19
    go_upto_region 2 with (first | (go_at_call 62; refine (HE.out _ D0.out.db).mono ?_; rintro e w1 ⟨rfl, hb⟩; have D1 := hid (D0.out.on hb); clear hb) | (refine wpList_store_st rfl 125 _ _ rfl w1.heap.size [.int .i64 xt, .int .i64 xo, .int .i64 xr, .int .i64 xs, .bool xx] rfl rfl (Cel.new w1 125 En.zero.cs) sizeE rfl rfl ?_; intro w2 hc hb hs; have D2 := hid (D1.out.add hc hb); clear hc hb hs))
    clear D0 D1 HE
    generalize w1.heap.size = g7 at *
    have c0 := (D2.out.get 0 rfl).cell 0
    simp only [List.getElem?_cons_zero] at c0
    by_cases h1 : xe = 0
    · subst h1
      cases tx
      · have hR : R = 124 := by rw [HR.out.2]; simp
        subst hR
        clear HR
        go_wp2_with (go_at_call 63; refine (HT0.out _).mono ?_; rintro e w6 ⟨rfl, hw6⟩; subst hw6)
        go_ret
        exact ⟨rfl, D2.out.db, D2.out.but⟩
      · cases tt
        · have hR : R = 124 := by rw [HR.out.2]; simp
          subst hR
          clear HR
          go_wp2_with (go_at_call 63; first | (refine (HT0.out _).mono ?_; clear HT0; rintro e w6 ⟨rfl, hw6⟩; subst hw6) | (refine (HT.out _).mono ?_; rintro e w6 ⟨rfl, hw6⟩; subst hw6))
          go_ret
          exact ⟨rfl, D2.out.db, D2.out.but⟩
        · exact absurd (HR.out.2.trans (by simp)) HR.out.1
    · have h1' : (xe == 0) = false := by simpa using h1
      have hR : R = xe := by rw [HR.out.2]; simp [h1]
      subst hR
      clear HR h1
      go_wp2_with fail
      go_ret
      exact ⟨rfl, D2.out.db, D2.out.but⟩
def DS.stateE (d : DS) (q s : Int) : Int := if d.typE q 1 ≠ 0 then d.typE q 1 else if s = 3 ∨ (s = 2 ∧ (d.ent q).s = 1) then 0 else 3
def DS.stated (d : DS) (q s : Int) : DS := d.lay q.toNat { d.ent q with s := s }
def DS.state (d : DS) (q s : Int) : DS := if d.stateE q s = 0 then d.stated q s else d
theorem typ_zero {d : DS} {q t : Int} (h : d.typE q t = 0) : d.there q = true ∧ (d.ent q).t = t ∧ d.typ q t = d.ent q := by
  unfold DS.typE at h
  cases hq : d.there q
  · simp [hq] at h
  · by_cases ht : (d.ent q).t = t
    · exact ⟨rfl, ht, by simp [DS.typ, hq, ht]⟩
    · simp [hq, ht] at h
theorem setState_any (W : World) (p : Dp) (d : DS) (h : DB W p d) (q s : Int) :
    Calls Tryz.prog 23 #[ptr p.g, .int .i64 q, .int .i64 s] W fun e W' => e = .returned (.int .i64 (d.stateE q s)) ∧ DB W' p (d.state q s) ∧ ButL p.w W W' := by
  have D0 := hid (DG.start h p.w h.wlt)
  have HE := hid (fun w (hw : DB w p d) => typed_any w p d hw q 1)
  unfold DS.state
  by_cases hy : d.typE q 1 = 0
  · obtain ⟨tq, t1, ty⟩ := typ_zero hy
    obtain ⟨q0, q1, eq⟩ := there_lt tq
    have hok := h.ok.ok _ q1
    have how := h.ok.own _ q1
    rw [← ent_at tq] at hok how
    rw [ty, hy] at HE
    by_cases hs : s = 3 ∨ (s = 2 ∧ (d.ent q).s = 1)
    · have hz : d.stateE q s = 0 := by simp [DS.stateE, hy, hs]
      rw [if_pos hz, hz]
      have HL := hid (fun w (hw : DB w p d) => lay_any w p d hw q.toNat q1 { d.ent q with s := s } (En.okS hok t1 s (by omega) (by omega)) how)
      rw [← eq] at HL
      unfold DS.stated
      generalize hX : d.ent q = X at *
      obtain ⟨xt, xo, xr, xs, xx⟩ := X
      simp only at HL hs ⊢
      generalize d.lay q.toNat _ = d1 at *
      clear h hy tq t1 ty q0 q1 eq hok how hz hX
      simp only [ptr, En.v, En.cs] at HE HL ⊢
      go_enter Tryz.func23, Tryz.ntmps23
      go_upto_region 2 with (first | (go_at_call 69; refine (HE.out _ D0.out.db).mono ?_; rintro e w1 ⟨rfl, hb⟩; have D1 := hid (D0.out.on hb); clear hb) | (refine wpList_store_st rfl 125 _ _ rfl w1.heap.size [.int .i64 xt, .int .i64 xo, .int .i64 xr, .int .i64 xs, .bool xx] rfl rfl (Cel.new w1 125 En.zero.cs) sizeE rfl rfl ?_; intro w2 hc hb hs; have D2 := hid (D1.out.add hc hb); clear hc hb hs))
      clear D0 D1 HE
      generalize w1.heap.size = g7 at *
      have c3 := (D2.out.get 0 rfl).cell 3
      have f3 := (D2.out.get 0 rfl).free 3
      have D3 := hid (D2.out.put (by simp) ((D2.out.get 0 rfl).setCell 3 (.int .i64 s)) (.setCell _ _ _ _ (by simp)))
      simp only [List.getElem?_cons_zero, List.getElem?_cons_succ, List.set_cons_zero, List.set_cons_succ] at c3 D3
      rcases hs with hs | ⟨hs, hx⟩
      · subst hs
        go_upto_region 7 with fail
        generalize w2.setCell _ _ = w3 at *
        go_wp2_with (first | (refine wpList_load_mid rfl 125 _ rfl g7 0 rfl _ _ ((D3.out.get 0 rfl).range) underE rfl (by rw [sizeE]; rfl) ?_) | (go_at_call 60; refine (HL.out _ D3.out.db).mono ?_; rintro e w4 ⟨rfl, hd, hb⟩; have D4 := hid (D3.out.step hd hb (by simp [Dp.w])); clear hb hd))
        go_ret
        exact ⟨rfl, D4.out.db, D4.out.but⟩
      · subst hs hx
        go_upto_region 7 with fail
        generalize w2.setCell _ _ = w3 at *
        go_wp2_with (first | (refine wpList_load_mid rfl 125 _ rfl g7 0 rfl _ _ ((D3.out.get 0 rfl).range) underE rfl (by rw [sizeE]; rfl) ?_) | (go_at_call 60; refine (HL.out _ D3.out.db).mono ?_; rintro e w4 ⟨rfl, hd, hb⟩; have D4 := hid (D3.out.step hd hb (by simp [Dp.w])); clear hb hd))
        go_ret
        exact ⟨rfl, D4.out.db, D4.out.but⟩
    · have hz : d.stateE q s = 3 := by simp [DS.stateE, hy, hs]
      rw [if_neg (by rw [hz]; decide), hz]
      generalize hX : d.ent q = X at *
      obtain ⟨xt, xo, xr, xs, xx⟩ := X
      simp only at hs
      have hs1 : (s != 3) = true := by simp; intro e; exact hs (.inl e)
      have hs2 : (s != 2) = true ∨ (s = 2 ∧ (xs != 1) = true) := by
        by_cases e : s = 2
        · exact .inr ⟨e, by simp; intro e2; exact hs (.inr ⟨e, e2⟩)⟩
        · exact .inl (by simpa using e)
      clear h hy tq t1 ty q0 q1 eq hok how hz hX hs
      simp only [ptr, En.v, En.cs] at HE ⊢
      go_enter Tryz.func23, Tryz.ntmps23
      go_upto_region 2 with (first | (go_at_call 69; refine (HE.out _ D0.out.db).mono ?_; rintro e w1 ⟨rfl, hb⟩; have D1 := hid (D0.out.on hb); clear hb) | (refine wpList_store_st rfl 125 _ _ rfl w1.heap.size [.int .i64 xt, .int .i64 xo, .int .i64 xr, .int .i64 xs, .bool xx] rfl rfl (Cel.new w1 125 En.zero.cs) sizeE rfl rfl ?_; intro w2 hc hb hs; have D2 := hid (D1.out.add hc hb); clear hc hb hs))
      clear D0 D1 HE
      generalize w1.heap.size = g7 at *
      have c3 := (D2.out.get 0 rfl).cell 3
      simp only [List.getElem?_cons_zero, List.getElem?_cons_succ] at c3
      rcases hs2 with hs2 | ⟨hs2, hx⟩
      · go_wp2_with fail
        go_ret
        exact ⟨rfl, D2.out.db, D2.out.but⟩
      · subst hs2
        clear hs1
        go_wp2_with fail
        go_ret
        exact ⟨rfl, D2.out.db, D2.out.but⟩
  · have hz : d.stateE q s = d.typE q 1 := by simp [DS.stateE, hy]
    rw [hz, if_neg hy]
    have hy' : (d.typE q 1 == 0) = false := by simpa using hy
    clear h hz hy
    generalize d.typE q 1 = R at *
    generalize d.typ q 1 = X at *
    obtain ⟨xt, xo, xr, xs, xx⟩ := X
    simp only [ptr, En.v, En.cs] at HE ⊢
    go_enter Tryz.func23, Tryz.ntmps23
    go_upto_region 2 with (first | (go_at_call 69; refine (HE.out _ D0.out.db).mono ?_; rintro e w1 ⟨rfl, hb⟩; have D1 := hid (D0.out.on hb); clear hb) | (refine wpList_store_st rfl 125 _ _ rfl w1.heap.size [.int .i64 xt, .int .i64 xo, .int .i64 xr, .int .i64 xs, .bool xx] rfl rfl (Cel.new w1 125 En.zero.cs) sizeE rfl rfl ?_; intro w2 hc hb hs; have D2 := hid (D1.out.add hc hb); clear hc hb hs))
    clear D0 D1 HE
    go_wp2_with fail
    go_ret
    exact ⟨rfl, D2.out.db, D2.out.but⟩
def DS.enteredE (d : DS) (q : Int) : Int := d.typE q 2
def DS.entered (d : DS) (q : Int) (on : Bool) : DS := if d.enteredE q = 0 then d.lay q.toNat { d.ent q with e := on } else d
end Go.Proofs.YtgbpbfnpeeciaaaGreat
namespace Go.Proofs.YtgbpbfnpeeciaaaGreat
open Go.RowKit
set_option maxHeartbeats 2000000
set_option maxRecDepth 100000
def DS.giveE (d : DS) (q : Int) : Int := if d.entE q ≠ 0 then d.entE q else if (d.ent q).t = 0 then 121 else if (d.ent q).t = 1 ∧ 0 < (d.ent q).r then 123 else 0
def DS.freed (d : DS) (q : Int) : DS := (d.lay q.toNat En.zero).wipe q
def DS.given (d : DS) (q : Int) : DS := if (d.ent q).t ≠ 1 ∧ 0 < ((d.freed q).at (d.ent q).o.toNat).r then (d.freed q).cnt (d.ent q).o.toNat (-1) else d.freed q
def DS.give (d : DS) (q : Int) : DS := if d.giveE q = 0 then d.given q else d
theorem give_zero {d : DS} {q : Int} (h : d.giveE q = 0) : d.there q = true ∧ (d.ent q).t ≠ 0 ∧ ((d.ent q).t ≠ 1 ∨ (d.ent q).r ≤ 0) := by
  cases hq : d.there q
  · simp [DS.giveE, DS.entE, hq] at h
  simp only [DS.giveE, DS.entE, hq, if_true, ne_eq, not_true_eq_false, if_false] at h
  by_cases h1 : (d.ent q).t = 0
  · rw [if_pos h1] at h; cases h
  rw [if_neg h1] at h
  by_cases h2 : (d.ent q).t = 1 ∧ 0 < (d.ent q).r
  · rw [if_pos h2] at h; cases h
  exact ⟨rfl, h1, by omega⟩
theorem give_any (W : World) (p : Dp) (d : DS) (h : DB W p d) (q : Int) :
    Calls Tryz.prog 21 #[ptr p.g, .int .i64 q] W fun e W' => e = .returned (.int .i64 (d.giveE q)) ∧ DB W' p (d.give q) ∧ ButL p.w W W' := by
  have D0 := hid (DG.start h p.w h.wlt)
  have HE := hid (fun w (hw : DB w p d) => entry_any w p d hw q)
  unfold DS.give
  by_cases hz : d.giveE q = 0
  · rw [if_pos hz, hz]
    obtain ⟨tq, h1, h2⟩ := give_zero hz
    obtain ⟨q0, q1, eq⟩ := there_lt tq
    have hok := (En.ok_iff _).1 (h.ok.ok _ q1)
    have how := h.ok.own _ q1
    rw [← ent_at tq] at hok how
    have o0 := hok.o0
    have on : (d.ent q).o.toNat < d.m.ns := by omega
    have eo : (d.ent q).o = (((d.ent q).o.toNat : Nat) : Int) := by omega
    have HL := hid (fun w (hw : DB w p d) => lay_any w p d hw q.toNat q1 En.zero zero_ok (by show (0 : Int) < _; omega))
    rw [← eq] at HL
    have HW : Hid (∀ w, DB w p (d.lay q.toNat En.zero) → Calls Tryz.prog 55 #[ptr p.g, .int .i64 q] w fun e W' => e = .returned (.tuple #[]) ∧ DB W' p (d.freed q) ∧ ButL p.f.w w W') := hid (fun w hw => wipe_any w p _ hw q)
    have hns : (d.freed q).m.ns = d.m.ns := by show (d.m.zero true q).ns = _; exact MS.zero_ns _ _ _
    have HA := hid (fun w (hw : DB w p (d.freed q)) => dat_any w p _ hw (d.ent q).o.toNat (by rw [hns]; exact on))
    have HC : Hid (∀ w, DB w p (d.freed q) → 0 < ((d.freed q).at (d.ent q).o.toNat).r → Calls Tryz.prog 65 #[ptr p.g, .int .i64 (((d.ent q).o.toNat : Nat) : Int), .int .i64 (-1)] w fun e W' => e = .returned (.tuple #[]) ∧ DB W' p ((d.freed q).cnt (d.ent q).o.toNat (-1)) ∧ ButL [p.gw] w W') := hid (fun w hw hr => by
      have hk := hw.ok.ok (d.ent q).o.toNat (by rw [hns]; exact on)
      have hk2 := (En.ok_iff _).1 hk
      refine count_any w p _ hw _ (by rw [hns]; exact on) (-1) (En.okR hk ?_ _ (by omega) (by have := hk2.r1; omega))
      by_cases e : ((d.freed q).at (d.ent q).o.toNat).t = 1
      · exact e
      · have := (hk2.ns e).1; omega)
    rw [← eo] at HC HA
    have e2 : d.entE q = 0 := by simp [DS.entE, tq]
    rw [e2] at HE
    unfold DS.given
    generalize d.lay q.toNat En.zero = d1 at *
    generalize d.freed q = d2 at *
    generalize hY : d2.at (d.ent q).o.toNat = Y at *
    generalize d2.cnt (d.ent q).o.toNat (-1) = d3 at *
    generalize hX : d.ent q = X at *
    obtain ⟨xt, xo, xr, xs, xx⟩ := X
    obtain ⟨yt, yo, yr, ys, yx⟩ := Y
    simp only at HA HC h1 h2 ⊢
    clear h hz tq q0 q1 eq hok how o0 on eo hns e2 hX hY
    simp only [ptr, En.v, En.cs] at HE HA
    simp only [ptr, En.v] at HL HW HC ⊢
    have hfd : ∀ w : World, (Instr.field 125 (.agg #[.int .i64 yt, .int .i64 yo, .int .i64 yr, .int .i64 ys, .bool yx]) 2).run Tryz.prog w = .ok (.int .i64 yr) w := fun _ => by kernel_rfl
    have hx0 : (xt == 0) = false := by simpa using h1
    clear h1
    by_cases h3 : xt = 1
    · subst h3
      have h2' : xr ≤ 0 := by omega
      clear h2
      rw [if_neg (by simp)]
      clear HA HC hfd
      go_enter Tryz.func21, Tryz.ntmps21
      go_upto_region 2 with (first | (go_at_call 62; refine (HE.out _ D0.out.db).mono ?_; rintro e w1 ⟨rfl, hb⟩; have D1 := hid (D0.out.on hb); clear hb) | (refine wpList_store_st rfl 125 _ _ rfl w1.heap.size [.int .i64 1, .int .i64 xo, .int .i64 xr, .int .i64 xs, .bool xx] rfl rfl (Cel.new w1 125 En.zero.cs) sizeE rfl rfl ?_; intro w2 hc hb hs; have D2 := hid (D1.out.add hc hb); clear hc hb hs))
      clear D0 D1 HE
      generalize w1.heap.size = g5 at *
      have c0 := (D2.out.get 0 rfl).cell 0
      have c2 := (D2.out.get 0 rfl).cell 2
      simp only [List.getElem?_cons_zero, List.getElem?_cons_succ] at c0 c2
      go_upto_region 9 with (first | (refine wpList_build_zE rfl rfl ?_) | (go_at_call 60; refine (HL.out _ D2.out.db).mono ?_; rintro e w4 ⟨rfl, hd, hb⟩; have D4 := hid (D2.out.step hd hb (by simp [Dp.w])); clear hb hd))
      clear D2 HL c0 c2
      go_upto_region 10 with (go_at_call 55; refine (HW.out _ D4.out.db).mono ?_; rintro e w5 ⟨rfl, hd, hb⟩; have D5 := hid (D4.out.step hd hb (fun k hk => by simp only [Dp.w, List.mem_cons]; exact .inr hk)); clear hb hd)
      have c0 := (D5.out.get 0 rfl).cell 0
      simp only [List.getElem?_cons_zero] at c0
      go_wp2_with fail
      go_ret
      exact ⟨rfl, D5.out.db, D5.out.but⟩
    · have h3' : (xt != 1) = true := by simpa using h3
      have h3'' : (xt == 1) = false := by simpa using h3
      generalize hd4 : (if xt ≠ 1 ∧ 0 < yr then d3 else d2) = d4
      have HD4 := hid hd4
      clear hd4
      go_enter Tryz.func21, Tryz.ntmps21
      go_upto_region 2 with (first | (go_at_call 62; refine (HE.out _ D0.out.db).mono ?_; rintro e w1 ⟨rfl, hb⟩; have D1 := hid (D0.out.on hb); clear hb) | (refine wpList_store_st rfl 125 _ _ rfl w1.heap.size [.int .i64 xt, .int .i64 xo, .int .i64 xr, .int .i64 xs, .bool xx] rfl rfl (Cel.new w1 125 En.zero.cs) sizeE rfl rfl ?_; intro w2 hc hb hs; have D2 := hid (D1.out.add hc hb); clear hc hb hs))
      clear D0 D1 HE
      generalize w1.heap.size = g5 at *
      have c0 := (D2.out.get 0 rfl).cell 0
      simp only [List.getElem?_cons_zero] at c0
      go_upto_region 9 with (first | (refine wpList_build_zE rfl rfl ?_) | (go_at_call 60; refine (HL.out _ D2.out.db).mono ?_; rintro e w4 ⟨rfl, hd, hb⟩; have D4 := hid (D2.out.step hd hb (by simp [Dp.w])); clear hb hd))
      clear D2 HL c0
      go_upto_region 10 with (go_at_call 55; refine (HW.out _ D4.out.db).mono ?_; rintro e w5 ⟨rfl, hd, hb⟩; have D5 := hid (D4.out.step hd hb (fun k hk => by simp only [Dp.w, List.mem_cons]; exact .inr hk)); clear hb hd)
      clear D4 HW
      have c0 := (D5.out.get 0 rfl).cell 0
      have c1 := (D5.out.get 0 rfl).cell 1
      simp only [List.getElem?_cons_zero, List.getElem?_cons_succ] at c0 c1
      by_cases h4 : 0 < yr
      · have HD5 : Hid (d4 = d3) := hid (by rw [← HD4.out, if_pos ⟨h3, h4⟩])
        clear h3 h2
        have HC2 := hid (fun w hw => HC.out w hw h4)
        clear HC
        go_upto_region 11 with (go_at_call 68; refine (HA.out _ D5.out.db).mono ?_; rintro e w6 ⟨rfl, hb⟩; have D6 := hid (D5.out.on hb); clear hb)
        have k1 := (D6.out.get 0 rfl).cell 1
        simp only [List.getElem?_cons_zero, List.getElem?_cons_succ] at k1
        go_wp2_with (go_at_call 65; refine (HC2.out _ D6.out.db).mono ?_; rintro e w7 ⟨rfl, hd, hb⟩; have D7 := hid (D6.out.step hd hb (by simp [Dp.w])); clear hb hd)
        go_ret
        exact ⟨rfl, by rw [HD5.out]; exact D7.out.db, D7.out.but⟩
      · have HD5 : Hid (d4 = d2) := hid (by rw [← HD4.out, if_neg (by omega)])
        have h4' : yr ≤ 0 := by omega
        clear h3 h2 h4 HC
        go_wp2_with (go_at_call 68; refine (HA.out _ D5.out.db).mono ?_; rintro e w6 ⟨rfl, hb⟩; have D6 := hid (D5.out.on hb); clear hb)
        go_ret
        exact ⟨rfl, by rw [HD5.out]; exact D6.out.db, D6.out.but⟩
  · rw [if_neg hz]
    have HR : Hid (d.giveE q ≠ 0 ∧ d.giveE q = if d.entE q ≠ 0 then d.entE q else if (d.ent q).t = 0 then 121 else if (d.ent q).t = 1 ∧ 0 < (d.ent q).r then 123 else 0) := hid ⟨hz, rfl⟩
    generalize d.giveE q = R at *
    clear h hz
    generalize d.ent q = X at *
    obtain ⟨xt, xo, xr, xs, xx⟩ := X
    generalize d.entE q = xe at *
    simp only at HR
    simp only [ptr, En.v, En.cs] at HE ⊢
    go_enter Tryz.func21, Tryz.ntmps21
    go_upto_region 2 with (first | (go_at_call 62; refine (HE.out _ D0.out.db).mono ?_; rintro e w1 ⟨rfl, hb⟩; have D1 := hid (D0.out.on hb); clear hb) | (refine wpList_store_st rfl 125 _ _ rfl w1.heap.size [.int .i64 xt, .int .i64 xo, .int .i64 xr, .int .i64 xs, .bool xx] rfl rfl (Cel.new w1 125 En.zero.cs) sizeE rfl rfl ?_; intro w2 hc hb hs; have D2 := hid (D1.out.add hc hb); clear hc hb hs))
    clear D0 D1 HE
    generalize w1.heap.size = g5 at *
    have c0 := (D2.out.get 0 rfl).cell 0
    have c2 := (D2.out.get 0 rfl).cell 2
    simp only [List.getElem?_cons_zero, List.getElem?_cons_succ] at c0 c2
    by_cases h1 : xe = 0
    · subst h1
      by_cases h2 : xt = 0
      · subst h2
        have hR : R = 121 := by rw [HR.out.2]; simp
        subst hR
        clear HR
        go_wp2_with fail
        go_ret
        exact ⟨rfl, D2.out.db, D2.out.but⟩
      · by_cases h3 : xt = 1 ∧ 0 < xr
        · obtain ⟨rfl, h4⟩ := h3
          have hR : R = 123 := by rw [HR.out.2]; simp [h4]
          subst hR
          clear HR h2
          go_wp2_with fail
          go_ret
          exact ⟨rfl, D2.out.db, D2.out.but⟩
        · exact absurd (HR.out.2.trans (by simp [h2, h3])) HR.out.1
    · have h1' : (xe == 0) = false := by simpa using h1
      have hR : R = xe := by rw [HR.out.2]; simp [h1]
      subst hR
      clear HR h1
      go_wp2_with fail
      go_ret
      exact ⟨rfl, D2.out.db, D2.out.but⟩
end Go.Proofs.YtgbpbfnpeeciaaaGreat
