/- Give 41. -/
import Derived.Test.YtajkhkaidjjioaaD7
namespace Go.Proofs.Ytajkhkaidjjioaa
open Go.RowKit
set_option maxHeartbeats 2000000
set_option maxRecDepth 100000
def DS.giveE (d : DS) (q : Int) : Int := if d.entE q ≠ 0 then d.entE q else if (d.ent q).t = 0 then 121 else if (d.ent q).t = 1 ∧ 0 < (d.ent q).r then 123 else 0
def DS.freed (d : DS) (q : Int) : DS := (d.lay q.toNat En.zero).wipe q
def DS.given (d : DS) (q : Int) : DS := if (d.ent q).t ≠ 1 ∧ 0 < ((d.freed q).at (d.ent q).o.toNat).r then (d.freed q).cnt (d.ent q).o.toNat (-1) else d.freed q
def DS.give (d : DS) (q : Int) : DS := if d.giveE q = 0 then d.given q else d
theorem give_zero {d : DS} {q : Int} (h : d.giveE q = 0) : d.there q = true ∧ (d.ent q).t ≠ 0 ∧ ((d.ent q).t ≠ 1 ∨ (d.ent q).r ≤ 0) := by
  cases hq : d.there q
  · simp [DS.giveE, DS.entE, hq] at h
  simp only [DS.giveE, DS.entE, hq, if_true, ne_eq, not_true_eq_false, if_false] at h
  by_cases h1 : (d.ent q).t = 0
  · rw [if_pos h1] at h; cases h
  rw [if_neg h1] at h
  by_cases h2 : (d.ent q).t = 1 ∧ 0 < (d.ent q).r
  · rw [if_pos h2] at h; cases h
  exact ⟨rfl, h1, by omega⟩
theorem give_any (W : World) (p : Dp) (d : DS) (h : DB W p d) (q : Int) :
    Calls Try.prog 41 #[ptr p.g, .int .i64 q] W fun e W' => e = .returned (.int .i64 (d.giveE q)) ∧ DB W' p (d.give q) ∧ ButL p.w W W' := by
  have D0 := hid (DG.start h p.w h.wlt)
  have HE := hid (fun w (hw : DB w p d) => entry_any w p d hw q)
  unfold DS.give
  by_cases hz : d.giveE q = 0
  · rw [if_pos hz, hz]
    obtain ⟨tq, h1, h2⟩ := give_zero hz
    obtain ⟨q0, q1, eq⟩ := there_lt tq
    have hok := (En.ok_iff _).1 (h.ok.ok _ q1)
    have how := h.ok.own _ q1
    rw [← ent_at tq] at hok how
    have o0 := hok.o0
    have on : (d.ent q).o.toNat < d.m.ns := by omega
    have eo : (d.ent q).o = (((d.ent q).o.toNat : Nat) : Int) := by omega
    have HL := hid (fun w (hw : DB w p d) => lay_any w p d hw q.toNat q1 En.zero zero_ok (by show (0 : Int) < _; omega))
    rw [← eq] at HL
    have HW : Hid (∀ w, DB w p (d.lay q.toNat En.zero) → Calls Try.prog 63 #[ptr p.g, .int .i64 q] w fun e W' => e = .returned (.tuple #[]) ∧ DB W' p (d.freed q) ∧ ButL p.f.w w W') := hid (fun w hw => wipe_any w p _ hw q)
    have hns : (d.freed q).m.ns = d.m.ns := by show (d.m.zero true q).ns = _; exact MS.zero_ns _ _ _
    have HA := hid (fun w (hw : DB w p (d.freed q)) => dat_any w p _ hw (d.ent q).o.toNat (by rw [hns]; exact on))
    have HC : Hid (∀ w, DB w p (d.freed q) → 0 < ((d.freed q).at (d.ent q).o.toNat).r → Calls Try.prog 58 #[ptr p.g, .int .i64 (((d.ent q).o.toNat : Nat) : Int), .int .i64 (-1)] w fun e W' => e = .returned (.tuple #[]) ∧ DB W' p ((d.freed q).cnt (d.ent q).o.toNat (-1)) ∧ ButL [p.gw] w W') := hid (fun w hw hr => by
      have hk := hw.ok.ok (d.ent q).o.toNat (by rw [hns]; exact on)
      have hk2 := (En.ok_iff _).1 hk
      refine count_any w p _ hw _ (by rw [hns]; exact on) (-1) (En.okR hk ?_ _ (by omega) (by have := hk2.r1; omega))
      by_cases e : ((d.freed q).at (d.ent q).o.toNat).t = 1
      · exact e
      · have := (hk2.ns e).1; omega)
    rw [← eo] at HC HA
    have e2 : d.entE q = 0 := by simp [DS.entE, tq]
    rw [e2] at HE
    unfold DS.given
    generalize d.lay q.toNat En.zero = d1 at *
    generalize d.freed q = d2 at *
    generalize hY : d2.at (d.ent q).o.toNat = Y at *
    generalize d2.cnt (d.ent q).o.toNat (-1) = d3 at *
    generalize hX : d.ent q = X at *
    obtain ⟨xt, xo, xr, xs, xx⟩ := X
    obtain ⟨yt, yo, yr, ys, yx⟩ := Y
    simp only at HA HC h1 h2 ⊢
    clear h hz tq q0 q1 eq hok how o0 on eo hns e2 hX hY
    simp only [ptr, En.v, En.cs] at HE HA
    simp only [ptr, En.v] at HL HW HC ⊢
    have hfd : ∀ w : World, (Instr.field 62 (.agg #[.int .i64 yt, .int .i64 yo, .int .i64 yr, .int .i64 ys, .bool yx]) 2).run Try.prog w = .ok (.int .i64 yr) w := fun _ => by kernel_rfl
    have hx0 : (xt == 0) = false := by simpa using h1
    clear h1
    by_cases h3 : xt = 1
    · subst h3
      have h2' : xr ≤ 0 := by omega
      clear h2
      rw [if_neg (by simp)]
      clear HA HC hfd
      go_enter Try.func41, Try.ntmps41
      go_upto_region 2 with (first | (go_at_call 55; refine (HE.out _ D0.out.db).mono ?_; rintro e w1 ⟨rfl, hb⟩; have D1 := hid (D0.out.on hb); clear hb) | (refine wpList_store_st rfl 62 _ _ rfl w1.heap.size [.int .i64 1, .int .i64 xo, .int .i64 xr, .int .i64 xs, .bool xx] rfl rfl (Cel.new w1 62 En.zero.cs) sizeE rfl rfl ?_; intro w2 hc hb hs; have D2 := hid (D1.out.add hc hb); clear hc hb hs))
      clear D0 D1 HE
      generalize w1.heap.size = g5 at *
      have c0 := (D2.out.get 0 rfl).cell 0
      have c2 := (D2.out.get 0 rfl).cell 2
      simp only [List.getElem?_cons_zero, List.getElem?_cons_succ] at c0 c2
      go_upto_region 9 with (first | (refine wpList_build_zE rfl rfl ?_) | (go_at_call 53; refine (HL.out _ D2.out.db).mono ?_; rintro e w4 ⟨rfl, hd, hb⟩; have D4 := hid (D2.out.step hd hb (by simp [Dp.w])); clear hb hd))
      clear D2 HL c0 c2
      go_upto_region 10 with (go_at_call 63; refine (HW.out _ D4.out.db).mono ?_; rintro e w5 ⟨rfl, hd, hb⟩; have D5 := hid (D4.out.step hd hb (fun k hk => by simp only [Dp.w, List.mem_cons]; exact .inr hk)); clear hb hd)
      have c0 := (D5.out.get 0 rfl).cell 0
      simp only [List.getElem?_cons_zero] at c0
      go_wp2_with fail
      go_ret
      exact ⟨rfl, D5.out.db, D5.out.but⟩
    · have h3' : (xt != 1) = true := by simpa using h3
      have h3'' : (xt == 1) = false := by simpa using h3
      generalize hd4 : (if xt ≠ 1 ∧ 0 < yr then d3 else d2) = d4
      have HD4 := hid hd4
      clear hd4
      go_enter Try.func41, Try.ntmps41
      go_upto_region 2 with (first | (go_at_call 55; refine (HE.out _ D0.out.db).mono ?_; rintro e w1 ⟨rfl, hb⟩; have D1 := hid (D0.out.on hb); clear hb) | (refine wpList_store_st rfl 62 _ _ rfl w1.heap.size [.int .i64 xt, .int .i64 xo, .int .i64 xr, .int .i64 xs, .bool xx] rfl rfl (Cel.new w1 62 En.zero.cs) sizeE rfl rfl ?_; intro w2 hc hb hs; have D2 := hid (D1.out.add hc hb); clear hc hb hs))
      clear D0 D1 HE
      generalize w1.heap.size = g5 at *
      have c0 := (D2.out.get 0 rfl).cell 0
      simp only [List.getElem?_cons_zero] at c0
      go_upto_region 9 with (first | (refine wpList_build_zE rfl rfl ?_) | (go_at_call 53; refine (HL.out _ D2.out.db).mono ?_; rintro e w4 ⟨rfl, hd, hb⟩; have D4 := hid (D2.out.step hd hb (by simp [Dp.w])); clear hb hd))
      clear D2 HL c0
      go_upto_region 10 with (go_at_call 63; refine (HW.out _ D4.out.db).mono ?_; rintro e w5 ⟨rfl, hd, hb⟩; have D5 := hid (D4.out.step hd hb (fun k hk => by simp only [Dp.w, List.mem_cons]; exact .inr hk)); clear hb hd)
      clear D4 HW
      have c0 := (D5.out.get 0 rfl).cell 0
      have c1 := (D5.out.get 0 rfl).cell 1
      simp only [List.getElem?_cons_zero, List.getElem?_cons_succ] at c0 c1
      by_cases h4 : 0 < yr
      · have HD5 : Hid (d4 = d3) := hid (by rw [← HD4.out, if_pos ⟨h3, h4⟩])
        clear h3 h2
        have HC2 := hid (fun w hw => HC.out w hw h4)
        clear HC
        go_upto_region 11 with (go_at_call 87; refine (HA.out _ D5.out.db).mono ?_; rintro e w6 ⟨rfl, hb⟩; have D6 := hid (D5.out.on hb); clear hb)
        have k1 := (D6.out.get 0 rfl).cell 1
        simp only [List.getElem?_cons_zero, List.getElem?_cons_succ] at k1
        go_wp2_with (go_at_call 58; refine (HC2.out _ D6.out.db).mono ?_; rintro e w7 ⟨rfl, hd, hb⟩; have D7 := hid (D6.out.step hd hb (by simp [Dp.w])); clear hb hd)
        go_ret
        exact ⟨rfl, by rw [HD5.out]; exact D7.out.db, D7.out.but⟩
      · have HD5 : Hid (d4 = d2) := hid (by rw [← HD4.out, if_neg (by omega)])
        have h4' : yr ≤ 0 := by omega
        clear h3 h2 h4 HC
        go_wp2_with (go_at_call 87; refine (HA.out _ D5.out.db).mono ?_; rintro e w6 ⟨rfl, hb⟩; have D6 := hid (D5.out.on hb); clear hb)
        go_ret
        exact ⟨rfl, by rw [HD5.out]; exact D6.out.db, D6.out.but⟩
  · rw [if_neg hz]
    have HR : Hid (d.giveE q ≠ 0 ∧ d.giveE q = if d.entE q ≠ 0 then d.entE q else if (d.ent q).t = 0 then 121 else if (d.ent q).t = 1 ∧ 0 < (d.ent q).r then 123 else 0) := hid ⟨hz, rfl⟩
    generalize d.giveE q = R at *
    clear h hz
    generalize d.ent q = X at *
    obtain ⟨xt, xo, xr, xs, xx⟩ := X
    generalize d.entE q = xe at *
    simp only at HR
    simp only [ptr, En.v, En.cs] at HE ⊢
    go_enter Try.func41, Try.ntmps41
    go_upto_region 2 with (first | (go_at_call 55; refine (HE.out _ D0.out.db).mono ?_; rintro e w1 ⟨rfl, hb⟩; have D1 := hid (D0.out.on hb); clear hb) | (refine wpList_store_st rfl 62 _ _ rfl w1.heap.size [.int .i64 xt, .int .i64 xo, .int .i64 xr, .int .i64 xs, .bool xx] rfl rfl (Cel.new w1 62 En.zero.cs) sizeE rfl rfl ?_; intro w2 hc hb hs; have D2 := hid (D1.out.add hc hb); clear hc hb hs))
    clear D0 D1 HE
    generalize w1.heap.size = g5 at *
    have c0 := (D2.out.get 0 rfl).cell 0
    have c2 := (D2.out.get 0 rfl).cell 2
    simp only [List.getElem?_cons_zero, List.getElem?_cons_succ] at c0 c2
    by_cases h1 : xe = 0
    · subst h1
      by_cases h2 : xt = 0
      · subst h2
        have hR : R = 121 := by rw [HR.out.2]; simp
        subst hR
        clear HR
        go_wp2_with fail
        go_ret
        exact ⟨rfl, D2.out.db, D2.out.but⟩
      · by_cases h3 : xt = 1 ∧ 0 < xr
        · obtain ⟨rfl, h4⟩ := h3
          have hR : R = 123 := by rw [HR.out.2]; simp [h4]
          subst hR
          clear HR h2
          go_wp2_with fail
          go_ret
          exact ⟨rfl, D2.out.db, D2.out.but⟩
        · exact absurd (HR.out.2.trans (by simp [h2, h3])) HR.out.1
    · have h1' : (xe == 0) = false := by simpa using h1
      have hR : R = xe := by rw [HR.out.2]; simp [h1]
      subst hR
      clear HR h1
      go_wp2_with fail
      go_ret
      exact ⟨rfl, D2.out.db, D2.out.but⟩
end Go.Proofs.Ytajkhkaidjjioaa
