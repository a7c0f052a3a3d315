import Derived.Test.YtildhjiddidghaaGreatDoorP19
import Derived.Laws.CopyOwn
import Derived.Test.YtildhjiddidghaaGreatDoorP01
namespace Go.Proofs.YtildhjiddidghaaGreatDoor
open Go.RowKit
set_option maxHeartbeats 2000000
set_option maxRecDepth 100000
def DS.turnE (d : DS) (q t : Int) : Int := if d.entE q ≠ 0 then d.entE q else if trn (d.ent q).t = false then 124 else if trn t = false then 124 else 0
def DS.turned (d : DS) (q t : Int) : DS := (d.lay q.toNat (enT t (d.ent q).o)).wipe q
def DS.turn (d : DS) (q t : Int) : DS := if d.turnE q t = 0 then d.turned q t else d
theorem turn_zero {d : DS} {q t : Int} (h : d.turnE q t = 0) : d.there q = true ∧ trn (d.ent q).t = true ∧ trn t = true := by
  cases hq : d.there q
  · simp [DS.turnE, DS.entE, hq] at h
  simp only [DS.turnE, DS.entE, hq, if_true, ne_eq, not_true_eq_false, if_false] at h
  cases h1 : trn (d.ent q).t
  · rw [h1] at h; simp at h
  cases h2 : trn t
  · rw [h1, h2] at h; simp at h
  exact ⟨rfl, rfl, rfl⟩
theorem turn_any (W : World) (p : Dp) (d : DS) (h : DB W p d) (q t : Int) :
    Calls Tryz.prog 35 #[ptr p.g, .int .i64 q, .int .i64 t] W fun e W' => e = .returned (.int .i64 (d.turnE q t)) ∧ DB W' p (d.turn q t) ∧ ButL p.w W W' := by
  have D0 := hid (DG.start h p.w h.wlt)
  have HE := hid (fun w (hw : DB w p d) => entry_any w p d hw q)
  have HT := hid (fun W => turns_any W t)
  have HT0 := hid (fun W => turns_any W (d.ent q).t)
  unfold DS.turn
  by_cases hz : d.turnE q t = 0
  · rw [if_pos hz, hz]
    obtain ⟨tq, h1, h2⟩ := turn_zero hz
    obtain ⟨q0, q1, eq⟩ := there_lt tq
    have n64 := h.ok.n64
    have ht := (trn_iff t).1 h2
    have hok := (En.ok_iff _).1 (h.ok.ok _ q1)
    have how := h.ok.own _ q1
    rw [← ent_at tq] at hok how
    have HL := hid (fun w (hw : DB w p d) => lay_any w p d hw q.toNat q1 (enT t (d.ent q).o) (enT_ok (by omega) (by omega) hok.o0 hok.o1) how)
    rw [← eq] at HL
    have HW := hid (fun w (hw : DB w p (d.lay q.toNat (enT t (d.ent q).o))) => wipe_any w p _ hw q)
    have e2 : d.entE q = 0 := by simp [DS.entE, tq]
    rw [e2] at HE
    rw [h1] at HT0
    rw [h2] at HT
    unfold DS.turned
    generalize hX : d.ent q = X at *
    obtain ⟨xt, xo, xr, xs, xx⟩ := X
    simp only at HL HW HT0 ⊢
    generalize d.lay q.toNat (enT t xo) = d1 at *
    clear h hz tq h1 h2 q0 q1 eq n64 ht hok how e2 hX
    simp only [ptr, En.v, En.cs] at HE
    simp only [ptr, En.v] at HL HW ⊢
    go_enter Tryz.func35, Tryz.ntmps35
    go_upto_region 2 with (first | (go_at_call 49; refine (HE.out _ D0.out.db).mono ?_; rintro e w1 ⟨rfl, hb⟩; have D1 := hid (D0.out.on hb); clear hb) | (refine wpList_store_st rfl 92 _ _ rfl w1.heap.size [.int .i64 xt, .int .i64 xo, .int .i64 xr, .int .i64 xs, .bool xx] rfl rfl (Cel.new w1 92 En.zero.cs) sizeE rfl rfl ?_; intro w2 hc hb hs; have D2 := hid (D1.out.add hc hb); clear hc hb hs))
    clear D0 D1 HE
    generalize w1.heap.size = g7 at *
    have c0 := (D2.out.get 0 rfl).cell 0
    have c1 := (D2.out.get 0 rfl).cell 1
    simp only [List.getElem?_cons_zero, List.getElem?_cons_succ] at c0 c1
    go_upto_region 6 with (go_at_call 69; first | (refine (HT0.out _).mono ?_; clear HT0; rintro e w6 ⟨rfl, hw6⟩; subst hw6) | (refine (HT.out _).mono ?_; rintro e w6 ⟨rfl, hw6⟩; subst hw6))
    clear HT
    go_upto_region 7 with (first | (refine wpList_build_f rfl 92 _ rfl #[(0, .int .i64 t), (1, .int .i64 xo)] (by rfl) _ (built_T t xo) ?_) | (go_at_call 67; refine (HL.out _ D2.out.db).mono ?_; rintro e w4 ⟨rfl, hd, hb⟩; have D4 := hid (D2.out.step hd hb (by simp [Dp.w])); clear hb hd))
    go_wp2_with (go_at_call 62; refine (HW.out _ D4.out.db).mono ?_; rintro e w5 ⟨rfl, hd, hb⟩; have D5 := hid (D4.out.step hd hb (fun k hk => by simp only [Dp.w, List.mem_cons]; exact .inr hk)); clear hb hd)
    go_ret
    exact ⟨rfl, D5.out.db, D5.out.but⟩
  · rw [if_neg hz]
    have HR : Hid (d.turnE q t ≠ 0 ∧ d.turnE q t = if d.entE q ≠ 0 then d.entE q else if trn (d.ent q).t = false then 124 else if trn t = false then 124 else 0) := hid ⟨hz, rfl⟩
    generalize d.turnE q t = R at *
    clear h hz
    generalize d.ent q = X at *
    obtain ⟨xt, xo, xr, xs, xx⟩ := X
    generalize d.entE q = xe at *
    simp only at HR HT0
    generalize trn xt = tx at *
    generalize trn t = tt at *
    simp only [ptr, En.v, En.cs] at HE ⊢
    go_enter Tryz.func35, Tryz.ntmps35
    go_upto_region 2 with (first | (go_at_call 49; refine (HE.out _ D0.out.db).mono ?_; rintro e w1 ⟨rfl, hb⟩; have D1 := hid (D0.out.on hb); clear hb) | (refine wpList_store_st rfl 92 _ _ rfl w1.heap.size [.int .i64 xt, .int .i64 xo, .int .i64 xr, .int .i64 xs, .bool xx] rfl rfl (Cel.new w1 92 En.zero.cs) sizeE rfl rfl ?_; intro w2 hc hb hs; have D2 := hid (D1.out.add hc hb); clear hc hb hs))
    clear D0 D1 HE
    generalize w1.heap.size = g7 at *
    have c0 := (D2.out.get 0 rfl).cell 0
    simp only [List.getElem?_cons_zero] at c0
    by_cases h1 : xe = 0
    · subst h1
      cases tx
      · have hR : R = 124 := by rw [HR.out.2]; simp
        subst hR
        clear HR
        go_wp2_with (go_at_call 69; refine (HT0.out _).mono ?_; rintro e w6 ⟨rfl, hw6⟩; subst hw6)
        go_ret
        exact ⟨rfl, D2.out.db, D2.out.but⟩
      · cases tt
        · have hR : R = 124 := by rw [HR.out.2]; simp
          subst hR
          clear HR
          go_wp2_with (go_at_call 69; first | (refine (HT0.out _).mono ?_; clear HT0; rintro e w6 ⟨rfl, hw6⟩; subst hw6) | (refine (HT.out _).mono ?_; rintro e w6 ⟨rfl, hw6⟩; subst hw6))
          go_ret
          exact ⟨rfl, D2.out.db, D2.out.but⟩
        · exact absurd (HR.out.2.trans (by simp)) HR.out.1
    · have h1' : (xe == 0) = false := by simpa using h1
      have hR : R = xe := by rw [HR.out.2]; simp [h1]
      subst hR
      clear HR h1
      go_wp2_with fail
      go_ret
      exact ⟨rfl, D2.out.db, D2.out.but⟩
def DS.stateE (d : DS) (q s : Int) : Int := if d.typE q 1 ≠ 0 then d.typE q 1 else if s = 3 ∨ (s = 2 ∧ (d.ent q).s = 1) then 0 else 3
def DS.stated (d : DS) (q s : Int) : DS := d.lay q.toNat { d.ent q with s := s }
def DS.state (d : DS) (q s : Int) : DS := if d.stateE q s = 0 then d.stated q s else d
theorem typ_zero {d : DS} {q t : Int} (h : d.typE q t = 0) : d.there q = true ∧ (d.ent q).t = t ∧ d.typ q t = d.ent q := by
  unfold DS.typE at h
  cases hq : d.there q
  · simp [hq] at h
  · by_cases ht : (d.ent q).t = t
    · exact ⟨rfl, ht, by simp [DS.typ, hq, ht]⟩
    · simp [hq, ht] at h
theorem setState_any (W : World) (p : Dp) (d : DS) (h : DB W p d) (q s : Int) :
    Calls Tryz.prog 39 #[ptr p.g, .int .i64 q, .int .i64 s] W fun e W' => e = .returned (.int .i64 (d.stateE q s)) ∧ DB W' p (d.state q s) ∧ ButL p.w W W' := by
  have D0 := hid (DG.start h p.w h.wlt)
  have HE := hid (fun w (hw : DB w p d) => typed_any w p d hw q 1)
  unfold DS.state
  by_cases hy : d.typE q 1 = 0
  · obtain ⟨tq, t1, ty⟩ := typ_zero hy
    obtain ⟨q0, q1, eq⟩ := there_lt tq
    have hok := h.ok.ok _ q1
    have how := h.ok.own _ q1
    rw [← ent_at tq] at hok how
    rw [ty, hy] at HE
    by_cases hs : s = 3 ∨ (s = 2 ∧ (d.ent q).s = 1)
    · have hz : d.stateE q s = 0 := by simp [DS.stateE, hy, hs]
      rw [if_pos hz, hz]
      have HL := hid (fun w (hw : DB w p d) => lay_any w p d hw q.toNat q1 { d.ent q with s := s } (En.okS hok t1 s (by omega) (by omega)) how)
      rw [← eq] at HL
      unfold DS.stated
      generalize hX : d.ent q = X at *
      obtain ⟨xt, xo, xr, xs, xx⟩ := X
      simp only at HL hs ⊢
      generalize d.lay q.toNat _ = d1 at *
      clear h hy tq t1 ty q0 q1 eq hok how hz hX
      simp only [ptr, En.v, En.cs] at HE HL ⊢
      go_enter Tryz.func39, Tryz.ntmps39
      go_upto_region 2 with (first | (go_at_call 75; refine (HE.out _ D0.out.db).mono ?_; rintro e w1 ⟨rfl, hb⟩; have D1 := hid (D0.out.on hb); clear hb) | (refine wpList_store_st rfl 92 _ _ rfl w1.heap.size [.int .i64 xt, .int .i64 xo, .int .i64 xr, .int .i64 xs, .bool xx] rfl rfl (Cel.new w1 92 En.zero.cs) sizeE rfl rfl ?_; intro w2 hc hb hs; have D2 := hid (D1.out.add hc hb); clear hc hb hs))
      clear D0 D1 HE
      generalize w1.heap.size = g7 at *
      have c3 := (D2.out.get 0 rfl).cell 3
      have f3 := (D2.out.get 0 rfl).free 3
      have D3 := hid (D2.out.put (by simp) ((D2.out.get 0 rfl).setCell 3 (.int .i64 s)) (.setCell _ _ _ _ (by simp)))
      simp only [List.getElem?_cons_zero, List.getElem?_cons_succ, List.set_cons_zero, List.set_cons_succ] at c3 D3
      rcases hs with hs | ⟨hs, hx⟩
      · subst hs
        go_upto_region 7 with fail
        generalize w2.setCell _ _ = w3 at *
        go_wp2_with (first | (refine wpList_load_mid rfl 92 _ rfl g7 0 rfl _ _ ((D3.out.get 0 rfl).range) underE rfl (by rw [sizeE]; rfl) ?_) | (go_at_call 67; refine (HL.out _ D3.out.db).mono ?_; rintro e w4 ⟨rfl, hd, hb⟩; have D4 := hid (D3.out.step hd hb (by simp [Dp.w])); clear hb hd))
        go_ret
        exact ⟨rfl, D4.out.db, D4.out.but⟩
      · subst hs hx
        go_upto_region 7 with fail
        generalize w2.setCell _ _ = w3 at *
        go_wp2_with (first | (refine wpList_load_mid rfl 92 _ rfl g7 0 rfl _ _ ((D3.out.get 0 rfl).range) underE rfl (by rw [sizeE]; rfl) ?_) | (go_at_call 67; refine (HL.out _ D3.out.db).mono ?_; rintro e w4 ⟨rfl, hd, hb⟩; have D4 := hid (D3.out.step hd hb (by simp [Dp.w])); clear hb hd))
        go_ret
        exact ⟨rfl, D4.out.db, D4.out.but⟩
    · have hz : d.stateE q s = 3 := by simp [DS.stateE, hy, hs]
      rw [if_neg (by rw [hz]; decide), hz]
      generalize hX : d.ent q = X at *
      obtain ⟨xt, xo, xr, xs, xx⟩ := X
      simp only at hs
      have hs1 : (s != 3) = true := by simp; intro e; exact hs (.inl e)
      have hs2 : (s != 2) = true ∨ (s = 2 ∧ (xs != 1) = true) := by
        by_cases e : s = 2
        · exact .inr ⟨e, by simp; intro e2; exact hs (.inr ⟨e, e2⟩)⟩
        · exact .inl (by simpa using e)
      clear h hy tq t1 ty q0 q1 eq hok how hz hX hs
      simp only [ptr, En.v, En.cs] at HE ⊢
      go_enter Tryz.func39, Tryz.ntmps39
      go_upto_region 2 with (first | (go_at_call 75; refine (HE.out _ D0.out.db).mono ?_; rintro e w1 ⟨rfl, hb⟩; have D1 := hid (D0.out.on hb); clear hb) | (refine wpList_store_st rfl 92 _ _ rfl w1.heap.size [.int .i64 xt, .int .i64 xo, .int .i64 xr, .int .i64 xs, .bool xx] rfl rfl (Cel.new w1 92 En.zero.cs) sizeE rfl rfl ?_; intro w2 hc hb hs; have D2 := hid (D1.out.add hc hb); clear hc hb hs))
      clear D0 D1 HE
      generalize w1.heap.size = g7 at *
      have c3 := (D2.out.get 0 rfl).cell 3
      simp only [List.getElem?_cons_zero, List.getElem?_cons_succ] at c3
      rcases hs2 with hs2 | ⟨hs2, hx⟩
      · go_wp2_with fail
        go_ret
        exact ⟨rfl, D2.out.db, D2.out.but⟩
      · subst hs2
        clear hs1
        go_wp2_with fail
        go_ret
        exact ⟨rfl, D2.out.db, D2.out.but⟩
  · have hz : d.stateE q s = d.typE q 1 := by simp [DS.stateE, hy]
    rw [hz, if_neg hy]
    have hy' : (d.typE q 1 == 0) = false := by simpa using hy
    clear h hz hy
    generalize d.typE q 1 = R at *
    generalize d.typ q 1 = X at *
    obtain ⟨xt, xo, xr, xs, xx⟩ := X
    simp only [ptr, En.v, En.cs] at HE ⊢
    go_enter Tryz.func39, Tryz.ntmps39
    go_upto_region 2 with (first | (go_at_call 75; refine (HE.out _ D0.out.db).mono ?_; rintro e w1 ⟨rfl, hb⟩; have D1 := hid (D0.out.on hb); clear hb) | (refine wpList_store_st rfl 92 _ _ rfl w1.heap.size [.int .i64 xt, .int .i64 xo, .int .i64 xr, .int .i64 xs, .bool xx] rfl rfl (Cel.new w1 92 En.zero.cs) sizeE rfl rfl ?_; intro w2 hc hb hs; have D2 := hid (D1.out.add hc hb); clear hc hb hs))
    clear D0 D1 HE
    go_wp2_with fail
    go_ret
    exact ⟨rfl, D2.out.db, D2.out.but⟩
def DS.enteredE (d : DS) (q : Int) : Int := d.typE q 2
def DS.entered (d : DS) (q : Int) (on : Bool) : DS := if d.enteredE q = 0 then d.lay q.toNat { d.ent q with e := on } else d
theorem setEntered_any (W : World) (p : Dp) (d : DS) (h : DB W p d) (q : Int) (on : Bool) :
    Calls Tryz.prog 41 #[ptr p.g, .int .i64 q, .bool on] W fun e W' => e = .returned (.int .i64 (d.enteredE q)) ∧ DB W' p (d.entered q on) ∧ ButL p.w W W' := by
  have D0 := hid (DG.start h p.w h.wlt)
  have HE := hid (fun w (hw : DB w p d) => typed_any w p d hw q 2)
  unfold DS.entered DS.enteredE
  by_cases hy : d.typE q 2 = 0
  · rw [if_pos hy, hy]
    obtain ⟨tq, t1, ty⟩ := typ_zero hy
    obtain ⟨q0, q1, eq⟩ := there_lt tq
    have hok := h.ok.ok _ q1
    have how := h.ok.own _ q1
    rw [← ent_at tq] at hok how
    rw [ty, hy] at HE
    have HL := hid (fun w (hw : DB w p d) => lay_any w p d hw q.toNat q1 { d.ent q with e := on } (En.okE hok t1 on) how)
    rw [← eq] at HL
    generalize hX : d.ent q = X at *
    obtain ⟨xt, xo, xr, xs, xx⟩ := X
    simp only at HL ⊢
    generalize d.lay q.toNat _ = d1 at *
    clear h hy tq t1 ty q0 q1 eq hok how hX
    simp only [ptr, En.v, En.cs] at HE HL ⊢
    go_enter Tryz.func41, Tryz.ntmps41
    go_upto_region 2 with (first | (go_at_call 75; refine (HE.out _ D0.out.db).mono ?_; rintro e w1 ⟨rfl, hb⟩; have D1 := hid (D0.out.on hb); clear hb) | (refine wpList_store_st rfl 92 _ _ rfl w1.heap.size [.int .i64 xt, .int .i64 xo, .int .i64 xr, .int .i64 xs, .bool xx] rfl rfl (Cel.new w1 92 En.zero.cs) sizeE rfl rfl ?_; intro w2 hc hb hs; have D2 := hid (D1.out.add hc hb); clear hc hb hs))
    clear D0 D1 HE
    generalize w1.heap.size = g7 at *
    have f4 := (D2.out.get 0 rfl).free 4
    have c4 := (D2.out.get 0 rfl).cell 4
    have D3 := hid (D2.out.put (by simp) ((D2.out.get 0 rfl).setCell 4 (.bool on)) (.setCell _ _ _ _ (by simp)))
    simp only [List.getElem?_cons_zero, List.getElem?_cons_succ, List.set_cons_zero, List.set_cons_succ] at c4 D3
    go_upto_region 5 with fail
    generalize w2.setCell _ _ = w3 at *
    go_wp2_with (first | (refine wpList_load_mid rfl 92 _ rfl g7 0 rfl _ _ ((D3.out.get 0 rfl).range) underE rfl (by rw [sizeE]; rfl) ?_) | (go_at_call 67; refine (HL.out _ D3.out.db).mono ?_; rintro e w4 ⟨rfl, hd, hb⟩; have D4 := hid (D3.out.step hd hb (by simp [Dp.w])); clear hb hd))
    go_ret
    exact ⟨rfl, D4.out.db, D4.out.but⟩
  · rw [if_neg hy]
    have hy' : (d.typE q 2 == 0) = false := by simpa using hy
    clear h hy
    generalize d.typE q 2 = R at *
    generalize d.typ q 2 = X at *
    obtain ⟨xt, xo, xr, xs, xx⟩ := X
    simp only [ptr, En.v, En.cs] at HE ⊢
    go_enter Tryz.func41, Tryz.ntmps41
    go_upto_region 2 with (first | (go_at_call 75; refine (HE.out _ D0.out.db).mono ?_; rintro e w1 ⟨rfl, hb⟩; have D1 := hid (D0.out.on hb); clear hb) | (refine wpList_store_st rfl 92 _ _ rfl w1.heap.size [.int .i64 xt, .int .i64 xo, .int .i64 xr, .int .i64 xs, .bool xx] rfl rfl (Cel.new w1 92 En.zero.cs) sizeE rfl rfl ?_; intro w2 hc hb hs; have D2 := hid (D1.out.add hc hb); clear hc hb hs))
    clear D0 D1 HE
    go_wp2_with fail
    go_ret
    exact ⟨rfl, D2.out.db, D2.out.but⟩
end Go.Proofs.YtildhjiddidghaaGreatDoor
namespace Go.Proofs.YtildhjiddidghaaGreatDoor
open Go.RowKit
set_option maxHeartbeats 2000000
set_option maxRecDepth 100000
def DS.giveE (d : DS) (q : Int) : Int := if d.entE q ≠ 0 then d.entE q else if (d.ent q).t = 0 then 121 else if (d.ent q).t = 1 ∧ 0 < (d.ent q).r then 123 else 0
def DS.freed (d : DS) (q : Int) : DS := (d.lay q.toNat En.zero).wipe q
def DS.given (d : DS) (q : Int) : DS := if (d.ent q).t ≠ 1 ∧ 0 < ((d.freed q).at (d.ent q).o.toNat).r then (d.freed q).cnt (d.ent q).o.toNat (-1) else d.freed q
def DS.give (d : DS) (q : Int) : DS := if d.giveE q = 0 then d.given q else d
theorem give_zero {d : DS} {q : Int} (h : d.giveE q = 0) : d.there q = true ∧ (d.ent q).t ≠ 0 ∧ ((d.ent q).t ≠ 1 ∨ (d.ent q).r ≤ 0) := by
  cases hq : d.there q
  · simp [DS.giveE, DS.entE, hq] at h
  simp only [DS.giveE, DS.entE, hq, if_true, ne_eq, not_true_eq_false, if_false] at h
  by_cases h1 : (d.ent q).t = 0
  · rw [if_pos h1] at h; cases h
  rw [if_neg h1] at h
  by_cases h2 : (d.ent q).t = 1 ∧ 0 < (d.ent q).r
  · rw [if_pos h2] at h; cases h
  exact ⟨rfl, h1, by omega⟩
theorem give_any (W : World) (p : Dp) (d : DS) (h : DB W p d) (q : Int) :
    Calls Tryz.prog 37 #[ptr p.g, .int .i64 q] W fun e W' => e = .returned (.int .i64 (d.giveE q)) ∧ DB W' p (d.give q) ∧ ButL p.w W W' := by
  have D0 := hid (DG.start h p.w h.wlt)
  have HE := hid (fun w (hw : DB w p d) => entry_any w p d hw q)
  unfold DS.give
  by_cases hz : d.giveE q = 0
  · rw [if_pos hz, hz]
    obtain ⟨tq, h1, h2⟩ := give_zero hz
    obtain ⟨q0, q1, eq⟩ := there_lt tq
    have hok := (En.ok_iff _).1 (h.ok.ok _ q1)
    have how := h.ok.own _ q1
    rw [← ent_at tq] at hok how
    have o0 := hok.o0
    have on : (d.ent q).o.toNat < d.m.ns := by omega
    have eo : (d.ent q).o = (((d.ent q).o.toNat : Nat) : Int) := by omega
    have HL := hid (fun w (hw : DB w p d) => lay_any w p d hw q.toNat q1 En.zero zero_ok (by show (0 : Int) < _; omega))
    rw [← eq] at HL
    have HW : Hid (∀ w, DB w p (d.lay q.toNat En.zero) → Calls Tryz.prog 62 #[ptr p.g, .int .i64 q] w fun e W' => e = .returned (.tuple #[]) ∧ DB W' p (d.freed q) ∧ ButL p.f.w w W') := hid (fun w hw => wipe_any w p _ hw q)
    have hns : (d.freed q).m.ns = d.m.ns := by show (d.m.zero true q).ns = _; exact MS.zero_ns _ _ _
    have HA := hid (fun w (hw : DB w p (d.freed q)) => dat_any w p _ hw (d.ent q).o.toNat (by rw [hns]; exact on))
    have HC : Hid (∀ w, DB w p (d.freed q) → 0 < ((d.freed q).at (d.ent q).o.toNat).r → Calls Tryz.prog 71 #[ptr p.g, .int .i64 (((d.ent q).o.toNat : Nat) : Int), .int .i64 (-1)] w fun e W' => e = .returned (.tuple #[]) ∧ DB W' p ((d.freed q).cnt (d.ent q).o.toNat (-1)) ∧ ButL [p.gw] w W') := hid (fun w hw hr => by
      have hk := hw.ok.ok (d.ent q).o.toNat (by rw [hns]; exact on)
      have hk2 := (En.ok_iff _).1 hk
      refine count_any w p _ hw _ (by rw [hns]; exact on) (-1) (En.okR hk ?_ _ (by omega) (by have := hk2.r1; omega))
      by_cases e : ((d.freed q).at (d.ent q).o.toNat).t = 1
      · exact e
      · have := (hk2.ns e).1; omega)
    rw [← eo] at HC HA
    have e2 : d.entE q = 0 := by simp [DS.entE, tq]
    rw [e2] at HE
    unfold DS.given
    generalize d.lay q.toNat En.zero = d1 at *
    generalize d.freed q = d2 at *
    generalize hY : d2.at (d.ent q).o.toNat = Y at *
    generalize d2.cnt (d.ent q).o.toNat (-1) = d3 at *
    generalize hX : d.ent q = X at *
    obtain ⟨xt, xo, xr, xs, xx⟩ := X
    obtain ⟨yt, yo, yr, ys, yx⟩ := Y
    simp only at HA HC h1 h2 ⊢
    clear h hz tq q0 q1 eq hok how o0 on eo hns e2 hX hY
    simp only [ptr, En.v, En.cs] at HE HA
    simp only [ptr, En.v] at HL HW HC ⊢
    have hfd : ∀ w : World, (Instr.field 92 (.agg #[.int .i64 yt, .int .i64 yo, .int .i64 yr, .int .i64 ys, .bool yx]) 2).run Tryz.prog w = .ok (.int .i64 yr) w := fun _ => by kernel_rfl
    have hx0 : (xt == 0) = false := by simpa using h1
    clear h1
    by_cases h3 : xt = 1
    · subst h3
      have h2' : xr ≤ 0 := by omega
      clear h2
      rw [if_neg (by simp)]
      clear HA HC hfd
      go_enter Tryz.func37, Tryz.ntmps37
      go_upto_region 2 with (first | (go_at_call 49; refine (HE.out _ D0.out.db).mono ?_; rintro e w1 ⟨rfl, hb⟩; have D1 := hid (D0.out.on hb); clear hb) | (refine wpList_store_st rfl 92 _ _ rfl w1.heap.size [.int .i64 1, .int .i64 xo, .int .i64 xr, .int .i64 xs, .bool xx] rfl rfl (Cel.new w1 92 En.zero.cs) sizeE rfl rfl ?_; intro w2 hc hb hs; have D2 := hid (D1.out.add hc hb); clear hc hb hs))
      clear D0 D1 HE
      generalize w1.heap.size = g5 at *
      have c0 := (D2.out.get 0 rfl).cell 0
      have c2 := (D2.out.get 0 rfl).cell 2
      simp only [List.getElem?_cons_zero, List.getElem?_cons_succ] at c0 c2
      go_upto_region 9 with (first | (refine wpList_build_zE rfl rfl ?_) | (go_at_call 67; refine (HL.out _ D2.out.db).mono ?_; rintro e w4 ⟨rfl, hd, hb⟩; have D4 := hid (D2.out.step hd hb (by simp [Dp.w])); clear hb hd))
      clear D2 HL c0 c2
      go_upto_region 10 with (go_at_call 62; refine (HW.out _ D4.out.db).mono ?_; rintro e w5 ⟨rfl, hd, hb⟩; have D5 := hid (D4.out.step hd hb (fun k hk => by simp only [Dp.w, List.mem_cons]; exact .inr hk)); clear hb hd)
      have c0 := (D5.out.get 0 rfl).cell 0
      simp only [List.getElem?_cons_zero] at c0
      go_wp2_with fail
      go_ret
      exact ⟨rfl, D5.out.db, D5.out.but⟩
    · have h3' : (xt != 1) = true := by simpa using h3
      have h3'' : (xt == 1) = false := by simpa using h3
      generalize hd4 : (if xt ≠ 1 ∧ 0 < yr then d3 else d2) = d4
      have HD4 := hid hd4
      clear hd4
      go_enter Tryz.func37, Tryz.ntmps37
      go_upto_region 2 with (first | (go_at_call 49; refine (HE.out _ D0.out.db).mono ?_; rintro e w1 ⟨rfl, hb⟩; have D1 := hid (D0.out.on hb); clear hb) | (refine wpList_store_st rfl 92 _ _ rfl w1.heap.size [.int .i64 xt, .int .i64 xo, .int .i64 xr, .int .i64 xs, .bool xx] rfl rfl (Cel.new w1 92 En.zero.cs) sizeE rfl rfl ?_; intro w2 hc hb hs; have D2 := hid (D1.out.add hc hb); clear hc hb hs))
      clear D0 D1 HE
      generalize w1.heap.size = g5 at *
      have c0 := (D2.out.get 0 rfl).cell 0
      simp only [List.getElem?_cons_zero] at c0
      go_upto_region 9 with (first | (refine wpList_build_zE rfl rfl ?_) | (go_at_call 67; refine (HL.out _ D2.out.db).mono ?_; rintro e w4 ⟨rfl, hd, hb⟩; have D4 := hid (D2.out.step hd hb (by simp [Dp.w])); clear hb hd))
      clear D2 HL c0
      go_upto_region 10 with (go_at_call 62; refine (HW.out _ D4.out.db).mono ?_; rintro e w5 ⟨rfl, hd, hb⟩; have D5 := hid (D4.out.step hd hb (fun k hk => by simp only [Dp.w, List.mem_cons]; exact .inr hk)); clear hb hd)
      clear D4 HW
      have c0 := (D5.out.get 0 rfl).cell 0
      have c1 := (D5.out.get 0 rfl).cell 1
      simp only [List.getElem?_cons_zero, List.getElem?_cons_succ] at c0 c1
      by_cases h4 : 0 < yr
      · have HD5 : Hid (d4 = d3) := hid (by rw [← HD4.out, if_pos ⟨h3, h4⟩])
        clear h3 h2
        have HC2 := hid (fun w hw => HC.out w hw h4)
        clear HC
        go_upto_region 11 with (go_at_call 74; refine (HA.out _ D5.out.db).mono ?_; rintro e w6 ⟨rfl, hb⟩; have D6 := hid (D5.out.on hb); clear hb)
        have k1 := (D6.out.get 0 rfl).cell 1
        simp only [List.getElem?_cons_zero, List.getElem?_cons_succ] at k1
        go_wp2_with (go_at_call 71; refine (HC2.out _ D6.out.db).mono ?_; rintro e w7 ⟨rfl, hd, hb⟩; have D7 := hid (D6.out.step hd hb (by simp [Dp.w])); clear hb hd)
        go_ret
        exact ⟨rfl, by rw [HD5.out]; exact D7.out.db, D7.out.but⟩
      · have HD5 : Hid (d4 = d2) := hid (by rw [← HD4.out, if_neg (by omega)])
        have h4' : yr ≤ 0 := by omega
        clear h3 h2 h4 HC
        go_wp2_with (go_at_call 74; refine (HA.out _ D5.out.db).mono ?_; rintro e w6 ⟨rfl, hb⟩; have D6 := hid (D5.out.on hb); clear hb)
        go_ret
        exact ⟨rfl, by rw [HD5.out]; exact D6.out.db, D6.out.but⟩
  · rw [if_neg hz]
    have HR : Hid (d.giveE q ≠ 0 ∧ d.giveE q = if d.entE q ≠ 0 then d.entE q else if (d.ent q).t = 0 then 121 else if (d.ent q).t = 1 ∧ 0 < (d.ent q).r then 123 else 0) := hid ⟨hz, rfl⟩
    generalize d.giveE q = R at *
    clear h hz
    generalize d.ent q = X at *
    obtain ⟨xt, xo, xr, xs, xx⟩ := X
    generalize d.entE q = xe at *
    simp only at HR
    simp only [ptr, En.v, En.cs] at HE ⊢
    go_enter Tryz.func37, Tryz.ntmps37
    go_upto_region 2 with (first | (go_at_call 49; refine (HE.out _ D0.out.db).mono ?_; rintro e w1 ⟨rfl, hb⟩; have D1 := hid (D0.out.on hb); clear hb) | (refine wpList_store_st rfl 92 _ _ rfl w1.heap.size [.int .i64 xt, .int .i64 xo, .int .i64 xr, .int .i64 xs, .bool xx] rfl rfl (Cel.new w1 92 En.zero.cs) sizeE rfl rfl ?_; intro w2 hc hb hs; have D2 := hid (D1.out.add hc hb); clear hc hb hs))
    clear D0 D1 HE
    generalize w1.heap.size = g5 at *
    have c0 := (D2.out.get 0 rfl).cell 0
    have c2 := (D2.out.get 0 rfl).cell 2
    simp only [List.getElem?_cons_zero, List.getElem?_cons_succ] at c0 c2
    by_cases h1 : xe = 0
    · subst h1
      by_cases h2 : xt = 0
      · subst h2
        have hR : R = 121 := by rw [HR.out.2]; simp
        subst hR
        clear HR
        go_wp2_with fail
        go_ret
        exact ⟨rfl, D2.out.db, D2.out.but⟩
      · by_cases h3 : xt = 1 ∧ 0 < xr
        · obtain ⟨rfl, h4⟩ := h3
          have hR : R = 123 := by rw [HR.out.2]; simp [h4]
          subst hR
          clear HR h2
          go_wp2_with fail
          go_ret
          exact ⟨rfl, D2.out.db, D2.out.but⟩
        · exact absurd (HR.out.2.trans (by simp [h2, h3])) HR.out.1
    · have h1' : (xe == 0) = false := by simpa using h1
      have hR : R = xe := by rw [HR.out.2]; simp [h1]
      subst hR
      clear HR h1
      go_wp2_with fail
      go_ret
      exact ⟨rfl, D2.out.db, D2.out.but⟩
end Go.Proofs.YtildhjiddidghaaGreatDoor
namespace Go.Proofs.YtildhjiddidghaaGreatDoor
open Go.RowKit
set_option maxHeartbeats 2000000
set_option maxRecDepth 100000
def MS.zall (m : MS) : Nat → MS
  | 0 => m
  | k + 1 => (m.zall k).zero true (k : Int)
theorem MS.zall_ns (m : MS) (k : Nat) : (m.zall k).ns = m.ns := by
  induction k with
  | zero => rfl
  | succ k ih => rw [MS.zall, MS.zero_ns, ih]
def DS.zed (m : MS) (n k : Nat) : DS := ⟨m.zall k, 0, List.replicate n En.zero⟩
def DS.fresh (m : MS) : DS := DS.zed m m.ns m.ns
theorem rep_at (n k : Nat) : (List.replicate n En.zero).getD k En.zero = En.zero := by
  rw [List.getD_eq_getElem?_getD, List.getElem?_replicate]
  split <;> rfl
theorem zed_ok (m : MS) (k : Nat) (h : m.ns ≤ 64) : (DS.zed m m.ns k).Ok := by
  refine ⟨by simp [DS.zed, MS.zall_ns], by simpa [DS.zed, MS.zall_ns] using h, fun j hj => ?_, fun j hj => ?_, by simp [DS.zed], by simp [DS.zed]⟩
  · rw [DS.at, DS.zed, rep_at]; exact zero_ok
  · have hj' : j < (m.zall k).ns := hj
    show ((List.replicate m.ns En.zero).getD j En.zero).o < ((m.zall k).ns : Int)
    rw [rep_at]; show (0 : Int) < _; omega
theorem wds_zero (n : Nat) : u32s (wdsOf 0 (List.replicate n En.zero)) = List.replicate (1 + 2 * n) (.int .u32 0) := by
  have hz : ew En.zero = [0, 0] := by decide
  have : ∀ n : Nat, (List.replicate n En.zero).flatMap ew = List.replicate (2 * n) 0 := fun n => by
    induction n with
    | zero => rfl
    | succ n ih => rw [List.replicate_succ, List.flatMap_cons, ih, hz, show 2 * (n + 1) = 2 * n + 1 + 1 by omega, List.replicate_succ, List.replicate_succ]; rfl
  rw [wdsOf, this, u32s, List.map_cons, List.map_replicate, show 1 + 2 * n = 2 * n + 1 by omega, List.replicate_succ]
theorem newDB_any (W : World) (f : Fp) (m : MS) (h : Mem W f m) (h64 : m.ns ≤ 64) :
    Calls Tryz.prog 28 #[ptr f.gm] W fun e W' => ∃ g gw, e = .returned (ptr g) ∧ DB W' ⟨g, gw, f⟩ (DS.fresh m) ∧ W.heap.size ≤ g ∧ W.heap.size ≤ gw ∧ ButL f.w W W' := by
  have HM := hid h
  have HS := hid (size_any W f m h)
  have HO := hid (zed_ok m 0 h64)
  have HWp := hid (fun w (p : Dp) (d : DS) (hw : DB w p d) (q : Int) => wipe_any w p d hw q)
  have HPg := hid (fun w (p : Dp) (d : DS) (hw : DB w p d) => pages_any w p d hw)
  have hn : (1 : Int) + 2 * (m.ns : Int) = ((1 + 2 * m.ns : Nat) : Int) := by omega
  have hz : 4 * (1 + 2 * m.ns) ≤ 281474976710656 := by omega
  have hz2 : 1 + 2 * m.ns ≤ 9223372036854775807 := by omega
  have H64 := hid h64
  have HN := hid hn
  clear h hn h64
  simp only [ptr] at HS HPg HWp ⊢
  go_enter Tryz.func28, Tryz.ntmps28
  go_upto_region 4 with (first | (go_at_call 61; refine HS.out.mono ?_; rintro e w1 ⟨rfl, hw1⟩; subst hw1) | (refine wpList_make_cel rfl _ _ 40 22 rfl (.int .u32 0) 4 under24 info32 rfl (1 + 2 * m.ns) _ _ rfl rfl HN.out HN.out hz hz2 ?_; intro w2 hc hb hs; have HC := hid hc; have HB := hid hb; clear hc hb hs))
  have HD : Hid (DB (w2.alloc (.cells #[.pointer (some ⟨f.gm, 0, none⟩), .slice (some ⟨W.heap.size, 0, none⟩) (1 + 2 * m.ns) (1 + 2 * m.ns)] 85)) ⟨w2.heap.size, W.heap.size, f⟩ (DS.zed m m.ns 0)) := hid ⟨(HM.out.on HB.out).on (below_one _ _), Cel.new w2 85 _, by
    show Cel _ _ _ (u32s (wdsOf 0 (List.replicate m.ns En.zero)))
    rw [wds_zero]
    exact HC.out.on (below_one _ _), HO.out⟩
  have HB2 := hid (below_on HB.out (below_one w2 (.cells #[.pointer (some ⟨f.gm, 0, none⟩), .slice (some ⟨W.heap.size, 0, none⟩) (1 + 2 * m.ns) (1 + 2 * m.ns)] 85)))
  have HG : Hid (W.heap.size ≤ w2.heap.size) := hid HB.out.size
  generalize w2.alloc _ = X at *
  generalize w2.heap.size = g at *
  generalize hgw : W.heap.size = gw at HD ⊢
  have HGW := hid hgw
  clear hgw HC HB HM HS HO hz hz2 HN
  go_upto_region 5 with (go_at_call 15; refine (HPg.out _ _ _ HD.out).mono ?_; rintro e w3 ⟨rfl, hw3⟩; subst hw3)
  rw [show (DS.zed m m.ns 0).m.ns = m.ns from rfl]
  have HB3 := hid (ButL.of (G := f.w) HB2.out)
  clear HB2
  go_loopw [15] (fun i wr => ∃ j : Nat, j ≤ m.ns ∧ i = .int .i64 (j : Int) ∧ Hid (DB wr ⟨g, gw, f⟩ (DS.zed m m.ns j) ∧ ButL f.w W wr)) (fun i _ => m.ns - (intOf i).toNat)
  case atStart => exact ⟨0, Nat.zero_le _, rfl, hid ⟨HD.out, HB3.out⟩⟩
  case round =>
    obtain ⟨j, hj, rfl, HQ⟩ := hrel
    clear HD HB3
    by_cases hlt : j < m.ns
    · have q1 : (j : Int) < (m.ns : Int) := by omega
      have q2 : (j : Int) ≤ 1000 := by have := H64.out; omega
      have HJ : Hid (j < m.ns) := hid hlt
      clear hlt hj
      go_wp2_with (go_at_call 62; refine (HWp.out _ _ _ HQ.out.1 (j : Int)).mono ?_; rintro e w5 ⟨rfl, hd, hb⟩; have HQ2 : Hid (DB w5 ⟨g, gw, f⟩ (DS.zed m m.ns (j + 1)) ∧ ButL f.w W w5) := hid ⟨hd, HQ.out.2.trans hb⟩; clear hb hd)
      go_roundw
      case measure => have := HJ.out; simp [intOf] <;> omega
      case rel => exact ⟨j + 1, HJ.out, by simp, HQ2⟩
    · have hjn : j = m.ns := by omega
      subst hjn
      clear hlt hj
      go_wp2_with fail
      go_ret
      exact ⟨g, gw, rfl, HQ.out.1, HG.out, by rw [HGW.out]; exact Nat.le_refl _, HQ.out.2⟩
theorem wpList_copy_all {ops : Array Oper} {rest : List Oper} {o : Oper} {a : Act} {w : World} {Q : Exit → Act → World → Prop} (hgd : o.guard = none) (d s : Operand) (ho : o.op = .call { callee := .builtin .copy, args := #[d, s], argTypes := #[40, 40] })
    (g n c c' gs off : Nat) (cur : List Value) (t : TypeId) (L : List Int) (hd : a.eval d = .slice (some ⟨g, 0, none⟩) n c) (hs : a.eval s = .slice (some ⟨gs, off, none⟩) n c') (hg : Cel w g t cur) (hcur : cur.length = n) (hL : L.length = n) (hsrc : w.rangeAt gs off (u32s L))
    (h : ∀ w', Cel w' g t (u32s L) → ButL [g] w w' → w'.heap.size = w.heap.size → wpList Tryz.prog ops Q rest (a.put o.dst (goInt n)) w') : wpList Tryz.prog ops Q (o :: rest) a w := by
  have hl : (u32s L).length = n := by rw [u32s_len, hL]
  refine wpList_copy_own hgd d s 40 40 ho 22 under24 size32 g 0 n c ⟨gs, off, none⟩ n c' hd hs cur.toArray t hg (u32s L) (by rw [hl]; show n = min n n; omega) (fun j v hv => by have := hsrc j v hv; unfold Addr.add; by_cases hj : j = 0 <;> simp_all) (by rw [hl]; simp [hcur]) (u32s_one L) ?_
  have e : List.take 0 cur.toArray.toList ++ (u32s L ++ List.drop (0 + (u32s L).length) cur.toArray.toList) = u32s L := by
    rw [List.drop_eq_nil_of_le (by rw [hl]; simp [hcur])]; simp
  rw [e, hl]
  exact h _ (hg.set _) (.setRow _ _ _ (by simp)) (by simp)
theorem words_dv (W : World) {g gm gw off n c : Nat} {L : List Int} (h : DV W g gm gw off n c L) (hn : n ≤ 1000) :
    Calls Tryz.prog 46 #[ptr g] W fun e W' => ∃ gn, e = .returned (.slice (some ⟨gn, 0, none⟩) n n) ∧ Cel W' gn 22 (u32s L) ∧ W.heap.size ≤ gn ∧ Below W.heap.size W W' := by
  have c1 := h.sl
  have HD := hid h
  have hz : 4 * n ≤ 281474976710656 := by omega
  have hz2 : n ≤ 9223372036854775807 := by omega
  have HL : Hid (g < W.heap.size ∧ gw < W.heap.size ∧ L.length = n) := hid ⟨h.cel.lt, h.lt, h.len⟩
  clear h hn
  simp only [ptr]
  go_enter Tryz.func46, Tryz.ntmps46
  go_upto_region 2 with (refine wpList_make_cel rfl _ _ 40 22 rfl (.int .u32 0) 4 under24 info32 rfl n _ _ rfl rfl rfl rfl hz hz2 ?_; intro w2 hc hb hs; have HC := hid hc; have HB := hid hb; clear hc hb hs)
  have HD2 := hid (HD.out.on HB.out)
  have c2 := HD2.out.sl
  clear HD
  go_wp2_with (refine wpList_copy_all rfl _ _ rfl W.heap.size n n c gw off (List.replicate n (.int .u32 0)) 22 L rfl rfl HC.out (by simp) HL.out.2.2 HD2.out.rng ?_; intro w3 hc hb hs; have HE := hid (And.intro hc (HB.out.trans (hb.below (B := W.heap.size) (by simp) HB.out.size))); clear hc hb hs)
  go_ret
  exact ⟨_, rfl, HE.out.1, Nat.le_refl _, HE.out.2⟩
theorem words_any (W : World) (p : Dp) (d : DS) (h : DB W p d) :
    Calls Tryz.prog 46 #[ptr p.g] W fun e W' => ∃ gn, e = .returned (.slice (some ⟨gn, 0, none⟩) (1 + 2 * d.m.ns) (1 + 2 * d.m.ns)) ∧ Cel W' gn 22 (u32s d.ws) ∧ W.heap.size ≤ gn ∧ Below W.heap.size W W' :=
  words_dv W h.dv (by have := h.ok.n64; omega)
structure NewDB (w w' : World) (p : Dp) (d : DS) : Prop where
  db : DB w' p d
  below : Below w.heap.size w w'
  new : ∀ k ∈ p.all, w.heap.size ≤ k
end Go.Proofs.YtildhjiddidghaaGreatDoor
namespace Go.Proofs.YtildhjiddidghaaGreatDoor
open Go.RowKit
set_option maxHeartbeats 2000000
set_option maxRecDepth 100000
def ldE (L : List Int) (k : Nat) : En := dec (wd L (1 + 2 * k)) (wd L (2 + 2 * k))
def ldS (n : Nat) (L : List Int) (k : Nat) : Bool := dok (wd L (1 + 2 * k)) (wd L (2 + 2 * k)) && decide ((ldE L k).o < (n : Int))
def ldok (n : Nat) (L : List Int) : Bool := decide (L.length = 1 + 2 * n) && (decide (wd L 0 ≤ 64) && (List.range n).all (ldS n L))
def DS.load (m : MS) (L : List Int) : DS := ⟨m, wd L 0, (List.range m.ns).map (ldE L)⟩
theorem wd_at {L : List Int} {k : Nat} (h : k < L.length) : L[k]? = some (wd L k) := by
  rw [List.getElem?_eq_getElem h, wd, List.getD_eq_getElem?_getD, List.getElem?_eq_getElem h]; rfl
theorem wd_mem {L : List Int} {k : Nat} (h : k < L.length) : wd L k ∈ L := List.mem_of_getElem? (wd_at h)
theorem ld_at (L : List Int) (n k : Nat) (h : k < n) : ((List.range n).map (ldE L)).getD k En.zero = ldE L k := by
  rw [List.getD_eq_getElem?_getD, List.getElem?_map, List.getElem?_range h]; rfl
theorem ldok_iff (n : Nat) (L : List Int) : ldok n L = true ↔ L.length = 1 + 2 * n ∧ wd L 0 ≤ 64 ∧ ∀ k, k < n → ldS n L k = true := by
  simp [ldok, List.all_eq_true]
theorem ldS_yes {n : Nat} {L : List Int} {k : Nat} (h : ldS n L k = true) : e0 (ldE L k) = wd L (1 + 2 * k) ∧ e1 (ldE L k) = wd L (2 + 2 * k) ∧ (ldE L k).ok = true ∧ (ldE L k).o < (n : Int) := by
  simp only [ldS, Bool.and_eq_true, decide_eq_true_eq] at h
  have h1 := dok_ok h.1
  have h2 : ldE L k = fld (wd L (1 + 2 * k)) (wd L (2 + 2 * k)) := by unfold ldE dec; rw [if_pos h.1]
  rw [h2] at h ⊢
  exact ⟨h1.2.1, h1.2.2, h1.1, h.2⟩
theorem load_ws {m : MS} {L : List Int} (h : ldok m.ns L = true) : (DS.load m L).ws = L := by
  obtain ⟨h1, h2, h3⟩ := (ldok_iff _ _).1 h
  apply List.ext_getElem?
  intro j
  have hl : (DS.load m L).ws.length = 1 + 2 * m.ns := by rw [DS.ws, wdsOf_len]; simp [DS.load]
  by_cases hj : j < 1 + 2 * m.ns
  · rw [wd_at (L := L) (by omega)]
    cases j with
    | zero => rfl
    | succ i =>
      have hk : i / 2 < m.ns := by omega
      have ha := wdsOf_at (wd L 0) ((List.range m.ns).map (ldE L)) (i / 2) (by simpa using hk)
      rw [ld_at L m.ns _ hk] at ha
      have hs := ldS_yes (h3 _ hk)
      rcases Nat.mod_two_eq_zero_or_one i with e | e
      · have : i + 1 = 1 + 2 * (i / 2) := by omega
        rw [this]
        exact ha.1.trans (by rw [hs.1])
      · have : i + 1 = 2 + 2 * (i / 2) := by omega
        rw [this]
        exact ha.2.trans (by rw [hs.2.1])
  · rw [List.getElem?_eq_none (by omega), List.getElem?_eq_none (by omega)]
theorem load_ok {m : MS} {L : List Int} (h : ldok m.ns L = true) (h64 : m.ns ≤ 64) (hr : ∀ x ∈ L, 0 ≤ x ∧ x < 4294967296) : (DS.load m L).Ok := by
  obtain ⟨h1, h2, h3⟩ := (ldok_iff _ _).1 h
  refine ⟨by simp [DS.load], h64, fun k hk => ?_, fun k hk => ?_, (hr _ (wd_mem (by omega))).1, h2⟩
  · rw [DS.at, DS.load, ld_at L m.ns k hk]; exact (ldS_yes (h3 k hk)).2.2.1
  · rw [DS.at, DS.load, ld_at L m.ns k hk]; exact (ldS_yes (h3 k hk)).2.2.2
theorem sound_any (W : World) (f : Fp) (m : MS) {g gw off n c : Nat} {L : List Int} (hm : Mem W f m) (h : DV W g f.gm gw off n c L) (hr : ∀ x ∈ L, 0 ≤ x ∧ x < 4294967296) (k : Nat) (hk : 2 * k + 2 < n) (hk1 : k ≤ 1000) :
    Calls Tryz.prog 122 #[ptr g, .int .i64 (k : Int)] W fun e W' => e = .returned (.bool (ldS m.ns L k)) ∧ Below W.heap.size W W' := by
  have hl := h.len
  have HP := hid (pair_any W h k hk hk1 _ _ (wd_at (by omega)) (wd_at (by omega)))
  have ra := hr _ (wd_mem (k := 1 + 2 * k) (by omega))
  have rb := hr _ (wd_mem (k := 2 + 2 * k) (by omega))
  have HD := hid (fun W => decode_any W _ _ ra.1 ra.2 rb.1 rb.2)
  have HPg := hid (fun w (hw : Mem w f m ∧ DV w g f.gm gw off n c L) => pages_dv hw.1 hw.2)
  have B0 : Hid (Bag W W []) := hid ⟨by simp, Below.refl _ _⟩
  have HX : Hid (Mem W f m ∧ DV W g f.gm gw off n c L) := hid ⟨hm, h⟩
  have HS : Hid (ldS m.ns L k = (dok (wd L (1 + 2 * k)) (wd L (2 + 2 * k)) && decide ((dec (wd L (1 + 2 * k)) (wd L (2 + 2 * k))).o < (m.ns : Int)))) := hid rfl
  have hdk : decE (wd L (1 + 2 * k)) (wd L (2 + 2 * k)) = if dok (wd L (1 + 2 * k)) (wd L (2 + 2 * k)) = true then 0 else 110 := rfl
  generalize ldS m.ns L k = R at *
  clear ra rb hl hm h hr hk hk1
  generalize wd L (1 + 2 * k) = a at *
  generalize wd L (2 + 2 * k) = b at *
  generalize dec a b = D at *
  generalize decE a b = DE at *
  generalize dok a b = dk at *
  obtain ⟨xt, xo, xr, xs, xx⟩ := D
  simp only at HS
  simp only [ptr, En.v, En.cs, twoV] at HP HD HPg ⊢
  cases dk
  · simp only [Bool.false_eq_true, if_false] at hdk
    subst hdk
    have hR : R = false := by rw [HS.out]; rfl
    subst hR
    clear HS
    go_enter Tryz.func122, Tryz.ntmps122
    go_upto_region 2 with (first | (go_at_call 113; refine HP.out.mono ?_; rintro e w1 ⟨rfl, hb⟩; have B1 := hid (B0.out.on hb); have HX1 : Hid (Mem w1 f m ∧ DV w1 g f.gm gw off n c L) := hid ⟨HX.out.1.on hb, HX.out.2.on hb⟩; clear hb) | (go_at_call 112; refine (HD.out _).mono ?_; rintro e w2 ⟨rfl, hb⟩; have B2 := hid (B1.out.on hb); have HX2 : Hid (Mem w2 f m ∧ DV w2 g f.gm gw off n c L) := hid ⟨HX1.out.1.on hb, HX1.out.2.on hb⟩; clear hb) | (refine wpList_store_st rfl 92 _ _ rfl w2.heap.size [.int .i64 xt, .int .i64 xo, .int .i64 xr, .int .i64 xs, .bool xx] rfl rfl (Cel.new w2 92 En.zero.cs) sizeE rfl rfl ?_; intro w3 hc hb hs; have B3 := hid (B2.out.add hc hb); clear hc hb hs))
    generalize w2.heap.size = g5 at *
    have B4 := hid (B3.out.on (Below.refl _ _).drew)
    refine wp_region_held_drew (S := fun w => Cel w g5 92 [.int .i64 xt, .int .i64 xo, .int .i64 xr, .int .i64 xs, .bool xx]) (by kernel_rfl) (B4.out.get 0 rfl) (fun hHeld => ?_)
    refine tk 0 (some 14) (.int .i64 110) ?_
    simp only [Act.put, tqA, tqZ, tqS]
    refine tk 1 (some 15) (.bool false) ?_
    simp only [Act.put, tqA, tqZ, tqS]
    refine tk 2 (some 16) (.bool false) ?_
    simp only [Act.put, tqA, tqZ, tqS]
    refine tk 3 (some 17) undef ?_ (hy := Or.inr ⟨by rfl, rfl⟩)
    simp only [Act.put, tqA, tqZ, tqS]
    refine tk 4 (some 18) undef ?_ (hy := Or.inr ⟨by rfl, rfl⟩)
    simp only [Act.put, tqA, tqZ, tqS]
    refine tk 5 (some 19) undef ?_ (hy := Or.inr ⟨by rfl, rfl⟩)
    simp only [Act.put, tqA, tqZ, tqS]
    refine tk 6 (some 20) undef ?_ (hy := Or.inr ⟨by rfl, rfl⟩)
    simp only [Act.put, tqA, tqZ, tqS]
    refine tk 7 (some 21) undef ?_ (hy := Or.inr ⟨by rfl, rfl⟩)
    simp only [Act.put, tqA, tqZ, tqS]
    refine tk 8 (some 22) (.bool false) ?_
    simp only [Act.put, tqA, tqZ, tqS]
    refine wpAnyH_ready (rs := [9]) (by kernel_rfl) (by simp) (AllReadyH.cons (o := ⟨some 4, .assign (.tmp 22), 4, "words.go:41", #[⟨8, .data⟩, ⟨6, .chain⟩, ⟨0, .phase⟩, ⟨1, .phase⟩, ⟨2, .phase⟩, ⟨3, .phase⟩, ⟨4, .phase⟩, ⟨5, .phase⟩, ⟨6, .phase⟩, ⟨7, .phase⟩, ⟨8, .phase⟩], none⟩) rfl (fun KQ hK => ?_) AllReadyH.nil)
    go_simp
    refine hK.out _ _ (B4.out.get 0 rfl) (fun hHeld => ?_)
    clear hK KQ
    try simp only [Act.put, tqA, tqZ, tqS]
    refine wpAnyH_done (by kernel_rfl) ?_ _
    go_wp2_with fail
    go_ret
    exact ⟨rfl, B4.out.below⟩
  · simp only [if_true] at hdk
    subst hdk
    have hR : R = decide (xo < (m.ns : Int)) := by rw [HS.out, Bool.true_and]
    subst hR
    clear HS
    generalize (m.ns : Int) = N at *
    go_enter Tryz.func122, Tryz.ntmps122
    go_upto_region 2 with (first | (go_at_call 113; refine HP.out.mono ?_; rintro e w1 ⟨rfl, hb⟩; have B1 := hid (B0.out.on hb); have HX1 : Hid (Mem w1 f m ∧ DV w1 g f.gm gw off n c L) := hid ⟨HX.out.1.on hb, HX.out.2.on hb⟩; clear hb) | (go_at_call 112; refine (HD.out _).mono ?_; rintro e w2 ⟨rfl, hb⟩; have B2 := hid (B1.out.on hb); have HX2 : Hid (Mem w2 f m ∧ DV w2 g f.gm gw off n c L) := hid ⟨HX1.out.1.on hb, HX1.out.2.on hb⟩; clear hb) | (refine wpList_store_st rfl 92 _ _ rfl w2.heap.size [.int .i64 xt, .int .i64 xo, .int .i64 xr, .int .i64 xs, .bool xx] rfl rfl (Cel.new w2 92 En.zero.cs) sizeE rfl rfl ?_; intro w3 hc hb hs; have B3 := hid (B2.out.add hc hb); have HX3 : Hid (Mem w3 f m ∧ DV w3 g f.gm gw off n c L) := hid ⟨(HX2.out.1.on (below_one w2 (.cells En.zero.cs.toArray 92))).frame hb (fun q hq hm => by rw [List.mem_singleton] at hm; have := HX2.out.1.lt q hq; omega), (HX2.out.2.on (below_one w2 (.cells En.zero.cs.toArray 92))).but hb (by have := HX2.out.2.cel.lt; simp; omega) (by have := HX2.out.2.lt; simp; omega)⟩; clear hc hb hs))
    generalize w2.heap.size = g5 at *
    have B4 := hid (B3.out.on (Below.refl _ _).drew)
    have HX4 : Hid (Mem w3.drew f m ∧ DV w3.drew g f.gm gw off n c L) := hid ⟨HX3.out.1.on (Below.refl _ _).drew, HX3.out.2.on (Below.refl _ _).drew⟩
    refine wp_region_held_drew (S := fun w => Cel w g5 92 [.int .i64 xt, .int .i64 xo, .int .i64 xr, .int .i64 xs, .bool xx]) (by kernel_rfl) (B4.out.get 0 rfl) (fun hHeld => ?_)
    refine tk 0 (some 14) (.int .i64 0) ?_
    simp only [Act.put, tqA, tqZ, tqS]
    refine tk 1 (some 15) (.bool true) ?_
    simp only [Act.put, tqA, tqZ, tqS]
    refine tk 2 (some 16) (.bool true) ?_
    simp only [Act.put, tqA, tqZ, tqS]
    refine tk 3 (some 17) (.pointer (some ⟨g5, 1, none⟩)) ?_
    simp only [Act.put, tqA, tqZ, tqS]
    refine tk 4 (some 18) (.int .i64 xo) ?_ (hy := Or.inl ⟨by rfl, by intro w hSw; have hc := hSw.cell 1; simp only [List.getElem?_cons_zero, List.getElem?_cons_succ] at hc; go_simp⟩)
    simp only [Act.put, tqA, tqZ, tqS]
    refine tk 5 (some 19) (.pointer (some ⟨g, 0, none⟩)) ?_
    simp only [Act.put, tqA, tqZ, tqS]
    refine wpAnyH_ready (rs := [6]) (by kernel_rfl) (by simp) (AllReadyH.cons (o := ⟨some 20, .call { callee := .value (.func 15), args := #[.tmp 19], argTypes := #[31] }, 3, "words.go:41", #[⟨5, .data⟩, ⟨2, .chain⟩, ⟨2, .guard⟩], some (2, true)⟩) rfl (fun KQ hK => ?_) AllReadyH.nil)
    go_simp
    refine (HPg.out _ HX4.out).mono ?_
    rintro e w5 ⟨rfl, hw5⟩
    subst hw5
    go_wp2_with fail
    refine hK.out _ _ (B4.out.get 0 rfl) (fun hHeld => ?_)
    clear hK KQ
    try simp only [Act.put, tqA, tqZ, tqS]
    refine tk 7 (some 21) (.bool (decide (xo < N))) ?_
    simp only [Act.put, tqA, tqZ, tqS]
    refine tk 8 (some 22) (.bool (decide (xo < N))) ?_
    simp only [Act.put, tqA, tqZ, tqS]
    refine wpAnyH_ready (rs := [9]) (by kernel_rfl) (by simp) (AllReadyH.cons (o := ⟨some 4, .assign (.tmp 22), 4, "words.go:41", #[⟨8, .data⟩, ⟨6, .chain⟩, ⟨0, .phase⟩, ⟨1, .phase⟩, ⟨2, .phase⟩, ⟨3, .phase⟩, ⟨4, .phase⟩, ⟨5, .phase⟩, ⟨6, .phase⟩, ⟨7, .phase⟩, ⟨8, .phase⟩], none⟩) rfl (fun KQ hK => ?_) AllReadyH.nil)
    go_simp
    refine hK.out _ _ (B4.out.get 0 rfl) (fun hHeld => ?_)
    clear hK KQ
    try simp only [Act.put, tqA, tqZ, tqS]
    refine wpAnyH_done (by kernel_rfl) ?_ _
    go_wp2_with fail
    go_ret
    exact ⟨rfl, B4.out.below⟩
end Go.Proofs.YtildhjiddidghaaGreatDoor
