import Derived.Test.YtdfnbcbnmiohnaaGreatDoorP28
namespace Go.Proofs.YtdfnbcbnmiohnaaGreatDoor
open Go.RowKit
set_option maxHeartbeats 2000000
set_option maxRecDepth 100000
theorem En.okR {x : En} (h : x.ok = true) (ht : x.t = 1) (r : Int) (r0 : 0 ≤ r) (r1 : r < 64) : En.ok { x with r := r } = true := by
  rw [En.ok_iff] at *
  obtain ⟨t0, t1, o0, o1, _, _, s0, s1, z, sp, ns, en⟩ := h
  exact ⟨t0, t1, o0, o1, r0, r1, s0, s1, z, sp, fun h => absurd ht h, en⟩
theorem En.okS {x : En} (h : x.ok = true) (ht : x.t = 1) (s : Int) (r0 : 1 ≤ s) (r1 : s < 4) : En.ok { x with s := s } = true := by
  rw [En.ok_iff] at *
  obtain ⟨t0, t1, o0, o1, q0, q1, s0, s1, z, sp, ns, en⟩ := h
  exact ⟨t0, t1, o0, o1, q0, q1, by show 0 ≤ s; omega, r1, z, fun _ => r0, fun h => absurd ht h, en⟩
def enT (t o : Int) : En := ⟨t, o, 0, 0, false⟩
theorem zero_ok : En.zero.ok = true := by decide
def DS.takeE (d : DS) (q t s : Int) : Int := if d.entE q ≠ 0 then d.entE q else if t ≠ 2 ∧ trn t = false then 124 else if d.more s = false then 122 else if (d.ent q).t ≠ 0 then 120 else 0
def DS.taken (d : DS) (q t s : Int) : DS := (d.lay q.toNat (enT t s)).cnt s.toNat 1
def DS.take (d : DS) (q t s : Int) : DS := if d.takeE q t s = 0 then d.taken q t s else d
theorem ent_at {d : DS} {q : Int} (h : d.there q = true) : d.ent q = d.at q.toNat := by rw [DS.ent, if_pos h]
theorem there_lt {d : DS} {q : Int} (h : d.there q = true) : 0 ≤ q ∧ q.toNat < d.m.ns ∧ q = ((q.toNat : Nat) : Int) := by
  obtain ⟨a, b⟩ := of_decide_eq_true h
  exact ⟨a, by omega, by omega⟩
end Go.Proofs.YtdfnbcbnmiohnaaGreatDoor
namespace Go.Proofs.YtdfnbcbnmiohnaaGreatDoor
open Go.RowKit
set_option maxHeartbeats 2000000
set_option maxRecDepth 100000
def DS.turnE (d : DS) (q t : Int) : Int := if d.entE q ≠ 0 then d.entE q else if trn (d.ent q).t = false then 124 else if trn t = false then 124 else 0
def DS.turned (d : DS) (q t : Int) : DS := (d.lay q.toNat (enT t (d.ent q).o)).wipe q
def DS.turn (d : DS) (q t : Int) : DS := if d.turnE q t = 0 then d.turned q t else d
def DS.stateE (d : DS) (q s : Int) : Int := if d.typE q 1 ≠ 0 then d.typE q 1 else if s = 3 ∨ (s = 2 ∧ (d.ent q).s = 1) then 0 else 3
def DS.stated (d : DS) (q s : Int) : DS := d.lay q.toNat { d.ent q with s := s }
def DS.state (d : DS) (q s : Int) : DS := if d.stateE q s = 0 then d.stated q s else d
theorem typ_zero {d : DS} {q t : Int} (h : d.typE q t = 0) : d.there q = true ∧ (d.ent q).t = t ∧ d.typ q t = d.ent q := by
  unfold DS.typE at h
  cases hq : d.there q
  · simp [hq] at h
  · by_cases ht : (d.ent q).t = t
    · exact ⟨rfl, ht, by simp [DS.typ, hq, ht]⟩
    · simp [hq, ht] at h
theorem setState_any (W : World) (p : Dp) (d : DS) (h : DB W p d) (q s : Int) :
    Calls Tryz.prog 62 #[ptr p.g, .int .i64 q, .int .i64 s] W fun e W' => e = .returned (.int .i64 (d.stateE q s)) ∧ DB W' p (d.state q s) ∧ ButL p.w W W' := by
  have D0 := hid (DG.start h p.w h.wlt)
  have HE := hid (fun w (hw : DB w p d) => typed_any w p d hw q 1)
  unfold DS.state
  by_cases hy : d.typE q 1 = 0
  · obtain ⟨tq, t1, ty⟩ := typ_zero hy
    obtain ⟨q0, q1, eq⟩ := there_lt tq
    have hok := h.ok.ok _ q1
    have how := h.ok.own _ q1
    rw [← ent_at tq] at hok how
    rw [ty, hy] at HE
    by_cases hs : s = 3 ∨ (s = 2 ∧ (d.ent q).s = 1)
    · have hz : d.stateE q s = 0 := by simp [DS.stateE, hy, hs]
      rw [if_pos hz, hz]
      have HL := hid (fun w (hw : DB w p d) => lay_any w p d hw q.toNat q1 { d.ent q with s := s } (En.okS hok t1 s (by omega) (by omega)) how)
      rw [← eq] at HL
      unfold DS.stated
      generalize hX : d.ent q = X at *
      obtain ⟨xt, xo, xr, xs, xx⟩ := X
      simp only at HL hs ⊢
      generalize d.lay q.toNat _ = d1 at *
      clear h hy tq t1 ty q0 q1 eq hok how hz hX
      simp only [ptr, En.v, En.cs] at HE HL ⊢
      go_enter Tryz.func62, Tryz.ntmps62
      go_upto_region 2 with (first | (go_at_call 110; refine (HE.out _ D0.out.db).mono ?_; rintro e w1 ⟨rfl, hb⟩; have D1 := hid (D0.out.on hb); clear hb) | (refine wpList_store_st rfl 30 _ _ rfl w1.heap.size [.int .i64 xt, .int .i64 xo, .int .i64 xr, .int .i64 xs, .bool xx] rfl rfl (Cel.new w1 30 En.zero.cs) sizeE rfl rfl ?_; intro w2 hc hb hs; have D2 := hid (D1.out.add hc hb); clear hc hb hs))
      clear D0 D1 HE
      generalize w1.heap.size = g7 at *
      have c3 := (D2.out.get 0 rfl).cell 3
      have f3 := (D2.out.get 0 rfl).free 3
      have D3 := hid (D2.out.put (by simp) ((D2.out.get 0 rfl).setCell 3 (.int .i64 s)) (.setCell _ _ _ _ (by simp)))
      simp only [List.getElem?_cons_zero, List.getElem?_cons_succ, List.set_cons_zero, List.set_cons_succ] at c3 D3
      rcases hs with hs | ⟨hs, hx⟩
      · subst hs
        go_upto_region 7 with fail
        generalize w2.setCell _ _ = w3 at *
        go_wp2_with (first | (refine wpList_load_mid rfl 30 _ rfl g7 0 rfl _ _ ((D3.out.get 0 rfl).range) underE rfl (by rw [sizeE]; rfl) ?_) | (go_at_call 52; refine (HL.out _ D3.out.db).mono ?_; rintro e w4 ⟨rfl, hd, hb⟩; have D4 := hid (D3.out.step hd hb (by simp [Dp.w])); clear hb hd))
        go_ret
        exact ⟨rfl, D4.out.db, D4.out.but⟩
      · subst hs hx
        go_upto_region 7 with fail
        generalize w2.setCell _ _ = w3 at *
        go_wp2_with (first | (refine wpList_load_mid rfl 30 _ rfl g7 0 rfl _ _ ((D3.out.get 0 rfl).range) underE rfl (by rw [sizeE]; rfl) ?_) | (go_at_call 52; refine (HL.out _ D3.out.db).mono ?_; rintro e w4 ⟨rfl, hd, hb⟩; have D4 := hid (D3.out.step hd hb (by simp [Dp.w])); clear hb hd))
        go_ret
        exact ⟨rfl, D4.out.db, D4.out.but⟩
    · have hz : d.stateE q s = 3 := by simp [DS.stateE, hy, hs]
      rw [if_neg (by rw [hz]; decide), hz]
      generalize hX : d.ent q = X at *
      obtain ⟨xt, xo, xr, xs, xx⟩ := X
      simp only at hs
      have hs1 : (s != 3) = true := by simp; intro e; exact hs (.inl e)
      have hs2 : (s != 2) = true ∨ (s = 2 ∧ (xs != 1) = true) := by
        by_cases e : s = 2
        · exact .inr ⟨e, by simp; intro e2; exact hs (.inr ⟨e, e2⟩)⟩
        · exact .inl (by simpa using e)
      clear h hy tq t1 ty q0 q1 eq hok how hz hX hs
      simp only [ptr, En.v, En.cs] at HE ⊢
      go_enter Tryz.func62, Tryz.ntmps62
      go_upto_region 2 with (first | (go_at_call 110; refine (HE.out _ D0.out.db).mono ?_; rintro e w1 ⟨rfl, hb⟩; have D1 := hid (D0.out.on hb); clear hb) | (refine wpList_store_st rfl 30 _ _ rfl w1.heap.size [.int .i64 xt, .int .i64 xo, .int .i64 xr, .int .i64 xs, .bool xx] rfl rfl (Cel.new w1 30 En.zero.cs) sizeE rfl rfl ?_; intro w2 hc hb hs; have D2 := hid (D1.out.add hc hb); clear hc hb hs))
      clear D0 D1 HE
      generalize w1.heap.size = g7 at *
      have c3 := (D2.out.get 0 rfl).cell 3
      simp only [List.getElem?_cons_zero, List.getElem?_cons_succ] at c3
      rcases hs2 with hs2 | ⟨hs2, hx⟩
      · go_wp2_with fail
        go_ret
        exact ⟨rfl, D2.out.db, D2.out.but⟩
      · subst hs2
        clear hs1
        go_wp2_with fail
        go_ret
        exact ⟨rfl, D2.out.db, D2.out.but⟩
  · have hz : d.stateE q s = d.typE q 1 := by simp [DS.stateE, hy]
    rw [hz, if_neg hy]
    have hy' : (d.typE q 1 == 0) = false := by simpa using hy
    clear h hz hy
    generalize d.typE q 1 = R at *
    generalize d.typ q 1 = X at *
    obtain ⟨xt, xo, xr, xs, xx⟩ := X
    simp only [ptr, En.v, En.cs] at HE ⊢
    go_enter Tryz.func62, Tryz.ntmps62
    go_upto_region 2 with (first | (go_at_call 110; refine (HE.out _ D0.out.db).mono ?_; rintro e w1 ⟨rfl, hb⟩; have D1 := hid (D0.out.on hb); clear hb) | (refine wpList_store_st rfl 30 _ _ rfl w1.heap.size [.int .i64 xt, .int .i64 xo, .int .i64 xr, .int .i64 xs, .bool xx] rfl rfl (Cel.new w1 30 En.zero.cs) sizeE rfl rfl ?_; intro w2 hc hb hs; have D2 := hid (D1.out.add hc hb); clear hc hb hs))
    clear D0 D1 HE
    go_wp2_with fail
    go_ret
    exact ⟨rfl, D2.out.db, D2.out.but⟩
def DS.enteredE (d : DS) (q : Int) : Int := d.typE q 2
def DS.entered (d : DS) (q : Int) (on : Bool) : DS := if d.enteredE q = 0 then d.lay q.toNat { d.ent q with e := on } else d
end Go.Proofs.YtdfnbcbnmiohnaaGreatDoor
