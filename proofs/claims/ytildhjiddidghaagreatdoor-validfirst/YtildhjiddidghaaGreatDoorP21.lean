import Derived.Test.YtildhjiddidghaaGreatDoorP20
namespace Go.Proofs.YtildhjiddidghaaGreatDoor
open Go.RowKit
set_option maxHeartbeats 2000000
set_option maxRecDepth 100000
theorem En.okR {x : En} (h : x.ok = true) (ht : x.t = 1) (r : Int) (r0 : 0 ≤ r) (r1 : r < 64) : En.ok { x with r := r } = true := by
  rw [En.ok_iff] at *
  obtain ⟨t0, t1, o0, o1, _, _, s0, s1, z, sp, ns, en⟩ := h
  exact ⟨t0, t1, o0, o1, r0, r1, s0, s1, z, sp, fun h => absurd ht h, en⟩
theorem En.okS {x : En} (h : x.ok = true) (ht : x.t = 1) (s : Int) (r0 : 1 ≤ s) (r1 : s < 4) : En.ok { x with s := s } = true := by
  rw [En.ok_iff] at *
  obtain ⟨t0, t1, o0, o1, q0, q1, s0, s1, z, sp, ns, en⟩ := h
  exact ⟨t0, t1, o0, o1, q0, q1, by show 0 ≤ s; omega, r1, z, fun _ => r0, fun h => absurd ht h, en⟩
theorem En.okE {x : En} (h : x.ok = true) (ht : x.t = 2) (b : Bool) : En.ok { x with e := b } = true := by
  rw [En.ok_iff] at *
  obtain ⟨t0, t1, o0, o1, q0, q1, s0, s1, z, sp, ns, en⟩ := h
  exact ⟨t0, t1, o0, o1, q0, q1, s0, s1, z, sp, ns, fun _ => ht⟩
def enT (t o : Int) : En := ⟨t, o, 0, 0, false⟩
theorem enT_ok {t o : Int} (t0 : 2 ≤ t) (t1 : t ≤ 6) (h0 : 0 ≤ o) (h1 : o < 64) : (enT t o).ok = true := by
  rw [En.ok_iff]
  exact ⟨by show 0 ≤ t; omega, t1, h0, h1, by simp [enT], by simp [enT], by simp [enT], by simp [enT], by show t = 0 → _; omega, by show t = 1 → _; omega, by simp [enT], by simp [enT]⟩
theorem zero_ok : En.zero.ok = true := by decide
theorem built_T (t s : Int) : Tryz.prog.built 92 [(0, .int .i64 t), (1, .int .i64 s)] = some (enT t s).cs.toArray := by kernel_rfl
def DS.takeE (d : DS) (q t s : Int) : Int := if d.entE q ≠ 0 then d.entE q else if t ≠ 2 ∧ trn t = false then 124 else if d.more s = false then 122 else if (d.ent q).t ≠ 0 then 120 else 0
def DS.taken (d : DS) (q t s : Int) : DS := (d.lay q.toNat (enT t s)).cnt s.toNat 1
def DS.take (d : DS) (q t s : Int) : DS := if d.takeE q t s = 0 then d.taken q t s else d
theorem trn_iff (t : Int) : trn t = true ↔ t = 4 ∨ t = 5 ∨ t = 6 := by simp [trn]
theorem take_zero {d : DS} {q t s : Int} (h : d.takeE q t s = 0) : d.there q = true ∧ (2 ≤ t ∧ t ≤ 6) ∧ (t = 2 ∨ trn t = true) ∧ d.more s = true ∧ (d.ent q).t = 0 := by
  cases hq : d.there q
  · simp [DS.takeE, DS.entE, hq] at h
  simp only [DS.takeE, DS.entE, hq, if_true, ne_eq, not_true_eq_false, if_false] at h
  by_cases h1 : t ≠ 2 ∧ trn t = false
  · rw [if_pos h1] at h; cases h
  rw [if_neg h1] at h
  have h2 : t = 2 ∨ trn t = true := by
    by_cases e : t = 2
    · exact .inl e
    · refine .inr ?_
      cases hh : trn t
      · exact absurd ⟨e, hh⟩ h1
      · rfl
  cases hm : d.more s
  · rw [hm, if_pos rfl] at h; cases h
  rw [hm, if_neg (by decide)] at h
  by_cases h4 : (d.ent q).t = 0
  · refine ⟨rfl, ?_, h2, rfl, h4⟩
    rcases h2 with h2 | h2
    · omega
    · rw [trn_iff] at h2; omega
  · simp [h4] at h
theorem there_of {d : DS} {q : Int} (h : (d.ent q).t ≠ 0) : d.there q = true := by
  cases hh : d.there q
  · simp [DS.ent, hh, En.zero] at h
  · rfl
theorem more_of {d : DS} {s : Int} (h : d.more s = true) : d.there s = true ∧ (d.ent s).t = 1 ∧ (d.ent s).r < 63 := by
  simp only [DS.more, Bool.and_eq_true, beq_iff_eq, decide_eq_true_eq] at h
  exact ⟨there_of (by rw [h.1]; decide), h⟩
theorem lay_at {d : DS} (k j : Nat) (x : En) (hk : k < d.E.length) : (d.lay k x).at j = if j = k then x else d.at j := by
  by_cases e : j = k
  · subst e; rw [if_pos rfl]; simp [DS.at, DS.lay, List.getD_eq_getElem?_getD, List.getElem?_set_self hk]
  · rw [if_neg e]; simp [DS.at, DS.lay, List.getD_eq_getElem?_getD, List.getElem?_set_ne (Ne.symm e)]
theorem ent_at {d : DS} {q : Int} (h : d.there q = true) : d.ent q = d.at q.toNat := by rw [DS.ent, if_pos h]
theorem there_lt {d : DS} {q : Int} (h : d.there q = true) : 0 ≤ q ∧ q.toNat < d.m.ns ∧ q = ((q.toNat : Nat) : Int) := by
  obtain ⟨a, b⟩ := of_decide_eq_true h
  exact ⟨a, by omega, by omega⟩
theorem take_any (W : World) (p : Dp) (d : DS) (h : DB W p d) (q t s : Int) :
    Calls Tryz.prog 33 #[ptr p.g, .int .i64 q, .int .i64 t, .int .i64 s] W fun e W' => e = .returned (.int .i64 (d.takeE q t s)) ∧ DB W' p (d.take q t s) ∧ ButL p.w W W' := by
  have D0 := hid (DG.start h p.w h.wlt)
  have HE := hid (fun w (hw : DB w p d) => entry_any w p d hw q)
  have HT := hid (fun W => turns_any W t)
  have HM := hid (fun w (hw : DB w p d) => ownsMore_any w p d hw s)
  unfold DS.take
  by_cases hz : d.takeE q t s = 0
  · rw [if_pos hz, hz]
    obtain ⟨tq, ⟨t0, t1⟩, ht, hm, hf⟩ := take_zero hz
    obtain ⟨ts, s1, s2⟩ := more_of hm
    obtain ⟨q0, q1, eq⟩ := there_lt tq
    obtain ⟨s0, s3, es⟩ := there_lt ts
    have n64 := h.ok.n64
    have hne : s.toNat ≠ q.toNat := fun e => by
      rw [ent_at ts, e, ← ent_at tq, hf] at s1
      cases s1
    have hql : q.toNat < d.E.length := by rw [h.ok.len]; exact q1
    have ha : (d.lay q.toNat (enT t s)).at s.toNat = d.ent s := by rw [lay_at _ _ _ hql, if_neg hne, ent_at ts]
    have hok := h.ok.ok _ s3
    rw [← ent_at ts] at hok
    have HL := hid (fun w (hw : DB w p d) => lay_any w p d hw q.toNat q1 (enT t s) (enT_ok t0 t1 s0 (by omega)) (by show s < _; omega))
    have HC := hid (fun w (hw : DB w p (d.lay q.toNat (enT t s))) => count_any w p _ hw s.toNat s3 1 (by rw [ha]; exact En.okR hok s1 _ (by have := ((En.ok_iff _).1 hok).r0; omega) (by omega)))
    rw [← eq] at HL
    rw [← es] at HC
    have e2 : d.entE q = 0 := by simp [DS.entE, tq]
    rw [e2] at HE
    rw [hm] at HM
    unfold DS.taken
    generalize d.lay q.toNat (enT t s) = d1 at *
    generalize d1.cnt s.toNat 1 = d2 at *
    generalize hX : d.ent q = X at *
    obtain ⟨xt, xo, xr, xs, xx⟩ := X
    simp only at hf
    subst hf
    have hT : t = 2 ∨ ((t != 2) = true ∧ trn t = true) := by
      by_cases e : t = 2
      · exact .inl e
      · exact .inr ⟨by simpa using e, ht.resolve_left e⟩
    clear h hz tq t0 t1 ht hm ts s1 s2 q0 q1 eq s0 s3 es n64 hne hql ha hok e2 hX
    simp only [ptr, En.v, En.cs] at HE
    simp only [ptr, En.v] at HT HM HL HC ⊢
    go_enter Tryz.func33, Tryz.ntmps33
    go_upto_region 2 with (first | (go_at_call 49; refine (HE.out _ D0.out.db).mono ?_; rintro e w1 ⟨rfl, hb⟩; have D1 := hid (D0.out.on hb); clear hb) | (refine wpList_store_st rfl 92 _ _ rfl w1.heap.size [.int .i64 0, .int .i64 xo, .int .i64 xr, .int .i64 xs, .bool xx] rfl rfl (Cel.new w1 92 En.zero.cs) sizeE rfl rfl ?_; intro w2 hc hb hs; have D2 := hid (D1.out.add hc hb); clear hc hb hs))
    clear D0 D1 HE
    generalize w1.heap.size = g9 at *
    rcases hT with hT | ⟨hT, hT2⟩
    · subst hT
      go_upto_region 8 with (go_at_call 70; refine (HM.out _ D2.out.db).mono ?_; rintro e w3 ⟨rfl, hb⟩; have D3 := hid (D2.out.on hb); clear hb)
      clear D2 HM HT
      have c0 := (D3.out.get 0 rfl).cell 0
      simp only [List.getElem?_cons_zero] at c0
      go_upto_region 11 with (first | (refine wpList_build_f rfl 92 _ rfl #[(0, .int .i64 2), (1, .int .i64 s)] (by rfl) _ (built_T 2 s) ?_) | (go_at_call 67; refine (HL.out _ D3.out.db).mono ?_; rintro e w4 ⟨rfl, hd, hb⟩; have D4 := hid (D3.out.step hd hb (by simp [Dp.w])); clear hb hd))
      go_wp2_with (go_at_call 71; refine (HC.out _ D4.out.db).mono ?_; rintro e w5 ⟨rfl, hd, hb⟩; have D5 := hid (D4.out.step hd hb (by simp [Dp.w])); clear hb hd)
      go_ret
      exact ⟨rfl, D5.out.db, D5.out.but⟩
    · rw [hT2] at HT
      go_upto_region 8 with (first | (go_at_call 69; refine (HT.out _).mono ?_; rintro e w6 ⟨rfl, rfl⟩) | (go_at_call 70; refine (HM.out _ D2.out.db).mono ?_; rintro e w3 ⟨rfl, hb⟩; have D3 := hid (D2.out.on hb); clear hb))
      clear D2 HM HT
      have c0 := (D3.out.get 0 rfl).cell 0
      simp only [List.getElem?_cons_zero] at c0
      go_upto_region 11 with (first | (refine wpList_build_f rfl 92 _ rfl #[(0, .int .i64 t), (1, .int .i64 s)] (by rfl) _ (built_T t s) ?_) | (go_at_call 67; refine (HL.out _ D3.out.db).mono ?_; rintro e w4 ⟨rfl, hd, hb⟩; have D4 := hid (D3.out.step hd hb (by simp [Dp.w])); clear hb hd))
      go_wp2_with (go_at_call 71; refine (HC.out _ D4.out.db).mono ?_; rintro e w5 ⟨rfl, hd, hb⟩; have D5 := hid (D4.out.step hd hb (by simp [Dp.w])); clear hb hd)
      go_ret
      exact ⟨rfl, D5.out.db, D5.out.but⟩
  · rw [if_neg hz]
    have HR : Hid (d.takeE q t s ≠ 0 ∧ d.takeE q t s = if d.entE q ≠ 0 then d.entE q else if t ≠ 2 ∧ trn t = false then 124 else if d.more s = false then 122 else if (d.ent q).t ≠ 0 then 120 else 0) := hid ⟨hz, rfl⟩
    generalize d.takeE q t s = R at *
    clear h hz
    generalize d.ent q = X at *
    obtain ⟨xt, xo, xr, xs, xx⟩ := X
    generalize d.entE q = xe at *
    generalize trn t = tt at *
    generalize d.more s = mm at *
    simp only [ptr, En.v, En.cs] at HE HT HM ⊢
    go_enter Tryz.func33, Tryz.ntmps33
    go_upto_region 2 with (first | (go_at_call 49; refine (HE.out _ D0.out.db).mono ?_; rintro e w1 ⟨rfl, hb⟩; have D1 := hid (D0.out.on hb); clear hb) | (refine wpList_store_st rfl 92 _ _ rfl w1.heap.size [.int .i64 xt, .int .i64 xo, .int .i64 xr, .int .i64 xs, .bool xx] rfl rfl (Cel.new w1 92 En.zero.cs) sizeE rfl rfl ?_; intro w2 hc hb hs; have D2 := hid (D1.out.add hc hb); clear hc hb hs))
    clear D0 D1 HE
    generalize w1.heap.size = g9 at *
    by_cases h1 : xe = 0
    · subst h1
      have HT2 : Hid ((t ≠ 2 ∧ tt = false) ∨ t = 2 ∨ ((t != 2) = true ∧ tt = true)) := hid (by
        by_cases e : t = 2
        · exact .inr (.inl e)
        · cases tt
          · exact .inl ⟨e, rfl⟩
          · exact .inr (.inr ⟨by simpa using e, rfl⟩))
      rcases HT2.out with hT | hT | ⟨hT, hT2⟩
      · have hR : R = 124 := by rw [HR.out.2]; simp [hT.1, hT.2]
        have hT' : (t != 2) = true := by simpa using hT.1
        subst hR
        rw [hT.2] at HT
        clear HR HT2 hT
        go_wp2_with (go_at_call 69; refine (HT.out _).mono ?_; rintro e w6 ⟨rfl, rfl⟩)
        go_ret
        exact ⟨rfl, D2.out.db, D2.out.but⟩
      · subst hT
        cases mm
        · have hR : R = 122 := by rw [HR.out.2]; simp
          subst hR
          clear HR HT2 HT
          go_wp2_with (go_at_call 70; refine (HM.out _ D2.out.db).mono ?_; rintro e w3 ⟨rfl, hb⟩; have D3 := hid (D2.out.on hb); clear hb)
          go_ret
          exact ⟨rfl, D3.out.db, D3.out.but⟩
        · have hX : xt ≠ 0 := fun e => HR.out.1 (by rw [HR.out.2, e]; simp)
          have hR : R = 120 := by rw [HR.out.2]; simp [hX]
          have hX' : (xt == 0) = false := by simpa using hX
          subst hR
          clear HR HT2 HT hX
          go_upto_region 8 with (go_at_call 70; refine (HM.out _ D2.out.db).mono ?_; rintro e w3 ⟨rfl, hb⟩; have D3 := hid (D2.out.on hb); clear hb)
          have c0 := (D3.out.get 0 rfl).cell 0
          simp only [List.getElem?_cons_zero] at c0
          go_wp2_with fail
          go_ret
          exact ⟨rfl, D3.out.db, D3.out.but⟩
      · subst hT2
        cases mm
        · have hR : R = 122 := by rw [HR.out.2]; simp
          subst hR
          clear HR HT2
          go_wp2_with (first | (go_at_call 69; refine (HT.out _).mono ?_; rintro e w6 ⟨rfl, rfl⟩) | (go_at_call 70; refine (HM.out _ D2.out.db).mono ?_; rintro e w3 ⟨rfl, hb⟩; have D3 := hid (D2.out.on hb); clear hb))
          go_ret
          exact ⟨rfl, D3.out.db, D3.out.but⟩
        · have hX : xt ≠ 0 := fun e => HR.out.1 (by rw [HR.out.2, e]; simp)
          have hR : R = 120 := by rw [HR.out.2]; simp [hX]
          have hX' : (xt == 0) = false := by simpa using hX
          subst hR
          clear HR HT2 hX
          go_upto_region 8 with (first | (go_at_call 69; refine (HT.out _).mono ?_; rintro e w6 ⟨rfl, rfl⟩) | (go_at_call 70; refine (HM.out _ D2.out.db).mono ?_; rintro e w3 ⟨rfl, hb⟩; have D3 := hid (D2.out.on hb); clear hb))
          have c0 := (D3.out.get 0 rfl).cell 0
          simp only [List.getElem?_cons_zero] at c0
          go_wp2_with fail
          go_ret
          exact ⟨rfl, D3.out.db, D3.out.but⟩
    · have h1' : (xe == 0) = false := by simpa using h1
      have hR : R = xe := by rw [HR.out.2]; simp [h1]
      subst hR
      clear HR h1
      go_wp2_with fail
      go_ret
      exact ⟨rfl, D2.out.db, D2.out.but⟩
end Go.Proofs.YtildhjiddidghaaGreatDoor
namespace Go.Proofs.YtildhjiddidghaaGreatDoor
open Go.RowKit
set_option maxHeartbeats 2000000
set_option maxRecDepth 100000
def DS.turnE (d : DS) (q t : Int) : Int := if d.entE q ≠ 0 then d.entE q else if trn (d.ent q).t = false then 124 else if trn t = false then 124 else 0
def DS.turned (d : DS) (q t : Int) : DS := (d.lay q.toNat (enT t (d.ent q).o)).wipe q
def DS.turn (d : DS) (q t : Int) : DS := if d.turnE q t = 0 then d.turned q t else d
theorem turn_zero {d : DS} {q t : Int} (h : d.turnE q t = 0) : d.there q = true ∧ trn (d.ent q).t = true ∧ trn t = true := by
  cases hq : d.there q
  · simp [DS.turnE, DS.entE, hq] at h
  simp only [DS.turnE, DS.entE, hq, if_true, ne_eq, not_true_eq_false, if_false] at h
  cases h1 : trn (d.ent q).t
  · rw [h1] at h; simp at h
  cases h2 : trn t
  · rw [h1, h2] at h; simp at h
  exact ⟨rfl, rfl, rfl⟩
theorem turn_any (W : World) (p : Dp) (d : DS) (h : DB W p d) (q t : Int) :
    Calls Tryz.prog 35 #[ptr p.g, .int .i64 q, .int .i64 t] W fun e W' => e = .returned (.int .i64 (d.turnE q t)) ∧ DB W' p (d.turn q t) ∧ ButL p.w W W' := by
  have D0 := hid (DG.start h p.w h.wlt)
  have HE := hid (fun w (hw : DB w p d) => entry_any w p d hw q)
  have HT := hid (fun W => turns_any W t)
  have HT0 := hid (fun W => turns_any W (d.ent q).t)
  unfold DS.turn
  by_cases hz : d.turnE q t = 0
  · rw [if_pos hz, hz]
    obtain ⟨tq, h1, h2⟩ := turn_zero hz
    obtain ⟨q0, q1, eq⟩ := there_lt tq
    have n64 := h.ok.n64
    have ht := (trn_iff t).1 h2
    have hok := (En.ok_iff _).1 (h.ok.ok _ q1)
    have how := h.ok.own _ q1
    rw [← ent_at tq] at hok how
    have HL := hid (fun w (hw : DB w p d) => lay_any w p d hw q.toNat q1 (enT t (d.ent q).o) (enT_ok (by omega) (by omega) hok.o0 hok.o1) how)
    rw [← eq] at HL
    have HW := hid (fun w (hw : DB w p (d.lay q.toNat (enT t (d.ent q).o))) => wipe_any w p _ hw q)
    have e2 : d.entE q = 0 := by simp [DS.entE, tq]
    rw [e2] at HE
    rw [h1] at HT0
    rw [h2] at HT
    unfold DS.turned
    generalize hX : d.ent q = X at *
    obtain ⟨xt, xo, xr, xs, xx⟩ := X
    simp only at HL HW HT0 ⊢
    generalize d.lay q.toNat (enT t xo) = d1 at *
    clear h hz tq h1 h2 q0 q1 eq n64 ht hok how e2 hX
    simp only [ptr, En.v, En.cs] at HE
    simp only [ptr, En.v] at HL HW ⊢
    go_enter Tryz.func35, Tryz.ntmps35
    go_upto_region 2 with (first | (go_at_call 49; refine (HE.out _ D0.out.db).mono ?_; rintro e w1 ⟨rfl, hb⟩; have D1 := hid (D0.out.on hb); clear hb) | (refine wpList_store_st rfl 92 _ _ rfl w1.heap.size [.int .i64 xt, .int .i64 xo, .int .i64 xr, .int .i64 xs, .bool xx] rfl rfl (Cel.new w1 92 En.zero.cs) sizeE rfl rfl ?_; intro w2 hc hb hs; have D2 := hid (D1.out.add hc hb); clear hc hb hs))
    clear D0 D1 HE
    generalize w1.heap.size = g7 at *
    have c0 := (D2.out.get 0 rfl).cell 0
    have c1 := (D2.out.get 0 rfl).cell 1
    simp only [List.getElem?_cons_zero, List.getElem?_cons_succ] at c0 c1
    go_upto_region 6 with (go_at_call 69; first | (refine (HT0.out _).mono ?_; clear HT0; rintro e w6 ⟨rfl, hw6⟩; subst hw6) | (refine (HT.out _).mono ?_; rintro e w6 ⟨rfl, hw6⟩; subst hw6))
    clear HT
    go_upto_region 7 with (first | (refine wpList_build_f rfl 92 _ rfl #[(0, .int .i64 t), (1, .int .i64 xo)] (by rfl) _ (built_T t xo) ?_) | (go_at_call 67; refine (HL.out _ D2.out.db).mono ?_; rintro e w4 ⟨rfl, hd, hb⟩; have D4 := hid (D2.out.step hd hb (by simp [Dp.w])); clear hb hd))
    go_wp2_with (go_at_call 62; refine (HW.out _ D4.out.db).mono ?_; rintro e w5 ⟨rfl, hd, hb⟩; have D5 := hid (D4.out.step hd hb (fun k hk => by simp only [Dp.w, List.mem_cons]; exact .inr hk)); clear hb hd)
    go_ret
    exact ⟨rfl, D5.out.db, D5.out.but⟩
  · rw [if_neg hz]
    have HR : Hid (d.turnE q t ≠ 0 ∧ d.turnE q t = if d.entE q ≠ 0 then d.entE q else if trn (d.ent q).t = false then 124 else if trn t = false then 124 else 0) := hid ⟨hz, rfl⟩
    generalize d.turnE q t = R at *
    clear h hz
    generalize d.ent q = X at *
    obtain ⟨xt, xo, xr, xs, xx⟩ := X
    generalize d.entE q = xe at *
    simp only at HR HT0
    generalize trn xt = tx at *
    generalize trn t = tt at *
    simp only [ptr, En.v, En.cs] at HE ⊢
    go_enter Tryz.func35, Tryz.ntmps35
    go_upto_region 2 with (first | (go_at_call 49; refine (HE.out _ D0.out.db).mono ?_; rintro e w1 ⟨rfl, hb⟩; have D1 := hid (D0.out.on hb); clear hb) | (refine wpList_store_st rfl 92 _ _ rfl w1.heap.size [.int .i64 xt, .int .i64 xo, .int .i64 xr, .int .i64 xs, .bool xx] rfl rfl (Cel.new w1 92 En.zero.cs) sizeE rfl rfl ?_; intro w2 hc hb hs; have D2 := hid (D1.out.add hc hb); clear hc hb hs))
    clear D0 D1 HE
    generalize w1.heap.size = g7 at *
    have c0 := (D2.out.get 0 rfl).cell 0
    simp only [List.getElem?_cons_zero] at c0
    by_cases h1 : xe = 0
    · subst h1
      cases tx
      · have hR : R = 124 := by rw [HR.out.2]; simp
        subst hR
        clear HR
        go_wp2_with (go_at_call 69; refine (HT0.out _).mono ?_; rintro e w6 ⟨rfl, hw6⟩; subst hw6)
        go_ret
        exact ⟨rfl, D2.out.db, D2.out.but⟩
      · cases tt
        · have hR : R = 124 := by rw [HR.out.2]; simp
          subst hR
          clear HR
          go_wp2_with (go_at_call 69; first | (refine (HT0.out _).mono ?_; clear HT0; rintro e w6 ⟨rfl, hw6⟩; subst hw6) | (refine (HT.out _).mono ?_; rintro e w6 ⟨rfl, hw6⟩; subst hw6))
          go_ret
          exact ⟨rfl, D2.out.db, D2.out.but⟩
        · exact absurd (HR.out.2.trans (by simp)) HR.out.1
    · have h1' : (xe == 0) = false := by simpa using h1
      have hR : R = xe := by rw [HR.out.2]; simp [h1]
      subst hR
      clear HR h1
      go_wp2_with fail
      go_ret
      exact ⟨rfl, D2.out.db, D2.out.but⟩
def DS.stateE (d : DS) (q s : Int) : Int := if d.typE q 1 ≠ 0 then d.typE q 1 else if s = 3 ∨ (s = 2 ∧ (d.ent q).s = 1) then 0 else 3
def DS.stated (d : DS) (q s : Int) : DS := d.lay q.toNat { d.ent q with s := s }
def DS.state (d : DS) (q s : Int) : DS := if d.stateE q s = 0 then d.stated q s else d
theorem typ_zero {d : DS} {q t : Int} (h : d.typE q t = 0) : d.there q = true ∧ (d.ent q).t = t ∧ d.typ q t = d.ent q := by
  unfold DS.typE at h
  cases hq : d.there q
  · simp [hq] at h
  · by_cases ht : (d.ent q).t = t
    · exact ⟨rfl, ht, by simp [DS.typ, hq, ht]⟩
    · simp [hq, ht] at h
theorem setState_any (W : World) (p : Dp) (d : DS) (h : DB W p d) (q s : Int) :
    Calls Tryz.prog 39 #[ptr p.g, .int .i64 q, .int .i64 s] W fun e W' => e = .returned (.int .i64 (d.stateE q s)) ∧ DB W' p (d.state q s) ∧ ButL p.w W W' := by
  have D0 := hid (DG.start h p.w h.wlt)
  have HE := hid (fun w (hw : DB w p d) => typed_any w p d hw q 1)
  unfold DS.state
  by_cases hy : d.typE q 1 = 0
  · obtain ⟨tq, t1, ty⟩ := typ_zero hy
    obtain ⟨q0, q1, eq⟩ := there_lt tq
    have hok := h.ok.ok _ q1
    have how := h.ok.own _ q1
    rw [← ent_at tq] at hok how
    rw [ty, hy] at HE
    by_cases hs : s = 3 ∨ (s = 2 ∧ (d.ent q).s = 1)
    · have hz : d.stateE q s = 0 := by simp [DS.stateE, hy, hs]
      rw [if_pos hz, hz]
      have HL := hid (fun w (hw : DB w p d) => lay_any w p d hw q.toNat q1 { d.ent q with s := s } (En.okS hok t1 s (by omega) (by omega)) how)
      rw [← eq] at HL
      unfold DS.stated
      generalize hX : d.ent q = X at *
      obtain ⟨xt, xo, xr, xs, xx⟩ := X
      simp only at HL hs ⊢
      generalize d.lay q.toNat _ = d1 at *
      clear h hy tq t1 ty q0 q1 eq hok how hz hX
      simp only [ptr, En.v, En.cs] at HE HL ⊢
      go_enter Tryz.func39, Tryz.ntmps39
      go_upto_region 2 with (first | (go_at_call 75; refine (HE.out _ D0.out.db).mono ?_; rintro e w1 ⟨rfl, hb⟩; have D1 := hid (D0.out.on hb); clear hb) | (refine wpList_store_st rfl 92 _ _ rfl w1.heap.size [.int .i64 xt, .int .i64 xo, .int .i64 xr, .int .i64 xs, .bool xx] rfl rfl (Cel.new w1 92 En.zero.cs) sizeE rfl rfl ?_; intro w2 hc hb hs; have D2 := hid (D1.out.add hc hb); clear hc hb hs))
      clear D0 D1 HE
      generalize w1.heap.size = g7 at *
      have c3 := (D2.out.get 0 rfl).cell 3
      have f3 := (D2.out.get 0 rfl).free 3
      have D3 := hid (D2.out.put (by simp) ((D2.out.get 0 rfl).setCell 3 (.int .i64 s)) (.setCell _ _ _ _ (by simp)))
      simp only [List.getElem?_cons_zero, List.getElem?_cons_succ, List.set_cons_zero, List.set_cons_succ] at c3 D3
      rcases hs with hs | ⟨hs, hx⟩
      · subst hs
        go_upto_region 7 with fail
        generalize w2.setCell _ _ = w3 at *
        go_wp2_with (first | (refine wpList_load_mid rfl 92 _ rfl g7 0 rfl _ _ ((D3.out.get 0 rfl).range) underE rfl (by rw [sizeE]; rfl) ?_) | (go_at_call 67; refine (HL.out _ D3.out.db).mono ?_; rintro e w4 ⟨rfl, hd, hb⟩; have D4 := hid (D3.out.step hd hb (by simp [Dp.w])); clear hb hd))
        go_ret
        exact ⟨rfl, D4.out.db, D4.out.but⟩
      · subst hs hx
        go_upto_region 7 with fail
        generalize w2.setCell _ _ = w3 at *
        go_wp2_with (first | (refine wpList_load_mid rfl 92 _ rfl g7 0 rfl _ _ ((D3.out.get 0 rfl).range) underE rfl (by rw [sizeE]; rfl) ?_) | (go_at_call 67; refine (HL.out _ D3.out.db).mono ?_; rintro e w4 ⟨rfl, hd, hb⟩; have D4 := hid (D3.out.step hd hb (by simp [Dp.w])); clear hb hd))
        go_ret
        exact ⟨rfl, D4.out.db, D4.out.but⟩
    · have hz : d.stateE q s = 3 := by simp [DS.stateE, hy, hs]
      rw [if_neg (by rw [hz]; decide), hz]
      generalize hX : d.ent q = X at *
      obtain ⟨xt, xo, xr, xs, xx⟩ := X
      simp only at hs
      have hs1 : (s != 3) = true := by simp; intro e; exact hs (.inl e)
      have hs2 : (s != 2) = true ∨ (s = 2 ∧ (xs != 1) = true) := by
        by_cases e : s = 2
        · exact .inr ⟨e, by simp; intro e2; exact hs (.inr ⟨e, e2⟩)⟩
        · exact .inl (by simpa using e)
      clear h hy tq t1 ty q0 q1 eq hok how hz hX hs
      simp only [ptr, En.v, En.cs] at HE ⊢
      go_enter Tryz.func39, Tryz.ntmps39
      go_upto_region 2 with (first | (go_at_call 75; refine (HE.out _ D0.out.db).mono ?_; rintro e w1 ⟨rfl, hb⟩; have D1 := hid (D0.out.on hb); clear hb) | (refine wpList_store_st rfl 92 _ _ rfl w1.heap.size [.int .i64 xt, .int .i64 xo, .int .i64 xr, .int .i64 xs, .bool xx] rfl rfl (Cel.new w1 92 En.zero.cs) sizeE rfl rfl ?_; intro w2 hc hb hs; have D2 := hid (D1.out.add hc hb); clear hc hb hs))
      clear D0 D1 HE
      generalize w1.heap.size = g7 at *
      have c3 := (D2.out.get 0 rfl).cell 3
      simp only [List.getElem?_cons_zero, List.getElem?_cons_succ] at c3
      rcases hs2 with hs2 | ⟨hs2, hx⟩
      · go_wp2_with fail
        go_ret
        exact ⟨rfl, D2.out.db, D2.out.but⟩
      · subst hs2
        clear hs1
        go_wp2_with fail
        go_ret
        exact ⟨rfl, D2.out.db, D2.out.but⟩
  · have hz : d.stateE q s = d.typE q 1 := by simp [DS.stateE, hy]
    rw [hz, if_neg hy]
    have hy' : (d.typE q 1 == 0) = false := by simpa using hy
    clear h hz hy
    generalize d.typE q 1 = R at *
    generalize d.typ q 1 = X at *
    obtain ⟨xt, xo, xr, xs, xx⟩ := X
    simp only [ptr, En.v, En.cs] at HE ⊢
    go_enter Tryz.func39, Tryz.ntmps39
    go_upto_region 2 with (first | (go_at_call 75; refine (HE.out _ D0.out.db).mono ?_; rintro e w1 ⟨rfl, hb⟩; have D1 := hid (D0.out.on hb); clear hb) | (refine wpList_store_st rfl 92 _ _ rfl w1.heap.size [.int .i64 xt, .int .i64 xo, .int .i64 xr, .int .i64 xs, .bool xx] rfl rfl (Cel.new w1 92 En.zero.cs) sizeE rfl rfl ?_; intro w2 hc hb hs; have D2 := hid (D1.out.add hc hb); clear hc hb hs))
    clear D0 D1 HE
    go_wp2_with fail
    go_ret
    exact ⟨rfl, D2.out.db, D2.out.but⟩
def DS.enteredE (d : DS) (q : Int) : Int := d.typE q 2
def DS.entered (d : DS) (q : Int) (on : Bool) : DS := if d.enteredE q = 0 then d.lay q.toNat { d.ent q with e := on } else d
theorem setEntered_any (W : World) (p : Dp) (d : DS) (h : DB W p d) (q : Int) (on : Bool) :
    Calls Tryz.prog 41 #[ptr p.g, .int .i64 q, .bool on] W fun e W' => e = .returned (.int .i64 (d.enteredE q)) ∧ DB W' p (d.entered q on) ∧ ButL p.w W W' := by
  have D0 := hid (DG.start h p.w h.wlt)
  have HE := hid (fun w (hw : DB w p d) => typed_any w p d hw q 2)
  unfold DS.entered DS.enteredE
  by_cases hy : d.typE q 2 = 0
  · rw [if_pos hy, hy]
    obtain ⟨tq, t1, ty⟩ := typ_zero hy
    obtain ⟨q0, q1, eq⟩ := there_lt tq
    have hok := h.ok.ok _ q1
    have how := h.ok.own _ q1
    rw [← ent_at tq] at hok how
    rw [ty, hy] at HE
    have HL := hid (fun w (hw : DB w p d) => lay_any w p d hw q.toNat q1 { d.ent q with e := on } (En.okE hok t1 on) how)
    rw [← eq] at HL
    generalize hX : d.ent q = X at *
    obtain ⟨xt, xo, xr, xs, xx⟩ := X
    simp only at HL ⊢
    generalize d.lay q.toNat _ = d1 at *
    clear h hy tq t1 ty q0 q1 eq hok how hX
    simp only [ptr, En.v, En.cs] at HE HL ⊢
    go_enter Tryz.func41, Tryz.ntmps41
    go_upto_region 2 with (first | (go_at_call 75; refine (HE.out _ D0.out.db).mono ?_; rintro e w1 ⟨rfl, hb⟩; have D1 := hid (D0.out.on hb); clear hb) | (refine wpList_store_st rfl 92 _ _ rfl w1.heap.size [.int .i64 xt, .int .i64 xo, .int .i64 xr, .int .i64 xs, .bool xx] rfl rfl (Cel.new w1 92 En.zero.cs) sizeE rfl rfl ?_; intro w2 hc hb hs; have D2 := hid (D1.out.add hc hb); clear hc hb hs))
    clear D0 D1 HE
    generalize w1.heap.size = g7 at *
    have f4 := (D2.out.get 0 rfl).free 4
    have c4 := (D2.out.get 0 rfl).cell 4
    have D3 := hid (D2.out.put (by simp) ((D2.out.get 0 rfl).setCell 4 (.bool on)) (.setCell _ _ _ _ (by simp)))
    simp only [List.getElem?_cons_zero, List.getElem?_cons_succ, List.set_cons_zero, List.set_cons_succ] at c4 D3
    go_upto_region 5 with fail
    generalize w2.setCell _ _ = w3 at *
    go_wp2_with (first | (refine wpList_load_mid rfl 92 _ rfl g7 0 rfl _ _ ((D3.out.get 0 rfl).range) underE rfl (by rw [sizeE]; rfl) ?_) | (go_at_call 67; refine (HL.out _ D3.out.db).mono ?_; rintro e w4 ⟨rfl, hd, hb⟩; have D4 := hid (D3.out.step hd hb (by simp [Dp.w])); clear hb hd))
    go_ret
    exact ⟨rfl, D4.out.db, D4.out.but⟩
  · rw [if_neg hy]
    have hy' : (d.typE q 2 == 0) = false := by simpa using hy
    clear h hy
    generalize d.typE q 2 = R at *
    generalize d.typ q 2 = X at *
    obtain ⟨xt, xo, xr, xs, xx⟩ := X
    simp only [ptr, En.v, En.cs] at HE ⊢
    go_enter Tryz.func41, Tryz.ntmps41
    go_upto_region 2 with (first | (go_at_call 75; refine (HE.out _ D0.out.db).mono ?_; rintro e w1 ⟨rfl, hb⟩; have D1 := hid (D0.out.on hb); clear hb) | (refine wpList_store_st rfl 92 _ _ rfl w1.heap.size [.int .i64 xt, .int .i64 xo, .int .i64 xr, .int .i64 xs, .bool xx] rfl rfl (Cel.new w1 92 En.zero.cs) sizeE rfl rfl ?_; intro w2 hc hb hs; have D2 := hid (D1.out.add hc hb); clear hc hb hs))
    clear D0 D1 HE
    go_wp2_with fail
    go_ret
    exact ⟨rfl, D2.out.db, D2.out.but⟩
end Go.Proofs.YtildhjiddidghaaGreatDoor
