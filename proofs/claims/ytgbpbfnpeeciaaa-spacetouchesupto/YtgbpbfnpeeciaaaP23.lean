import Derived.Test.YtgbpbfnpeeciaaaP22
namespace Go.Proofs.Ytgbpbfnpeeciaaa
open Go.RowKit
set_option maxHeartbeats 2000000
set_option maxRecDepth 100000
theorem En.okR {x : En} (h : x.ok = true) (ht : x.t = 1) (r : Int) (r0 : 0 ≤ r) (r1 : r < 64) : En.ok { x with r := r } = true := by
  rw [En.ok_iff] at *
  obtain ⟨t0, t1, o0, o1, _, _, s0, s1, z, sp, ns, en⟩ := h
  exact ⟨t0, t1, o0, o1, r0, r1, s0, s1, z, sp, fun h => absurd ht h, en⟩
def enT (t o : Int) : En := ⟨t, o, 0, 0, false⟩
theorem enT_ok {t o : Int} (t0 : 2 ≤ t) (t1 : t ≤ 6) (h0 : 0 ≤ o) (h1 : o < 64) : (enT t o).ok = true := by
  rw [En.ok_iff]
  exact ⟨by show 0 ≤ t; omega, t1, h0, h1, by simp [enT], by simp [enT], by simp [enT], by simp [enT], by show t = 0 → _; omega, by show t = 1 → _; omega, by simp [enT], by simp [enT]⟩
theorem zero_ok : En.zero.ok = true := by decide
theorem built_T (t s : Int) : Try.prog.built 136 [(0, .int .i64 t), (1, .int .i64 s)] = some (enT t s).cs.toArray := by kernel_rfl
def DS.takeE (d : DS) (q t s : Int) : Int := if d.entE q ≠ 0 then d.entE q else if t ≠ 2 ∧ trn t = false then 124 else if d.more s = false then 122 else if (d.ent q).t ≠ 0 then 120 else 0
def DS.taken (d : DS) (q t s : Int) : DS := (d.lay q.toNat (enT t s)).cnt s.toNat 1
def DS.take (d : DS) (q t s : Int) : DS := if d.takeE q t s = 0 then d.taken q t s else d
theorem trn_iff (t : Int) : trn t = true ↔ t = 4 ∨ t = 5 ∨ t = 6 := by simp [trn]
theorem take_zero {d : DS} {q t s : Int} (h : d.takeE q t s = 0) : d.there q = true ∧ (2 ≤ t ∧ t ≤ 6) ∧ (t = 2 ∨ trn t = true) ∧ d.more s = true ∧ (d.ent q).t = 0 := by
  cases hq : d.there q
  · simp [DS.takeE, DS.entE, hq] at h
  simp only [DS.takeE, DS.entE, hq, if_true, ne_eq, not_true_eq_false, if_false] at h
  by_cases h1 : t ≠ 2 ∧ trn t = false
  · rw [if_pos h1] at h; cases h
  rw [if_neg h1] at h
  have h2 : t = 2 ∨ trn t = true := by
    by_cases e : t = 2
    · exact .inl e
    · refine .inr ?_
      cases hh : trn t
      · exact absurd ⟨e, hh⟩ h1
      · rfl
  cases hm : d.more s
  · rw [hm, if_pos rfl] at h; cases h
  rw [hm, if_neg (by decide)] at h
  by_cases h4 : (d.ent q).t = 0
  · refine ⟨rfl, ?_, h2, rfl, h4⟩
    rcases h2 with h2 | h2
    · omega
    · rw [trn_iff] at h2; omega
  · simp [h4] at h
theorem there_of {d : DS} {q : Int} (h : (d.ent q).t ≠ 0) : d.there q = true := by
  cases hh : d.there q
  · simp [DS.ent, hh, En.zero] at h
  · rfl
theorem more_of {d : DS} {s : Int} (h : d.more s = true) : d.there s = true ∧ (d.ent s).t = 1 ∧ (d.ent s).r < 63 := by
  simp only [DS.more, Bool.and_eq_true, beq_iff_eq, decide_eq_true_eq] at h
  exact ⟨there_of (by rw [h.1]; decide), h⟩
theorem lay_at {d : DS} (k j : Nat) (x : En) (hk : k < d.E.length) : (d.lay k x).at j = if j = k then x else d.at j := by
  by_cases e : j = k
  · subst e; rw [if_pos rfl]; simp [DS.at, DS.lay, List.getD_eq_getElem?_getD, List.getElem?_set_self hk]
  · rw [if_neg e]; simp [DS.at, DS.lay, List.getD_eq_getElem?_getD, List.getElem?_set_ne (Ne.symm e)]
theorem ent_at {d : DS} {q : Int} (h : d.there q = true) : d.ent q = d.at q.toNat := by rw [DS.ent, if_pos h]
theorem there_lt {d : DS} {q : Int} (h : d.there q = true) : 0 ≤ q ∧ q.toNat < d.m.ns ∧ q = ((q.toNat : Nat) : Int) := by
  obtain ⟨a, b⟩ := of_decide_eq_true h
  exact ⟨a, by omega, by omega⟩
theorem take_any (W : World) (p : Dp) (d : DS) (h : DB W p d) (q t s : Int) :
    Calls Try.prog 32 #[ptr p.g, .int .i64 q, .int .i64 t, .int .i64 s] W fun e W' => e = .returned (.int .i64 (d.takeE q t s)) ∧ DB W' p (d.take q t s) ∧ ButL p.w W W' := by
  have D0 := hid (DG.start h p.w h.wlt)
  have HE := hid (fun w (hw : DB w p d) => entry_any w p d hw q)
  have HT := hid (fun W => turns_any W t)
  have HM := hid (fun w (hw : DB w p d) => ownsMore_any w p d hw s)
  unfold DS.take
  by_cases hz : d.takeE q t s = 0
  · rw [if_pos hz, hz]
    obtain ⟨tq, ⟨t0, t1⟩, ht, hm, hf⟩ := take_zero hz
    obtain ⟨ts, s1, s2⟩ := more_of hm
    obtain ⟨q0, q1, eq⟩ := there_lt tq
    obtain ⟨s0, s3, es⟩ := there_lt ts
    have n64 := h.ok.n64
    have hne : s.toNat ≠ q.toNat := fun e => by
      rw [ent_at ts, e, ← ent_at tq, hf] at s1
      cases s1
    have hql : q.toNat < d.E.length := by rw [h.ok.len]; exact q1
    have ha : (d.lay q.toNat (enT t s)).at s.toNat = d.ent s := by rw [lay_at _ _ _ hql, if_neg hne, ent_at ts]
    have hok := h.ok.ok _ s3
    rw [← ent_at ts] at hok
    have HL := hid (fun w (hw : DB w p d) => lay_any w p d hw q.toNat q1 (enT t s) (enT_ok t0 t1 s0 (by omega)) (by show s < _; omega))
    have HC := hid (fun w (hw : DB w p (d.lay q.toNat (enT t s))) => count_any w p _ hw s.toNat s3 1 (by rw [ha]; exact En.okR hok s1 _ (by have := ((En.ok_iff _).1 hok).r0; omega) (by omega)))
    rw [← eq] at HL
    rw [← es] at HC
    have e2 : d.entE q = 0 := by simp [DS.entE, tq]
    rw [e2] at HE
    rw [hm] at HM
    unfold DS.taken
    generalize d.lay q.toNat (enT t s) = d1 at *
    generalize d1.cnt s.toNat 1 = d2 at *
    generalize hX : d.ent q = X at *
    obtain ⟨xt, xo, xr, xs, xx⟩ := X
    simp only at hf
    subst hf
    have hT : t = 2 ∨ ((t != 2) = true ∧ trn t = true) := by
      by_cases e : t = 2
      · exact .inl e
      · exact .inr ⟨by simpa using e, ht.resolve_left e⟩
    clear h hz tq t0 t1 ht hm ts s1 s2 q0 q1 eq s0 s3 es n64 hne hql ha hok e2 hX
    simp only [ptr, En.v, En.cs] at HE
    simp only [ptr, En.v] at HT HM HL HC ⊢
    go_enter Try.func32, Try.ntmps32
    go_upto_region 2 with (first | (go_at_call 69; refine (HE.out _ D0.out.db).mono ?_; rintro e w1 ⟨rfl, hb⟩; have D1 := hid (D0.out.on hb); clear hb) | (refine wpList_store_st rfl 136 _ _ rfl w1.heap.size [.int .i64 0, .int .i64 xo, .int .i64 xr, .int .i64 xs, .bool xx] rfl rfl (Cel.new w1 136 En.zero.cs) sizeE rfl rfl ?_; intro w2 hc hb hs; have D2 := hid (D1.out.add hc hb); clear hc hb hs))
    clear D0 D1 HE
    generalize w1.heap.size = g9 at *
    rcases hT with hT | ⟨hT, hT2⟩
    · subst hT
      go_upto_region 8 with (go_at_call 71; refine (HM.out _ D2.out.db).mono ?_; rintro e w3 ⟨rfl, hb⟩; have D3 := hid (D2.out.on hb); clear hb)
      clear D2 HM HT
      have c0 := (D3.out.get 0 rfl).cell 0
      simp only [List.getElem?_cons_zero] at c0
      go_upto_region 11 with (first | (refine wpList_build_f rfl 136 _ rfl #[(0, .int .i64 2), (1, .int .i64 s)] (by rfl) _ (built_T 2 s) ?_) | (go_at_call 66; refine (HL.out _ D3.out.db).mono ?_; rintro e w4 ⟨rfl, hd, hb⟩; have D4 := hid (D3.out.step hd hb (by simp [Dp.w])); clear hb hd))
      go_wp2_with (go_at_call 72; refine (HC.out _ D4.out.db).mono ?_; rintro e w5 ⟨rfl, hd, hb⟩; have D5 := hid (D4.out.step hd hb (by simp [Dp.w])); clear hb hd)
      go_ret
      exact ⟨rfl, D5.out.db, D5.out.but⟩
    · rw [hT2] at HT
      go_upto_region 8 with (first | (go_at_call 70; refine (HT.out _).mono ?_; rintro e w6 ⟨rfl, rfl⟩) | (go_at_call 71; refine (HM.out _ D2.out.db).mono ?_; rintro e w3 ⟨rfl, hb⟩; have D3 := hid (D2.out.on hb); clear hb))
      clear D2 HM HT
      have c0 := (D3.out.get 0 rfl).cell 0
      simp only [List.getElem?_cons_zero] at c0
      go_upto_region 11 with (first | (refine wpList_build_f rfl 136 _ rfl #[(0, .int .i64 t), (1, .int .i64 s)] (by rfl) _ (built_T t s) ?_) | (go_at_call 66; refine (HL.out _ D3.out.db).mono ?_; rintro e w4 ⟨rfl, hd, hb⟩; have D4 := hid (D3.out.step hd hb (by simp [Dp.w])); clear hb hd))
      go_wp2_with (go_at_call 72; refine (HC.out _ D4.out.db).mono ?_; rintro e w5 ⟨rfl, hd, hb⟩; have D5 := hid (D4.out.step hd hb (by simp [Dp.w])); clear hb hd)
      go_ret
      exact ⟨rfl, D5.out.db, D5.out.but⟩
  · rw [if_neg hz]
    have HR : Hid (d.takeE q t s ≠ 0 ∧ d.takeE q t s = if d.entE q ≠ 0 then d.entE q else if t ≠ 2 ∧ trn t = false then 124 else if d.more s = false then 122 else if (d.ent q).t ≠ 0 then 120 else 0) := hid ⟨hz, rfl⟩
    generalize d.takeE q t s = R at *
    clear h hz
    generalize d.ent q = X at *
    obtain ⟨xt, xo, xr, xs, xx⟩ := X
    generalize d.entE q = xe at *
    generalize trn t = tt at *
    generalize d.more s = mm at *
    simp only [ptr, En.v, En.cs] at HE HT HM ⊢
    go_enter Try.func32, Try.ntmps32
    go_upto_region 2 with (first | (go_at_call 69; refine (HE.out _ D0.out.db).mono ?_; rintro e w1 ⟨rfl, hb⟩; have D1 := hid (D0.out.on hb); clear hb) | (refine wpList_store_st rfl 136 _ _ rfl w1.heap.size [.int .i64 xt, .int .i64 xo, .int .i64 xr, .int .i64 xs, .bool xx] rfl rfl (Cel.new w1 136 En.zero.cs) sizeE rfl rfl ?_; intro w2 hc hb hs; have D2 := hid (D1.out.add hc hb); clear hc hb hs))
    clear D0 D1 HE
    generalize w1.heap.size = g9 at *
    by_cases h1 : xe = 0
    · subst h1
      have HT2 : Hid ((t ≠ 2 ∧ tt = false) ∨ t = 2 ∨ ((t != 2) = true ∧ tt = true)) := hid (by
        by_cases e : t = 2
        · exact .inr (.inl e)
        · cases tt
          · exact .inl ⟨e, rfl⟩
          · exact .inr (.inr ⟨by simpa using e, rfl⟩))
      rcases HT2.out with hT | hT | ⟨hT, hT2⟩
      · have hR : R = 124 := by rw [HR.out.2]; simp [hT.1, hT.2]
        have hT' : (t != 2) = true := by simpa using hT.1
        subst hR
        rw [hT.2] at HT
        clear HR HT2 hT
        go_wp2_with (go_at_call 70; refine (HT.out _).mono ?_; rintro e w6 ⟨rfl, rfl⟩)
        go_ret
        exact ⟨rfl, D2.out.db, D2.out.but⟩
      · subst hT
        cases mm
        · have hR : R = 122 := by rw [HR.out.2]; simp
          subst hR
          clear HR HT2 HT
          go_wp2_with (go_at_call 71; refine (HM.out _ D2.out.db).mono ?_; rintro e w3 ⟨rfl, hb⟩; have D3 := hid (D2.out.on hb); clear hb)
          go_ret
          exact ⟨rfl, D3.out.db, D3.out.but⟩
        · have hX : xt ≠ 0 := fun e => HR.out.1 (by rw [HR.out.2, e]; simp)
          have hR : R = 120 := by rw [HR.out.2]; simp [hX]
          have hX' : (xt == 0) = false := by simpa using hX
          subst hR
          clear HR HT2 HT hX
          go_upto_region 8 with (go_at_call 71; refine (HM.out _ D2.out.db).mono ?_; rintro e w3 ⟨rfl, hb⟩; have D3 := hid (D2.out.on hb); clear hb)
          have c0 := (D3.out.get 0 rfl).cell 0
          simp only [List.getElem?_cons_zero] at c0
          go_wp2_with fail
          go_ret
          exact ⟨rfl, D3.out.db, D3.out.but⟩
      · subst hT2
        cases mm
        · have hR : R = 122 := by rw [HR.out.2]; simp
          subst hR
          clear HR HT2
          go_wp2_with (first | (go_at_call 70; refine (HT.out _).mono ?_; rintro e w6 ⟨rfl, rfl⟩) | (go_at_call 71; refine (HM.out _ D2.out.db).mono ?_; rintro e w3 ⟨rfl, hb⟩; have D3 := hid (D2.out.on hb); clear hb))
          go_ret
          exact ⟨rfl, D3.out.db, D3.out.but⟩
        · have hX : xt ≠ 0 := fun e => HR.out.1 (by rw [HR.out.2, e]; simp)
          have hR : R = 120 := by rw [HR.out.2]; simp [hX]
          have hX' : (xt == 0) = false := by simpa using hX
          subst hR
          clear HR HT2 hX
          go_upto_region 8 with (first | (go_at_call 70; refine (HT.out _).mono ?_; rintro e w6 ⟨rfl, rfl⟩) | (go_at_call 71; refine (HM.out _ D2.out.db).mono ?_; rintro e w3 ⟨rfl, hb⟩; have D3 := hid (D2.out.on hb); clear hb))
          have c0 := (D3.out.get 0 rfl).cell 0
          simp only [List.getElem?_cons_zero] at c0
          go_wp2_with fail
          go_ret
          exact ⟨rfl, D3.out.db, D3.out.but⟩
    · have h1' : (xe == 0) = false := by simpa using h1
      have hR : R = xe := by rw [HR.out.2]; simp [h1]
      subst hR
      clear HR h1
      go_wp2_with fail
      go_ret
      exact ⟨rfl, D2.out.db, D2.out.but⟩
end Go.Proofs.Ytgbpbfnpeeciaaa
