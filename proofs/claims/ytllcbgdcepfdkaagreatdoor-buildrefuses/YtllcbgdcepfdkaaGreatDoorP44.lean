import Derived.Test.YtllcbgdcepfdkaaGreatDoorP43
namespace Go.Proofs.YtllcbgdcepfdkaaGreatDoor
open Go.RowKit
set_option maxRecDepth 100000
set_option maxHeartbeats 4000000
def DS.clC (d : DS) (k a b c f : Int) : Int := if k = 1 then d.spC a b else if k = 2 then d.thK a b else if k = 3 then d.tbK a b c else if k = 4 then d.daK a b c f else d.shK a b c
def DS.clD (d : DS) (k a b c f : Int) : DS := if k = 1 then d.spD a b else if k = 2 then d.thD a b c else if k = 3 then d.tbD a b c else if k = 4 then d.daD a b c f else d.shD a b c
theorem slC_lt (e : Int) : 0 ≤ slC e ∧ slC e < 64 := by unfold slC; repeat' split <;> omega
theorem opE_lt (d : DS) (a : Int) : 0 ≤ d.opE a ∧ d.opE a < 64 := by unfold DS.opE; repeat' split <;> omega
theorem ntC_lt (d : DS) (s i : Int) : 0 ≤ d.ntC s i ∧ d.ntC s i < 64 := by unfold DS.ntC; repeat' split <;> omega
theorem clC_lt (d : DS) (k a b c f : Int) : 0 ≤ d.clC k a b c f ∧ d.clC k a b c f < 64 := by
  have h1 := opE_lt d a
  have h2 := ntC_lt d a c
  have h3 := slC_lt (d.slotE a (gP b).va)
  have h4 := slC_lt (d.slotE a (gP c).va)
  unfold DS.clC
  split
  · unfold DS.spC; repeat' split <;> omega
  · split
    · unfold DS.thK DS.thC; repeat' split <;> omega
    · split
      · unfold DS.tbK DS.tbC; repeat' split <;> omega
      · split
        · unfold DS.daK DS.daC; repeat' split <;> omega
        · unfold DS.shK DS.shC; repeat' split <;> omega
/-- One call of the script, in a box. -/
def opC (k a b c f : Int) : List Value := [.int .i64 k, .int .u32 a, .int .u32 b, .int .u32 c, .int .u32 f]
def opV (k a b c f : Int) : Value := .agg (opC k a b c f).toArray
structure W5 (a b c f : Int) : Prop where
  a0 : 0 ≤ a
  a1 : a < 4294967296
  b0 : 0 ≤ b
  b1 : b < 4294967296
  c0 : 0 ≤ c
  c1 : c < 4294967296
  f0 : 0 ≤ f
  f1 : f < 4294967296
theorem called_any (W : World) (p : Dp) (d : DS) (h : DB W p d) (hU : d.m.U) (hG : Gl W p) (k a b c f : Int) (hw : W5 a b c f) :
    Calls Tryz.prog 13 #[ptr p.g, opV k a b c f] W fun e W' => ∃ d', e = .returned (.int .i64 (d.clC k a b c f)) ∧ DS.Sim (if d.clC k a b c f = 0 then d.clD k a b c f else d) d' ∧ DB W' p d' ∧ ButL p.w W W' := by
  have hlt := clC_lt d k a b c f
  have D0 := hid ((DG.startp h).new 31 (opC k a b c f))
  have HGl := hid (fun w L d' (k : DG W w p d' p.w L) => hG.step k.but p.w_all')
  obtain ⟨a0, a1, b0, b1, c0, c1, f0, f1⟩ := hw
  by_cases k1 : k = 1
  · subst k1
    have hC : d.clC 1 a b c f = d.spC a b := rfl
    have hD : d.clD 1 a b c f = d.spD a b := rfl
    rw [hC, hD]
    rw [hC] at hlt
    have kw : wrap64 (d.spC a b) = d.spC a b := by unfold wrap64; omega
    have kx : IntKind.wrap .i64 (d.spC a b) = d.spC a b := by rw [IntKind.wrap_i64]; omega
    have HX := hid (fun w (hw : DB w p d) (hg : Gl w p) => space_any w p d hw a b a0 b0)
    clear h hU hG hlt hC hD a0 a1 b0 b1 c0 c1 f0 f1
    generalize (if d.spC a b = 0 then d.spD a b else d) = fin at *
    generalize d.spC a b = code at *
    simp only [opV, opC, ptr] at *
    go_enter Tryz.func13, Tryz.ntmps13
    go_upto_region 1 with fail
    generalize World.alloc _ _ = X at *
    generalize W.heap.size = g3 at *
    have c0 := (D0.out.get 0 rfl).cell 0
    have c1 := (D0.out.get 0 rfl).cell 1
    have c2 := (D0.out.get 0 rfl).cell 2
    have c3 := (D0.out.get 0 rfl).cell 3
    have c4 := (D0.out.get 0 rfl).cell 4
    simp only [List.getElem?_cons_zero, List.getElem?_cons_succ] at c0 c1 c2 c3 c4
    go_wp2_with (first | (go_at_call 29; refine (HX.out _ D0.out.db (HGl.out _ _ _ D0.out)).mono ?_; rintro e w1 ⟨rfl, hd, hb⟩; have D1 := hid (D0.out.step hd hb (fun _ hk => hk)); have S1 := hid (DS.Sim.refl fin); clear hd hb c0 c1 c2 c3 c4))
    go_returns
    exact ⟨_, rfl, S1.out, D1.out.db, D1.out.but⟩
  by_cases k2 : k = 2
  · subst k2
    have hC : d.clC 2 a b c f = d.thK a b := rfl
    have hD : d.clD 2 a b c f = d.thD a b c := rfl
    rw [hC, hD]
    rw [hC] at hlt
    have kw : wrap64 (d.thK a b) = d.thK a b := by unfold wrap64; omega
    have kx : IntKind.wrap .i64 (d.thK a b) = d.thK a b := by rw [IntKind.wrap_i64]; omega
    have HX := hid (fun w (hw : DB w p d) (hg : Gl w p) => thread_any w p d hw hU hg a b c a0 b0)
    clear h hU hG hlt hC hD a0 a1 b0 b1 c0 c1 f0 f1
    generalize (if d.thK a b = 0 then d.thD a b c else d) = fin at *
    generalize d.thK a b = code at *
    simp only [opV, opC, ptr] at *
    go_enter Tryz.func13, Tryz.ntmps13
    go_upto_region 1 with fail
    generalize World.alloc _ _ = X at *
    generalize W.heap.size = g3 at *
    have c0 := (D0.out.get 0 rfl).cell 0
    have c1 := (D0.out.get 0 rfl).cell 1
    have c2 := (D0.out.get 0 rfl).cell 2
    have c3 := (D0.out.get 0 rfl).cell 3
    have c4 := (D0.out.get 0 rfl).cell 4
    simp only [List.getElem?_cons_zero, List.getElem?_cons_succ] at c0 c1 c2 c3 c4
    go_wp2_with (first | (go_at_call 30; refine (HX.out _ D0.out.db (HGl.out _ _ _ D0.out)).mono ?_; rintro e w1 ⟨d1, rfl, hs, hd, hb⟩; have D1 := hid (D0.out.step hd hb (fun _ hk => hk)); have S1 := hid hs; clear hs hd hb c0 c1 c2 c3 c4))
    go_returns
    exact ⟨_, rfl, S1.out, D1.out.db, D1.out.but⟩
  by_cases k3 : k = 3
  · subst k3
    have hC : d.clC 3 a b c f = d.tbK a b c := rfl
    have hD : d.clD 3 a b c f = d.tbD a b c := rfl
    rw [hC, hD]
    rw [hC] at hlt
    have kw : wrap64 (d.tbK a b c) = d.tbK a b c := by unfold wrap64; omega
    have kx : IntKind.wrap .i64 (d.tbK a b c) = d.tbK a b c := by rw [IntKind.wrap_i64]; omega
    have HX := hid (fun w (hw : DB w p d) (hg : Gl w p) => tableb_any w p d hw hU hg a b c a0 b0 c0)
    clear h hU hG hlt hC hD a0 a1 b0 b1 c0 c1 f0 f1
    generalize (if d.tbK a b c = 0 then d.tbD a b c else d) = fin at *
    generalize d.tbK a b c = code at *
    simp only [opV, opC, ptr] at *
    go_enter Tryz.func13, Tryz.ntmps13
    go_upto_region 1 with fail
    generalize World.alloc _ _ = X at *
    generalize W.heap.size = g3 at *
    have c0 := (D0.out.get 0 rfl).cell 0
    have c1 := (D0.out.get 0 rfl).cell 1
    have c2 := (D0.out.get 0 rfl).cell 2
    have c3 := (D0.out.get 0 rfl).cell 3
    have c4 := (D0.out.get 0 rfl).cell 4
    simp only [List.getElem?_cons_zero, List.getElem?_cons_succ] at c0 c1 c2 c3 c4
    go_wp2_with (first | (go_at_call 41; refine (HX.out _ D0.out.db (HGl.out _ _ _ D0.out)).mono ?_; rintro e w1 ⟨d1, rfl, hs, hd, hb⟩; have D1 := hid (D0.out.step hd hb (fun _ hk => hk)); have S1 := hid hs; clear hs hd hb c0 c1 c2 c3 c4))
    go_returns
    exact ⟨_, rfl, S1.out, D1.out.db, D1.out.but⟩
  by_cases k4 : k = 4
  · subst k4
    have hC : d.clC 4 a b c f = d.daK a b c f := rfl
    have hD : d.clD 4 a b c f = d.daD a b c f := rfl
    rw [hC, hD]
    rw [hC] at hlt
    have kw : wrap64 (d.daK a b c f) = d.daK a b c f := by unfold wrap64; omega
    have kx : IntKind.wrap .i64 (d.daK a b c f) = d.daK a b c f := by rw [IntKind.wrap_i64]; omega
    have HX := hid (fun w (hw : DB w p d) (hg : Gl w p) => data_any w p d hw hU hg a b c f a0 b0 c0 c1 f0)
    clear h hU hG hlt hC hD a0 a1 b0 b1 c0 c1 f0 f1
    generalize (if d.daK a b c f = 0 then d.daD a b c f else d) = fin at *
    generalize d.daK a b c f = code at *
    simp only [opV, opC, ptr] at *
    go_enter Tryz.func13, Tryz.ntmps13
    go_upto_region 1 with fail
    generalize World.alloc _ _ = X at *
    generalize W.heap.size = g3 at *
    have c0 := (D0.out.get 0 rfl).cell 0
    have c1 := (D0.out.get 0 rfl).cell 1
    have c2 := (D0.out.get 0 rfl).cell 2
    have c3 := (D0.out.get 0 rfl).cell 3
    have c4 := (D0.out.get 0 rfl).cell 4
    simp only [List.getElem?_cons_zero, List.getElem?_cons_succ] at c0 c1 c2 c3 c4
    go_wp2_with (first | (go_at_call 42; refine (HX.out _ D0.out.db (HGl.out _ _ _ D0.out)).mono ?_; rintro e w1 ⟨d1, rfl, hs, hd, hb⟩; have D1 := hid (D0.out.step hd hb (fun _ hk => hk)); have S1 := hid hs; clear hs hd hb c0 c1 c2 c3 c4))
    go_returns
    exact ⟨_, rfl, S1.out, D1.out.db, D1.out.but⟩
  · have hC : d.clC k a b c f = d.shK a b c := by unfold DS.clC; rw [if_neg k1, if_neg k2, if_neg k3, if_neg k4]
    have hD : d.clD k a b c f = d.shD a b c := by unfold DS.clD; rw [if_neg k1, if_neg k2, if_neg k3, if_neg k4]
    rw [hC, hD]
    rw [hC] at hlt
    have kw : wrap64 (d.shK a b c) = d.shK a b c := by unfold wrap64; omega
    have kx : IntKind.wrap .i64 (d.shK a b c) = d.shK a b c := by rw [IntKind.wrap_i64]; omega
    have HX := hid (fun w (hw : DB w p d) (hg : Gl w p) => share_any w p d hw hU hg a b c a0 b0 b1 c0)
    clear h hU hG hlt hC hD a0 a1 b0 b1 c0 c1 f0 f1
    generalize (if d.shK a b c = 0 then d.shD a b c else d) = fin at *
    generalize d.shK a b c = code at *
    simp only [opV, opC, ptr] at *
    have n1 : (k == 1) = false := by simpa using k1
    have n2 : (k == 2) = false := by simpa using k2
    have n3 : (k == 3) = false := by simpa using k3
    have n4 : (k == 4) = false := by simpa using k4
    go_enter Tryz.func13, Tryz.ntmps13
    go_upto_region 1 with fail
    generalize World.alloc _ _ = X at *
    generalize W.heap.size = g3 at *
    have c0 := (D0.out.get 0 rfl).cell 0
    have c1 := (D0.out.get 0 rfl).cell 1
    have c2 := (D0.out.get 0 rfl).cell 2
    have c3 := (D0.out.get 0 rfl).cell 3
    have c4 := (D0.out.get 0 rfl).cell 4
    simp only [List.getElem?_cons_zero, List.getElem?_cons_succ] at c0 c1 c2 c3 c4
    go_wp2_with (first | (go_at_call 43; refine (HX.out _ D0.out.db (HGl.out _ _ _ D0.out)).mono ?_; rintro e w1 ⟨d1, rfl, hs, hd, hb⟩; have D1 := hid (D0.out.step hd hb (fun _ hk => hk)); have S1 := hid hs; clear hs hd hb c0 c1 c2 c3 c4))
    go_returns
    exact ⟨_, rfl, S1.out, D1.out.db, D1.out.but⟩
end Go.Proofs.YtllcbgdcepfdkaaGreatDoor
namespace Go.Proofs.YtllcbgdcepfdkaaGreatDoor
open Go.RowKit
set_option maxRecDepth 100000
set_option maxHeartbeats 4000000
theorem u32sA (L : List Int) : (u32s L).all (·.oneCell') = true := List.all_eq_true.2 (fun v hv => by simp only [u32s, List.mem_map] at hv; obtain ⟨x, _, rfl⟩ := hv; rfl)
attribute [-simp] Tryz.isAgg59 Tryz.sizeOf59 Tryz.zeroValue59
theorem digest_any (W : World) (p : Dp) (d : DS) (h : DB W p d) (s : Int) :
    Calls Tryz.prog 19 #[ptr p.g, .int .i64 s] W fun e W' => e = .returned (.agg (u32s (d.st s)).toArray) ∧ Below W.heap.size W W' := by
  obtain ⟨Z, hZ⟩ : ∃ Z : List Int, Z = List.replicate 26 0 := ⟨_, rfl⟩
  have hZl : Z.length = 26 := by rw [hZ]; simp
  have hz : ∀ w, (zeroValue 59).run Tryz.prog w = .ok (.agg (u32s Z).toArray) w := fun w => by rw [Tryz.zeroValue59, hZ]; rfl
  clear hZ
  have B0 := hid (Bag.two W 59 59 (u32s Z) (u32s Z))
  have HMm := hid (fun w (hb : Below W.heap.size W w) => memory_any w p d (h.on hb))
  have HPk := hid (fun w (hb : Below W.heap.size W w) (off : Int) => peek_any w p.f d.m (h.on hb).mem true s off)
  have hL := d.st_length s
  have HGt := hid (fun j hj => d.st_get s j hj)
  clear h
  generalize d.st s = S at *
  simp only [ptr, fr] at *
  go_enter Tryz.func19, Tryz.ntmps19
  go_upto_region 3 with fail
  generalize (World.alloc _ _).alloc _ = X at *
  generalize hg : W.heap.size = g4 at B0 ⊢
  have HG := hid hg
  clear hg
  go_loopw [6] (fun i wr => ∃ j : Nat, j ≤ 26 ∧ i = .int .i64 (j : Int) ∧ Hid (Bag W wr [(g4 + 1, 59, u32s (mix S Z j)), (g4, 59, u32s Z)])) (fun i _ => 26 - (intOf i).toNat)
  case atStart => exact ⟨0, Nat.zero_le _, rfl, hid (by rw [mix_zero]; exact B0.out)⟩
  case round =>
    obtain ⟨j, hj, rfl, HQ⟩ := hrel
    clear B0
    by_cases hlt : j < 26
    · have q1 : (j : Int) < 26 := by omega
      have kw : IntKind.wrap .i64 (11 + (j : Int)) = 11 + (j : Int) := by rw [IntKind.wrap_i64]; omega
      have kw2 : IntKind.wrap .i64 ((j : Int) + 1) = (j : Int) + 1 := by rw [IntKind.wrap_i64]; omega
      have HJ := hid hlt
      have HG1 := hid (HGt.out j hlt)
      have HPj := hid (fun w hb => HPk.out w hb (11 + (j : Int)))
      clear hlt hj
      generalize d.m.word true s (11 + (j : Int)) = wd at *
      go_upto_region 4 with (first | (go_at_call 25; refine (HMm.out _ HQ.out.below).mono ?_; rintro e w4 ⟨rfl, rfl⟩) | (go_at_call 31; refine (HPj.out _ HQ.out.below).mono ?_; rintro e w5 ⟨rfl, hb⟩; have B1 := hid (HQ.out.on hb); obtain ⟨y, z0⟩ := mix_cell (B1.out.get 0 rfl) (by have := HJ.out; omega) (by omega); have z1 := (B1.out.get 0 rfl).free j; clear hb))
      have B2 := hid (B1.out.put 0 rfl (by have := HG.out; omega) (fun i q hq hn => by rcases i with _ | _ | i; exact absurd rfl hn; (simp only [List.getElem?_cons_succ, List.getElem?_cons_zero, Option.some.injEq] at hq; subst hq; simp only; omega); (simp at hq)) ((B1.out.get 0 rfl).setCell j (.int .u32 wd)) (.setCell _ _ _ _ (by simp)))
      clear z0 z1
      go_wp2_with fail
      go_roundw
      case measure => have := HJ.out; simp [intOf] <;> omega
      case rel => exact ⟨j + 1, HJ.out, by simp, hid (by have := B2.out; rw [mix_set S Z j wd (by have := HJ.out; omega) (by omega) HG1.out] at this; exact this)⟩
    · obtain rfl : j = 26 := by omega
      clear hlt hj
      rw [show mix S Z 26 = S from by rw [← hL]; exact mix_all S Z (by omega)] at HQ
      go_wp2_with (first | (refine wpList_load_gm rfl 59 _ rfl (g4 + 1) 0 rfl _ _ (HQ.out.get 0 rfl).range under59 rfl (by rw [u32s, List.length_map, hL]; exact size59) ?_) | (refine wpList_store_st rfl 59 _ _ rfl g4 (u32s S) rfl rfl (HQ.out.get 1 rfl) (by rw [u32s, List.length_map, hL]; exact size59) (by simp [u32s, hZl, hL]) (u32sA S) ?_; intro w6 hc hb hs; have HC := hid hc; have BB := hid (below_put HQ.out.below (by have := HG.out; omega) hb); clear hc hb hs))
      exact ret_st rfl rfl g4 _ rfl HC.out under59 rfl (by rw [size59]; simp [u32s, hL]) ⟨rfl, BB.out⟩
end Go.Proofs.YtllcbgdcepfdkaaGreatDoor
