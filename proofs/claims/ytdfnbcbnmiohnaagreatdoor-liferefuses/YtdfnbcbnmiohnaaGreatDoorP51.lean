import Derived.Test.YtdfnbcbnmiohnaaGreatDoorP50
namespace Go.Proofs.YtdfnbcbnmiohnaaGreatDoor
open Go.RowKit
set_option maxRecDepth 100000
set_option maxHeartbeats 8000000
theorem samePage_yes (W : World) (f f' : Fp) (m m' : MS) (h : Mem W f m) (h' : Mem W f' m') (q : Int) (q0 : 0 ≤ q) (q1 : q < 4294967296) (he : ∀ o : Int, 0 ≤ o → o < 1024 → m.word true q o = m'.word true q o) :
    Calls Tryz.prog 31 #[ptr f.gm, ptr f'.gm, .int .i64 q] W fun e W' => e = .returned (.bool true) ∧ Below W.heap.size W W' := by
  have HF := hid (fun w => lframe_any w q q0 q1)
  have HP := hid (fun w (hm : Mem w f m) (o : Int) => peek_any w f m hm true q o)
  have HP' := hid (fun w (hm : Mem w f' m') (o : Int) => peek_any w f' m' hm true q o)
  have HM := hid (And.intro h h')
  have HE := hid he
  have hwr : IntKind.wrap .u32 q = q := wr32 q q0 q1
  clear h h' he
  simp only [ptr, fr] at *
  go_enter Tryz.func31, Tryz.ntmps31
  go_upto_region 2 with fail
  go_loopw [7] (fun i wr => ∃ (j : Nat), j ≤ 1024 ∧ i = .int .i64 (j : Int) ∧ Hid (Below W.heap.size W wr)) (fun i _ => 1024 - (intOf i).toNat)
  case atStart => exact ⟨0, by omega, rfl, hid (Below.refl _ _)⟩
  case round =>
    obtain ⟨j, hj, rfl, HB⟩ := hrel
    by_cases hlt : j < 1024
    · have q2 : (j : Int) < 1024 := by omega
      have HX := hid (HE.out (j : Int) (by omega) q2)
      have M0 := hid (And.intro (HM.out.1.on HB.out) (HM.out.2.on HB.out))
      have HJ := hid hlt
      clear hlt hj HE
      go_upto_region 4 with fail
      go_wp2_with (first | (go_at_call 26; revert M0; intro M0; refine (HF.out _).mono ?_; rintro e wa ⟨rfl, hb⟩; have Ma := hid (And.intro (M0.out.1.on hb) (M0.out.2.on hb)); have Ba := hid (below_on HB.out hb); clear hb M0) | (go_at_call 25; revert Ma; intro Ma; refine (HP.out _ Ma.out.1 _).mono ?_; rintro e wb ⟨rfl, hb⟩; have Mb := hid (And.intro (Ma.out.1.on hb) (Ma.out.2.on hb)); have Bb := hid (below_on Ba.out hb); clear hb Ma) | (go_at_call 26; revert Mb; intro Mb; refine (HF.out _).mono ?_; rintro e wc ⟨rfl, hb⟩; have Mc := hid (And.intro (Mb.out.1.on hb) (Mb.out.2.on hb)); have Bc := hid (below_on Bb.out hb); clear hb Mb) | (go_at_call 25; revert Mc; intro Mc; refine (HP'.out _ Mc.out.2 _).mono ?_; rintro e we ⟨rfl, hb⟩; have Be := hid (below_on Bc.out hb); clear hb Mc; rw [HX.out]))
      go_roundw
      case measure => have := HJ.out; simp [intOf] <;> omega
      case rel => exact ⟨j + 1, HJ.out, by simp, Be⟩
    · obtain rfl : j = 1024 := by omega
      go_wp2_with fail
      go_ret
      exact ⟨rfl, HB.out⟩
theorem blank_yes (w : World) (f : Fp) (m : MS) (h : Mem w f m) (p : Int) (k : Nat) (hr : m.at true p = some k) (hz : m.p k = zs) :
    Calls Tryz.prog 30 #[ptr f.gm, fr true p] w fun x w' => x = .returned (.tuple #[.bool true, .int .i64 0]) ∧ Mem w' f (m.tick 1024) ∧ ButL f.w w w' := by
  have hX := h.on (below_one w (.cells #[.bool true, .int .i64 p] 64))
  have hB := hid (below_one w (.cells #[.bool true, .int .i64 p] 64))
  have HF := hid (find_any _ f m hX true p)
  have hk : k < m.P.length := MS.at_lt h.ns0 hr
  have H := hid hX
  have HZ := hid hz
  clear h hX hz
  rw [hr] at HF
  clear hr
  simp only [fr, ptr, pv] at *
  go_enter Tryz.func30, Tryz.ntmps30
  go_wp2_with fail
  refine HF.out.mono ?_
  rintro x w1 ⟨rfl, hb1⟩
  have HB1 := hid (below_on hB.out hb1)
  have HM := hid (H.out.on hb1)
  have c2 := HM.out.cm
  have f2 := HM.out.cel.free 2
  have HT := hid (HM.out.tick 1024)
  have HG := hid (HM.out.mem k hk)
  have HBT : Hid (ButL f.w w (w1.setCell ⟨f.gm, 2, none⟩ (.int .i64 (wrap64 (m.c + 1024))))) := hid ((ButL.of HB1.out).trans (.setCell _ _ _ _ (by simp [Fp.w])))
  clear hb1
  go_wp2_with (first | (refine wpList_load_pg rfl _ rfl (f.b k) (m.p k) rfl (HT.out.pg k hk) (HT.out.full k hk) ?_) | (refine wpList_build_pg rfl rfl ?_) | (refine wpList_eql_pg rfl _ _ rfl (m.p k) zs rfl rfl (HT.out.full k hk) zs_len ?_))
  go_ret2
  exact ⟨by rw [HZ.out]; simp, HT.out, HBT.out⟩
noncomputable def DS.lfC (d : DS) (k a b : Int) : Int := if k = 5 then d.srC a b else if k = 6 then d.fiC a else if k = 7 then d.saE a else d.rmC a
noncomputable def DS.lfD (d : DS) (k a b : Int) : DS := if k = 5 then d.srD a b else if k = 6 then d.fiD a else if k = 7 then d.stD a else d.rmD a
theorem callOwn_any (W : World) (p : Dp) (d : DS) (h : DB W p d) (hU : d.m.U) (hG : Gl W p) (k a b t f v : Int) (a0 : 0 ≤ a) (a1 : a < 4294967296) (b0 : 0 ≤ b) (b1 : b < 4294967296) (c : Int) (hc : d.lfC k a b = c) (D : DS) (hD : d.lfD k a b = D) :
    Calls Tryz.prog 33 #[ptr p.g, opV k a b t f v] W fun e W' => ∃ d', e = .returned (.int .u32 c) ∧ DS.Sim D d' ∧ DB W' p d' ∧ ButL p.w W W' := by
  have HB := hid (below_one W (.cells #[.int .i64 k, .int .u32 a, .int .u32 b, .int .i64 t, .int .i64 f, .int .u32 v] 48))
  have C0 := hid (Cel.new W 48 [.int .i64 k, .int .u32 a, .int .u32 b, .int .i64 t, .int .i64 f, .int .u32 v])
  have D0 := hid (h.on HB.out)
  have HSp := hid (spare_any _ p d D0.out a b a0 a1 b0 b1)
  have HFi := hid (final_any _ p d D0.out hU (hG.on HB.out) a a0 a1)
  have HSo := hid (stop_any _ p d D0.out a a0 a1)
  have HRe := hid (remove_any _ p d D0.out a a0)
  have HC := hid (And.intro hc hD)
  clear h hU hG a0 a1 b0 b1 hc hD
  simp only [ptr, opV, opC] at *
  go_enter Tryz.func33, Tryz.ntmps33
  go_upto_region 1 with fail
  generalize World.alloc _ _ = X at *
  generalize W.heap.size = g3 at C0 ⊢
  have c0 := C0.out.cell 0
  have c1 := C0.out.cell 1
  have c2 := C0.out.cell 2
  simp only [List.getElem?_cons_zero, List.getElem?_cons_succ] at c0 c1 c2
  by_cases e1 : k = 5
  · subst e1
    go_upto_region 4 with (go_at_call 44; refine HSp.out.mono ?_; rintro e w1 ⟨rfl, hd, hb⟩; have O := hid (And.intro hd ((ButL.of HB.out).trans hb)); clear hd hb)
    go_ret
    exact ⟨_, by rw [← HC.out.1]; rfl, by rw [← HC.out.2]; exact DS.Sim.refl _, O.out.1, O.out.2⟩
  have n1 : (k == 5) = false := by simpa using e1
  by_cases e2 : k = 6
  · subst e2
    go_upto_region 8 with (go_at_call 23; refine HFi.out.mono ?_; rintro e w1 ⟨d', rfl, hS, hd, hb⟩; have O := hid (And.intro hS (And.intro hd ((ButL.of HB.out).trans hb))); clear hS hd hb)
    go_ret
    exact ⟨_, by rw [← HC.out.1]; rfl, by rw [← HC.out.2]; exact O.out.1, O.out.2.1, O.out.2.2⟩
  have n2 : (k == 6) = false := by simpa using e2
  by_cases e3 : k = 7
  · subst e3
    go_upto_region 8 with (go_at_call 22; refine HSo.out.mono ?_; rintro e w1 ⟨rfl, hd, hb⟩; have O := hid (And.intro hd ((ButL.of HB.out).trans hb)); clear hd hb)
    go_ret
    exact ⟨_, by rw [← HC.out.1]; rfl, by rw [← HC.out.2]; exact DS.Sim.refl _, O.out.1, O.out.2⟩
  have n3 : (k == 7) = false := by simpa using e3
  have HE := hid (And.intro e1 (And.intro e2 e3))
  clear e1 e2 e3
  go_wp2_with (go_at_call 29; refine HRe.out.mono ?_; rintro e w1 ⟨rfl, hd, hb⟩; have O := hid (And.intro hd ((ButL.of HB.out).trans hb)); clear hd hb)
  go_ret
  obtain ⟨e1, e2, e3⟩ := HE.out
  exact ⟨d.rmD a, by rw [← HC.out.1]; unfold DS.lfC; rw [if_neg e1, if_neg e2, if_neg e3]; rfl, by rw [← HC.out.2]; unfold DS.lfD; rw [if_neg e1, if_neg e2, if_neg e3]; exact DS.Sim.refl _, O.out.1, O.out.2⟩
def DS.why (d : DS) (k a b : Int) : Int :=
  if 8 ≤ a then 1 else if k = 8 then (if (d.ent a).t = 0 then 23 else if (d.ent a).t ≠ 6 ∧ (d.ent (d.ent a).o).s ≠ 3 then 8 else if (d.ent a).t = 1 ∧ 0 < (d.ent a).r then 14 else 0)
  else if (d.ent a).t ≠ 1 then 3 else if k = 6 ∧ (d.ent a).s ≠ 1 then 4 else if k ≠ 5 then 0 else if (d.ent a).s = 3 then 22 else if 8 ≤ b then 1 else if (d.ent b).t ≠ 0 then 2 else 0
theorem why_any (W : World) (p : Dp) (d : DS) (h : DB W p d) (k a b t f v : Int) (a0 : 0 ≤ a) (a1 : a < 4294967296) (b0 : 0 ≤ b) (b1 : b < 4294967296) (c : Int) (hc : d.why k a b = c) :
    Calls Tryz.prog 34 #[ptr p.g, opV k a b t f v] W fun e W' => e = .returned (.int .u32 c) ∧ Below W.heap.size W W' := by
  have HB := hid (below_one W (.cells #[.int .i64 k, .int .u32 a, .int .u32 b, .int .i64 t, .int .i64 f, .int .u32 v] 48))
  have C0 := hid (Cel.new W 48 [.int .i64 k, .int .u32 a, .int .u32 b, .int .i64 t, .int .i64 f, .int .u32 v])
  have D0 := hid (h.on HB.out)
  have HA := hid (fun w (h : DB w p d) => at_l w p d h a)
  have HAo := hid (fun w (h : DB w p d) => at_l w p d h (d.ent a).o)
  have HAb := hid (fun w (h : DB w p d) => at_l w p d h b)
  have HC := hid hc
  clear h hc
  unfold DS.why at HC
  simp only [ptr, opV, opC, En.v, En.cs] at *
  generalize d.ent (d.ent a).o = eo at *
  generalize d.ent a = ea at *
  generalize d.ent b = eb at *
  obtain ⟨at', ao, ar, as', ae⟩ := ea
  obtain ⟨ot, oo, or', os, oe⟩ := eo
  obtain ⟨bt, bo, br, bs, be⟩ := eb
  simp only at *
  have hfo : ∀ w, (Instr.field 30 (.agg #[.int .i64 ot, .int .i64 oo, .int .i64 or', .int .i64 os, .bool oe]) 3).run Tryz.prog w = .ok (.int .i64 os) w := fun w => by kernel_rfl
  have hfb : ∀ w, (Instr.field 30 (.agg #[.int .i64 bt, .int .i64 bo, .int .i64 br, .int .i64 bs, .bool be]) 0).run Tryz.prog w = .ok (.int .i64 bt) w := fun w => by kernel_rfl
  go_enter Tryz.func34, Tryz.ntmps34
  go_upto_region 1 with fail
  generalize World.alloc _ _ = X at *
  generalize W.heap.size = g3 at C0 ⊢
  have c1 := C0.out.cell 1
  simp only [List.getElem?_cons_zero, List.getElem?_cons_succ] at c1
  by_cases e1 : 8 ≤ a
  · go_wp2_with fail
    go_ret
    exact ⟨by rw [← HC.out, if_pos e1]; rfl, HB.out⟩
  rw [if_neg e1] at HC
  have e1' : a < 8 := by omega
  clear e1
  go_upto_region 4 with (go_at_call 10; refine (HA.out _ D0.out).mono ?_; rintro e w1 ⟨rfl, hb⟩; have B1 := hid (below_on HB.out hb); have C1 := hid (C0.out.on hb); have D1 := hid (D0.out.on hb); clear hb)
  have B2 := hid (below_on B1.out (below_one w1 (.cells #[.int .i64 at', .int .i64 ao, .int .i64 ar, .int .i64 as', .bool ae] 30)))
  have C2 := hid (C1.out.on (below_one w1 (.cells #[.int .i64 at', .int .i64 ao, .int .i64 ar, .int .i64 as', .bool ae] 30)))
  have D2 := hid (D1.out.on (below_one w1 (.cells #[.int .i64 at', .int .i64 ao, .int .i64 ar, .int .i64 as', .bool ae] 30)))
  have E2 := hid (Cel.new w1 30 [.int .i64 at', .int .i64 ao, .int .i64 ar, .int .i64 as', .bool ae])
  clear B1 C1 D1 C0 D0 HB c1
  generalize World.alloc _ _ = Y at *
  generalize w1.heap.size = g5 at *
  have c0 := C2.out.cell 0
  have c2 := C2.out.cell 2
  have y0 := E2.out.cell 0
  have y1 := E2.out.cell 1
  have y2 := E2.out.cell 2
  have y3 := E2.out.cell 3
  simp only [List.getElem?_cons_zero, List.getElem?_cons_succ] at c0 c2 y0 y1 y2 y3
  by_cases e2 : k = 8
  · subst e2
    rw [if_pos rfl] at HC
    by_cases e3 : at' = 0
    · subst e3
      rw [if_pos rfl] at HC
      go_wp2_with fail
      go_ret
      exact ⟨by rw [← HC.out]; rfl, B2.out⟩
    have n3 : (at' == 0) = false := by simpa using e3
    rw [if_neg e3] at HC
    by_cases e4 : at' = 6
    · subst e4
      rw [if_neg (by simp), if_neg (by simp)] at HC
      clear e3
      go_wp2_with fail
      go_ret
      exact ⟨by rw [← HC.out]; rfl, B2.out⟩
    have n4 : (at' != 6) = true := by simpa using e4
    by_cases e5 : os = 3
    · subst e5
      rw [if_neg (by simp)] at HC
      clear e3
      by_cases e6 : at' = 1
      · subst e6
        by_cases e7 : 0 < ar
        · rw [if_pos ⟨rfl, e7⟩] at HC
          clear e4
          go_wp2_with (go_at_call 10; refine (HAo.out _ D2.out).mono ?_; rintro e w3 ⟨rfl, hb⟩; have B3 := hid (below_on B2.out hb); have C3 := hid (C2.out.on hb); have E3 := hid (E2.out.on hb); clear hb; have z0 := E3.out.cell 0; have z2 := E3.out.cell 2; simp only [List.getElem?_cons_zero, List.getElem?_cons_succ] at z0 z2)
          go_ret
          exact ⟨by rw [← HC.out]; rfl, B3.out⟩
        · rw [if_neg (fun h => e7 h.2)] at HC
          have e8 : ar ≤ 0 := by omega
          clear e7 e4
          go_wp2_with (go_at_call 10; refine (HAo.out _ D2.out).mono ?_; rintro e w3 ⟨rfl, hb⟩; have B3 := hid (below_on B2.out hb); have C3 := hid (C2.out.on hb); have E3 := hid (E2.out.on hb); clear hb; have z0 := E3.out.cell 0; have z2 := E3.out.cell 2; simp only [List.getElem?_cons_zero, List.getElem?_cons_succ] at z0 z2)
          go_ret
          exact ⟨by rw [← HC.out]; rfl, B3.out⟩
      have n6 : (at' == 1) = false := by simpa using e6
      rw [if_neg (fun h => e6 h.1)] at HC
      clear e6 e4
      go_wp2_with (go_at_call 10; refine (HAo.out _ D2.out).mono ?_; rintro e w3 ⟨rfl, hb⟩; have B3 := hid (below_on B2.out hb); have C3 := hid (C2.out.on hb); have E3 := hid (E2.out.on hb); clear hb; have z0 := E3.out.cell 0; have z2 := E3.out.cell 2; simp only [List.getElem?_cons_zero, List.getElem?_cons_succ] at z0 z2)
      go_ret
      exact ⟨by rw [← HC.out]; rfl, B3.out⟩
    have n5 : (os != 3) = true := by simpa using e5
    rw [if_pos ⟨e4, e5⟩] at HC
    clear e3 e4 e5
    go_wp2_with (go_at_call 10; refine (HAo.out _ D2.out).mono ?_; rintro e w3 ⟨rfl, hb⟩; have B3 := hid (below_on B2.out hb); have C3 := hid (C2.out.on hb); have E3 := hid (E2.out.on hb); clear hb; have z0 := E3.out.cell 0; have z2 := E3.out.cell 2; simp only [List.getElem?_cons_zero, List.getElem?_cons_succ] at z0 z2)
    go_ret
    exact ⟨by rw [← HC.out]; rfl, B3.out⟩
  have n2 : (k == 8) = false := by simpa using e2
  rw [if_neg e2] at HC
  clear e2
  by_cases e3 : at' = 1
  · subst e3
    rw [if_neg (by simp)] at HC
    by_cases e4 : k = 6
    · subst e4
      by_cases e5 : as' = 1
      · subst e5
        rw [if_neg (by simp), if_pos (by decide)] at HC
        go_wp2_with fail
        go_ret
        exact ⟨by rw [← HC.out]; rfl, B2.out⟩
      have n5 : (as' != 1) = true := by simpa using e5
      rw [if_pos ⟨rfl, e5⟩] at HC
      clear e5
      go_wp2_with fail
      go_ret
      exact ⟨by rw [← HC.out]; rfl, B2.out⟩
    have n4 : (k == 6) = false := by simpa using e4
    rw [if_neg (fun h => e4 h.1)] at HC
    clear e4
    by_cases e6 : k = 5
    · subst e6
      rw [if_neg (by simp)] at HC
      by_cases e7 : as' = 3
      · subst e7
        rw [if_pos rfl] at HC
        go_wp2_with fail
        go_ret
        exact ⟨by rw [← HC.out]; rfl, B2.out⟩
      have n7 : (as' == 3) = false := by simpa using e7
      rw [if_neg e7] at HC
      clear e7
      by_cases e8 : 8 ≤ b
      · rw [if_pos e8] at HC
        go_wp2_with fail
        go_ret
        exact ⟨by rw [← HC.out]; rfl, B2.out⟩
      rw [if_neg e8] at HC
      have e9 : b < 8 := by omega
      clear e8
      by_cases e10 : bt = 0
      · subst e10
        rw [if_neg (by simp)] at HC
        go_wp2_with (go_at_call 10; refine (HAb.out _ D2.out).mono ?_; rintro e w3 ⟨rfl, hb⟩; have B3 := hid (below_on B2.out hb); clear hb)
        go_ret
        exact ⟨by rw [← HC.out]; rfl, B3.out⟩
      have n10 : (bt != 0) = true := by simpa using e10
      rw [if_pos e10] at HC
      clear e10
      go_wp2_with (go_at_call 10; refine (HAb.out _ D2.out).mono ?_; rintro e w3 ⟨rfl, hb⟩; have B3 := hid (below_on B2.out hb); clear hb)
      go_ret
      exact ⟨by rw [← HC.out]; rfl, B3.out⟩
    have n6 : (k != 5) = true := by simpa using e6
    rw [if_pos e6] at HC
    clear e6
    go_wp2_with fail
    go_ret
    exact ⟨by rw [← HC.out]; rfl, B2.out⟩
  have n3 : (at' != 1) = true := by simpa using e3
  rw [if_pos e3] at HC
  clear e3
  go_wp2_with fail
  go_ret
  exact ⟨by rw [← HC.out]; rfl, B2.out⟩
end Go.Proofs.YtdfnbcbnmiohnaaGreatDoor
namespace Go.Proofs.YtdfnbcbnmiohnaaGreatDoor
open Go.RowKit
set_option maxRecDepth 100000
set_option maxHeartbeats 2000000
theorem GI.lt {n : Nat} {d : DS} (h : GI n d) {x : Int} (ht : d.there x = true) : 0 ≤ x ∧ x < 8 ∧ x.toNat < 8 ∧ ((x.toNat : Nat) : Int) = x := by
  obtain ⟨h0, h1, h2⟩ := there_lt ht
  rw [h.ns] at h1
  omega
theorem GI.self {n : Nat} {d : DS} (h : GI n d) {x : Int} (t1 : (d.ent x).t = 1) : d.there x = true ∧ (d.ent x).o = x ∧ (d.ent x).r < 63 := by
  have ht : d.there x = true := there_of (by rw [t1]; decide)
  obtain ⟨h0, h1, h2, h3⟩ := h.lt ht
  have he := ent_at ht
  rw [he] at t1
  obtain ⟨a, b⟩ := h.inv.ow x.toNat h2 t1
  rw [he]
  refine ⟨ht, by rw [a]; exact h3, ?_⟩
  rw [b]
  have := cntN_le (fun j => isO ((x.toNat : Nat) : Int) (j : Int) (d.at j)) 8
  omega
theorem GI.why {n : Nat} {d : DS} (h : GI n d) (hn : n ≤ 41) (k a b : Int) (k1 : 5 ≤ k) (k2 : k ≤ 8) (a0 : 0 ≤ a) (b0 : 0 ≤ b) : d.lfC k a b = d.why k a b := by
  have hth : ∀ x : Int, 0 ≤ x → x < 8 → d.there x = true := fun x h0 h1 => (there8 h.ns x).2 ⟨h0, h1⟩
  have hns : (d.m.ns : Int) = 8 := by rw [h.ns]; rfl
  by_cases ha : 8 ≤ a
  · have hs : d.saE a = 1 := by unfold DS.saE; rw [hns, if_neg (by omega)]
    have hr : d.rmC a = 1 := by unfold DS.rmC; rw [hns, if_neg (by omega)]
    simp [DS.lfC, DS.why, DS.srC, DS.fiC, hs, hr, ha]
  have ha' : a < 8 := by omega
  have hta := hth a a0 ha'
  have hs : d.saE a = if (d.ent a).t = 1 then 0 else 3 := by unfold DS.saE; rw [hns, if_pos ha']
  by_cases e8 : k = 8
  · subst e8
    have hr : d.rmC a = d.rmT (d.ent a) := by unfold DS.rmC; rw [hns, if_pos ha']
    have hl : d.lfC 8 a b = d.rmT (d.ent a) := by simp [DS.lfC, hr]
    have hw : d.why 8 a b = if (d.ent a).t = 0 then 23 else if (d.ent a).t ≠ 6 ∧ (d.ent (d.ent a).o).s ≠ 3 then 8 else if (d.ent a).t = 1 ∧ 0 < (d.ent a).r then 14 else 0 := by unfold DS.why; rw [if_neg ha]; rfl
    rw [hl, hw]
    unfold DS.rmT
    by_cases t0 : (d.ent a).t = 0
    · simp [t0]
    by_cases t1 : (d.ent a).t = 1
    · have ho := (h.self t1).2.1
      by_cases s3 : (d.ent a).s = 3 <;> by_cases r0 : 0 < (d.ent a).r <;> simp [t1, ho, spcC, s3, r0]
    by_cases t6 : (d.ent a).t = 6
    · simp [t6]
    by_cases s3 : (d.ent (d.ent a).o).s = 3 <;> simp [t0, t1, t6, s3, prtC]
  by_cases t1 : (d.ent a).t = 1
  · rw [if_pos t1] at hs
    by_cases e6 : k = 6
    · subst e6
      by_cases s1 : (d.ent a).s = 1
      · obtain ⟨L, _, _, hl⟩ := h.load hn hta t1 s1
        have hf : d.fnE a = 0 := by unfold DS.fnE; rw [if_pos hl]
        simp [DS.lfC, DS.why, DS.fiC, hs, s1, hf, t1, ha]
      · simp [DS.lfC, DS.why, DS.fiC, hs, s1, t1, ha]
    by_cases e5 : k = 5
    · subst e5
      by_cases s3 : (d.ent a).s = 3
      · simp [DS.lfC, DS.why, DS.srC, hs, s3, t1, ha]
      by_cases hb : 8 ≤ b
      · have hb' : ¬ b < 8 := by omega
        simp [DS.lfC, DS.why, DS.srC, hs, s3, t1, ha, hb, hns, hb']
      have hb' : b < 8 := by omega
      have htb := hth b b0 hb'
      have eb : d.entE b = 0 := by unfold DS.entE; rw [if_pos htb]
      have em : d.more a = true := by unfold DS.more; rw [t1]; simp; exact (h.self t1).2.2
      have et : trn 6 = true := by decide
      by_cases tb : (d.ent b).t = 0 <;> simp [DS.lfC, DS.why, DS.srC, hs, s3, t1, ha, hb, hns, hb', DS.takeE, eb, em, et, tb]
    have e7 : k = 7 := by omega
    subst e7
    simp [DS.lfC, DS.why, hs, t1, ha]
  · rw [if_neg t1] at hs
    have : k = 5 ∨ k = 6 ∨ k = 7 := by omega
    rcases this with rfl | rfl | rfl <;> simp [DS.lfC, DS.why, DS.srC, DS.fiC, hs, t1, ha]
/-- A call that is refused does nothing. -/
theorem lf_no {d : DS} {k a b : Int} (h : d.lfC k a b ≠ 0) : d.lfD k a b = d := by
  unfold DS.lfC at h
  unfold DS.lfD
  split at h
  · rename_i e; rw [if_pos e]; unfold DS.srD; rw [if_neg h]
  · rename_i e; rw [if_neg e]
    split at h
    · rename_i e; rw [if_pos e]; unfold DS.fiD; rw [if_neg h]
    · rename_i e; rw [if_neg e]
      split at h
      · rename_i e; rw [if_pos e]; unfold DS.stD; rw [if_neg h]
      · rename_i e; rw [if_neg e]; unfold DS.rmD; rw [if_neg h]
theorem ent_of {d e : DS} (hn : e.m.ns = d.m.ns) (x : Int) (h : e.at x.toNat = d.at x.toNat) : e.ent x = d.ent x := by
  unfold DS.ent DS.there
  rw [hn, h]
theorem fin_at {d : DS} {a : Int} (hk : d.Ok) (hc : d.fiC a = 0) : (d.fiD a).at = upd d.at a.toNat { d.at a.toNat with s := 2 } ∧ (d.fiD a).m = (d.msr a (d.fnL a)).m ∧ d.there a = true := by
  have hs : d.saE a = 0 ∧ (d.ent a).s = 1 := by
    unfold DS.fiC at hc
    split at hc
    · rename_i e; exact absurd hc e
    · rename_i e
      split at hc
      · rename_i e2; exact ⟨by simpa using e, e2⟩
      · exact absurd hc (by decide)
  obtain ⟨ha, t1⟩ := st1_t hk hs.2
  obtain ⟨m1, m3⟩ := msr_E d a (d.fnL a)
  have hk' : (d.msr a (d.fnL a)).Ok := ⟨by rw [m1, m3]; exact hk.len, by rw [m3]; exact hk.n64, fun k hk2 => by rw [at_of_E m1]; rw [m3] at hk2; exact hk.ok k hk2, fun k hk2 => by rw [at_of_E m1, m3]; rw [m3] at hk2; exact hk.own k hk2, by show 0 ≤ ((d.lay8 a _ 8).dig a zz 26).b; rw [(dig_E _ _ _ 26).2.1, (lay8_E _ _ _ 8).2.1]; exact hk.b0, by show ((d.lay8 a _ 8).dig a zz 26).b ≤ 64; rw [(dig_E _ _ _ 26).2.1, (lay8_E _ _ _ 8).2.1]; exact hk.b1⟩
  have hz : (d.msr a (d.fnL a)).stateE a 2 = 0 := by
    have g1 : (d.msr a (d.fnL a)).there a = true := by unfold DS.there at ha ⊢; rw [m3]; exact ha
    have g2 : (d.msr a (d.fnL a)).ent a = d.ent a := by unfold DS.ent; rw [if_pos g1, if_pos ha, at_of_E m1]
    unfold DS.stateE DS.typE
    rw [g1, g2, t1, hs.2]
    rfl
  obtain ⟨hat, _, _⟩ := stated_at hk' hz
  unfold DS.fiD
  rw [if_pos hc]
  unfold DS.state
  rw [if_pos hz]
  exact ⟨by rw [hat, at_of_E m1], stated_m _ _ _, ha⟩
/-- What a call that is taken leaves. -/
structure LE (d D : DS) (k a b : Int) : Prop where
  oth : ∀ x : Int, 0 ≤ x → x < 8 → x ≠ a → ¬ (k = 5 ∧ x = b) → (D.ent x = d.ent x ∨ (k = 8 ∧ x = (d.ent a).o ∧ (D.ent x).t = 1)) ∧ (∀ o, D.m.word true x o = d.m.word true x o)
  sp : k = 5 → D.ent b = ⟨6, a, 0, 0, false⟩ ∧ (D.ent a).r = (d.ent a).r + 1 ∧ ∀ x o, D.m.word true x o = d.m.word true x o
  fi : k = 6 → (D.ent a).s = 2
  so : k = 7 → (D.ent a).s = 3 ∧ ∀ o, D.m.word true a o = d.m.word true a o
  rm : k = 8 → D.ent a = En.zero ∧ ∃ i, D.m.at true a = some i ∧ D.m.p i = zs
theorem LE.sim {d D D' : DS} {k a b : Int} (h : LE d D k a b) (hs : DS.Sim D D') : LE d D' k a b :=
  ⟨fun x h0 h1 h2 h3 => by rw [hs.ent]; exact ⟨(h.oth x h0 h1 h2 h3).1, fun o => by rw [hs.word]; exact (h.oth x h0 h1 h2 h3).2 o⟩,
   fun e => by rw [hs.ent, hs.ent]; exact ⟨(h.sp e).1, (h.sp e).2.1, fun x o => by rw [hs.word]; exact (h.sp e).2.2 x o⟩,
   fun e => by rw [hs.ent]; exact h.fi e,
   fun e => by rw [hs.ent]; exact ⟨(h.so e).1, fun o => by rw [hs.word]; exact (h.so e).2 o⟩,
   fun e => by rw [hs.ent, hs.mat]; obtain ⟨h1, i, h2, h3⟩ := h.rm e; exact ⟨h1, i, h2, by rw [hs.p]; exact h3⟩⟩
theorem lf_yes {n : Nat} {d : DS} (h : GI n d) (hk : d.Ok) (hw : d.m.Whole) (k a b : Int) (k1 : 5 ≤ k) (k2 : k ≤ 8) (a0 : 0 ≤ a) (b0 : 0 ≤ b) (hc : d.lfC k a b = 0) : a < 8 ∧ (k = 5 → b < 8 ∧ a ≠ b) ∧ LE d (d.lfD k a b) k a b := by
  have hns : (d.m.ns : Int) = 8 := by rw [h.ns]; rfl
  have hsa : ∀ {x : Int}, d.saE x = 0 → x < 8 ∧ (d.ent x).t = 1 := fun {x} e => by
    unfold DS.saE at e
    rw [hns] at e
    split at e
    · rename_i e1
      split at e
      · rename_i e2; exact ⟨e1, e2⟩
      · exact absurd e (by decide)
    · exact absurd e (by decide)
  by_cases e5 : k = 5
  · subst e5
    have hl : d.lfC 5 a b = d.srC a b := by simp [DS.lfC]
    have hD : d.lfD 5 a b = d.srD a b := by simp [DS.lfD]
    rw [hl] at hc
    have hd : d.srD a b = d.take b 6 a := by unfold DS.srD; rw [if_pos hc]
    have hx : d.saE a = 0 ∧ b < 8 ∧ d.takeE b 6 a = 0 := by
      unfold DS.srC at hc
      rw [hns] at hc
      split at hc
      · rename_i e; exact absurd hc e
      · rename_i e
        split at hc
        · exact absurd hc (by decide)
        · split at hc
          · rename_i e2
            split at hc
            · rename_i e3; exact ⟨by simpa using e, e2, e3⟩
            · exact absurd hc (by decide)
          · exact absurd hc (by decide)
    obtain ⟨hs, hb, ht⟩ := hx
    obtain ⟨ha, t1⟩ := hsa hs
    have tb := (take_zero ht).2.2.2.2
    have hne : a ≠ b := fun e => by rw [e, tb] at t1; cases t1
    rw [hD, hd]
    refine ⟨ha, fun _ => ⟨hb, hne⟩, ⟨fun x _ _ hx h3 => ⟨.inl ?_, fun o => by rw [DS.take_m]⟩, fun _ => ⟨?_, ?_, fun x o => by rw [DS.take_m]⟩, fun e => by omega, fun e => by omega, fun e => by omega⟩⟩
    · rw [take_ent hk ht, if_neg (fun e => h3 ⟨rfl, e⟩), if_neg hx]
    · rw [take_ent hk ht, if_pos rfl]; rfl
    · rw [take_ent hk ht, if_neg hne, if_pos rfl]
  by_cases e6 : k = 6
  · subst e6
    have hl : d.lfC 6 a b = d.fiC a := by simp [DS.lfC]
    have hD : d.lfD 6 a b = d.fiD a := by simp [DS.lfD]
    rw [hl] at hc
    obtain ⟨hat, hm, ht⟩ := fin_at hk hc
    obtain ⟨h0, h1, h2, h3⟩ := h.lt ht
    have hns' : (d.fiD a).m.ns = d.m.ns := by rw [hm]; exact (msr_E d a _).2
    rw [hD]
    refine ⟨h1, fun e => by omega, ⟨fun x x0 x1 hx _ => ⟨.inl (ent_of hns' x (by rw [hat, upd_ne _ _ (by omega)])), fun o => by rw [hm]; exact msr_other hw a _ x o hx⟩, fun e => by omega, fun _ => ?_, fun e => by omega, fun e => by omega⟩⟩
    have : (d.fiD a).there a = true := by unfold DS.there at ht ⊢; rw [hns']; exact ht
    rw [ent_at this, hat, upd_self]
  by_cases e7 : k = 7
  · subst e7
    have hl : d.lfC 7 a b = d.saE a := by simp [DS.lfC]
    have hD : d.lfD 7 a b = d.stD a := by simp [DS.lfD]
    rw [hl] at hc
    obtain ⟨ha, t1⟩ := hsa hc
    have ht : d.there a = true := (there8 h.ns a).2 ⟨a0, ha⟩
    have hz : d.stateE a 3 = 0 := by unfold DS.stateE DS.typE; rw [ht, t1]; rfl
    obtain ⟨hat, _, _⟩ := stated_at hk hz
    have hd : d.stD a = d.stated a 3 := by unfold DS.stD DS.state; rw [if_pos hc, if_pos hz]
    rw [hD, hd]
    refine ⟨ha, fun e => by omega, ⟨fun x x0 x1 hx _ => ⟨.inl (ent_of (d := d) (e := d.stated a 3) rfl x (by rw [hat, upd_ne _ _ (by omega)])), fun o => by rw [stated_m]⟩, fun e => by omega, fun e => by omega, fun _ => ⟨?_, fun o => by rw [stated_m]⟩, fun e => by omega⟩⟩
    have : (d.stated a 3).there a = true := ht
    rw [ent_at this, hat, upd_self]
  have e8 : k = 8 := by omega
  subst e8
  have hl : d.lfC 8 a b = d.rmC a := by simp [DS.lfC]
  have hD : d.lfD 8 a b = d.rmD a := by simp [DS.lfD]
  rw [hl] at hc
  have hd : d.rmD a = d.give a := by unfold DS.rmD; rw [if_pos hc]
  have hx : a < 8 ∧ d.rmT (d.ent a) = 0 := by
    unfold DS.rmC at hc
    rw [hns] at hc
    split at hc
    · rename_i e; exact ⟨e, hc⟩
    · exact absurd hc (by decide)
  obtain ⟨ha, hr⟩ := hx
  have ht : d.there a = true := (there8 h.ns a).2 ⟨a0, ha⟩
  have hz : d.giveE a = 0 := by
    unfold DS.giveE DS.entE
    rw [ht]
    unfold DS.rmT at hr
    split at hr
    · exact absurd hr (by decide)
    · rename_i t0
      rw [if_neg (by simp), if_neg t0]
      split at hr
      · rename_i t1
        unfold spcC at hr
        split at hr
        · split at hr
          · exact absurd hr (by decide)
          · rename_i r0; rw [if_neg (fun x => r0 x.2)]
        · exact absurd hr (by decide)
      · rename_i t1; rw [if_neg (fun x => t1 x.1)]
  have hg : d.give a = d.given a := by unfold DS.give; rw [if_pos hz]
  rw [hD, hd, hg]
  have hns' : (d.given a).m.ns = d.m.ns := by rw [given_m]; exact MS.zero_ns _ _ _
  have ht' : ∀ x, (d.given a).there x = d.there x := fun x => by unfold DS.there; rw [hns']
  refine ⟨ha, fun e => by omega, ⟨fun x x0 x1 hx _ => ⟨?_, fun o => by rw [given_m]; exact zero_word hw.ns0 _ _ _ _ _ (fun e => hx e.2.symm)⟩, fun e => by omega, fun e => by omega, fun e => by omega, fun _ => ⟨?_, a.toNat, ?_, ?_⟩⟩⟩
  · have htx : d.there x = true := (there8 h.ns x).2 ⟨x0, x1⟩
    have hxa : x.toNat ≠ a.toNat := by omega
    by_cases hcd : (d.ent a).t ≠ 1 ∧ x.toNat = (d.ent a).o.toNat ∧ 0 < (d.at x.toNat).r
    · refine .inr ⟨rfl, ?_, ?_⟩
      · have := ((En.ok_iff _).1 (hk.ok _ (there_lt ht).2.1)).o0
        rw [← ent_at ht] at this
        omega
      · rw [ent_at (by rw [ht']; exact htx), given_at hk hz, if_neg hxa, if_pos hcd]
        show (d.at x.toNat).t = 1
        by_cases e : (d.at x.toNat).t = 1
        · exact e
        · have := (((En.ok_iff _).1 (hk.ok _ (there_lt htx).2.1)).ns e).1
          omega
    · refine .inl (ent_of hns' x ?_)
      rw [given_at hk hz, if_neg hxa, if_neg hcd]
  · rw [ent_at (by rw [ht']; exact ht), given_at hk hz, if_pos rfl]
  · rw [given_m, zero_at]; exact at_sec a0 (by rw [hns]; exact ha)
  · rw [given_m]
    have hat : d.m.at true a = some a.toNat := at_sec a0 (by rw [hns]; exact ha)
    have hl : a.toNat < d.m.P.length := by rw [h.len]; omega
    unfold MS.zero
    rw [hat]
    simp [MS.p, List.getD_eq_getElem?_getD, hl]
end Go.Proofs.YtdfnbcbnmiohnaaGreatDoor
