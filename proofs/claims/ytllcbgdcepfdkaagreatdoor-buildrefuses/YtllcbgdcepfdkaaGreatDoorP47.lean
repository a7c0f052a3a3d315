import Derived.Test.YtllcbgdcepfdkaaGreatDoorP46
namespace Go.Proofs.YtllcbgdcepfdkaaGreatDoor
open Go.RowKit
set_option maxRecDepth 100000
set_option maxHeartbeats 4000000
theorem size23 : (Tryz.prog.info? 23).map (·.size) = some 2 := by kernel_rfl
theorem newO (W0 w : World) (f : Fp) (m : MS) (h : NewMem W0 w f m) (h64 : m.ns ≤ 64) :
    Calls Tryz.prog 28 #[ptr f.gm] w fun e w' => ∃ g, e = .returned (ptr g) ∧ ∃ p : Dp, p.g = g ∧ OD W0 w' p (DS.fresh m) :=
  (newDB_any w f m h.mem h64).mono fun _ w' ⟨g, gw, he, hd, h1, h2, hb⟩ => ⟨g, he, ⟨g, gw, f⟩, rfl, hd, h.below.trans (hb.below (fun k hk => h.new k (Fp.w_all hk)) h.below.size), fun k hk => by
    have h3 := h.below.size
    simp only [Dp.all, List.mem_cons] at hk
    rcases hk with rfl | rfl | hk
    · exact Nat.le_trans h3 h1
    · exact Nat.le_trans h3 h2
    · exact h.new k hk⟩
theorem fresh_yes (W : World) (s n : Nat) (s1 : 1 ≤ s) (s2 : s ≤ 64) (n1 : 1 ≤ n) (n2 : n ≤ 64) :
    Calls Tryz.prog 7 #[.agg #[.int .i64 (s : Int), .int .i64 (n : Int)]] W fun e W' => ∃ p : Dp, e = .returned (.tuple #[ptr p.g, .bool true]) ∧ OD W W' p (DS.fresh (MS.new s n)) := by
  have B0 := hid (bag_one W 23 [.int .i64 (s : Int), .int .i64 (n : Int)])
  have HN := hid (fun w => new_any w s n s1 s2 n1 n2)
  have HD := hid (fun w f (h : NewMem W w f (MS.new s n)) => newO W w f (MS.new s n) h s2)
  have a1 : (1 : Int) ≤ (s : Int) := by omega
  have a2 : (s : Int) ≤ 64 := by omega
  have a3 : (1 : Int) ≤ (n : Int) := by omega
  have a4 : (n : Int) ≤ 64 := by omega
  generalize MS.new s n = M at *
  generalize (s : Int) = si at *
  generalize (n : Int) = ni at *
  clear s1 s2 n1 n2
  simp only [ptr] at *
  go_enter Tryz.func7, Tryz.ntmps7
  go_upto_region 1 with fail
  generalize World.alloc _ _ = X at *
  generalize hg : W.heap.size = g1 at B0 ⊢
  clear hg
  have c0 := (B0.out.get 0 rfl).cell 0
  have c1 := (B0.out.get 0 rfl).cell 1
  simp only [List.getElem?_cons_zero, List.getElem?_cons_succ] at c0 c1
  go_upto_region 2 with (first | (go_at_call 27; refine (HN.out _).mono ?_; rintro e w1 ⟨f, rfl, hn⟩; have B1 := hid (B0.out.on hn.below); have N1 : Hid (NewMem W w1 f M) := hid ⟨hn.mem, below_on B0.out.below hn.below, fun k hk => Nat.le_trans B0.out.below.size (hn.new k hk)⟩; clear hn c0 c1))
  have c0 := (B1.out.get 0 rfl).cell 0
  have c1 := (B1.out.get 0 rfl).cell 1
  simp only [List.getElem?_cons_zero, List.getElem?_cons_succ] at c0 c1
  go_upto_region 7 with fail
  clear c0 c1
  go_wp2_with (first | (go_at_call 28; refine (HD.out _ _ N1.out).mono ?_; rintro e w2 ⟨g, rfl, p, hg, hO⟩; have O1 := hid (And.intro hg hO); clear hg hO))
  go_ret2
  exact ⟨p, by rw [O1.out.1]; rfl, O1.out.2⟩
theorem fresh_no (W : World) (s n : Int) (h : ¬ (1 ≤ s ∧ s ≤ 64 ∧ 1 ≤ n ∧ n ≤ 64)) :
    Calls Tryz.prog 7 #[.agg #[.int .i64 s, .int .i64 n]] W fun e W' => e = .returned (.tuple #[.pointer none, .bool true]) ∧ Below W.heap.size W W' := by
  have B0 := hid (bag_one W 23 [.int .i64 s, .int .i64 n])
  have HN := hid (fun w => new_no w s n h)
  have h' : s < 1 ∨ (1 ≤ s ∧ 64 < s) ∨ (1 ≤ s ∧ s ≤ 64 ∧ n < 1) ∨ (1 ≤ s ∧ s ≤ 64 ∧ 1 ≤ n ∧ 64 < n) := by omega
  clear h
  rcases h' with h1 | ⟨h1, h2⟩ | ⟨h1, h2, h3⟩ | ⟨h1, h2, h3, h4⟩
  · go_enter Tryz.func7, Tryz.ntmps7
    go_upto_region 1 with fail
    generalize World.alloc _ _ = X at *
    generalize hg : W.heap.size = g1 at B0 ⊢
    clear hg
    have c0 := (B0.out.get 0 rfl).cell 0
    have c1 := (B0.out.get 0 rfl).cell 1
    simp only [List.getElem?_cons_zero, List.getElem?_cons_succ] at c0 c1
    go_wp2_with (first | (go_at_call 27; refine (HN.out _).mono ?_; rintro e w1 ⟨rfl, rfl⟩))
    go_ret2
    exact ⟨rfl, B0.out.below⟩
  · go_enter Tryz.func7, Tryz.ntmps7
    go_upto_region 1 with fail
    generalize World.alloc _ _ = X at *
    generalize hg : W.heap.size = g1 at B0 ⊢
    clear hg
    have c0 := (B0.out.get 0 rfl).cell 0
    have c1 := (B0.out.get 0 rfl).cell 1
    simp only [List.getElem?_cons_zero, List.getElem?_cons_succ] at c0 c1
    go_wp2_with (first | (go_at_call 27; refine (HN.out _).mono ?_; rintro e w1 ⟨rfl, rfl⟩))
    go_ret2
    exact ⟨rfl, B0.out.below⟩
  · go_enter Tryz.func7, Tryz.ntmps7
    go_upto_region 1 with fail
    generalize World.alloc _ _ = X at *
    generalize hg : W.heap.size = g1 at B0 ⊢
    clear hg
    have c0 := (B0.out.get 0 rfl).cell 0
    have c1 := (B0.out.get 0 rfl).cell 1
    simp only [List.getElem?_cons_zero, List.getElem?_cons_succ] at c0 c1
    go_wp2_with (first | (go_at_call 27; refine (HN.out _).mono ?_; rintro e w1 ⟨rfl, rfl⟩))
    go_ret2
    exact ⟨rfl, B0.out.below⟩
  · have h5 : decide (n ≤ 64) = false := decide_eq_false (by omega)
    go_enter Tryz.func7, Tryz.ntmps7
    go_upto_region 1 with fail
    generalize World.alloc _ _ = X at *
    generalize hg : W.heap.size = g1 at B0 ⊢
    clear hg
    have c0 := (B0.out.get 0 rfl).cell 0
    have c1 := (B0.out.get 0 rfl).cell 1
    simp only [List.getElem?_cons_zero, List.getElem?_cons_succ] at c0 c1
    go_wp2_with (first | (go_at_call 27; refine (HN.out _).mono ?_; rintro e w1 ⟨rfl, rfl⟩))
    go_ret2
    exact ⟨rfl, B0.out.below⟩
end Go.Proofs.YtllcbgdcepfdkaaGreatDoor
namespace Go.Proofs.YtllcbgdcepfdkaaGreatDoor
open Go.RowKit
set_option maxRecDepth 100000
set_option maxHeartbeats 4000000
theorem OD.gl {W0 w : World} {p : Dp} {d : DS} (h : OD W0 w p d) (hT : H.Tab W0) (hs : 1 < W0.heap.size) : Gl w p :=
  ⟨hT.below (h.bl.mono (show 2 ≤ W0.heap.size by omega)) (by decide), by have := h.bl.size; omega, fun k hk => by have := h.own k hk; omega⟩
theorem newO' (W0 w : World) (f : Fp) (m : MS) (h : NewMem W0 w f m) (h64 : m.ns ≤ 64) :
    Calls Tryz.prog 28 #[ptr f.gm] w fun e w' => ∃ g gw, e = .returned (ptr g) ∧ OD W0 w' ⟨g, gw, f⟩ (DS.fresh m) :=
  (newDB_any w f m h.mem h64).mono fun _ w' ⟨g, gw, he, hd, h1, h2, hb⟩ => ⟨g, gw, he, hd, h.below.trans (hb.below (fun k hk => h.new k (Fp.w_all hk)) h.below.size), fun k hk => by
    have h3 := h.below.size
    simp only [Dp.all, List.mem_cons] at hk
    rcases hk with rfl | rfl | hk
    · exact Nat.le_trans h3 h1
    · exact Nat.le_trans h3 h2
    · exact h.new k hk⟩
def hd0 : DS := DS.fresh (MS.new 3 1)
theorem zall_len (m : MS) : ∀ k, (m.zall k).P.length = m.P.length
  | 0 => rfl
  | k + 1 => by
    show ((m.zall k).zero true (k : Int)).P.length = _
    unfold MS.zero
    split
    · exact zall_len m k
    · simp only [List.length_set]; exact zall_len m k
theorem zall_U {m : MS} (h : m.U) : ∀ k, (m.zall k).U
  | 0 => h
  | k + 1 => (fit_wipe (⟨m.zall k, 0, []⟩ : DS) (k : Int)).U (zall_U h k)
theorem hd0_ns : hd0.m.ns = 3 := by unfold hd0 DS.fresh DS.zed; exact (MS.zall_ns _ _).trans rfl
theorem hd0_U : hd0.m.U := zall_U (MS.U.new 3 1) _
theorem hd0_ent (x : Int) : hd0.ent x = En.zero := by
  unfold DS.ent
  split
  · exact rep_at _ _
  · rfl
theorem hd_c1 : hd0.spC 0 3 = 1 := by
  unfold DS.spC
  rw [hd0_ns]
  rfl
theorem hd_c2 : hd0.spC 0 1 = 0 := by
  unfold DS.spC
  rw [hd0_ns, hd0_ent, hd0_ent]
  rfl
theorem hd_b1 : hd0.bearE 0 1 = 0 := sp_zero (by decide) (by decide) hd_c2
def hd1 : DS := hd0.spD 0 1
theorem hd0_ok : hd0.Ok := zed_ok _ _ (by decide)
theorem hd1_E : hd1.E = (hd0.E.set 1 (enF 0)).set 0 (enS 0) := by
  unfold hd1 DS.spD
  rw [(dig_E _ _ _ 26).1]
  unfold DS.takeSpace
  rw [if_pos hd_b1]
  rfl
theorem hd1_ns : hd1.m.ns = 3 := by
  unfold hd1 DS.spD
  rw [(dig_E _ _ _ 26).2.2]
  unfold DS.takeSpace
  rw [if_pos hd_b1]
  unfold DS.space MS.born
  simp only [MS.write_ns]
  exact hd0_ns
theorem hd1_ent (x : Int) (k : Nat) (hx : x = (k : Int)) (hk : k < 3) : hd1.ent x = [enS 0, enF 0, En.zero].getD k En.zero := by
  subst hx
  have h0 : hd0.E = [En.zero, En.zero, En.zero] := rfl
  unfold DS.ent
  rw [if_pos (by unfold DS.there; rw [hd1_ns]; simp; omega)]
  unfold DS.at
  rw [hd1_E, h0]
  rfl
theorem hd1_st {W0 w : World} {p : Dp} (h : OD W0 w p hd0) : hd1.st 0 = H.saveOf [] := by
  unfold hd1 DS.spD
  refine dig_st ?_ _ _ ?_ (H.saveOf_length _)
  · unfold DS.takeSpace
    rw [if_pos hd_b1]
    show MS.Whole (((hd0.m.write true 0 0 1).write true 0 1 hd0.b).write true 0 2 0)
    exact (((Mem.whole h.db.mem).write _ _ _ _).write _ _ _ _).write _ _ _ _
  · unfold DS.takeSpace
    rw [if_pos hd_b1]
    unfold DS.there DS.space MS.born
    simp only [MS.write_ns]
    rw [hd0_ns]
    decide
theorem hd_load : H.LoadOk (H.saveOf []) := H.saveL_ok _ _ _ (H.run_length _ _ rfl _) rfl (by decide) (.inr rfl)
theorem hd_t1 {W0 w : World} {p : Dp} (h : OD W0 w p hd0) : hd1.thK 0 2 = 0 ∧ hd1.takeE 2 2 0 = 0 := by
  have e0 := hd1_ent 0 0 rfl (by decide)
  have e2 := hd1_ent 2 2 rfl (by decide)
  have ht : hd1.takeE 2 2 0 = 0 := by
    unfold DS.takeE DS.more DS.entE DS.there
    rw [e0, e2, hd1_ns]
    rfl
  refine ⟨?_, ht⟩
  have ho : hd1.opE 0 = 0 := by
    unfold DS.opE
    rw [e0, hd1_ns]
    rfl
  unfold DS.thK
  rw [if_pos ho]
  unfold DS.thC
  rw [hd1_ns, if_neg (by decide), e2, if_pos (show ([enS 0, enF 0, En.zero].getD 2 En.zero).t = 0 from rfl), hd1_st h, if_pos hd_load, if_pos ht]
theorem hd_t2 {W0 w : World} {p : Dp} (h : OD W0 w p hd1) (h0 : hd1.takeE 2 2 0 = 0) : (hd1.thD 0 2 7).thK 1 2 = 3 := by
  have hE : ∀ x, (hd1.thD 0 2 7).ent x = (hd1.take 2 2 0).ent x := fun x => by
    unfold DS.thD
    rw [(dig_ent _ _ _ 26 x).1]
    exact (DS.wr_ent _ _ _ _ _).1
  have hn : (hd1.thD 0 2 7).m.ns = 3 := by
    unfold DS.thD
    rw [(dig_E _ _ _ 26).2.2]
    unfold DS.wr
    rw [MS.write_ns, DS.take_m]
    exact hd1_ns
  have ho : (hd1.thD 0 2 7).opE 1 = 3 := by
    have e1 : (hd1.take 2 2 0).ent 1 = enF 0 := by
      rw [take_ent h.db.ok h0, if_neg (by decide), if_neg (by decide), hd1_ent 1 1 rfl (by decide)]
      rfl
    unfold DS.opE
    rw [hE, hn, e1]
    rfl
  unfold DS.thK
  rw [ho]
  rfl
theorem hd_p {W0 w : World} {p : Dp} (h : OD W0 w p hd1) : (hd1.thD 0 2 7).m.word true 2 0 = 7 := by
  have hw := Mem.whole h.db.mem
  have hm : ((hd1.take 2 2 0).wr 2 0 7).m = hd1.m.write true 2 0 7 := by unfold DS.wr; rw [DS.take_m]
  have h1 : ((hd1.take 2 2 0).wr 2 0 7).m.Whole := by rw [hm]; exact hw.write _ _ _ _
  have h2 := dig_other h1 0 (Q.exS (hd1.st 0) [1, 7]) true 2 0 (fun e => absurd e.2 (by decide)) 26
  have h3 : ((hd1.take 2 2 0).wr 2 0 7).m.word true 2 0 = 7 := by
    rw [hm]
    exact MS.word_same (k := 2) hw.ns0 hw.full (at_sec (by decide) (by rw [hd1_ns]; decide)) (by unfold In; decide) 7
  exact h2.trans h3
theorem headS1 (W0 w : World) (p : Dp) (h : OD W0 w p hd0) : Calls Tryz.prog 29 #[ptr p.g, .int .u32 0, .int .u32 3] w fun e w' => e = .returned (.int .u32 1) ∧ OD W0 w' p hd0 :=
  (space_any w p hd0 h.db 0 3 (by decide) (by decide)).mono fun e w' ⟨he, hd, hb⟩ => by
    rw [hd_c1] at he hd
    exact ⟨he, h.step hd hb⟩
theorem headS2 (W0 w : World) (p : Dp) (h : OD W0 w p hd0) : Calls Tryz.prog 29 #[ptr p.g, .int .u32 0, .int .u32 1] w fun e w' => e = .returned (.int .u32 0) ∧ OD W0 w' p hd1 :=
  (space_any w p hd0 h.db 0 1 (by decide) (by decide)).mono fun e w' ⟨he, hd, hb⟩ => by
    rw [hd_c2] at he hd
    exact ⟨he, h.step hd hb⟩
theorem hd1_U : hd1.m.U := (fit_cl hd0_ok hd0_U 1 0 1 0 0 ⟨by decide, by decide, by decide, by decide, by decide, by decide, by decide, by decide⟩).U hd0_U
theorem headT1 (W0 w : World) (hT : H.Tab W0) (hs : 1 < W0.heap.size) (p : Dp) (h : OD W0 w p hd1) (h0 : hd1.thK 0 2 = 0) : Calls Tryz.prog 30 #[ptr p.g, .int .u32 0, .int .u32 2, .int .u32 7] w fun e w' => ∃ d, e = .returned (.int .u32 0) ∧ DS.Sim (hd1.thD 0 2 7) d ∧ OD W0 w' p d :=
  (thread_any w p hd1 h.db hd1_U (h.gl hT hs) 0 2 7 (by decide) (by decide)).mono fun e w' ⟨d, he, hS, hd, hb⟩ => by
    rw [h0] at he hS
    exact ⟨d, he, hS, h.step hd hb⟩
theorem headT2 (W0 w : World) (hT : H.Tab W0) (hs : 1 < W0.heap.size) (p : Dp) (d : DS) (h : OD W0 w p d) (hS : DS.Sim (hd1.thD 0 2 7) d) (hk1 : hd1.Ok) (h0 : (hd1.thD 0 2 7).thK 1 2 = 3) : Calls Tryz.prog 30 #[ptr p.g, .int .u32 1, .int .u32 2, .int .u32 7] w fun e w' => ∃ d', e = .returned (.int .u32 3) ∧ DS.Sim (hd1.thD 0 2 7) d' ∧ OD W0 w' p d' := by
  have hU : d.m.U := hS.U ((fit_cl hk1 hd1_U 2 0 2 7 0 ⟨by decide, by decide, by decide, by decide, by decide, by decide, by decide, by decide⟩).U hd1_U)
  have hK : d.thK 1 2 = 3 := by
    rw [← h0]
    unfold DS.thK DS.thC
    rw [hS.opE, hS.ns, hS.ent, hS.st, hS.takeE]
  exact (thread_any w p d h.db hU (h.gl hT hs) 1 2 7 (by decide) (by decide)).mono fun e w' ⟨d', he, hS', hd, hb⟩ => by
    rw [hK] at he hS'
    exact ⟨d', he, hS.trans hS', h.step hd hb⟩
theorem head_any (W : World) (hT : H.Tab W) (hs : 1 < W.heap.size) : Calls Tryz.prog 8 #[] W fun e W' => e = .returned (.bool true) ∧ Below W.heap.size W W' := by
  have HN := hid (fun w => new_any w 3 1 (by decide) (by decide) (by decide) (by decide))
  have HD := hid (fun w f (h : NewMem W w f (MS.new 3 1)) => newO' W w f (MS.new 3 1) h (by decide))
  have HS1 := hid (fun w p h => headS1 W w p h)
  have HS2 := hid (fun w p h => headS2 W w p h)
  have HT1 := hid (fun w p (h : OD W w p hd1) (h0 : hd1.thK 0 2 = 0) => headT1 W w hT hs p h h0)
  have HT2 := hid (fun w p d (h : OD W w p d) hS hk h0 => headT2 W w hT hs p d h hS hk h0)
  have HP := hid (fun w p d (h : OD W w p d) (hS : DS.Sim (hd1.thD 0 2 7) d) (h1 : (hd1.thD 0 2 7).m.word true 2 0 = 7) => (peek_any w p.f d.m h.db.mem true 2 0).mono (fun e w' hh => (by rw [hS.word, h1] at hh; exact ⟨hh.1, h.on hh.2⟩ : e = .returned (.int .u32 7) ∧ OD W w' p d)))
  clear hT hs
  simp only [ptr, fr] at *
  go_enter Tryz.func8, Tryz.ntmps8
  go_wp2_with (first | (go_at_call 27; refine (HN.out _).mono ?_; rintro e w1 ⟨f, rfl, hn⟩; have N1 := hid hn; clear hn HN) | (go_at_call 28; refine (HD.out _ _ N1.out).mono ?_; rintro e w2 ⟨g, gw, rfl, hO⟩; have O2 := hid hO; clear hO N1 HD) | (revert HS1; intro HS1; go_at_call 29; refine (HS1.out _ ⟨g, gw, f⟩ O2.out).mono ?_; rintro e w3 ⟨rfl, hO⟩; have O3 := hid hO; clear hO HS1) | (revert HS2; intro HS2; go_at_call 29; refine (HS2.out _ ⟨g, gw, f⟩ O3.out).mono ?_; rintro e w4 ⟨rfl, hO⟩; have O4 := hid hO; have hk1 := hid (hd_t1 O3.out); clear hO HS2) | (revert HT1; intro HT1; go_at_call 30; refine (HT1.out _ ⟨g, gw, f⟩ O4.out hk1.out.1).mono ?_; rintro e w5 ⟨d5, rfl, hS, hO⟩; have O5 := hid hO; have S5 := hid hS; have hk2 := hid (hd_t2 O4.out hk1.out.2); have hk3 := hid (hd_p O4.out); have hok1 := hid O4.out.db.ok; clear hO hS HT1) | (revert HT2; intro HT2; go_at_call 30; refine (HT2.out _ ⟨g, gw, f⟩ d5 O5.out S5.out hok1.out hk2.out).mono ?_; rintro e w6 ⟨d6, rfl, hS, hO⟩; have O6 := hid hO; have S6 := hid hS; clear hO hS HT2) | (go_at_call 31; refine (HP.out _ ⟨g, gw, f⟩ d6 O6.out S6.out hk3.out).mono ?_; rintro e w7 ⟨rfl, hO⟩; have O7 := hid hO; clear hO))
  go_returns
  exact ⟨rfl, O7.out.bl⟩
end Go.Proofs.YtllcbgdcepfdkaaGreatDoor
namespace Go.Proofs.YtllcbgdcepfdkaaGreatDoor
open Go.RowKit
set_option maxRecDepth 100000
set_option maxHeartbeats 4000000
def DS.mop (d : DS) (k b c f : Int) : Q.MOp := if k = 2 then ⟨1, c, []⟩ else if k = 3 then ⟨2, c, []⟩ else if k = 4 then ⟨3, c, d.m.pageI f⟩ else ⟨4, b, []⟩
theorem atw {p : Dp} {W : World} {g : Nat} {L : List Int} (hc : Cel W g 29 (u32s L)) (hg : g ∉ p.w) : ∀ w, ButL p.w W w → H.At w .u32 (some ⟨g, 0, none⟩) L := fun w hb => by
  have h1 := hc.but hb hg
  refine .inr ⟨g, 0, rfl, h1.lt, fun i hi => ?_⟩
  rw [Nat.zero_add, h1.cell, u32s, List.getElem?_map, List.getD_eq_getElem?_getD, List.getElem?_eq_getElem hi]
  rfl
theorem DG.notinw {W w : World} {p : Dp} {d : DS} {G : List Nat} {L : List (Nat × TypeId × List Value)} (h : DG W w p d G L) {g : Nat} (hg : W.heap.size ≤ g) : g ∉ p.w := fun hm => by have := h.old g (Dp.w_all hm); omega
theorem opOf_any (W : World) (p : Dp) (d : DS) (h : DB W p d) (k a b c f : Int) (hw : W5 a b c f) (hf : k = 4 → f < (d.ni : Int)) :
    Calls Tryz.prog 17 #[ptr p.g, opV k a b c f] W fun e W' => ∃ d' ao cc, e = .returned ((d.mop k b c f).v ao cc) ∧ DS.Sim d d' ∧ (∀ w, ButL p.w W' w → H.At w .u32 ao (d.mop k b c f).ws) ∧ DB W' p d' ∧ ButL p.w W W' := by
  have D0 := hid (((DG.startp h).new 31 (opC k a b c f)).new 54 [.int .i64 0, .int .u32 0, .slice none 0 0])
  obtain ⟨_, _, _, _, _, _, f0, f1⟩ := hw
  have HS0 := hid (DS.Sim.refl d)
  by_cases k4 : k = 4
  · have hu := hf k4
    subst k4
    have hLl : (d.m.pageI f).length = 1024 := by
      refine h.mem.full _ ?_
      have := h.mem.ns0
      unfold DS.ni at hu
      omega
    have HPg := hid (fun W hw => pageS p d f f0 hu W hw)
    have HS1 := hid (DS.Sim.tk d false f 1024)
    have HMm := hid (fun w (hw : DB w p d) => memory_any w p d hw)
    have kw : wrap64 f = f := by unfold wrap64; omega
    have kx : IntKind.wrap .i64 f = f := by rw [IntKind.wrap_i64]; omega
    have hM : d.mop 4 b c f = ⟨3, c, d.m.pageI f⟩ := rfl
    rw [hM]
    have HA := hid (fun (w : World) g (hc : Cel w g 29 (u32s (d.m.pageI f))) (hg : g ∉ p.w) w' (hb : ButL p.w w w') => (show H.At w' .u32 (some ⟨g, 0, none⟩) (d.m.pageI f) from atw hc hg w' hb))
    clear h hf hu hM f0 f1
    generalize d.m.pageI f = L at *
    generalize { d with m := d.m.tk false f 1024 : DS } = d7 at *
    simp only [opV, opC, ptr, fr, Q.MOp.v, hLl] at *
    clear hLl
    go_enter Tryz.func17, Tryz.ntmps17
    go_upto_region 1 with fail
    generalize (World.alloc _ _).alloc _ = X at *
    simp only [World.size_alloc] at D0
    generalize hg : W.heap.size = g3 at D0 ⊢
    have HG := hid hg
    clear hg
    have c0 := (D0.out.get 1 rfl).cell 0
    have c2 := (D0.out.get 1 rfl).cell 2
    have c3 := (D0.out.get 1 rfl).cell 3
    have c4 := (D0.out.get 1 rfl).cell 4
    simp only [List.getElem?_cons_zero, List.getElem?_cons_succ] at c0 c2 c3 c4
    go_upto_region 7 with fail
    have D1 := hid (D0.out.on (Below.refl _ _).drew)
    clear D0 c0 c2 c3 c4
    refine wp_region_held_drew (S := fun w => Cel w g3 31 [.int .i64 4, .int .u32 a, .int .u32 b, .int .u32 c, .int .u32 f]) (by kernel_rfl) (D1.out.get 1 rfl) (fun hHeld => ?_)
    generalize World.drew _ = w3 at *
    refine wpAnyH_take (i := 0) (oi := { dst := some 22, op := Op.move (Operand.tmp 0), type := 25, pos := "outright.go:55", after := #[], guard := none }) (v := .pointer (some ⟨p.g, 0, none⟩)) rfl (by kernel_rfl) (by kernel_rfl) (by kernel_rfl) (fun _ _ _ h => h) (Or.inl ⟨by rfl, by intro w hSw; go_simp⟩) (by assumption) ?_
    simp only [Act.put, List.setIfInBounds_toArray, List.set_cons_zero, List.set_cons_succ]
    refine wpAnyH_take (i := 2) (oi := { dst := some 24, op := Op.fieldAddr 31 (Operand.tmp 3) 4, type := 0, pos := "outright.go:55", after := #[], guard := none }) (v := .pointer (some ⟨g3, 4, none⟩)) rfl (by kernel_rfl) (by kernel_rfl) (by kernel_rfl) (fun _ _ _ h => h) (Or.inl ⟨by rfl, by intro w hSw; go_simp⟩) (by assumption) ?_
    simp only [Act.put, List.setIfInBounds_toArray, List.set_cons_zero, List.set_cons_succ]
    refine wpAnyH_take (i := 3) (oi := { dst := some 25, op := Op.load 29 (Operand.tmp 24), type := 29, pos := "outright.go:55", after := #[{ on := 2, ground := Ground.data }], guard := none }) (v := .int .u32 f) rfl (by kernel_rfl) (by kernel_rfl) (by kernel_rfl) (fun _ _ _ h => h) (Or.inl ⟨by rfl, by intro w hSw; have hc : w.cell? ⟨g3, 4, none⟩ = some (.int .u32 f) := hSw.cell 4; go_simp⟩) (by assumption) ?_
    simp only [Act.put, List.setIfInBounds_toArray, List.set_cons_zero, List.set_cons_succ]
    refine wpAnyH_take (i := 4) (oi := { dst := some 26, op := Op.convert 29 3 (Operand.tmp 25), type := 3, pos := "outright.go:55", after := #[{ on := 3, ground := Ground.data }], guard := none }) (v := .int .i64 f) rfl (by kernel_rfl) (by kernel_rfl) (by kernel_rfl) (fun _ _ _ h => h) (Or.inl ⟨by rfl, by intro w hSw; go_simp⟩) (by assumption) ?_
    simp only [Act.put, List.setIfInBounds_toArray, List.set_cons_zero, List.set_cons_succ]
    refine wpAnyH_take (i := 5) (oi := { dst := some 27, op := Op.build 82 #[(1, Operand.tmp 26)], type := 82, pos := "outright.go:55", after := #[{ on := 4, ground := Ground.data }], guard := none }) (v := .agg #[.bool false, .int .i64 f]) rfl (by kernel_rfl) (by kernel_rfl) (by kernel_rfl) (fun _ _ _ h => h) (Or.inl ⟨by rfl, by intro w hSw; go_simp⟩) (by assumption) ?_
    simp only [Act.put, List.setIfInBounds_toArray, List.set_cons_zero, List.set_cons_succ]
    refine wpAnyH_ready (rs := [1]) (by kernel_rfl) (by simp) (AllReadyH.cons (o := { dst := some 23, op := Op.call { callee := Callee.value (Operand.func 25), args := #[Operand.tmp 22], argTypes := #[25] }, type := 67, pos := "outright.go:55", after := #[{ on := 0, ground := Ground.data }], guard := none }) rfl (fun KQ hK => ?_) AllReadyH.nil)
    go_simp
    refine (HMm.out _ D1.out.db).mono ?_
    rintro e w4 ⟨rfl, rfl⟩
    go_wp2_with fail
    refine hK.out _ _ (D1.out.get 1 rfl) (fun hHeld => ?_)
    clear hK KQ
    try simp only [Act.put, List.setIfInBounds_toArray, List.set_cons_zero, List.set_cons_succ]
    refine wpAnyH_ready (rs := [6]) (by kernel_rfl) (by simp) (AllReadyH.cons (o := { dst := some 28, op := Op.call { callee := Callee.value (Operand.func 55), args := #[Operand.tmp 23, Operand.tmp 27], argTypes := #[67, 82] }, type := 111, pos := "outright.go:55", after := #[{ on := 1, ground := Ground.data }, { on := 5, ground := Ground.data }, { on := 1, ground := Ground.chain }], guard := none }) rfl (fun KQ hK => ?_) AllReadyH.nil)
    go_simp
    refine (HPg.out _ D1.out.db).mono ?_
    rintro e w5 ⟨gp, pe, rfl, hd1, hb1, hg1, hc1⟩
    have D2 := hid (D1.out.step hd1 hb1 p.fw_w)
    have HP := hid (And.intro hc1 (Nat.le_trans D1.out.low hg1))
    have HPy := hid (D1.out.notinw (Nat.le_trans D1.out.low hg1))
    have HPl : Hid (g3 + 1 < gp) := hid (by have := (D1.out.get 0 rfl).lt; omega)
    clear hd1 hb1 hg1 hc1 D1
    go_wp2_with fail
    refine hK.out _ _ (D2.out.get 1 rfl) (fun hHeld => ?_)
    clear hK KQ
    try simp only [Act.put, List.setIfInBounds_toArray, List.set_cons_zero, List.set_cons_succ]
    refine wpAnyH_take (i := 7) (oi := { dst := some 21, op := Op.move (Operand.tmp 28), type := 111, pos := "outright.go:55", after := #[{ on := 6, ground := Ground.data }], guard := none }) (v := .tuple #[.slice (some ⟨gp, 0, none⟩) 1024 1024, .int .i64 pe]) rfl (by kernel_rfl) (by kernel_rfl) (by kernel_rfl) (fun _ _ _ h => h) (Or.inl ⟨by rfl, by intro w hSw; go_simp⟩) (by assumption) ?_
    simp only [Act.put, List.setIfInBounds_toArray, List.set_cons_zero, List.set_cons_succ]
    refine wpAnyH_take (i := 8) (oi := { dst := some 29, op := Op.extract (Operand.tmp 21) 0, type := 52, pos := "outright.go:55", after := #[{ on := 7, ground := Ground.data }], guard := none }) (v := .slice (some ⟨gp, 0, none⟩) 1024 1024) rfl (by kernel_rfl) (by kernel_rfl) (by kernel_rfl) (fun _ _ _ h => h) (Or.inl ⟨by rfl, by intro w hSw; go_simp⟩) (by assumption) ?_
    simp only [Act.put, List.setIfInBounds_toArray, List.set_cons_zero, List.set_cons_succ]
    refine wpAnyH_take (i := 9) (oi := { dst := some 30, op := Op.extract (Operand.tmp 21) 1, type := 39, pos := "outright.go:55", after := #[{ on := 7, ground := Ground.data }, { on := 10, ground := Ground.gcOnly Departure.lateStores }], guard := none }) (v := .int .i64 pe) rfl (by kernel_rfl) (by kernel_rfl) (by kernel_rfl) (fun _ _ _ h => h) (Or.inl ⟨by rfl, by intro w hSw; go_simp⟩) (by assumption) ?_
    simp only [Act.put, List.setIfInBounds_toArray, List.set_cons_zero, List.set_cons_succ]
    refine wpAnyH_ready (rs := [10]) (by kernel_rfl) (by simp) (AllReadyH.cons (o := { dst := some 5, op := Op.assign (Operand.tmp 29), type := 52, pos := "outright.go:55", after := #[{ on := 8, ground := Ground.data }, { on := 6, ground := Ground.chain }, { on := 0, ground := Ground.phase }, { on := 1, ground := Ground.phase }, { on := 2, ground := Ground.phase }, { on := 3, ground := Ground.phase }, { on := 4, ground := Ground.phase }, { on := 5, ground := Ground.phase }, { on := 6, ground := Ground.phase }, { on := 7, ground := Ground.phase }, { on := 8, ground := Ground.phase }, { on := 9, ground := Ground.textOnly Departure.lateStores }], guard := none }) rfl (fun KQ hK => ?_) AllReadyH.nil)
    go_simp
    refine hK.out _ _ (D2.out.get 1 rfl) (fun hHeld => ?_)
    clear hK KQ
    try simp only [Act.put, List.setIfInBounds_toArray, List.set_cons_zero, List.set_cons_succ]
    refine wpAnyH_ready (rs := [11]) (by kernel_rfl) (by simp) (AllReadyH.cons (o := { dst := some 6, op := Op.assign (Operand.tmp 30), type := 39, pos := "outright.go:55", after := #[{ on := 9, ground := Ground.data }, { on := 10, ground := Ground.chain }, { on := 0, ground := Ground.phase }, { on := 1, ground := Ground.phase }, { on := 2, ground := Ground.phase }, { on := 3, ground := Ground.phase }, { on := 4, ground := Ground.phase }, { on := 5, ground := Ground.phase }, { on := 6, ground := Ground.phase }, { on := 7, ground := Ground.phase }, { on := 8, ground := Ground.phase }, { on := 9, ground := Ground.phase }, { on := 10, ground := Ground.phase }], guard := none }) rfl (fun KQ hK => ?_) AllReadyH.nil)
    go_simp
    refine hK.out _ _ (D2.out.get 1 rfl) (fun hHeld => ?_)
    clear hK KQ
    try simp only [Act.put, List.setIfInBounds_toArray, List.set_cons_zero, List.set_cons_succ]
    refine wpAnyH_done (by kernel_rfl) ?_ _
    have c3 := (D2.out.get 1 rfl).cell 3
    simp only [List.getElem?_cons_zero, List.getElem?_cons_succ] at c3
    go_wp2_with (first | (refine wpList_build_f rfl 54 _ rfl _ rfl _ (built54d c gp) ?_) | (refine wpList_store_st rfl 54 _ _ rfl (g3 + 1) [.int .i64 3, .int .u32 c, .slice (some ⟨gp, 0, none⟩) 1024 1024] rfl rfl (D2.out.get 0 rfl) size54 rfl rfl ?_; intro w9 hc hb hs; have HC := hid hc; have HP9 := hid (HP.out.1.but hb (by simp only [List.mem_singleton]; have := HPl.out; omega)); have DZ := hid (D2.out.put (by simp) hc hb); clear hc hb hs))
    exact ret_st rfl rfl (g3 + 1) _ rfl HC.out under54 rfl size54 ⟨d7, some ⟨gp, 0, none⟩, 1024, rfl, HS1.out, fun w hw => HA.out _ gp HP9.out HPy.out w hw, DZ.out.db, DZ.out.but⟩
  by_cases k2 : k = 2
  · subst k2
    have hM : d.mop 2 b c f = ⟨1, c, []⟩ := rfl
    rw [hM]
    clear h hf hM f0 f1 k4
    simp only [opV, opC, ptr, Q.MOp.v, List.length_nil] at *
    go_enter Tryz.func17, Tryz.ntmps17
    go_upto_region 1 with fail
    generalize (World.alloc _ _).alloc _ = X at *
    simp only [World.size_alloc] at D0
    generalize hg : W.heap.size = g3 at D0 ⊢
    have HG := hid hg
    clear hg
    have c0 := (D0.out.get 1 rfl).cell 0
    have c2 := (D0.out.get 1 rfl).cell 2
    have c3 := (D0.out.get 1 rfl).cell 3
    have c4 := (D0.out.get 1 rfl).cell 4
    simp only [List.getElem?_cons_zero, List.getElem?_cons_succ] at c0 c2 c3 c4
    go_wp2_with (first | (refine wpList_build_f rfl 54 _ rfl _ rfl _ (built54 1 c) ?_) | (refine wpList_store_st rfl 54 _ _ rfl (g3 + 1) [.int .i64 1, .int .u32 c, .slice none 0 0] rfl rfl (D0.out.get 0 rfl) size54 rfl rfl ?_; intro w9 hc hb hs; have HC := hid hc; have DZ := hid (D0.out.put (by simp) hc hb); clear hc hb hs))
    exact ret_st rfl rfl (g3 + 1) _ rfl HC.out under54 rfl size54 ⟨d, none, 0, rfl, HS0.out, fun w hw => .inl rfl, DZ.out.db, DZ.out.but⟩
  by_cases k3 : k = 3
  · subst k3
    have hM : d.mop 3 b c f = ⟨2, c, []⟩ := rfl
    rw [hM]
    clear h hf hM f0 f1 k4 k2
    simp only [opV, opC, ptr, Q.MOp.v, List.length_nil] at *
    go_enter Tryz.func17, Tryz.ntmps17
    go_upto_region 1 with fail
    generalize (World.alloc _ _).alloc _ = X at *
    simp only [World.size_alloc] at D0
    generalize hg : W.heap.size = g3 at D0 ⊢
    have HG := hid hg
    clear hg
    have c0 := (D0.out.get 1 rfl).cell 0
    have c2 := (D0.out.get 1 rfl).cell 2
    have c3 := (D0.out.get 1 rfl).cell 3
    have c4 := (D0.out.get 1 rfl).cell 4
    simp only [List.getElem?_cons_zero, List.getElem?_cons_succ] at c0 c2 c3 c4
    go_wp2_with (first | (refine wpList_build_f rfl 54 _ rfl _ rfl _ (built54 2 c) ?_) | (refine wpList_store_st rfl 54 _ _ rfl (g3 + 1) [.int .i64 2, .int .u32 c, .slice none 0 0] rfl rfl (D0.out.get 0 rfl) size54 rfl rfl ?_; intro w9 hc hb hs; have HC := hid hc; have DZ := hid (D0.out.put (by simp) hc hb); clear hc hb hs))
    exact ret_st rfl rfl (g3 + 1) _ rfl HC.out under54 rfl size54 ⟨d, none, 0, rfl, HS0.out, fun w hw => .inl rfl, DZ.out.db, DZ.out.but⟩
  have hM : d.mop k b c f = ⟨4, b, []⟩ := by unfold DS.mop; rw [if_neg k2, if_neg k3, if_neg k4]
  rw [hM]
  have n2 : (k == 2) = false := by simpa using k2
  have n3 : (k == 3) = false := by simpa using k3
  have n4 : (k == 4) = false := by simpa using k4
  clear h hf hM f0 f1 k4 k2 k3
  simp only [opV, opC, ptr, Q.MOp.v, List.length_nil] at *
  go_enter Tryz.func17, Tryz.ntmps17
  go_upto_region 1 with fail
  generalize (World.alloc _ _).alloc _ = X at *
  simp only [World.size_alloc] at D0
  generalize hg : W.heap.size = g3 at D0 ⊢
  have HG := hid hg
  clear hg
  have c0 := (D0.out.get 1 rfl).cell 0
  have c2 := (D0.out.get 1 rfl).cell 2
  have c3 := (D0.out.get 1 rfl).cell 3
  have c4 := (D0.out.get 1 rfl).cell 4
  simp only [List.getElem?_cons_zero, List.getElem?_cons_succ] at c0 c2 c3 c4
  go_wp2_with (first | (refine wpList_build_f rfl 54 _ rfl _ rfl _ (built54 4 b) ?_) | (refine wpList_store_st rfl 54 _ _ rfl (g3 + 1) [.int .i64 4, .int .u32 b, .slice none 0 0] rfl rfl (D0.out.get 0 rfl) size54 rfl rfl ?_; intro w9 hc hb hs; have HC := hid hc; have DZ := hid (D0.out.put (by simp) hc hb); clear hc hb hs))
  exact ret_st rfl rfl (g3 + 1) _ rfl HC.out under54 rfl size54 ⟨d, none, 0, rfl, HS0.out, fun w hw => .inl rfl, DZ.out.db, DZ.out.but⟩
end Go.Proofs.YtllcbgdcepfdkaaGreatDoor
