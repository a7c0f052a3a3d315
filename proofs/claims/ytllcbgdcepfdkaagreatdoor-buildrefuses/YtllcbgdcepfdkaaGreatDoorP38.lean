import Derived.Test.YtllcbgdcepfdkaaGreatDoorP37
namespace Go.Proofs.YtllcbgdcepfdkaaGreatDoor
open Go.RowKit
set_option maxRecDepth 100000
set_option maxHeartbeats 8000000
theorem size82 : (Tryz.prog.info? 82).map (·.size) = some 2 := by kernel_rfl
theorem under82 : Tryz.prog.underlying 82 = some (.struct (Tryz.prog.fieldsOf 82)) := by kernel_rfl
theorem builtF (w : Int) : Tryz.prog.built 82 [(1, .int .i64 w)] = some #[.bool false, .int .i64 w] := by kernel_rfl
theorem built108 (a : Bool) (b : Int) (c d : Bool) : Tryz.prog.built 108 [(0, .agg #[.bool a, .int .i64 b]), (1, .bool c), (2, .bool d)] = some #[.bool a, .int .i64 b, .bool c, .bool d] := by kernel_rfl
theorem insecure_any (w : World) (f : Fp) (m : MS) (h : Mem w f m) : Calls Tryz.prog 53 #[ptr f.gm] w fun x w' => x = .returned (.int .i64 (((m.P.length - m.ns : Nat) : Int))) ∧ w' = w := by
  have c1 := h.cel.cell 1
  clear h
  simp only [ptr, List.getElem?_cons_zero, List.getElem?_cons_succ] at *
  generalize m.P.length - m.ns = n at *
  go_enter Tryz.func53, Tryz.ntmps53
  go_wp2_with fail
  go_ret
  exact ⟨rfl, rfl⟩
/-- How many pages the system has. -/
def DS.ni (d : DS) : Nat := d.m.P.length - d.m.ns
theorem insecP_yes (W : World) (p : Dp) (d : DS) (h : DB W p d) (w : Int) (w0 : 0 ≤ w) (hw : w < (d.ni : Int)) :
    Calls Tryz.prog 163 #[ptr p.g, .int .u32 w] W fun e W' => e = .returned (fr false w) ∧ Below W.heap.size W W' := by
  have HD := hid (h.on (below_one W (.cells #[.bool false, .int .i64 0] 82)))
  have B := hid (below_one W (.cells #[.bool false, .int .i64 0] 82))
  have hn : d.ni ≤ 128 := by have := h.mem.most; unfold DS.ni; omega
  have HM := hid (fun w (hw : DB w p d) => memory_any w p d hw)
  have HI := hid (fun w (hw : DB w p d) => insecure_any w p.f d.m hw.mem)
  have n1 : (d.ni : Int) ≤ 128 := by omega
  have n0 : 0 ≤ (d.ni : Int) := by omega
  have C0 := hid (Cel.new W 82 [.bool false, .int .i64 0])
  have hN : ((d.m.P.length - d.m.ns : Nat) : Int) = (d.ni : Int) := rfl
  rw [hN] at HI
  clear hN
  generalize (d.ni : Int) = n at *
  have hc : IntKind.wrap .u32 n = n := by rw [IntKind.wrap_u32]; omega
  clear h hn
  simp only [ptr, fr] at *
  go_enter Tryz.func163, Tryz.ntmps163
  go_upto_region 1 with fail
  generalize World.alloc _ _ = X at *
  generalize hg : W.heap.size = g2 at C0 ⊢
  have HG := hid hg
  clear hg
  go_wp2_with (first | (go_at_call 25; refine (HM.out _ HD.out).mono ?_; rintro e w1 ⟨rfl, rfl⟩) | (go_at_call 53; refine (HI.out _ HD.out).mono ?_; rintro e w1 ⟨rfl, rfl⟩) | (go_at_call 152; refine (insist_yes _ 17).mono ?_; rintro e w1 ⟨rfl, rfl⟩) | (refine wpList_build_f rfl 82 _ rfl _ rfl _ (builtF w) ?_) | (refine wpList_store_st rfl 82 _ _ rfl g2 [.bool false, .int .i64 w] rfl rfl C0.out size82 rfl rfl ?_; intro w5 hcc hb hs; have HC := hid hcc; have BB := hid (below_put B.out (by have := HG.out; omega) hb); clear hcc hb hs))
  exact ret_st rfl rfl g2 _ rfl HC.out under82 rfl size82 ⟨rfl, BB.out⟩
theorem insecP_no (W : World) (p : Dp) (d : DS) (h : DB W p d) (w : Int) (hw : (d.ni : Int) ≤ w) :
    Calls Tryz.prog 163 #[ptr p.g, .int .u32 w] W fun e W' => e = .panicked (pn 17) ∧ Below W.heap.size W W' := by
  have HD := hid (h.on (below_one W (.cells #[.bool false, .int .i64 0] 82)))
  have B := hid (below_one W (.cells #[.bool false, .int .i64 0] 82))
  have hn : d.ni ≤ 128 := by have := h.mem.most; unfold DS.ni; omega
  have HM := hid (fun w (hw : DB w p d) => memory_any w p d hw)
  have HI := hid (fun w (hw : DB w p d) => insecure_any w p.f d.m hw.mem)
  have n1 : (d.ni : Int) ≤ 128 := by omega
  have n0 : 0 ≤ (d.ni : Int) := by omega
  have hN : ((d.m.P.length - d.m.ns : Nat) : Int) = (d.ni : Int) := rfl
  rw [hN] at HI
  clear hN
  generalize (d.ni : Int) = n at *
  have hc : IntKind.wrap .u32 n = n := by rw [IntKind.wrap_u32]; omega
  have HP : Hid (∀ W, Calls Tryz.prog 152 #[.bool (decide (w < n)), .int .u32 17] W fun e W' => e = .panicked (pn 17) ∧ W' = W) := hid (fun W => by rw [decide_eq_false (by omega)]; exact insist_no W 17)
  clear h hn hw
  simp only [ptr] at *
  go_enter Tryz.func163, Tryz.ntmps163
  go_upto_region 1 with fail
  generalize World.alloc _ _ = X at *
  go_wp2_with (first | (go_at_call 25; refine (HM.out _ HD.out).mono ?_; rintro e w1 ⟨rfl, rfl⟩) | (go_at_call 53; refine (HI.out _ HD.out).mono ?_; rintro e w1 ⟨rfl, rfl⟩) | (go_at_call 152; refine (HP.out _).mono ?_; rintro e w1 ⟨rfl, rfl⟩))
  exact ⟨rfl, rfl, B.out⟩
theorem parsed_yes (W : World) (w : Int) (w0 : 0 ≤ w) (w1 : w < 4294967296) (h : gPE w = 0) :
    Calls Tryz.prog 162 #[.int .u32 w] W fun e W' => e = .returned (gP w).v ∧ Below W.heap.size W W' := by
  have B0 := hid (bag_one W 100 Gm.z.cs)
  have HP := hid (fun W => parse_any W w w0 w1)
  rw [h] at HP
  clear h
  generalize gP w = m at *
  obtain ⟨va, wr, ex⟩ := m
  simp only [Gm.v, Gm.z, Gm.cs] at *
  go_enter Tryz.func162, Tryz.ntmps162
  go_upto_region 1 with fail
  generalize World.alloc _ _ = X at *
  generalize hg : W.heap.size = g2 at B0 ⊢
  have HG := hid hg
  clear hg
  go_upto_region 2 with (first | (go_at_call 48; refine (HP.out _).mono ?_; rintro e x1 ⟨rfl, hb⟩; have B1 := hid (B0.out.on hb); clear hb) | (refine wpList_store_st rfl 100 _ _ rfl x1.heap.size [.int .u32 va, .bool wr, .bool ex] rfl rfl (Cel.new x1 100 [.int .u32 0, .bool false, .bool false]) size26 rfl rfl ?_; intro x2 hc hb hs; have B2 := hid (B1.out.add hc hb); have HN : Hid (g2 < x1.heap.size) := hid (B1.out.get 0 rfl).lt; clear hc hb hs))
  generalize x1.heap.size = g3 at *
  go_wp2_with (first | (go_at_call 152; refine (insist_yes _ 6).mono ?_; rintro e w1 ⟨rfl, rfl⟩) | (refine wpList_load_gm rfl 100 _ rfl g3 0 rfl _ _ (B2.out.get 0 rfl).range under26 rfl size26 ?_) | (refine wpList_store_st rfl 100 _ _ rfl g2 [.int .u32 va, .bool wr, .bool ex] rfl rfl (B2.out.get 1 rfl) size26 rfl rfl ?_; intro x5 hcc hb hs; have HC := hid hcc; have BB := hid (below_put B2.out.below (by have := HG.out; omega) hb); clear hcc hb hs))
  exact ret_st rfl rfl g2 _ rfl HC.out under26 rfl size26 ⟨rfl, BB.out⟩
theorem parsed_no (W : World) (w : Int) (w0 : 0 ≤ w) (w1 : w < 4294967296) (h : ¬ gPE w = 0) :
    Calls Tryz.prog 162 #[.int .u32 w] W fun e W' => e = .panicked (pn 6) ∧ Below W.heap.size W W' := by
  have B0 := hid (bag_one W 100 Gm.z.cs)
  have HP := hid (fun W => parse_any W w w0 w1)
  have e2 : (gPE w == 0) = false := by simpa using h
  generalize gPE w = pe at *
  generalize gP w = m at *
  obtain ⟨va, wr, ex⟩ := m
  simp only [Gm.v, Gm.z, Gm.cs] at *
  clear h
  go_enter Tryz.func162, Tryz.ntmps162
  go_upto_region 1 with fail
  generalize World.alloc _ _ = X at *
  generalize hg : W.heap.size = g2 at B0 ⊢
  clear hg
  go_upto_region 2 with (first | (go_at_call 48; refine (HP.out _).mono ?_; rintro e x1 ⟨rfl, hb⟩; have B1 := hid (B0.out.on hb); clear hb) | (refine wpList_store_st rfl 100 _ _ rfl x1.heap.size [.int .u32 va, .bool wr, .bool ex] rfl rfl (Cel.new x1 100 [.int .u32 0, .bool false, .bool false]) size26 rfl rfl ?_; intro x2 hc hb hs; have B2 := hid (B1.out.add hc hb); clear hc hb hs))
  go_wp2_with (first | (go_at_call 152; refine (insist_no _ 6).mono ?_; rintro e w1 ⟨rfl, rfl⟩))
  exact ⟨rfl, rfl, B2.out.below⟩
/-- The code of an index at which there should be nothing. -/
def DS.ntC (d : DS) (s i : Int) : Int := if d.folE s = 0 then (if d.m.word true (d.fst s) i = 0 then 0 else 7) else 21
theorem noTable_any (W : World) (p : Dp) (d : DS) (h : DB W p d) (hU : d.m.U) (s i : Int) :
    Calls Tryz.prog 161 #[stV p s, .int .i64 i] W fun e W' => ∃ d', e = (if d.ntC s i = 0 then .returned (.tuple #[]) else .panicked (pn (d.ntC s i))) ∧ DS.Sim d d' ∧ DB W' p d' ∧ ButL p.f.w W W' := by
  have D0 := hid ((DG.startw h).new 148 (stC p s))
  have HT := hid (fun w (hw : DB w p d) => table_any w p d hw hU s)
  have HM := hid (fun w (hw : DB w p (d.folD s)) => memory_any w p (d.folD s) hw)
  have HF := hid (fun w => sframe_any w (d.tab s))
  have HR := hid (fun w (hw : DB w p (d.folD s)) => read_any w p.f (d.folD s).m hw.mem true (d.tab s) i)
  have HS1 := hid (DS.Sim.folD d s)
  have HS2 := hid ((DS.Sim.folD d s).trans (DS.Sim.read (d.folD s) true (d.tab s) i))
  have hW : (d.folD s).m.word true (d.tab s) i = d.m.word true (d.tab s) i := (DS.Sim.folD d s).word _ _ _
  rw [hW] at HR
  clear hW
  have hT : d.folE s = 0 → d.tab s = d.fst s := fun e => if_pos e
  have hC : d.ntC s i = if d.folE s = 0 then (if d.m.word true (d.fst s) i = 0 then 0 else 7) else 21 := rfl
  have HNS := hid (show ((d.folD s).m.read true (d.tab s) i).ns = (d.folD s).m.ns from MS.read_ns ..)
  clear h hU
  by_cases e1 : d.folE s = 0
  · have hT1 := hT e1
    rw [hC, if_pos e1]
    rw [e1] at HT
    rw [← hT1]
    clear hT hT1 hC e1
    generalize MS.err _ true (d.tab s) i = ee at *
    generalize d.m.word true (d.tab s) i = wd at *
    generalize d.tab s = tb at *
    generalize d.folD s = df at *
    simp only [stV, stC, ptr, fr] at *
    by_cases e2 : wd = 0
    · subst e2
      rw [if_pos rfl, if_pos rfl]
      go_enter Tryz.func161, Tryz.ntmps161
      go_upto_region 1 with fail
      generalize World.alloc _ _ = X at *
      generalize W.heap.size = g2 at *
      have c0 := (D0.out.get 0 rfl).cell 0
      have c1 := (D0.out.get 0 rfl).cell 1
      simp only [List.getElem?_cons_zero, List.getElem?_cons_succ] at c0 c1
      go_wp2_with (first | (go_at_call 212; refine (HT.out _ D0.out.db).mono ?_; rintro e w2 ⟨rfl, hd, hb⟩; have D1 := hid (D0.out.step hd hb (fun _ hk => hk)); have k0 := (D1.out.get 0 rfl).cell 0; simp only [List.getElem?_cons_zero] at k0; clear hd hb c0 c1) | (go_at_call 25; refine (HM.out _ D1.out.db).mono ?_; rintro e w4 ⟨rfl, rfl⟩) | (go_at_call 158; refine (HF.out _).mono ?_; rintro e w5 ⟨rfl, hb⟩; have D2 := hid (D1.out.on hb); clear hb k0) | (go_at_call 171; refine (HR.out _ D2.out.db).mono ?_; rintro e w6 ⟨rfl, hm, hb⟩; have D3 := hid (D2.out.mem hm hb HNS.out); clear hm hb) | (go_at_call 152; refine (insist_yes _ _).mono ?_; rintro e w4 ⟨rfl, rfl⟩))
      go_returns
      exact ⟨_, rfl, HS2.out, D3.out.db, D3.out.but⟩
    · rw [if_neg e2, if_neg (by decide)]
      have e3 : (wd == 0) = false := by simpa using e2
      go_enter Tryz.func161, Tryz.ntmps161
      go_upto_region 1 with fail
      generalize World.alloc _ _ = X at *
      generalize W.heap.size = g2 at *
      have c0 := (D0.out.get 0 rfl).cell 0
      have c1 := (D0.out.get 0 rfl).cell 1
      simp only [List.getElem?_cons_zero, List.getElem?_cons_succ] at c0 c1
      go_wp2_with (first | (go_at_call 212; refine (HT.out _ D0.out.db).mono ?_; rintro e w2 ⟨rfl, hd, hb⟩; have D1 := hid (D0.out.step hd hb (fun _ hk => hk)); have k0 := (D1.out.get 0 rfl).cell 0; simp only [List.getElem?_cons_zero] at k0; clear hd hb c0 c1) | (go_at_call 25; refine (HM.out _ D1.out.db).mono ?_; rintro e w4 ⟨rfl, rfl⟩) | (go_at_call 158; refine (HF.out _).mono ?_; rintro e w5 ⟨rfl, hb⟩; have D2 := hid (D1.out.on hb); clear hb k0) | (go_at_call 171; refine (HR.out _ D2.out.db).mono ?_; rintro e w6 ⟨rfl, hm, hb⟩; have D3 := hid (D2.out.mem hm hb HNS.out); clear hm hb) | (go_at_call 152; first | (refine (insist_yes _ 21).mono ?_; rintro e w4 ⟨rfl, rfl⟩) | (refine (insist_no _ 7).mono ?_; rintro e w4 ⟨rfl, rfl⟩)))
      exact ⟨rfl, _, rfl, HS2.out, D3.out.db, D3.out.but⟩
  · rw [hC, if_neg e1, if_neg (by decide)]
    have e3 : (d.folE s == 0) = false := by simpa using e1
    clear hC hT e1
    generalize d.folE s = fe at *
    generalize d.tab s = tb at *
    generalize d.folD s = df at *
    simp only [stV, stC, ptr, fr] at *
    go_enter Tryz.func161, Tryz.ntmps161
    go_upto_region 1 with fail
    generalize World.alloc _ _ = X at *
    generalize W.heap.size = g2 at *
    have c0 := (D0.out.get 0 rfl).cell 0
    have c1 := (D0.out.get 0 rfl).cell 1
    simp only [List.getElem?_cons_zero, List.getElem?_cons_succ] at c0 c1
    go_wp2_with (first | (go_at_call 212; refine (HT.out _ D0.out.db).mono ?_; rintro e w2 ⟨rfl, hd, hb⟩; have D1 := hid (D0.out.step hd hb (fun _ hk => hk)); clear hd hb c0 c1) | (go_at_call 152; refine (insist_no _ 21).mono ?_; rintro e w4 ⟨rfl, rfl⟩))
    exact ⟨rfl, _, rfl, HS1.out, D1.out.db, D1.out.but⟩
theorem sput_any (W : World) (p : Dp) (d : DS) (h : DB W p d) (hU : d.m.U) (s va : Int) (m : Mp) (v0 : 0 ≤ va) (v1 : va < 4294967296) :
    Calls Tryz.prog 166 #[stV p s, .agg #[.int .u32 va, .bool m.wr, .bool m.ex], fr m.s m.p] W fun e W' => e = .returned (.tuple #[]) ∧ DB W' p (d.put s va m) ∧ ButL p.f.w W W' := by
  have D0 := hid ((((DG.startw h).new 148 (stC p s)).new 100 [.int .u32 va, .bool m.wr, .bool m.ex]).new 82 [.bool m.s, .int .i64 m.p])
  have HP := hid (fun w (hw : DB w p d) => put_any w p d hw hU s va m v0 v1)
  clear h hU v0 v1
  generalize d.putE s va m = pe at *
  generalize d.put s va m = dp at *
  obtain ⟨ms, mp, mw, mx⟩ := m
  simp only [stV, stC, ptr, fr, Mp.v] at *
  go_enter Tryz.func166, Tryz.ntmps166
  go_upto_region 1 with fail
  generalize ((World.alloc _ _).alloc _).alloc _ = X at *
  simp only [World.size_alloc] at D0
  generalize W.heap.size = g2 at *
  have c0 := (D0.out.get 2 rfl).cell 0
  have c1 := (D0.out.get 2 rfl).cell 1
  have c2 := (D0.out.get 1 rfl).cell 0
  have c3 := (D0.out.get 1 rfl).cell 1
  have c4 := (D0.out.get 1 rfl).cell 2
  simp only [List.getElem?_cons_zero, List.getElem?_cons_succ] at c0 c1 c2 c3 c4
  go_wp2_with (first | (refine wpList_load_gm rfl 82 _ rfl (g2 + 1 + 1) 0 rfl _ _ (D0.out.get 0 rfl).range under82 rfl size82 ?_) | (refine wpList_build_f rfl 108 _ rfl _ rfl _ (built108 ms mp mw mx) ?_) | (go_at_call 52; refine (HP.out _ D0.out.db).mono ?_; rintro e w2 ⟨rfl, hd, hb⟩; have D1 := hid (D0.out.step hd hb (fun _ hk => hk)); clear hd hb c0 c1 c2 c3 c4))
  go_returns
  exact ⟨rfl, D1.out.db, D1.out.but⟩
end Go.Proofs.YtllcbgdcepfdkaaGreatDoor
