import Derived.Test.YtdfnbcbnmiohnaaGreatDoorP37
import Derived.Test.YtdfnbcbnmiohnaaGreatDoorP01
import Derived.Test.YtdfnbcbnmiohnaaGreatDoorP31
import Derived.Test.YtdfnbcbnmiohnaaGreatDoorP39
import Derived.OwnWalk
namespace Go.Proofs.YtdfnbcbnmiohnaaGreatDoor
open Go.RowKit
set_option maxHeartbeats 8000000
set_option maxRecDepth 100000
theorem rpage_any (W : World) (p : Rp) (d : DS) (h : RDB W p d) (w : Int) (w0 : 0 ≤ w) (w1 : w < 4294967296) :
    Calls Tryz.prog 123 #[ptr p.g, .int .u32 w] W fun e W' => e = .returned (.int .i64 (if w < (d.m.ns : Int) then w else -1)) ∧ W = W' := by
  have HP := hid (rpages_any W p d h)
  have kx : IntKind.wrap .i64 w = w := by rw [IntKind.wrap_i64]; omega
  have kw : wrap64 w = w := by unfold wrap64; omega
  clear h
  simp only [ptr] at *
  generalize (d.m.ns : Int) = n at *
  by_cases hw : w < n
  · rw [if_pos hw]
    have hw' : ¬ (n ≤ w) := by omega
    go_enter Tryz.func123, Tryz.ntmps123
    go_wp2_with (go_at_call 88; refine HP.out.mono ?_; rintro e w2 ⟨rfl, hw⟩; subst hw)
    go_ret
    exact ⟨rfl, rfl⟩
  · rw [if_neg hw]
    have hw' : n ≤ w := by omega
    go_enter Tryz.func123, Tryz.ntmps123
    go_wp2_with (go_at_call 88; refine HP.out.mono ?_; rintro e w2 ⟨rfl, hw⟩; subst hw)
    go_ret
    exact ⟨rfl, rfl⟩
theorem saE_yes {d : DS} {w : Int} (h : d.saE w = 0) : w < (d.m.ns : Int) ∧ (d.ent w).t = 1 := by
  unfold DS.saE at h
  split at h
  · split at h
    · exact ⟨by assumption, by assumption⟩
    · cases h
  · cases h
def DS.sp1 (d : DS) (w : Int) : Int := if d.saE w = 0 then w else 0
def DS.sp2 (d : DS) (w : Int) : Int := if d.saE w = 0 then (d.ent w).s else 0
theorem rspace_any (W : World) (p : Rp) (d : DS) (h : RDB W p d) (w : Int) (w0 : 0 ≤ w) (w1 : w < 4294967296) :
    Calls Tryz.prog 122 #[ptr p.g, .int .u32 w] W fun e W' => e = .returned (.tuple #[.int .i64 (d.sp1 w), .int .i64 (d.sp2 w), .int .i64 (d.saE w)]) ∧ Below W.heap.size W W' := by
  have HX := hid h
  have HP := hid (fun u (hw : RDB u p d) => rpage_any u p d hw w w0 w1)
  have HE := hid (fun u (hw : RDB u p d) => rentry_any u p d hw w)
  by_cases hw : w < (d.m.ns : Int)
  rotate_left
  · have hE : d.saE w = 1 := by unfold DS.saE; rw [if_neg hw]
    have h1 : d.sp1 w = 0 := by unfold DS.sp1; rw [hE]; rfl
    have h2 : d.sp2 w = 0 := by unfold DS.sp2; rw [hE]; rfl
    rw [hE, h1, h2]
    rw [if_neg hw] at HP
    clear hE h1 h2 h hw HE
    simp only [ptr] at *
    go_enter Tryz.func122, Tryz.ntmps122
    go_wp2_with (go_at_call 123; refine (HP.out _ HX.out).mono ?_; rintro e1 wx ⟨rfl, hw⟩; subst hw)
    go_ret3
    exact ⟨rfl, Below.refl _ _⟩
  rw [if_pos hw] at HP
  have q0 : ¬ (w < 0) := by omega
  by_cases ht : (d.ent w).t = 1
  · have hE : d.saE w = 0 := by unfold DS.saE; rw [if_pos hw, if_pos ht]
    have h1 : d.sp1 w = w := by unfold DS.sp1; rw [hE]; rfl
    have h2 : d.sp2 w = (d.ent w).s := by unfold DS.sp2; rw [hE]; rfl
    rw [hE, h1, h2]
    clear hE h1 h2 h hw
    generalize d.ent w = D at *
    obtain ⟨t', o, r, s, e⟩ := D
    simp only at ht
    subst ht
    simp only [ptr, En.v, En.cs] at *
    go_enter Tryz.func122, Tryz.ntmps122
    go_upto_region 5 with (first | (go_at_call 123; refine (HP.out _ HX.out).mono ?_; rintro e1 wx ⟨rfl, hw⟩; subst hw) | (go_at_call 80; refine (HE.out _ HX.out).mono ?_; rintro e1 w2 ⟨rfl, hb⟩; have B1 := hid hb; clear hb))
    have C1 := hid (And.intro (Cel.new w2 144 [.int .i64 1, .int .i64 o, .int .i64 r, .int .i64 s, .bool e]) (below_on B1.out (below_one w2 (.cells [.int .i64 1, .int .i64 o, .int .i64 r, .int .i64 s, .bool e].toArray 144))))
    simp only [List.toArray] at C1
    generalize World.alloc _ _ = w3 at *
    generalize w2.heap.size = g8 at *
    clear B1
    have y0 : w3.cell? ⟨g8, 0, none⟩ = some (.int .i64 1) := C1.out.1.cell 0
    go_upto_region 7 with fail
    have C2 := hid (And.intro (C1.out.1.on (Below.refl _ _).drew) (below_on C1.out.2 (Below.refl _ _).drew))
    clear C1 y0
    refine wp_region_held_drew (S := fun w => w.cell? ⟨g8, 3, none⟩ = some (.int .i64 s)) (by kernel_rfl) (C2.out.1.cell 3) (fun hHeld => ?_)
    refine tk 0 (some 24) (.int .i64 w) ?_
    simp only [Act.put, tqA, tqZ, tqS]
    refine tk 1 (some 25) (.pointer (some ⟨g8, 3, none⟩)) ?_
    simp only [Act.put, tqA, tqZ, tqS]
    refine tk 2 (some 26) (.int .i64 s) ?_ (hy := Or.inl ⟨by rfl, by intro w hSw; have hc := hSw; go_simp⟩)
    simp only [Act.put, tqA, tqZ, tqS]
    refine wpAnyH_ready (rs := [3]) (by kernel_rfl) (by simp) (AllReadyH.cons rfl (fun KQ hK => ?_) AllReadyH.nil)
    go_simp
    refine hK.out _ _ (C2.out.1.cell 3) (fun hHeld => ?_)
    clear hK KQ
    try simp only [Act.put, tqA, tqZ, tqS]
    refine wpAnyH_ready (rs := [4]) (by kernel_rfl) (by simp) (AllReadyH.cons rfl (fun KQ hK => ?_) AllReadyH.nil)
    go_simp
    refine hK.out _ _ (C2.out.1.cell 3) (fun hHeld => ?_)
    clear hK KQ
    try simp only [Act.put, tqA, tqZ, tqS]
    refine wpAnyH_ready (rs := [5]) (by kernel_rfl) (by simp) (AllReadyH.cons rfl (fun KQ hK => ?_) AllReadyH.nil)
    go_simp
    refine hK.out _ _ (C2.out.1.cell 3) (fun hHeld => ?_)
    clear hK KQ
    try simp only [Act.put, tqA, tqZ, tqS]
    refine wpAnyH_done (by kernel_rfl) ?_ _
    go_wp2_with fail
    go_ret3
    exact ⟨rfl, C2.out.2⟩
  · have hE : d.saE w = 3 := by unfold DS.saE; rw [if_pos hw, if_neg ht]
    have h1 : d.sp1 w = 0 := by unfold DS.sp1; rw [hE]; rfl
    have h2 : d.sp2 w = 0 := by unfold DS.sp2; rw [hE]; rfl
    rw [hE, h1, h2]
    clear hE h1 h2 h hw
    generalize d.ent w = D at *
    obtain ⟨t', o, r, s, e⟩ := D
    simp only at ht
    have ht' : (t' != 1) = true := by simpa using ht
    clear ht
    simp only [ptr, En.v, En.cs] at *
    go_enter Tryz.func122, Tryz.ntmps122
    go_upto_region 5 with (first | (go_at_call 123; refine (HP.out _ HX.out).mono ?_; rintro e1 wx ⟨rfl, hw⟩; subst hw) | (go_at_call 80; refine (HE.out _ HX.out).mono ?_; rintro e1 w2 ⟨rfl, hb⟩; have B1 := hid hb; clear hb))
    have C1 := hid (And.intro (Cel.new w2 144 [.int .i64 t', .int .i64 o, .int .i64 r, .int .i64 s, .bool e]) (below_on B1.out (below_one w2 (.cells [.int .i64 t', .int .i64 o, .int .i64 r, .int .i64 s, .bool e].toArray 144))))
    simp only [List.toArray] at C1
    generalize World.alloc _ _ = w3 at *
    generalize w2.heap.size = g8 at *
    clear B1
    have y0 : w3.cell? ⟨g8, 0, none⟩ = some (.int .i64 t') := C1.out.1.cell 0
    go_wp2_with fail
    go_ret3
    exact ⟨rfl, C1.out.2⟩
theorem rstop_any (W : World) (p : Rp) (d : DS) (h : RDB W p d) (w : Int) (w0 : 0 ≤ w) (w1 : w < 4294967296) :
    Calls Tryz.prog 78 #[ptr p.g, .int .u32 w] W fun e W' => e = .returned (.int .i64 (d.saE w)) ∧ RG W W' p p (d.stD w) := by
  have HX := hid h
  have HA := hid (rspace_any W p d h w w0 w1)
  have HS := hid (fun u (hw : RDB u p d) => rsetState_any u p d hw w 3)
  unfold DS.stD
  rcases saE_cases d w with hE | hE | hE
  · have h1 : d.sp1 w = w := by unfold DS.sp1; rw [hE]; rfl
    rw [hE, h1] at HA
    rw [hE, if_pos rfl]
    clear h hE h1
    simp only [ptr] at *
    generalize d.sp2 w = s2 at *
    go_enter Tryz.func78, Tryz.ntmps78
    go_wp2_with (first | (go_at_call 122; refine HA.out.mono ?_; rintro e1 w2 ⟨rfl, hb⟩; have B1 := hid hb; clear hb) | (go_at_call 126; refine (HS.out _ (HX.out.on B1.out)).mono ?_; rintro e1 w3 ⟨rfl, hg⟩; have G3 := hid (RG.pre B1.out hg); clear hg))
    go_ret
    exact ⟨rfl, G3.out⟩
  all_goals
    rw [hE] at HA
    rw [hE, if_neg (by decide)]
    clear h hE HS
    simp only [ptr] at *
    generalize d.sp1 w = s1 at *
    generalize d.sp2 w = s2 at *
    go_enter Tryz.func78, Tryz.ntmps78
    go_wp2_with (go_at_call 122; refine HA.out.mono ?_; rintro e1 w2 ⟨rfl, hb⟩; have B1 := hid hb; clear hb)
    go_ret
    exact ⟨rfl, (RG.start HX.out).on B1.out⟩
end Go.Proofs.YtdfnbcbnmiohnaaGreatDoor
namespace Go.Proofs.YtdfnbcbnmiohnaaGreatDoor
open Go.RowKit
set_option maxRecDepth 100000
set_option maxHeartbeats 8000000
attribute [-simp] Tryz.isAgg44 Tryz.sizeOf44 Tryz.zeroValue44 Tryz.isAgg55 Tryz.sizeOf55 Tryz.zeroValue55
def tkO (c : Int) : Nat → Int
  | 0 => c
  | n + 1 => wrap64 (tkO c n + 1)
theorem tk_add (c : Int) (a : Nat) : ∀ b, tkO (tkO c a) b = tkO c (a + b)
  | 0 => rfl
  | b + 1 => by show wrap64 (tkO (tkO c a) b + 1) = wrap64 (tkO c (a + b) + 1); rw [tk_add c a b]
structure SimN (d d' : DS) (n : Nat) : Prop where
  sim : DS.Sim d d'
  c : d'.m.c = tkO d.m.c n
theorem SimN.refl (d : DS) : SimN d d 0 := ⟨.refl d, rfl⟩
theorem at_yes {m : MS} {s : Int} (s0 : 0 ≤ s) (s1 : s < (m.ns : Int)) : m.at true s = some s.toNat := by
  unfold MS.at
  rw [if_pos s0, if_pos rfl, if_pos s1]
theorem SimN.read {d e : DS} {j : Nat} (h : SimN d e j) {s : Int} (s0 : 0 ≤ s) (s1 : s < (d.m.ns : Int)) (off : Int) (ho : In off) : SimN d { e with m := e.m.read true s off } (j + 1) := by
  refine ⟨h.sim.trans (DS.Sim.read _ true s off), ?_⟩
  show (e.m.read true s off).c = wrap64 (tkO d.m.c j + 1)
  unfold MS.read
  rw [at_yes s0 (by rw [h.sim.ns]; exact s1)]
  simp only
  rw [if_pos ho, ← h.c]
  rfl
theorem wr_c {d : DS} {s : Int} (s0 : 0 ≤ s) (s1 : s < (d.m.ns : Int)) (off v : Int) (ho : In off) : (d.wr s off v).m.c = wrap64 (d.m.c + 1) := by
  show (d.m.write true s off v).c = _
  unfold MS.write
  rw [at_yes s0 s1]
  simp only
  rw [if_pos ho]
  rfl
theorem wr_ns (d : DS) (s off v : Int) : (d.wr s off v).m.ns = d.m.ns := MS.write_ns ..
theorem lay8_c {d : DS} {s : Int} (s0 : 0 ≤ s) (s1 : s < (d.m.ns : Int)) (L : List Int) : ∀ j, j ≤ 8 → (d.lay8 s L j).m.c = tkO d.m.c j ∧ (d.lay8 s L j).m.ns = d.m.ns
  | 0, _ => ⟨rfl, rfl⟩
  | j + 1, hj => by
    obtain ⟨h1, h2⟩ := lay8_c s0 s1 L j (by omega)
    refine ⟨?_, (wr_ns ..).trans h2⟩
    show ((d.lay8 s L j).wr s (3 + (j : Int)) (L.getD j 0)).m.c = _
    rw [wr_c s0 (by rw [h2]; exact s1) _ _ ⟨by omega, by omega⟩, h1]
    rfl
theorem dig_c {d : DS} {s : Int} (s0 : 0 ≤ s) (s1 : s < (d.m.ns : Int)) (L : List Int) : ∀ j, j ≤ 26 → (d.dig s L j).m.c = tkO d.m.c j ∧ (d.dig s L j).m.ns = d.m.ns
  | 0, _ => ⟨rfl, rfl⟩
  | j + 1, hj => by
    obtain ⟨h1, h2⟩ := dig_c s0 s1 L j (by omega)
    refine ⟨?_, (wr_ns ..).trans h2⟩
    show ((d.dig s L j).wr s (11 + (j : Int)) (L.getD j 0)).m.c = _
    rw [wr_c s0 (by rw [h2]; exact s1) _ _ ⟨by omega, by omega⟩, h1]
    rfl
theorem msr_c {d : DS} {s : Int} (s0 : 0 ≤ s) (s1 : s < (d.m.ns : Int)) (L : List Int) : (d.msr s L).m.c = tkO d.m.c 34 := by
  obtain ⟨h1, h2⟩ := lay8_c s0 s1 L 8 (Nat.le_refl _)
  show ((d.lay8 s L 8).dig s zz 26).m.c = _
  rw [(dig_c s0 (by rw [h2]; exact s1) zz 26 (Nat.le_refl _)).1, h1, tk_add]
theorem state_m (d : DS) (q s : Int) : (d.state q s).m = d.m := by
  unfold DS.state
  split
  · rfl
  · rfl
theorem finished_m (W : World) (p : Dp) (d : DS) (h : DB W p d) (hU : d.m.U) (hG : Gl W p) (s : Int) (s0 : 0 ≤ s) (s1 : s < (d.m.ns : Int)) :
    Calls Tryz.prog 63 #[ptr p.g, .int .i64 s] W fun e W' => ∃ d', e = .returned (.tuple #[.agg (u32s (d.fnL s)).toArray, .int .i64 (d.fnE s)]) ∧ SimN d d' 26 ∧ DB W' p d' ∧ ButL p.f.w W W' := by
  obtain ⟨Z, hZ⟩ : ∃ Z : List Int, Z = List.replicate 26 0 := ⟨_, rfl⟩
  have hZl : Z.length = 26 := by rw [hZ]; simp
  have hz : ∀ w, (zeroValue 44).run Tryz.prog w = .ok (.agg (Z.map (Value.int .u32)).toArray) w := fun w => by rw [Tryz.zeroValue44, hZ]; rfl
  clear hZ
  obtain ⟨Y, hY⟩ : ∃ Y : List Int, Y = List.replicate 8 0 := ⟨_, rfl⟩
  have hYl : Y.length = 8 := by rw [hY]; simp
  have hy : ∀ w, (zeroValue 55).run Tryz.prog w = .ok (.agg (Y.map (Value.int .u32)).toArray) w := fun w => by rw [Tryz.zeroValue55, hY]; rfl
  clear hY
  have D0 := hid ((DG.start h p.f.w (fun k hk => h.mem.lt k (Fp.w_all hk))).add (ds := u32s Y) (Cel.new W 55 (u32s Y)) (.refl _ _))
  have HSt := hid (fun w => Q.start_any w)
  have hSl : (H.saveOf []).length = 26 := H.saveOf_length _
  have HRd := hid (fun w d' (hs : DS.Sim d d') (hw : DB w p d') (off : Int) => (read_any w p.f d'.m hw.mem true s off))
  have HMm := hid (fun w d' (hw : DB w p d') => memory_any w p d' hw)
  have HFr := hid (fun w => lsecure_any w s)
  have hL := d.st_length s
  have HGt := hid (fun j hj => d.st_get s j hj)
  have HX := hid (fun (w : World) (hw : Gl w p) => finish_fn w d s hU hw.tab hw.sz)
  have hFl := fnL_len d s
  have HGl := hid hG
  have HS0 := hid (SimN.refl d)
  have HT := hid (And.intro s0 s1)
  have HWF := hid (fun k (hk : k ∈ p.f.w) => (show k ∈ p.all from by simp only [Dp.all, List.mem_cons]; exact Or.inr (Or.inr (Fp.w_all hk))))
  have HWd := hid (fun e (he : DS.Sim d e) (j : Nat) => he.word true s (11 + (j : Int)))
  clear h hU hG s0 s1
  generalize H.saveOf [] = S0 at *
  generalize d.fnL s = FL at *
  generalize d.fnE s = FE at *
  generalize d.st s = S at *
  simp only [ptr, fr, H.Ag] at *
  go_enter Tryz.func63, Tryz.ntmps63
  go_upto_region 1 with fail
  have D0' : Hid (DG W (W.alloc (Obj.cells (List.map (Value.int IntKind.u32) Y).toArray 55)) p d p.f.w [(W.heap.size, 55, u32s Y)]) := D0
  clear D0
  generalize World.alloc _ _ = X at *
  generalize hg2 : W.heap.size = g4 at D0' ⊢
  have HG2 := hid hg2
  clear hg2
  go_upto_region 3 with (first | (go_at_call 17; refine (HSt.out _).mono ?_; rintro e w1 ⟨rfl, hb⟩; have D1 := hid (D0'.out.on hb); clear hb) | (refine wpList_store_st rfl 44 _ _ rfl w1.heap.size (u32s S0) rfl rfl (Cel.new w1 44 (u32s Z)) (by rw [u32s, List.length_map, hSl]; exact size44) (by simp [u32s, hZl, hSl]) (List.all_eq_true.2 (fun v hv => by simp only [u32s, List.mem_map] at hv; obtain ⟨x, _, rfl⟩ := hv; rfl)) ?_; intro w2 hc hb hs; have D2 := hid (D1.out.add hc hb); have HN : Hid (g4 < w1.heap.size) := hid (D1.out.get 0 rfl).lt; clear hc hb hs))
  generalize w1.heap.size = g6 at *
  clear D0' D1 HSt
  go_loopw [9] (fun i wr => ∃ j : Nat, j ≤ 26 ∧ i = .int .i64 (j : Int) ∧ Hid (∃ d', SimN d d' j ∧ DG W wr p d' p.f.w [(g6, 44, u32s (mix S S0 j)), (g4, 55, u32s Y)])) (fun i _ => 26 - (intOf i).toNat)
  case atStart => exact ⟨0, Nat.zero_le _, rfl, hid ⟨d, HS0.out, by rw [mix_zero]; exact D2.out⟩⟩
  case round =>
    obtain ⟨j, hj, rfl, HQ⟩ := hrel
    clear D2
    by_cases hlt : j < 26
    · have q1 : (j : Int) < 26 := by omega
      have kw : IntKind.wrap .i64 (11 + (j : Int)) = 11 + (j : Int) := by rw [IntKind.wrap_i64]; omega
      have kw2 : IntKind.wrap .i64 ((j : Int) + 1) = (j : Int) + 1 := by rw [IntKind.wrap_i64]; omega
      have HJ := hid hlt
      have HG1 := hid (HGt.out j hlt)
      clear hlt hj
      obtain ⟨d1, hs1, hD⟩ := HQ.out
      have E0 := hid hD
      have S1 := hid hs1
      have HW1 := hid (HWd.out d1 hs1.sim j)
      clear HQ hs1 hD
      generalize d.m.word true s (11 + (j : Int)) = wd at *
      go_upto_region 5 with fail
      go_wp2_with (first | (go_at_call 28; refine (HMm.out _ _ E0.out.db).mono ?_; rintro e w4 ⟨rfl, rfl⟩) | (go_at_call 112; refine (HFr.out _).mono ?_; rintro e w4 ⟨rfl, hb⟩; have E2 := hid (E0.out.on hb); clear hb) | (go_at_call 111; refine (HRd.out _ _ S1.out.sim E2.out.db _).mono ?_; rintro e w5 ⟨rfl, hm, hb⟩; have E3 := hid (E2.out.mem hm hb (MS.read_ns ..)); have S2 := hid (S1.out.read HT.out.1 HT.out.2 (11 + (j : Int)) ⟨by omega, by have := HJ.out; omega⟩); clear hm hb E2 S1; rw [HW1.out]; obtain ⟨y, z0⟩ := mix_cell (E3.out.get 0 rfl) (by have := HJ.out; omega) (by omega); have z1 := (E3.out.get 0 rfl).free j))
      have E4 := hid (E3.out.put (fun q hq => by simp only [List.mem_cons, List.not_mem_nil, or_false] at hq; subst hq; have := HN.out; simp only; omega) ((E3.out.get 0 rfl).setCell j (.int .u32 wd)) (.setCell _ _ _ _ (by simp)))
      rw [mix_set S S0 j wd (by have := HJ.out; omega) (by omega) HG1.out] at E4
      exact ⟨⟨j + 1, HJ.out, by simp, hid ⟨_, S2.out, E4.out⟩⟩, by have := HJ.out; simp [intOf]; omega⟩
    · have hj' : j = 26 := by omega
      subst hj'
      clear hlt hj HWd HGt HRd HMm HFr
      obtain ⟨d1, hs1, hD⟩ := HQ.out
      have hmx : mix S S0 26 = S := by have := mix_all S S0 (by omega); rw [hL] at this; exact this
      rw [hmx] at hD
      have E0 := hid hD
      have S1 := hid hs1
      have HG0 := hid (HGl.out.step hD.but HWF.out)
      have HP := hid (fun w (hb : Below wr.heap.size wr w) => HX.out w (HG0.out.on hb))
      clear HQ hD hs1 hmx
      go_upto_region 7 with fail
      go_wp2_with (first | (refine wpList_load_mid rfl 44 _ rfl g6 0 rfl _ _ (E0.out.get 0 rfl).range under44 rfl (by rw [size44]; simp [u32s, hL]) ?_) | (go_at_call 113; refine (HP.out _ (Below.refl _ _)).mono ?_; rintro e w5 ⟨rfl, hb⟩; have E1 := hid (E0.out.on hb); clear hb) | (refine wpList_store_st rfl 55 _ _ rfl g4 (u32s FL) rfl rfl (E1.out.get 1 rfl) (by rw [u32s, List.length_map, hFl]; exact size55) (by simp [u32s, hYl, hFl]) (List.all_eq_true.2 (fun v hv => by simp only [u32s, List.mem_map] at hv; obtain ⟨x, _, rfl⟩ := hv; rfl)) ?_; intro w6 hc hb hs; have HF := hid (And.intro hc (And.intro (E1.out.db.frame hb (fun k hk hm => by have h1 := E1.out.old k hk; have h2 := HG2.out; simp only [List.mem_singleton] at hm; omega)) (E1.out.but.trans' hb (by have := HG2.out; omega)))); clear hc hb hs))
      exact ret_st2 rfl rfl g4 _ rfl HF.out.1 under55 rfl (by rw [size55]; simp [u32s, hFl]) ⟨d1, rfl, S1.out, HF.out.2.1, HF.out.2.2⟩
theorem final_m (W : World) (p : Dp) (d : DS) (h : DB W p d) (hU : d.m.U) (hG : Gl W p) (w : Int) (w0 : 0 ≤ w) (w1 : w < 4294967296) :
    Calls Tryz.prog 23 #[ptr p.g, .int .u32 w] W fun e W' => ∃ d', e = .returned (.int .u32 (d.fiC w)) ∧ DS.Sim (d.fiD w) d' ∧ (d.fiC w = 0 → d'.m.c = tkO d.m.c 60) ∧ DB W' p d' ∧ ButL p.w W W' := by
  have D0 := hid (DG.start h p.w h.wlt)
  have HA := hid (spaceAt_any W p d h w w0)
  have kx : IntKind.wrap .i64 w = w := by rw [IntKind.wrap_i64]; omega
  have kw : wrap64 w = w := by unfold wrap64; omega
  have hc := saE_cases d w
  have HGl := hid (fun u L (k : DG W u p d p.w L) => hG.step k.but p.w_all')
  have hFl := fnL_len d w
  have HLa := hid (fun u e (hw : DB u p e) => layM_any u p e hw w (d.fnL w) hFl)
  have HSs := hid (fun u e (hw : DB u p e) => setState_any u p e hw w 2)
  obtain ⟨Y, hY⟩ : ∃ Y : List Int, Y = List.replicate 8 0 := ⟨_, rfl⟩
  have hYl : Y.length = 8 := by rw [hY]; simp
  have hy : ∀ w, (zeroValue 55).run Tryz.prog w = .ok (.agg (Y.map (Value.int .u32)).toArray) w := fun w => by rw [Tryz.zeroValue55, hY]; rfl
  have HUG := hid (And.intro hU w0)
  clear hY h hG hU w0 w1
  by_cases hC : d.saE w = 0
  rotate_left
  · have h1 : d.fiC w = d.saE w := by unfold DS.fiC; rw [if_pos hC]
    have h2 : d.fiD w = d := by unfold DS.fiD; rw [h1, if_neg hC]
    rw [h1, h2]
    clear h1 h2 HLa HSs hFl hYl hy
    have HS0 := hid (DS.Sim.refl d)
    have hC' : (d.saE w != 0) = true := by simpa using hC
    generalize d.saV w = X at *
    generalize d.saE w = C at *
    obtain ⟨xt, xo, xr, xs, xx⟩ := X
    clear hC hc
    simp only [ptr, En.v, En.cs] at *
    go_enter Tryz.func23, Tryz.ntmps23
    go_upto_region 2 with (first | (go_at_call 61; refine HA.out.mono ?_; rintro e u1 ⟨rfl, hb⟩; have D1 := hid (D0.out.on hb); clear hb) | (refine wpList_store_st rfl 30 _ _ rfl u1.heap.size [.int .i64 xt, .int .i64 xo, .int .i64 xr, .int .i64 xs, .bool xx] rfl rfl (Cel.new u1 30 En.zero.cs) sizeE rfl rfl ?_; intro u2 hc hb hs; have D2 := hid (D1.out.add hc hb); clear hc hb hs))
    go_wp2_with fail
    go_ret
    exact ⟨d, rfl, HS0.out, fun h => absurd h (by simpa using hC'), D2.out.db, D2.out.but⟩
  have hws : w < (d.m.ns : Int) := (saE_yes hC).1
  have HFi := hid (fun u (hw : DB u p d) (hg : Gl u p) => finished_m u p d hw HUG.out.1 hg w HUG.out.2 hws)
  have hV : d.saV w = d.ent w := by unfold DS.saV; rw [if_pos hC]
  rw [hV, hC] at HA
  have hS : d.fiC w = if (d.ent w).s = 1 then (if d.fnE w = 0 then 0 else 4) else 4 := by unfold DS.fiC; rw [if_neg (by simp [hC])]
  clear hV hc
  by_cases hs : (d.ent w).s = 1
  rotate_left
  · have h1 : d.fiC w = 4 := by rw [hS, if_neg hs]
    have h2 : d.fiD w = d := by unfold DS.fiD; rw [h1]; rfl
    rw [h1, h2]
    clear h1 h2 HFi HLa HSs hFl hYl hy hS hC hws
    have HS0 := hid (DS.Sim.refl d)
    generalize d.ent w = X at *
    obtain ⟨xt, xo, xr, xs, xx⟩ := X
    simp only at hs
    have hs' : (xs != 1) = true := by simpa using hs
    clear hs
    simp only [ptr, En.v, En.cs] at *
    go_enter Tryz.func23, Tryz.ntmps23
    go_upto_region 2 with (first | (go_at_call 61; refine HA.out.mono ?_; rintro e u1 ⟨rfl, hb⟩; have D1 := hid (D0.out.on hb); clear hb) | (refine wpList_store_st rfl 30 _ _ rfl u1.heap.size [.int .i64 xt, .int .i64 xo, .int .i64 xr, .int .i64 xs, .bool xx] rfl rfl (Cel.new u1 30 En.zero.cs) sizeE rfl rfl ?_; intro u2 hc hb hs; have D2 := hid (D1.out.add hc hb); clear hc hb hs))
    have c3 := (D2.out.get 0 rfl).cell 3
    simp only [tqG, tqH] at c3
    go_wp2_with fail
    go_ret
    exact ⟨d, rfl, HS0.out, fun h => absurd h (by decide), D2.out.db, D2.out.but⟩
  by_cases hf : d.fnE w = 0
  rotate_left
  · have h1 : d.fiC w = 4 := by rw [hS, if_pos hs, if_neg hf]
    have h2 : d.fiD w = d := by unfold DS.fiD; rw [h1]; rfl
    have hf' : d.fnE w = 20 := (fnE_cases d w).resolve_left hf
    rw [h1, h2]
    rw [hf'] at HFi
    clear h1 h2 hS hC hf hf' HLa HSs hws
    generalize d.ent w = X at *
    generalize d.fnL w = FL at *
    obtain ⟨xt, xo, xr, xs, xx⟩ := X
    simp only at hs
    subst hs
    simp only [ptr, En.v, En.cs] at *
    go_enter Tryz.func23, Tryz.ntmps23
    go_upto_region 2 with (first | (go_at_call 61; refine HA.out.mono ?_; rintro e u1 ⟨rfl, hb⟩; have D1 := hid (D0.out.on hb); clear hb) | (refine wpList_store_st rfl 30 _ _ rfl u1.heap.size [.int .i64 xt, .int .i64 xo, .int .i64 xr, .int .i64 1, .bool xx] rfl rfl (Cel.new u1 30 En.zero.cs) sizeE rfl rfl ?_; intro u2 hc hb hs; have D2 := hid (D1.out.add hc hb); clear hc hb hs))
    have c3 := (D2.out.get 0 rfl).cell 3
    simp only [tqG, tqH] at c3
    go_upto_region 7 with (first | (go_at_call 63; refine (HFi.out _ D2.out.db (HGl.out _ _ D2.out)).mono ?_; rintro e u3 ⟨d1, rfl, hS, hd, hb⟩; have D3 := hid (D2.out.step hd hb p.fw_w); have S3 := hid hS; clear hd hb hS c3) | (refine wpList_store_st rfl 55 _ _ rfl u3.heap.size (u32s FL) rfl rfl (Cel.new u3 55 (u32s Y)) (by rw [u32s, List.length_map, hFl]; exact size55) (by simp [u32s, hYl, hFl]) (List.all_eq_true.2 (fun v hv => by simp only [u32s, List.mem_map] at hv; obtain ⟨x, _, rfl⟩ := hv; rfl)) ?_; intro u4 hc hb hs; have D4 := hid (D3.out.add hc hb); clear hc hb hs))
    go_wp2_with fail
    go_ret
    exact ⟨d1, rfl, S3.out.sim, fun h => absurd h (by decide), D4.out.db, D4.out.but⟩
  have h1 : d.fiC w = 0 := by rw [hS, if_pos hs, if_pos hf]
  have h2 : d.fiD w = (d.msr w (d.fnL w)).state w 2 := by unfold DS.fiD; rw [h1]; rfl
  rw [h1, h2]
  rw [hf] at HFi
  have HTh := hid (And.intro HUG.out.2 hws)
  clear hws
  have HSm := hid (fun e (hs : DS.Sim d e) => (hs.msr w (d.fnL w)).state w 2)
  clear h1 h2 hS hC hf
  generalize (d.msr w (d.fnL w)).state w 2 = fin at *
  generalize d.ent w = X at *
  generalize d.fnL w = FL at *
  obtain ⟨xt, xo, xr, xs, xx⟩ := X
  simp only at hs
  subst hs
  simp only [ptr, En.v, En.cs] at *
  go_enter Tryz.func23, Tryz.ntmps23
  go_upto_region 2 with (first | (go_at_call 61; refine HA.out.mono ?_; rintro e u1 ⟨rfl, hb⟩; have D1 := hid (D0.out.on hb); clear hb) | (refine wpList_store_st rfl 30 _ _ rfl u1.heap.size [.int .i64 xt, .int .i64 xo, .int .i64 xr, .int .i64 1, .bool xx] rfl rfl (Cel.new u1 30 En.zero.cs) sizeE rfl rfl ?_; intro u2 hc hb hs; have D2 := hid (D1.out.add hc hb); clear hc hb hs))
  have c3 := (D2.out.get 0 rfl).cell 3
  simp only [tqG, tqH] at c3
  go_upto_region 7 with (first | (go_at_call 63; refine (HFi.out _ D2.out.db (HGl.out _ _ D2.out)).mono ?_; rintro e u3 ⟨d1, rfl, hS, hd, hb⟩; have D3 := hid (D2.out.step hd hb p.fw_w); have S3 := hid hS; clear hd hb hS c3) | (refine wpList_store_st rfl 55 _ _ rfl u3.heap.size (u32s FL) rfl rfl (Cel.new u3 55 (u32s Y)) (by rw [u32s, List.length_map, hFl]; exact size55) (by simp [u32s, hYl, hFl]) (List.all_eq_true.2 (fun v hv => by simp only [u32s, List.mem_map] at hv; obtain ⟨x, _, rfl⟩ := hv; rfl)) ?_; intro u4 hc hb hs; have D4 := hid (D3.out.add hc hb); clear hc hb hs))
  generalize u3.heap.size = g7 at *
  have HLb := hid (fun u (hw : DB u p d1) => HLa.out u d1 hw)
  have HSb := hid (fun u (hw : DB u p (d1.msr w FL)) => HSs.out u _ hw)
  have S4 := hid (HSm.out d1 S3.out.sim)
  have C4 : Hid (((d1.msr w FL).state w 2).m.c = tkO d.m.c 60) := hid (by rw [state_m, msr_c HTh.out.1 (by rw [S3.out.sim.ns]; exact HTh.out.2), S3.out.c, tk_add])
  clear HLa HSs HSm S3
  generalize (d1.msr w FL).stateE w 2 = sE at *
  generalize (d1.msr w FL).state w 2 = d3 at *
  generalize d1.msr w FL = d2 at *
  go_wp2_with (first | (refine wpList_load_mid rfl 55 _ rfl g7 0 rfl _ _ (D4.out.get 0 rfl).range under55 rfl (by rw [size55]; simp [u32s, hFl]) ?_) | (go_at_call 64; refine (HLb.out _ D4.out.db).mono ?_; rintro e u5 ⟨rfl, hd, hb⟩; have D5 := hid (D4.out.step hd hb p.fw_w); clear hd hb) | (go_at_call 62; refine (HSb.out _ D5.out.db).mono ?_; rintro e u6 ⟨rfl, hd, hb⟩; have D6 := hid (D5.out.step hd hb (fun _ hk => hk)); clear hd hb))
  go_ret
  exact ⟨d3, rfl, S4.out, fun _ => C4.out, D6.out.db, D6.out.but⟩
end Go.Proofs.YtdfnbcbnmiohnaaGreatDoor
