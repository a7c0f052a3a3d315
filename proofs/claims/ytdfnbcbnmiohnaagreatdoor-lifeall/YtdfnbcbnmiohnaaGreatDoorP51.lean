import Derived.Test.YtdfnbcbnmiohnaaGreatDoorP50
import Derived.Test.YtdfnbcbnmiohnaaGreatDoorP01
import Derived.Test.YtdfnbcbnmiohnaaGreatDoorP43
import Derived.Test.YtdfnbcbnmiohnaaGreatDoorP44
import Derived.Test.YtdfnbcbnmiohnaaGreatDoorP47
namespace Go.Proofs.YtdfnbcbnmiohnaaGreatDoor
open Go.RowKit
set_option maxHeartbeats 8000000
set_option maxRecDepth 100000
theorem call_any (W0 W : World) (p : Dp) (r : Rp) (d e : DS) (N : Nat) (hN : N ≤ 8) (h : NP W0 W p r d e) (hi : LI N d) (hT : H.Tab W0) (hR : H.TabR W0) (h2 : 1 < W0.heap.size) (k a b t f v : Int) (a0 : 0 ≤ a) (a1 : a < 4294967296) (b0 : 0 ≤ b) (b1 : b < 4294967296) (h5 : 5 ≤ k) (h8 : k ≤ 8) :
    Calls Tryz.prog 38 #[.agg #[ptr p.g, ptr r.g], opV k a b t f v] W fun x W' => ∃ c q d' e', x = .returned (.tuple #[.int .u32 c, .int .i64 c]) ∧ (0 ≤ c ∧ c < 64) ∧ St W W' p r q ∧ NP W0 W' p q d' e' ∧ LI N d' ∧ (c = 0 → wrap64 (d'.m.c - d.m.c) = tch k) := by
  rcases (show k = 5 ∨ k = 6 ∨ k = 7 ∨ k = 8 by omega) with hk | hk | hk | hk
  · exact call_5 W0 W p r d e N hN h hi hT hR h2 k a b t f v a0 a1 b0 b1 hk
  · exact call_6 W0 W p r d e N hN h hi hT hR h2 k a b t f v a0 a1 b0 b1 hk
  · exact call_7 W0 W p r d e N hN h hi hT hR h2 k a b t f v a0 a1 b0 b1 hk
  · exact call_8 W0 W p r d e N hN h hi hT hR h2 k a b t f v a0 a1 b0 b1 hk
structure LS (W w : World) (p : Dp) (q : Rp) (d e : DS) (N rg g5 : Nat) : Prop where
  np : NP W w p q d e
  li : LI N d
  g : q.g = rg
  box : Cel w g5 77 [.pointer (some ⟨p.g, 0, none⟩), .pointer (some ⟨rg, 0, none⟩)]
  pof : g5 ∉ p.all
  qof : g5 ∉ q.all
theorem LS.on {W w w' : World} {p : Dp} {q : Rp} {d e : DS} {N rg g5 : Nat} (h : LS W w p q d e N rg g5) (hb : Below w.heap.size w w') : LS W w' p q d e N rg g5 := ⟨h.np.on hb, h.li, h.g, h.box.on hb, h.pof, h.qof⟩
theorem St.cel {w w' : World} {p : Dp} {r q : Rp} {g : Nat} {t : TypeId} {cs : List Value} (k : St w w' p r q) (hc : Cel w g t cs) (h1 : g ∉ p.all) (h2 : g ∉ r.all) : Cel w' g t cs := hc.but k.but (by rw [List.mem_append]; exact fun h => h.elim h1 h2)
theorem St.off {w w' : World} {p : Dp} {r q : Rp} {g : Nat} (k : St w w' p r q) (hg : g < w.heap.size) (h2 : g ∉ r.all) : g ∉ q.all := fun hm => by
  rcases k.sub g hm with h | h
  · exact h2 h
  · omega
theorem LS.step {W w w' : World} {p : Dp} {q q' : Rp} {d e d' e' : DS} {N rg g5 : Nat} (h : LS W w p q d e N rg g5) (k : St w w' p q q') (hn : NP W w' p q' d' e') (hl : LI N d') : LS W w' p q' d' e' N rg g5 :=
  ⟨hn, hl, k.g.trans h.g, k.cel h.box h.pof h.qof, h.pof, k.off h.box.lt h.qof⟩
theorem LS.pair {W w : World} {p : Dp} {q : Rp} {d e : DS} {N rg g5 : Nat} (h : LS W w p q d e N rg g5) : w.cell? ⟨g5, 0, none⟩ = some (.pointer (some ⟨p.g, 0, none⟩)) ∧ w.cell? ⟨g5, 1, none⟩ = some (.pointer (some ⟨rg, 0, none⟩)) := ⟨h.box.cell 0, h.box.cell 1⟩
structure LB (W w : World) (p : Dp) (q : Rp) (d e : DS) (N rg g5 g8 : Nat) (cs : List Value) : Prop where
  s : LS W w p q d e N rg g5
  c : Cel w g8 48 cs
  pof : g8 ∉ p.all
  qof : g8 ∉ q.all
theorem LB.on {W w w' : World} {p : Dp} {q : Rp} {d e : DS} {N rg g5 g8 : Nat} {cs : List Value} (h : LB W w p q d e N rg g5 g8 cs) (hb : Below w.heap.size w w') : LB W w' p q d e N rg g5 g8 cs := ⟨h.s.on hb, h.c.on hb, h.pof, h.qof⟩
theorem LB.step {W w w' : World} {p : Dp} {q q' : Rp} {d e d' e' : DS} {N rg g5 g8 : Nat} {cs : List Value} (h : LB W w p q d e N rg g5 g8 cs) (k : St w w' p q q') (hn : NP W w' p q' d' e') (hl : LI N d') : LB W w' p q' d' e' N rg g5 g8 cs :=
  ⟨h.s.step k hn hl, k.cel h.c h.pof h.qof, h.pof, k.off h.c.lt h.qof⟩
theorem LS.lb {W w : World} {p : Dp} {q : Rp} {d e : DS} {N rg g5 : Nat} (h : LS W w p q d e N rg g5) (cs : List Value) : LB W (w.alloc (.cells cs.toArray 48)) p q d e N rg g5 w.heap.size cs :=
  ⟨h.on (below_one _ _), Cel.new w 48 cs, fun hm => by have := h.np.own.lt _ hm; omega, fun hm => by have := h.np.doc.lt _ hm; omega⟩
theorem LB.hold {W w : World} {p : Dp} {q : Rp} {d e : DS} {N rg g5 g8 : Nat} {cs : List Value} (h : LB W w p q d e N rg g5 g8 cs) : Cel w g5 77 [.pointer (some ⟨p.g, 0, none⟩), .pointer (some ⟨rg, 0, none⟩)] ∧ Cel w g8 48 cs := ⟨h.s.box, h.c⟩
theorem planL_sim {d e : DS} (h : DS.Sim d e) (s : Nat) : e.planL s = d.planL s := by unfold DS.planL DS.owned; rw [h.ent, h.ns, show e.at = d.at from funext h.at]
theorem all_any (W : World) (hT : H.Tab W) (hR : H.TabR W) (h2 : 1 < W.heap.size) (pages : Int) (ao : Option Addr) (n cp : Nat) (qf : Nat → Oq) (hq : OpsAt W ao n qf) (hn : (n : Int) ≤ 4611686018427387904) :
    Calls Tryz.prog 7 #[.int .i64 pages, .slice ao n cp] W fun x W' => x = .returned (.bool true) ∧ Below W.heap.size W W' := by
  obtain ⟨s, hs, s2, s8⟩ : ∃ s : Nat, wi pages 2 7 = (s : Int) ∧ 2 ≤ s ∧ s ≤ 8 := by
    unfold wi
    exact ⟨(2 + pages % 7).toNat, by omega, by omega, by omega⟩
  have HWi := hid (fun w => within_any w pages 2 8 (by decide) (by decide) (by decide))
  rw [show (8 : Int) - 2 + 1 = 7 from rfl, hs] at HWi
  have HF := hid (fun w => fresh_any w s (by omega) (by omega))
  have HS8 := hid s8
  have HNu := hid (fun w => numbers_l w)
  have HKn := hid (fun w (hb : Below W.heap.size W w) => known_any w (hT.below (hb.mono (show 2 ≤ W.heap.size by omega)) (by decide)) (Nat.lt_of_lt_of_le h2 hb.size))
  have HL0 := hid (LI.start s)
  have HQ := hid hq
  have HT := hid hT
  have HR := hid hR
  have H2 := hid h2
  clear hs s2 s8 hT hR h2 hq
  generalize DS.fresh (MS.new s 1) = d0 at *
  simp only [ptr] at *
  go_enter Tryz.func7, Tryz.ntmps7
  go_upto_region 2 with (first | (go_at_call 11; refine (HWi.out _).mono ?_; rintro x wx ⟨rfl, hw⟩; subst hw) | (go_at_call 35; refine (HF.out _).mono ?_; rintro x w1 ⟨p, r, rfl, hp⟩; have N1 := hid hp; clear hp HF) | (refine wpList_store_st rfl 77 _ _ rfl w1.heap.size [.pointer (some ⟨p.g, 0, none⟩), .pointer (some ⟨r.g, 0, none⟩)] rfl rfl (Cel.new w1 77 [.pointer none, .pointer none]) size77 rfl rfl ?_; intro w2 hc hb hs; have N2 : Hid (LS W w2 p r d0 d0 s r.g w1.heap.size) := hid ⟨(N1.out.on ((below_one w1 _).trans (hb.below (B := w1.heap.size) (by simp) (by simp)))).np, HL0.out, rfl, hc, fun hm => by have := N1.out.own.lt _ hm; omega, fun hm => by have := N1.out.doc.lt _ hm; omega⟩; clear hc hb hs N1))
  generalize w1.heap.size = g5 at *
  generalize r.g = rg at *
  go_upto_region 4 with (first | (go_at_call 36; refine (HNu.out _).mono ?_; rintro x wx ⟨rfl, hw⟩; subst hw) | (go_at_call 12; refine (HKn.out _ N2.out.np.bl).mono ?_; rintro x w3 ⟨rfl, hb⟩; have N3 := hid (N2.out.on hb); clear hb N2))
  clear HWi HNu HKn HL0
  go_upto_region 5 with fail
  go_loopw [6, 7, 8, 9, 10, 11, 12, 13, 14] (fun b i _ _ _ _ _ _ _ wr => ∃ (j : Nat) (q : Rp) (d e : DS), j ≤ n ∧ b = .bool true ∧ i = .int .i64 (j : Int) ∧ Hid (LS W wr p q d e s rg g5)) (fun _ i _ _ _ _ _ _ _ _ => n - (intOf i).toNat)
  case atStart => exact ⟨0, r, d0, d0, Nat.zero_le _, rfl, rfl, N3⟩
  case round =>
    clear N3
    obtain ⟨j, q, d, e, hj, rfl, rfl, HI⟩ := hrel
    by_cases hlt : j < n
    · have q1 : (j : Int) < (n : Int) := by omega
      have q2 : (j : Int) ≤ 4611686018427387904 := by omega
      obtain ⟨go, off, rfl, hgl, hr⟩ := HQ.out.at_ (by omega)
      have HRg := hid (rangeAt_on (hr j hlt) hgl HI.out.np.bl)
      have HV := hid (HQ.out.v j hlt)
      have HJ := hid hlt
      clear hlt hgl hr hj HQ
      generalize qf j = oo at *
      obtain ⟨k, a, b, t, f, v⟩ := oo
      have HA : Hid (0 ≤ a ∧ a < 4294967296 ∧ 0 ≤ b ∧ b < 4294967296 ∧ 0 ≤ v ∧ v < 4294967296) := hid ⟨HV.out.a0, HV.out.a1, HV.out.b0, HV.out.b1, HV.out.v0, HV.out.v1⟩
      clear HV
      simp only [opC, Oq.cs] at *
      go_upto_region 11 with (first | (refine wpList_load_mid rfl 48 _ rfl go (off + j * 6) rfl _ _ HRg.out under48 rfl (by rw [size48]; rfl) ?_))
      have L1 := hid (HI.out.lb [.int .i64 k, .int .u32 a, .int .u32 b, .int .i64 t, .int .i64 f, .int .u32 v])
      simp only [List.toArray] at L1
      clear HI HRg
      generalize wr.alloc _ = w4 at *
      generalize wr.heap.size = g8 at *
      have y0 := L1.out.c.cell 0
      have y1 := L1.out.c.cell 1
      simp only [tqG, tqH] at y0 y1
      obtain ⟨x0, x1⟩ := L1.out.s.pair
      by_cases hk : 5 ≤ k ∧ k ≤ 8
      · obtain ⟨k5, k8⟩ := hk
        have HK := hid (And.intro k5 k8)
        have HCa := hid (fun w q d e (hl : LB W w p q d e s rg g5 g8 [.int .i64 k, .int .u32 a, .int .u32 b, .int .i64 t, .int .i64 f, .int .u32 v]) => call_any W w p q d e s HS8.out hl.s.np hl.s.li HT.out HR.out H2.out k a b t f v HA.out.1 HA.out.2.1 HA.out.2.2.1 HA.out.2.2.2.1 HK.out.1 HK.out.2)
        have HTc := hid (fun w => touched_l w k)
        go_upto_region 13 with (first | (go_at_call 28; refine (memory_any _ p d L1.out.s.np.own).mono ?_; rintro x wx ⟨rfl, hw⟩; subst hw) | (go_at_call 37; refine (meter_any _ p.f d.m L1.out.s.np.own.mem).mono ?_; rintro x wx ⟨rfl, hw⟩; subst hw))
        have HCb := HCa.out _ _ _ _ L1.out
        rw [L1.out.s.g] at HCb
        have HCc := hid HCb
        clear HCb HCa x0 x1 y0 y1
        simp only [opV, opC, ptr] at HCc
        generalize d.m.c = mc at *
        go_upto_region 14 with (first | (refine wpList_load_mid rfl 77 _ rfl g5 0 rfl _ _ L1.out.s.box.range under77 rfl (by rw [size77]; rfl) ?_) | (refine wpList_load_mid rfl 48 _ rfl g8 0 rfl _ _ L1.out.c.range under48 rfl (by rw [size48]; rfl) ?_) | (go_at_call 38; refine HCc.out.mono ?_; rintro x w5 ⟨c, q', d', e', rfl, hcc, hst, hnp, hli, hmt⟩; have L2 := hid (L1.out.step hst hnp hli); have HCR := hid hcc; have HMT := hid hmt; clear hst hnp hli hcc hmt HCc))
        clear L1 k5 k8
        have L3 := hid (L2.out.on (Below.refl _ _).drew)
        have HMe := hid (fun w (hl : LB W w p q' d' e' s rg g5 g8 [.int .i64 k, .int .u32 a, .int .u32 b, .int .i64 t, .int .i64 f, .int .u32 v]) => meter_any w p.f d'.m hl.s.np.own.mem)
        have HMm := hid (fun w (hl : LB W w p q' d' e' s rg g5 g8 [.int .i64 k, .int .u32 a, .int .u32 b, .int .i64 t, .int .i64 f, .int .u32 v]) => memory_any w p d' hl.s.np.own)
        generalize d'.m.c = mc' at *
        clear L2
        have kc : IntKind.wrap .i64 c = c := by have := HCR.out; rw [IntKind.wrap_i64]; omega
        have kc2 : wrap64 c = c := by have := HCR.out; unfold wrap64; omega
        generalize tch k = tk0 at *
        by_cases hc0 : c = 0
        · subst hc0
          have km : wrap64 (mc' - mc) = tk0 := HMT.out rfl
          have km2 : IntKind.wrap .i64 (mc' - mc) = tk0 := by rw [IntKind.wrap_i64, ← km]; unfold wrap64; rfl
          clear HMT
          refine wp_region_held_drew (S := fun w => Cel w g5 77 [.pointer (some ⟨p.g, 0, none⟩), .pointer (some ⟨rg, 0, none⟩)] ∧ Cel w g8 48 [.int .i64 k, .int .u32 a, .int .u32 b, .int .i64 t, .int .i64 f, .int .u32 v]) (by kernel_rfl) L3.out.hold (fun hHeld => ?_)
          generalize World.drew _ = w6 at *
          refine tk 0 (some 65) (.int .u32 0) ?_
          simp only [Act.put, tqA, tqZ, tqS]
          refine tk 1 (some 66) (.int .i64 0) ?_
          simp only [Act.put, tqA, tqZ, tqS]
          refine tk 2 (some 67) (.int .i64 0) ?_
          simp only [Act.put, tqA, tqZ, tqS]
          refine tk 3 (some 68) (.bool false) ?_
          simp only [Act.put, tqA, tqZ, tqS]
          refine tk 4 (some 69) (.bool false) ?_
          simp only [Act.put, tqA, tqZ, tqS]
          refine tk 5 (some 70) (.int .i64 0) ?_
          simp only [Act.put, tqA, tqZ, tqS]
          refine tk 6 (some 71) (.bool true) ?_
          simp only [Act.put, tqA, tqZ, tqS]
          refine tk 7 (some 72) (.bool true) ?_
          simp only [Act.put, tqA, tqZ, tqS]
          refine tk 8 (some 73) (.pointer (some ⟨g5, 0, none⟩)) ?_
          simp only [Act.put, tqA, tqZ, tqS]
          refine tk 9 (some 74) (.pointer (some ⟨p.g, 0, none⟩)) ?_ (hy := Or.inl ⟨by rfl, by intro w hSw; have t1 := hSw.1.cell 0; simp only [tqG] at t1; go_simp⟩)
          simp only [Act.put, tqA, tqZ, tqS]
          refine tk 12 (some 77) (.int .i64 mc) ?_
          simp only [Act.put, tqA, tqZ, tqS]
          refine tk 14 (some 79) (.pointer (some ⟨g8, 0, none⟩)) ?_
          simp only [Act.put, tqA, tqZ, tqS]
          refine tk 15 (some 80) (.int .i64 k) ?_ (hy := Or.inl ⟨by rfl, by intro w hSw; have t1 := hSw.2.cell 0; simp only [tqG] at t1; go_simp⟩)
          simp only [Act.put, tqA, tqZ, tqS]
          refine wpAnyH_ready (rs := [10]) (by kernel_rfl) (by simp) (AllReadyH.cons rfl (fun KQ hK => ?_) AllReadyH.nil)
          go_simp
          refine (HMm.out _ L3.out).mono ?_
          rintro x wx ⟨rfl, hw⟩
          subst hw
          go_wp2_with fail
          refine hK.out _ _ L3.out.hold (fun hHeld => ?_)
          clear hK KQ
          try simp only [Act.put, tqA, tqZ, tqS]
          refine wpAnyH_ready (rs := [11]) (by kernel_rfl) (by simp) (AllReadyH.cons rfl (fun KQ hK => ?_) AllReadyH.nil)
          go_simp
          refine (HMe.out _ L3.out).mono ?_
          rintro x wx ⟨rfl, hw⟩
          subst hw
          go_wp2_with fail
          refine hK.out _ _ L3.out.hold (fun hHeld => ?_)
          clear hK KQ
          try simp only [Act.put, tqA, tqZ, tqS]
          refine tk 13 (some 78) (.int .i64 tk0) ?_
          simp only [Act.put, tqA, tqZ, tqS]
          refine wpAnyH_ready (rs := [16]) (by kernel_rfl) (by simp) (AllReadyH.cons rfl (fun KQ hK => ?_) AllReadyH.nil)
          go_simp
          refine (HTc.out _).mono ?_
          rintro x wx ⟨rfl, hw⟩
          subst hw
          go_wp2_with fail
          refine hK.out _ _ L3.out.hold (fun hHeld => ?_)
          clear hK KQ
          try simp only [Act.put, tqA, tqZ, tqS]
          refine tk 17 (some 82) (.bool false) ?_
          simp only [Act.put, tqA, tqZ, tqS]
          refine tk 18 (some 83) (.bool false) ?_
          simp only [Act.put, tqA, tqZ, tqS]
          refine tk 19 (some 84) (.bool false) ?_
          simp only [Act.put, tqA, tqZ, tqS]
          refine wpAnyH_done (by kernel_rfl) ?_ _
          go_wp2_with fail
          go_roundw
          case measure => have := HJ.out; simp [intOf]; omega
          case rel => exact ⟨j + 1, q', d', e', HJ.out, rfl, by simp, hid L3.out.s⟩
        · have kz : (c == 0) = false := by simpa using hc0
          clear hc0 HMT
          refine wp_region_held_drew (S := fun w => Cel w g5 77 [.pointer (some ⟨p.g, 0, none⟩), .pointer (some ⟨rg, 0, none⟩)] ∧ Cel w g8 48 [.int .i64 k, .int .u32 a, .int .u32 b, .int .i64 t, .int .i64 f, .int .u32 v]) (by kernel_rfl) L3.out.hold (fun hHeld => ?_)
          generalize World.drew _ = w6 at *
          refine tk 0 (some 65) (.int .u32 c) ?_
          simp only [Act.put, tqA, tqZ, tqS]
          refine tk 1 (some 66) (.int .i64 c) ?_
          simp only [Act.put, tqA, tqZ, tqS]
          refine tk 2 (some 67) (.int .i64 c) ?_
          simp only [Act.put, tqA, tqZ, tqS]
          refine tk 3 (some 68) (.bool false) ?_
          simp only [Act.put, tqA, tqZ, tqS]
          refine tk 4 (some 69) (.bool false) ?_
          simp only [Act.put, tqA, tqZ, tqS]
          refine tk 5 (some 70) (.int .i64 c) ?_
          simp only [Act.put, tqA, tqZ, tqS]
          refine tk 6 (some 71) (.bool false) ?_
          simp only [Act.put, tqA, tqZ, tqS]
          refine tk 7 (some 72) (.bool false) ?_
          simp only [Act.put, tqA, tqZ, tqS]
          refine tk 8 (some 73) undef ?_ (hy := Or.inr ⟨by rfl, rfl⟩)
          simp only [Act.put, tqA, tqZ, tqS]
          refine tk 9 (some 74) undef ?_ (hy := Or.inr ⟨by rfl, rfl⟩)
          simp only [Act.put, tqA, tqZ, tqS]
          refine tk 10 (some 75) undef ?_ (hy := Or.inr ⟨by rfl, rfl⟩)
          simp only [Act.put, tqA, tqZ, tqS]
          refine tk 11 (some 76) undef ?_ (hy := Or.inr ⟨by rfl, rfl⟩)
          simp only [Act.put, tqA, tqZ, tqS]
          refine tk 12 (some 77) undef ?_ (hy := Or.inr ⟨by rfl, rfl⟩)
          simp only [Act.put, tqA, tqZ, tqS]
          refine tk 13 (some 78) undef ?_ (hy := Or.inr ⟨by rfl, rfl⟩)
          simp only [Act.put, tqA, tqZ, tqS]
          refine tk 14 (some 79) undef ?_ (hy := Or.inr ⟨by rfl, rfl⟩)
          simp only [Act.put, tqA, tqZ, tqS]
          refine tk 15 (some 80) undef ?_ (hy := Or.inr ⟨by rfl, rfl⟩)
          simp only [Act.put, tqA, tqZ, tqS]
          refine tk 16 (some 81) undef ?_ (hy := Or.inr ⟨by rfl, rfl⟩)
          simp only [Act.put, tqA, tqZ, tqS]
          refine tk 17 (some 82) undef ?_ (hy := Or.inr ⟨by rfl, rfl⟩)
          simp only [Act.put, tqA, tqZ, tqS]
          refine tk 18 (some 83) (.bool false) ?_
          simp only [Act.put, tqA, tqZ, tqS]
          refine tk 19 (some 84) (.bool false) ?_
          simp only [Act.put, tqA, tqZ, tqS]
          refine wpAnyH_done (by kernel_rfl) ?_ _
          go_wp2_with fail
          go_roundw
          case measure => have := HJ.out; simp [intOf]; omega
          case rel => exact ⟨j + 1, q', d', e', HJ.out, rfl, by simp, hid L3.out.s⟩
      · by_cases h9 : k = 9
        · subst h9
          clear hk
          obtain ⟨sv, hsv⟩ : ∃ sv, IntKind.wrap .i32 a = sv := ⟨_, rfl⟩
          have hb32 : -2147483648 ≤ sv ∧ sv < 2147483648 := by rw [← hsv, IntKind.wrap_i32]; omega
          have k64 : IntKind.wrap .i64 sv = sv := by rw [IntKind.wrap_i64]; omega
          have k642 : wrap64 sv = sv := by unfold wrap64; omega
          clear hb32
          by_cases t1 : (d.ent sv).t = 1
          · have hth : d.there sv = true := there_of (by rw [t1]; decide)
            obtain ⟨sn, rfl⟩ : ∃ sn : Nat, sv = (sn : Int) := ⟨sv.toNat, by have := (there_lt hth).1; omega⟩
            have hpe := planL_sim L1.out.s.np.sim sn
            have hln : (d.planL sn).length ≤ 100 ∧ 0 < (d.planL sn).length := by
              have h1 := owned_len d (sn : Int)
              have h2 := L1.out.s.np.own.ok.n64
              unfold DS.planL
              rw [List.length_append, List.length_singleton]
              omega
            have HP1 := hid (plan_yes w4 p d L1.out.s.np.own sn t1)
            have HP2 := hid (fun w (hl : LB W w p q d e s rg g5 g8 [.int .i64 9, .int .u32 a, .int .u32 b, .int .i64 t, .int .i64 f, .int .u32 v]) => rplan_yes w q e hl.s.np.doc sn (by rw [hl.s.np.sim.ent]; exact t1))
            have HG := hid L1.out.s.g
            rw [hpe, HG.out] at HP2
            have HLn := hid hln
            clear hln hpe hth t1
            generalize d.planL sn = PL0 at *
            simp only [ptr] at HP1 HP2
            go_upto_region 18 with (go_at_call 9; refine HP1.out.mono ?_; rintro x w5 ⟨ga, ca, rfl, hpl, hga, hb⟩; have L2 := hid (L1.out.on hb); have PA := hid hpl; clear hpl hga hb HP1 L1 x0 x1 y0 y1)
            have y1 := L2.out.c.cell 1
            simp only [tqG, tqH] at y1
            obtain ⟨x0, x1⟩ := L2.out.s.pair
            go_upto_region 19 with (go_at_call 40; refine (HP2.out _ L2.out).mono ?_; rintro x w6 ⟨v6, rfl, hpl⟩; obtain ⟨gb, cb, rfl, hpb, _⟩ := own3_pl hpl.own HLn.out.2; have L3 := hid (And.intro (L2.out.on hpl.below) (And.intro (PA.out.on hpl.below) hpb)); clear hpl hpb HP2 L2 PA x0 x1 y1)
            generalize hM : PL0.length = M at *
            have HMl := hid hM
            clear hM
            have q5 : (M : Int) ≤ 100 := by have := HLn.out.1; omega
            go_upto_region 22 with fail
            go_loopw [14] (fun i wr => ∃ m : Nat, m ≤ M ∧ i = .int .i64 (m : Int) ∧ Hid (LB W wr p q d e s rg g5 g8 [.int .i64 9, .int .u32 a, .int .u32 b, .int .i64 t, .int .i64 f, .int .u32 v] ∧ PL wr ga PL0 ∧ PL wr gb PL0)) (fun i _ => M - (intOf i).toNat)
            case atStart => exact ⟨0, Nat.zero_le _, rfl, L3⟩
            case round =>
              clear L3
              obtain ⟨m, hm, rfl, HL⟩ := hrel
              by_cases hlt : m < M
              · have q3 : (m : Int) < (M : Int) := by omega
                have HM2 := hid hlt
                have hat := fun w (h : PL w ga PL0 ∧ PL w gb PL0) => And.intro (h.1.at_ m (by rw [HMl.out]; exact hlt)) (h.2.at_ m (by rw [HMl.out]; exact hlt))
                generalize (((PL0.getD m 0 : Nat)) : Int) = z at hat
                have HAt := hid hat
                clear hat hlt hm
                go_upto_region 24 with fail
                have L4 := hid (And.intro (HL.out.1.on (Below.refl _ _).drew) (And.intro (HL.out.2.1.on (Below.refl _ _).drew) (HL.out.2.2.on (Below.refl _ _).drew)))
                clear HL
                refine wp_region_held_drew (S := fun w => w.cell? ⟨ga, m, none⟩ = some (.int .i64 z) ∧ w.cell? ⟨gb, m, none⟩ = some (.int .i64 z)) (by kernel_rfl) (HAt.out _ L4.out.2) (fun hHeld => ?_)
                generalize World.drew _ = w7 at *
                refine tk 0 (some 114) (.slice (some ⟨ga, 0, none⟩) M ca) ?_
                simp only [Act.put, tqA, tqZ, tqS]
                refine tk 1 (some 115) (.int .i64 (m : Int)) ?_
                simp only [Act.put, tqA, tqZ, tqS]
                refine tk 2 (some 116) (.pointer (some ⟨ga, m, none⟩)) ?_
                simp only [Act.put, tqA, tqZ, tqS]
                refine tk 3 (some 117) (.int .i64 z) ?_ (hy := Or.inl ⟨by rfl, by intro w hSw; have t1 := hSw.1; go_simp⟩)
                simp only [Act.put, tqA, tqZ, tqS]
                refine tk 4 (some 118) (.slice (some ⟨gb, 0, none⟩) M cb) ?_
                simp only [Act.put, tqA, tqZ, tqS]
                refine tk 5 (some 119) (.int .i64 (m : Int)) ?_
                simp only [Act.put, tqA, tqZ, tqS]
                refine tk 6 (some 120) (.pointer (some ⟨gb, m, none⟩)) ?_
                simp only [Act.put, tqA, tqZ, tqS]
                refine tk 7 (some 121) (.int .i64 z) ?_ (hy := Or.inl ⟨by rfl, by intro w hSw; have t1 := hSw.2; go_simp⟩)
                simp only [Act.put, tqA, tqZ, tqS]
                refine tk 8 (some 122) (.bool false) ?_
                simp only [Act.put, tqA, tqZ, tqS]
                refine wpAnyH_done (by kernel_rfl) ?_ _
                go_wp2_with fail
                go_roundw
                case measure => have := HM2.out; simp [intOf]; omega
                case rel => exact ⟨m + 1, HM2.out, by simp, L4⟩
              · have hmn : M = m := by omega
                subst hmn
                clear hlt hm
                go_wp2_with fail
                go_roundw
                case measure => have := HJ.out; simp [intOf]; omega
                case rel => exact ⟨j + 1, q, d, e, HJ.out, rfl, by simp, hid HL.out.1.s⟩
          · have HP1 := hid (plan_no w4 p d L1.out.s.np.own sv t1)
            have HP2 := hid (fun w (hl : LB W w p q d e s rg g5 g8 [.int .i64 9, .int .u32 a, .int .u32 b, .int .i64 t, .int .i64 f, .int .u32 v]) => rplan_no w q e hl.s.np.doc sv (by rw [hl.s.np.sim.ent]; exact t1))
            have HG := hid L1.out.s.g
            rw [HG.out] at HP2
            clear t1
            simp only [ptr] at HP1 HP2
            go_upto_region 18 with (go_at_call 9; refine HP1.out.mono ?_; rintro x w5 ⟨rfl, hb⟩; have L2 := hid (L1.out.on hb); clear hb HP1 L1 x0 x1 y0 y1)
            have y1 := L2.out.c.cell 1
            simp only [tqG, tqH] at y1
            obtain ⟨x0, x1⟩ := L2.out.s.pair
            go_upto_region 19 with (go_at_call 40; refine (HP2.out _ L2.out).mono ?_; rintro x w6 ⟨rfl, hb⟩; have L3 := hid (L2.out.on hb); clear hb HP2 L2 x0 x1 y1)
            go_upto_region 22 with fail
            go_loopw [14] (fun i wr => i = .int .i64 0 ∧ wr = w6) (fun _ _ => 0)
            case atStart => exact ⟨rfl, rfl⟩
            case round =>
              obtain ⟨rfl, rfl⟩ := hrel
              go_wp2_with fail
              go_roundw
              case measure => have := HJ.out; simp [intOf]; omega
              case rel => exact ⟨j + 1, q, d, e, HJ.out, rfl, by simp, hid L3.out.s⟩
        · have k9 : (k == 9) = false := by rw [beq_eq_false_iff_ne]; exact h9
          have hkk : ¬ (5 ≤ k) ∨ ¬ (k ≤ 8) := by omega
          have HSe := sets_any W w4 p q d e s L1.out.s.np L1.out.s.li HT.out HR.out H2.out k a b t f v HA.out.1 HA.out.2.1 HA.out.2.2.1 HA.out.2.2.2.1 HA.out.2.2.2.2.1 HA.out.2.2.2.2.2
          rw [L1.out.s.g] at HSe
          have HSS := hid HSe
          clear HSe h9 hk x0 x1 y1
          simp only [opV, opC, ptr] at HSS
          rcases hkk with hk5 | hk8
          · go_upto_region 9 with (first | (refine wpList_load_mid rfl 77 _ rfl g5 0 rfl _ _ L1.out.s.box.range under77 rfl (by rw [size77]; rfl) ?_) | (refine wpList_load_mid rfl 48 _ rfl g8 0 rfl _ _ L1.out.c.range under48 rfl (by rw [size48]; rfl) ?_) | (go_at_call 41; refine HSS.out.mono ?_; rintro x w5 ⟨q', d', e', rfl, hst, hnp, hli⟩; have L2 := hid (L1.out.s.step hst hnp hli); clear hst hnp hli HSS L1))
            go_wp2_with fail
            go_roundw
            case measure => have := HJ.out; simp [intOf]; omega
            case rel => exact ⟨j + 1, q', d', e', HJ.out, rfl, by simp, L2⟩
          · by_cases hk5 : 5 ≤ k
            · go_upto_region 9 with (first | (refine wpList_load_mid rfl 77 _ rfl g5 0 rfl _ _ L1.out.s.box.range under77 rfl (by rw [size77]; rfl) ?_) | (refine wpList_load_mid rfl 48 _ rfl g8 0 rfl _ _ L1.out.c.range under48 rfl (by rw [size48]; rfl) ?_) | (go_at_call 41; refine HSS.out.mono ?_; rintro x w5 ⟨q', d', e', rfl, hst, hnp, hli⟩; have L2 := hid (L1.out.s.step hst hnp hli); clear hst hnp hli HSS L1))
              go_wp2_with fail
              go_roundw
              case measure => have := HJ.out; simp [intOf]; omega
              case rel => exact ⟨j + 1, q', d', e', HJ.out, rfl, by simp, L2⟩
            · exact absurd (show k ≤ 8 by omega) hk8
    · have hjn : n = j := by omega
      subst hjn
      clear hlt hj
      have HWh := whole_any wr p q d e HI.out.np.own HI.out.np.doc HI.out.np.sim
      rw [HI.out.g] at HWh
      have HWW := hid HWh
      clear HWh
      simp only [ptr] at HWW
      go_wp2_with (first | (refine wpList_load_mid rfl 77 _ rfl g5 0 rfl _ _ HI.out.box.range under77 rfl (by rw [size77]; rfl) ?_) | (go_at_call 42; refine HWW.out.mono ?_; rintro x w5 ⟨rfl, hb⟩; have HB5 := hid (below_on HI.out.np.bl hb); clear hb))
      go_ret
      exact ⟨rfl, HB5.out⟩
end Go.Proofs.YtdfnbcbnmiohnaaGreatDoor
