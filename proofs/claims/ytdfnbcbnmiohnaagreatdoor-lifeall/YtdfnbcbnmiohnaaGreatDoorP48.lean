import Derived.Test.YtdfnbcbnmiohnaaGreatDoorP47
import Derived.Test.YtdfnbcbnmiohnaaGreatDoorP01
import Derived.Test.YtdfnbcbnmiohnaaGreatDoorP40
import Derived.Test.YtdfnbcbnmiohnaaGreatDoorP44
import Derived.Test.YtdfnbcbnmiohnaaGreatDoorCards
import Derived.Test.YtdfnbcbnmiohnaaGreatDoorTie
import Derived.ProofKit
import Derived.OpenShut
import Derived.ShutString
import Derived.ChangeOld
import Derived.Below
import Derived.Deep.DeepHandedRow
import Derived.SizedLaws
import Derived.Lib.LaidTab
namespace Go.Proofs.YtdfnbcbnmiohnaaGreatDoor
open Go.RowKit
set_option maxHeartbeats 8000000
set_option maxRecDepth 100000
theorem call_any (W0 W : World) (p : Dp) (r : Rp) (d e : DS) (N : Nat) (hN : N ≤ 8) (h : NP W0 W p r d e) (hi : LI N d) (hT : H.Tab W0) (hR : H.TabR W0) (h2 : 1 < W0.heap.size) (k a b t f v : Int) (a0 : 0 ≤ a) (a1 : a < 4294967296) (b0 : 0 ≤ b) (b1 : b < 4294967296) (h5 : 5 ≤ k) (h8 : k ≤ 8) :
    Calls Tryz.prog 38 #[.agg #[ptr p.g, ptr r.g], opV k a b t f v] W fun x W' => ∃ c q d' e', x = .returned (.tuple #[.int .u32 c, .int .i64 c]) ∧ (0 ≤ c ∧ c < 64) ∧ St W W' p r q ∧ NP W0 W' p q d' e' ∧ LI N d' ∧ (c = 0 → wrap64 (d'.m.c - d.m.c) = tch k) := by
  rcases (show k = 5 ∨ k = 6 ∨ k = 7 ∨ k = 8 by omega) with hk | hk | hk | hk
  · exact call_5 W0 W p r d e N hN h hi hT hR h2 k a b t f v a0 a1 b0 b1 hk
  · exact call_6 W0 W p r d e N hN h hi hT hR h2 k a b t f v a0 a1 b0 b1 hk
  · exact call_7 W0 W p r d e N hN h hi hT hR h2 k a b t f v a0 a1 b0 b1 hk
  · exact call_8 W0 W p r d e N hN h hi hT hR h2 k a b t f v a0 a1 b0 b1 hk
structure LS (W w : World) (p : Dp) (q : Rp) (d e : DS) (N rg g5 : Nat) : Prop where
  np : NP W w p q d e
  li : LI N d
  g : q.g = rg
  box : Cel w g5 77 [.pointer (some ⟨p.g, 0, none⟩), .pointer (some ⟨rg, 0, none⟩)]
  pof : g5 ∉ p.all
  qof : g5 ∉ q.all
theorem LS.on {W w w' : World} {p : Dp} {q : Rp} {d e : DS} {N rg g5 : Nat} (h : LS W w p q d e N rg g5) (hb : Below w.heap.size w w') : LS W w' p q d e N rg g5 := ⟨h.np.on hb, h.li, h.g, h.box.on hb, h.pof, h.qof⟩
theorem St.cel {w w' : World} {p : Dp} {r q : Rp} {g : Nat} {t : TypeId} {cs : List Value} (k : St w w' p r q) (hc : Cel w g t cs) (h1 : g ∉ p.all) (h2 : g ∉ r.all) : Cel w' g t cs := hc.but k.but (by rw [List.mem_append]; exact fun h => h.elim h1 h2)
theorem St.off {w w' : World} {p : Dp} {r q : Rp} {g : Nat} (k : St w w' p r q) (hg : g < w.heap.size) (h2 : g ∉ r.all) : g ∉ q.all := fun hm => by
  rcases k.sub g hm with h | h
  · exact h2 h
  · omega
theorem LS.step {W w w' : World} {p : Dp} {q q' : Rp} {d e d' e' : DS} {N rg g5 : Nat} (h : LS W w p q d e N rg g5) (k : St w w' p q q') (hn : NP W w' p q' d' e') (hl : LI N d') : LS W w' p q' d' e' N rg g5 :=
  ⟨hn, hl, k.g.trans h.g, k.cel h.box h.pof h.qof, h.pof, k.off h.box.lt h.qof⟩
theorem LS.pair {W w : World} {p : Dp} {q : Rp} {d e : DS} {N rg g5 : Nat} (h : LS W w p q d e N rg g5) : w.cell? ⟨g5, 0, none⟩ = some (.pointer (some ⟨p.g, 0, none⟩)) ∧ w.cell? ⟨g5, 1, none⟩ = some (.pointer (some ⟨rg, 0, none⟩)) := ⟨h.box.cell 0, h.box.cell 1⟩
structure LB (W w : World) (p : Dp) (q : Rp) (d e : DS) (N rg g5 g8 : Nat) (cs : List Value) : Prop where
  s : LS W w p q d e N rg g5
  c : Cel w g8 48 cs
  pof : g8 ∉ p.all
  qof : g8 ∉ q.all
theorem LB.on {W w w' : World} {p : Dp} {q : Rp} {d e : DS} {N rg g5 g8 : Nat} {cs : List Value} (h : LB W w p q d e N rg g5 g8 cs) (hb : Below w.heap.size w w') : LB W w' p q d e N rg g5 g8 cs := ⟨h.s.on hb, h.c.on hb, h.pof, h.qof⟩
theorem LB.step {W w w' : World} {p : Dp} {q q' : Rp} {d e d' e' : DS} {N rg g5 g8 : Nat} {cs : List Value} (h : LB W w p q d e N rg g5 g8 cs) (k : St w w' p q q') (hn : NP W w' p q' d' e') (hl : LI N d') : LB W w' p q' d' e' N rg g5 g8 cs :=
  ⟨h.s.step k hn hl, k.cel h.c h.pof h.qof, h.pof, k.off h.c.lt h.qof⟩
theorem LS.lb {W w : World} {p : Dp} {q : Rp} {d e : DS} {N rg g5 : Nat} (h : LS W w p q d e N rg g5) (cs : List Value) : LB W (w.alloc (.cells cs.toArray 48)) p q d e N rg g5 w.heap.size cs :=
  ⟨h.on (below_one _ _), Cel.new w 48 cs, fun hm => by have := h.np.own.lt _ hm; omega, fun hm => by have := h.np.doc.lt _ hm; omega⟩
theorem LB.hold {W w : World} {p : Dp} {q : Rp} {d e : DS} {N rg g5 g8 : Nat} {cs : List Value} (h : LB W w p q d e N rg g5 g8 cs) : Cel w g5 77 [.pointer (some ⟨p.g, 0, none⟩), .pointer (some ⟨rg, 0, none⟩)] ∧ Cel w g8 48 cs := ⟨h.s.box, h.c⟩
theorem planL_sim {d e : DS} (h : DS.Sim d e) (s : Nat) : e.planL s = d.planL s := by unfold DS.planL DS.owned; rw [h.ent, h.ns, show e.at = d.at from funext h.at]
theorem all_any (W : World) (hT : H.Tab W) (hR : H.TabR W) (h2 : 1 < W.heap.size) (pages : Int) (ao : Option Addr) (n cp : Nat) (qf : Nat → Oq) (hq : OpsAt W ao n qf) (hn : (n : Int) ≤ 4611686018427387904) :
    Calls Tryz.prog 7 #[.int .i64 pages, .slice ao n cp] W fun x W' => x = .returned (.bool true) ∧ Below W.heap.size W W' := by
  obtain ⟨s, hs, s2, s8⟩ : ∃ s : Nat, wi pages 2 7 = (s : Int) ∧ 2 ≤ s ∧ s ≤ 8 := by
    unfold wi
    exact ⟨(2 + pages % 7).toNat, by omega, by omega, by omega⟩
  have HWi := hid (fun w => within_any w pages 2 8 (by decide) (by decide) (by decide))
  rw [show (8 : Int) - 2 + 1 = 7 from rfl, hs] at HWi
  have HF := hid (fun w => fresh_any w s (by omega) (by omega))
  have HS8 := hid s8
  have HNu := hid (fun w => numbers_l w)
  have HKn := hid (fun w (hb : Below W.heap.size W w) => known_any w (hT.below (hb.mono (show 2 ≤ W.heap.size by omega)) (by decide)) (Nat.lt_of_lt_of_le h2 hb.size))
  have HL0 := hid (LI.start s)
  have HQ := hid hq
  have HT := hid hT
  have HR := hid hR
  have H2 := hid h2
  clear hs s2 s8 hT hR h2 hq
  generalize DS.fresh (MS.new s 1) = d0 at *
  simp only [ptr] at *
  go_enter Tryz.func7, Tryz.ntmps7
  go_upto_region 2 with (first | (go_at_call 11; refine (HWi.out _).mono ?_; rintro x wx ⟨rfl, hw⟩; subst hw) | (go_at_call 35; refine (HF.out _).mono ?_; rintro x w1 ⟨p, r, rfl, hp⟩; have N1 := hid hp; clear hp HF) | (refine wpList_store_st rfl 77 _ _ rfl w1.heap.size [.pointer (some ⟨p.g, 0, none⟩), .pointer (some ⟨r.g, 0, none⟩)] rfl rfl (Cel.new w1 77 [.pointer none, .pointer none]) size77 rfl rfl ?_; intro w2 hc hb hs; have N2 : Hid (LS W w2 p r d0 d0 s r.g w1.heap.size) := hid ⟨(N1.out.on ((below_one w1 _).trans (hb.below (B := w1.heap.size) (by simp) (by simp)))).np, HL0.out, rfl, hc, fun hm => by have := N1.out.own.lt _ hm; omega, fun hm => by have := N1.out.doc.lt _ hm; omega⟩; clear hc hb hs N1))
  generalize w1.heap.size = g5 at *
  generalize r.g = rg at *
  go_upto_region 4 with (first | (go_at_call 36; refine (HNu.out _).mono ?_; rintro x wx ⟨rfl, hw⟩; subst hw) | (go_at_call 12; refine (HKn.out _ N2.out.np.bl).mono ?_; rintro x w3 ⟨rfl, hb⟩; have N3 := hid (N2.out.on hb); clear hb N2))
  clear HWi HNu HKn HL0
  go_upto_region 5 with fail
  go_loopw [6, 7, 8, 9, 10, 11, 12, 13, 14] (fun b i _ _ _ _ _ _ _ wr => ∃ (j : Nat) (q : Rp) (d e : DS), j ≤ n ∧ b = .bool true ∧ i = .int .i64 (j : Int) ∧ Hid (LS W wr p q d e s rg g5)) (fun _ i _ _ _ _ _ _ _ _ => n - (intOf i).toNat)
  case atStart => exact ⟨0, r, d0, d0, Nat.zero_le _, rfl, rfl, N3⟩
  case round =>
    clear N3
    obtain ⟨j, q, d, e, hj, rfl, rfl, HI⟩ := hrel
    by_cases hlt : j < n
    · have q1 : (j : Int) < (n : Int) := by omega
      have q2 : (j : Int) ≤ 4611686018427387904 := by omega
      obtain ⟨go, off, rfl, hgl, hr⟩ := HQ.out.at_ (by omega)
      have HRg := hid (rangeAt_on (hr j hlt) hgl HI.out.np.bl)
      have HV := hid (HQ.out.v j hlt)
      have HJ := hid hlt
      clear hlt hgl hr hj HQ
      generalize qf j = oo at *
      obtain ⟨k, a, b, t, f, v⟩ := oo
      have HA : Hid (0 ≤ a ∧ a < 4294967296 ∧ 0 ≤ b ∧ b < 4294967296 ∧ 0 ≤ v ∧ v < 4294967296) := hid ⟨HV.out.a0, HV.out.a1, HV.out.b0, HV.out.b1, HV.out.v0, HV.out.v1⟩
      clear HV
      simp only [opC, Oq.cs] at *
      go_upto_region 11 with (first | (refine wpList_load_mid rfl 48 _ rfl go (off + j * 6) rfl _ _ HRg.out under48 rfl (by rw [size48]; rfl) ?_))
      have L1 := hid (HI.out.lb [.int .i64 k, .int .u32 a, .int .u32 b, .int .i64 t, .int .i64 f, .int .u32 v])
      simp only [List.toArray] at L1
      clear HI HRg
      generalize wr.alloc _ = w4 at *
      generalize wr.heap.size = g8 at *
      have y0 := L1.out.c.cell 0
      have y1 := L1.out.c.cell 1
      simp only [xzD, xzE] at y0 y1
      obtain ⟨x0, x1⟩ := L1.out.s.pair
      by_cases hk : 5 ≤ k ∧ k ≤ 8
      · obtain ⟨k5, k8⟩ := hk
        have HK := hid (And.intro k5 k8)
        have HCa := hid (fun w q d e (hl : LB W w p q d e s rg g5 g8 [.int .i64 k, .int .u32 a, .int .u32 b, .int .i64 t, .int .i64 f, .int .u32 v]) => call_any W w p q d e s HS8.out hl.s.np hl.s.li HT.out HR.out H2.out k a b t f v HA.out.1 HA.out.2.1 HA.out.2.2.1 HA.out.2.2.2.1 HK.out.1 HK.out.2)
        have HTc := hid (fun w => touched_l w k)
        go_upto_region 13 with (first | (go_at_call 28; refine (memory_any _ p d L1.out.s.np.own).mono ?_; rintro x wx ⟨rfl, hw⟩; subst hw) | (go_at_call 37; refine (meter_any _ p.f d.m L1.out.s.np.own.mem).mono ?_; rintro x wx ⟨rfl, hw⟩; subst hw))
        have HCb := HCa.out _ _ _ _ L1.out
        rw [L1.out.s.g] at HCb
        have HCc := hid HCb
        clear HCb HCa x0 x1 y0 y1
        simp only [opV, opC, ptr] at HCc
        generalize d.m.c = mc at *
        go_upto_region 14 with (first | (refine wpList_load_mid rfl 77 _ rfl g5 0 rfl _ _ L1.out.s.box.range under77 rfl (by rw [size77]; rfl) ?_) | (refine wpList_load_mid rfl 48 _ rfl g8 0 rfl _ _ L1.out.c.range under48 rfl (by rw [size48]; rfl) ?_) | (go_at_call 38; refine HCc.out.mono ?_; rintro x w5 ⟨c, q', d', e', rfl, hcc, hst, hnp, hli, hmt⟩; have L2 := hid (L1.out.step hst hnp hli); have HCR := hid hcc; have HMT := hid hmt; clear hst hnp hli hcc hmt HCc))
        clear L1 k5 k8
        have L3 := hid (L2.out.on (Below.refl _ _).drew)
        have HMe := hid (fun w (hl : LB W w p q' d' e' s rg g5 g8 [.int .i64 k, .int .u32 a, .int .u32 b, .int .i64 t, .int .i64 f, .int .u32 v]) => meter_any w p.f d'.m hl.s.np.own.mem)
        have HMm := hid (fun w (hl : LB W w p q' d' e' s rg g5 g8 [.int .i64 k, .int .u32 a, .int .u32 b, .int .i64 t, .int .i64 f, .int .u32 v]) => memory_any w p d' hl.s.np.own)
        generalize d'.m.c = mc' at *
        clear L2
        have kc : IntKind.wrap .i64 c = c := by have := HCR.out; rw [IntKind.wrap_i64]; omega
        have kc2 : wrap64 c = c := by have := HCR.out; unfold wrap64; omega
        generalize tch k = tk0 at *
        by_cases hc0 : c = 0
        · subst hc0
          have km : wrap64 (mc' - mc) = tk0 := HMT.out rfl
          have km2 : IntKind.wrap .i64 (mc' - mc) = tk0 := by rw [IntKind.wrap_i64, ← km]; unfold wrap64; rfl
          clear HMT
          refine wp_region_held_drew (S := fun w => Cel w g5 77 [.pointer (some ⟨p.g, 0, none⟩), .pointer (some ⟨rg, 0, none⟩)] ∧ Cel w g8 48 [.int .i64 k, .int .u32 a, .int .u32 b, .int .i64 t, .int .i64 f, .int .u32 v]) (by kernel_rfl) L3.out.hold (fun hHeld => ?_)
          generalize World.drew _ = w6 at *
          refine tk 0 _ (.int .u32 0) ?_
          simp only [Act.put, xzA]
          refine tk 1 _ (.int .i64 0) ?_
          simp only [Act.put, xzA]
          refine tk 2 _ (.int .i64 0) ?_
          simp only [Act.put, xzA]
          refine tk 3 _ (.bool false) ?_
          simp only [Act.put, xzA]
          refine tk 4 _ (.bool false) ?_
          simp only [Act.put, xzA]
          refine tk 5 _ (.int .i64 0) ?_
          simp only [Act.put, xzA]
          refine tk 6 _ (.bool true) ?_
          simp only [Act.put, xzA]
          refine tk 7 _ (.bool true) ?_
          simp only [Act.put, xzA]
          refine tk 8 _ (.pointer (some ⟨g5, 0, none⟩)) ?_
          simp only [Act.put, xzA]
          refine tk 9 _ (.pointer (some ⟨p.g, 0, none⟩)) ?_ (hy := Or.inl ⟨by rfl, by intro w hSw; have t1 := hSw.1.cell 0; simp only [xzD] at t1; go_simp⟩)
          simp only [Act.put, xzA]
          refine tk 12 _ (.int .i64 mc) ?_
          simp only [Act.put, xzA]
          refine tk 14 _ (.pointer (some ⟨g8, 0, none⟩)) ?_
          simp only [Act.put, xzA]
          refine tk 15 _ (.int .i64 k) ?_ (hy := Or.inl ⟨by rfl, by intro w hSw; have t1 := hSw.2.cell 0; simp only [xzD] at t1; go_simp⟩)
          simp only [Act.put, xzA]
          refine wpAnyH_ready (rs := [10]) (by kernel_rfl) (by simp) (AllReadyH.cons rfl (fun KQ hK => ?_) AllReadyH.nil)
          go_simp
          refine (HMm.out _ L3.out).mono ?_
          rintro x wx ⟨rfl, hw⟩
          subst hw
          go_wp2_with fail
          refine hK.out _ _ L3.out.hold (fun hHeld => ?_)
          clear hK KQ
          try simp only [Act.put, xzA]
          refine wpAnyH_ready (rs := [11]) (by kernel_rfl) (by simp) (AllReadyH.cons rfl (fun KQ hK => ?_) AllReadyH.nil)
          go_simp
          refine (HMe.out _ L3.out).mono ?_
          rintro x wx ⟨rfl, hw⟩
          subst hw
          go_wp2_with fail
          refine hK.out _ _ L3.out.hold (fun hHeld => ?_)
          clear hK KQ
          try simp only [Act.put, xzA]
          refine tk 13 _ (.int .i64 tk0) ?_
          simp only [Act.put, xzA]
          refine wpAnyH_ready (rs := [16]) (by kernel_rfl) (by simp) (AllReadyH.cons rfl (fun KQ hK => ?_) AllReadyH.nil)
          go_simp
          refine (HTc.out _).mono ?_
          rintro x wx ⟨rfl, hw⟩
          subst hw
          go_wp2_with fail
          refine hK.out _ _ L3.out.hold (fun hHeld => ?_)
          clear hK KQ
          try simp only [Act.put, xzA]
          refine tk 17 _ (.bool false) ?_
          simp only [Act.put, xzA]
          refine tk 18 _ (.bool false) ?_
          simp only [Act.put, xzA]
          refine tk 19 _ (.bool false) ?_
          simp only [Act.put, xzA]
          refine wpAnyH_done (by kernel_rfl) ?_ _
          go_wp2_with fail
          go_roundw
          case measure => have := HJ.out; simp [intOf]; omega
          case rel => exact ⟨j + 1, q', d', e', HJ.out, rfl, by simp, hid L3.out.s⟩
        · have kz : (c == 0) = false := by simpa using hc0
          clear hc0 HMT
          refine wp_region_held_drew (S := fun w => Cel w g5 77 [.pointer (some ⟨p.g, 0, none⟩), .pointer (some ⟨rg, 0, none⟩)] ∧ Cel w g8 48 [.int .i64 k, .int .u32 a, .int .u32 b, .int .i64 t, .int .i64 f, .int .u32 v]) (by kernel_rfl) L3.out.hold (fun hHeld => ?_)
          generalize World.drew _ = w6 at *
          refine tk 0 _ (.int .u32 c) ?_
          simp only [Act.put, xzA]
          refine tk 1 _ (.int .i64 c) ?_
          simp only [Act.put, xzA]
          refine tk 2 _ (.int .i64 c) ?_
          simp only [Act.put, xzA]
          refine tk 3 _ (.bool false) ?_
          simp only [Act.put, xzA]
          refine tk 4 _ (.bool false) ?_
          simp only [Act.put, xzA]
          refine tk 5 _ (.int .i64 c) ?_
          simp only [Act.put, xzA]
          refine tk 6 _ (.bool false) ?_
          simp only [Act.put, xzA]
          refine tk 7 _ (.bool false) ?_
          simp only [Act.put, xzA]
          refine tk 8 _ undef ?_ (hy := Or.inr ⟨by rfl, rfl⟩)
          simp only [Act.put, xzA]
          refine tk 9 _ undef ?_ (hy := Or.inr ⟨by rfl, rfl⟩)
          simp only [Act.put, xzA]
          refine tk 10 _ undef ?_ (hy := Or.inr ⟨by rfl, rfl⟩)
          simp only [Act.put, xzA]
          refine tk 11 _ undef ?_ (hy := Or.inr ⟨by rfl, rfl⟩)
          simp only [Act.put, xzA]
          refine tk 12 _ undef ?_ (hy := Or.inr ⟨by rfl, rfl⟩)
          simp only [Act.put, xzA]
          refine tk 13 _ undef ?_ (hy := Or.inr ⟨by rfl, rfl⟩)
          simp only [Act.put, xzA]
          refine tk 14 _ undef ?_ (hy := Or.inr ⟨by rfl, rfl⟩)
          simp only [Act.put, xzA]
          refine tk 15 _ undef ?_ (hy := Or.inr ⟨by rfl, rfl⟩)
          simp only [Act.put, xzA]
          refine tk 16 _ undef ?_ (hy := Or.inr ⟨by rfl, rfl⟩)
          simp only [Act.put, xzA]
          refine tk 17 _ undef ?_ (hy := Or.inr ⟨by rfl, rfl⟩)
          simp only [Act.put, xzA]
          refine tk 18 _ (.bool false) ?_
          simp only [Act.put, xzA]
          refine tk 19 _ (.bool false) ?_
          simp only [Act.put, xzA]
          refine wpAnyH_done (by kernel_rfl) ?_ _
          go_wp2_with fail
          go_roundw
          case measure => have := HJ.out; simp [intOf]; omega
          case rel => exact ⟨j + 1, q', d', e', HJ.out, rfl, by simp, hid L3.out.s⟩
      · by_cases h9 : k = 9
        · subst h9
          clear hk
          obtain ⟨sv, hsv⟩ : ∃ sv, IntKind.wrap .i32 a = sv := ⟨_, rfl⟩
          have hb32 : -2147483648 ≤ sv ∧ sv < 2147483648 := by rw [← hsv, IntKind.wrap_i32]; omega
          have k64 : IntKind.wrap .i64 sv = sv := by rw [IntKind.wrap_i64]; omega
          have k642 : wrap64 sv = sv := by unfold wrap64; omega
          clear hb32
          by_cases t1 : (d.ent sv).t = 1
          · have hth : d.there sv = true := there_of (by rw [t1]; decide)
            obtain ⟨sn, rfl⟩ : ∃ sn : Nat, sv = (sn : Int) := ⟨sv.toNat, by have := (there_lt hth).1; omega⟩
            have hpe := planL_sim L1.out.s.np.sim sn
            have hln : (d.planL sn).length ≤ 100 ∧ 0 < (d.planL sn).length := by
              have h1 := owned_len d (sn : Int)
              have h2 := L1.out.s.np.own.ok.n64
              unfold DS.planL
              rw [List.length_append, List.length_singleton]
              omega
            have HP1 := hid (plan_yes w4 p d L1.out.s.np.own sn t1)
            have HP2 := hid (fun w (hl : LB W w p q d e s rg g5 g8 [.int .i64 9, .int .u32 a, .int .u32 b, .int .i64 t, .int .i64 f, .int .u32 v]) => rplan_yes w q e hl.s.np.doc sn (by rw [hl.s.np.sim.ent]; exact t1))
            have HG := hid L1.out.s.g
            rw [hpe, HG.out] at HP2
            have HLn := hid hln
            clear hln hpe hth t1
            generalize d.planL sn = PL0 at *
            simp only [ptr] at HP1 HP2
            go_upto_region 18 with (go_at_call 9; refine HP1.out.mono ?_; rintro x w5 ⟨ga, ca, rfl, hpl, hga, hb⟩; have L2 := hid (L1.out.on hb); have PA := hid hpl; clear hpl hga hb HP1 L1 x0 x1 y0 y1)
            have y1 := L2.out.c.cell 1
            simp only [xzD, xzE] at y1
            obtain ⟨x0, x1⟩ := L2.out.s.pair
            go_upto_region 19 with (go_at_call 40; refine (HP2.out _ L2.out).mono ?_; rintro x w6 ⟨v6, rfl, hpl⟩; obtain ⟨gb, cb, rfl, hpb, _⟩ := own3_pl hpl.own HLn.out.2; have L3 := hid (And.intro (L2.out.on hpl.below) (And.intro (PA.out.on hpl.below) hpb)); clear hpl hpb HP2 L2 PA x0 x1 y1)
            generalize hM : PL0.length = M at *
            have HMl := hid hM
            clear hM
            have q5 : (M : Int) ≤ 100 := by have := HLn.out.1; omega
            go_upto_region 22 with fail
            go_loopw [14] (fun i wr => ∃ m : Nat, m ≤ M ∧ i = .int .i64 (m : Int) ∧ Hid (LB W wr p q d e s rg g5 g8 [.int .i64 9, .int .u32 a, .int .u32 b, .int .i64 t, .int .i64 f, .int .u32 v] ∧ PL wr ga PL0 ∧ PL wr gb PL0)) (fun i _ => M - (intOf i).toNat)
            case atStart => exact ⟨0, Nat.zero_le _, rfl, L3⟩
            case round =>
              clear L3
              obtain ⟨m, hm, rfl, HL⟩ := hrel
              by_cases hlt : m < M
              · have q3 : (m : Int) < (M : Int) := by omega
                have HM2 := hid hlt
                have hat := fun w (h : PL w ga PL0 ∧ PL w gb PL0) => And.intro (h.1.at_ m (by rw [HMl.out]; exact hlt)) (h.2.at_ m (by rw [HMl.out]; exact hlt))
                generalize (((PL0.getD m 0 : Nat)) : Int) = z at hat
                have HAt := hid hat
                clear hat hlt hm
                go_upto_region 24 with fail
                have L4 := hid (And.intro (HL.out.1.on (Below.refl _ _).drew) (And.intro (HL.out.2.1.on (Below.refl _ _).drew) (HL.out.2.2.on (Below.refl _ _).drew)))
                clear HL
                refine wp_region_held_drew (S := fun w => w.cell? ⟨ga, m, none⟩ = some (.int .i64 z) ∧ w.cell? ⟨gb, m, none⟩ = some (.int .i64 z)) (by kernel_rfl) (HAt.out _ L4.out.2) (fun hHeld => ?_)
                generalize World.drew _ = w7 at *
                refine tk 0 _ (.slice (some ⟨ga, 0, none⟩) M ca) ?_
                simp only [Act.put, xzA]
                refine tk 1 _ (.int .i64 (m : Int)) ?_
                simp only [Act.put, xzA]
                refine tk 2 _ (.pointer (some ⟨ga, m, none⟩)) ?_
                simp only [Act.put, xzA]
                refine tk 3 _ (.int .i64 z) ?_ (hy := Or.inl ⟨by rfl, by intro w hSw; have t1 := hSw.1; go_simp⟩)
                simp only [Act.put, xzA]
                refine tk 4 _ (.slice (some ⟨gb, 0, none⟩) M cb) ?_
                simp only [Act.put, xzA]
                refine tk 5 _ (.int .i64 (m : Int)) ?_
                simp only [Act.put, xzA]
                refine tk 6 _ (.pointer (some ⟨gb, m, none⟩)) ?_
                simp only [Act.put, xzA]
                refine tk 7 _ (.int .i64 z) ?_ (hy := Or.inl ⟨by rfl, by intro w hSw; have t1 := hSw.2; go_simp⟩)
                simp only [Act.put, xzA]
                refine tk 8 _ (.bool false) ?_
                simp only [Act.put, xzA]
                refine wpAnyH_done (by kernel_rfl) ?_ _
                go_wp2_with fail
                go_roundw
                case measure => have := HM2.out; simp [intOf]; omega
                case rel => exact ⟨m + 1, HM2.out, by simp, L4⟩
              · have hmn : M = m := by omega
                subst hmn
                clear hlt hm
                go_wp2_with fail
                go_roundw
                case measure => have := HJ.out; simp [intOf]; omega
                case rel => exact ⟨j + 1, q, d, e, HJ.out, rfl, by simp, hid HL.out.1.s⟩
          · have HP1 := hid (plan_no w4 p d L1.out.s.np.own sv t1)
            have HP2 := hid (fun w (hl : LB W w p q d e s rg g5 g8 [.int .i64 9, .int .u32 a, .int .u32 b, .int .i64 t, .int .i64 f, .int .u32 v]) => rplan_no w q e hl.s.np.doc sv (by rw [hl.s.np.sim.ent]; exact t1))
            have HG := hid L1.out.s.g
            rw [HG.out] at HP2
            clear t1
            simp only [ptr] at HP1 HP2
            go_upto_region 18 with (go_at_call 9; refine HP1.out.mono ?_; rintro x w5 ⟨rfl, hb⟩; have L2 := hid (L1.out.on hb); clear hb HP1 L1 x0 x1 y0 y1)
            have y1 := L2.out.c.cell 1
            simp only [xzD, xzE] at y1
            obtain ⟨x0, x1⟩ := L2.out.s.pair
            go_upto_region 19 with (go_at_call 40; refine (HP2.out _ L2.out).mono ?_; rintro x w6 ⟨rfl, hb⟩; have L3 := hid (L2.out.on hb); clear hb HP2 L2 x0 x1 y1)
            go_upto_region 22 with fail
            go_loopw [14] (fun i wr => i = .int .i64 0 ∧ wr = w6) (fun _ _ => 0)
            case atStart => exact ⟨rfl, rfl⟩
            case round =>
              obtain ⟨rfl, rfl⟩ := hrel
              go_wp2_with fail
              go_roundw
              case measure => have := HJ.out; simp [intOf]; omega
              case rel => exact ⟨j + 1, q, d, e, HJ.out, rfl, by simp, hid L3.out.s⟩
        · have k9 : (k == 9) = false := by rw [beq_eq_false_iff_ne]; exact h9
          have hkk : ¬ (5 ≤ k) ∨ ¬ (k ≤ 8) := by omega
          have HSe := sets_any W w4 p q d e s L1.out.s.np L1.out.s.li HT.out HR.out H2.out k a b t f v HA.out.1 HA.out.2.1 HA.out.2.2.1 HA.out.2.2.2.1 HA.out.2.2.2.2.1 HA.out.2.2.2.2.2
          rw [L1.out.s.g] at HSe
          have HSS := hid HSe
          clear HSe h9 hk x0 x1 y1
          simp only [opV, opC, ptr] at HSS
          rcases hkk with hk5 | hk8
          · go_upto_region 9 with (first | (refine wpList_load_mid rfl 77 _ rfl g5 0 rfl _ _ L1.out.s.box.range under77 rfl (by rw [size77]; rfl) ?_) | (refine wpList_load_mid rfl 48 _ rfl g8 0 rfl _ _ L1.out.c.range under48 rfl (by rw [size48]; rfl) ?_) | (go_at_call 41; refine HSS.out.mono ?_; rintro x w5 ⟨q', d', e', rfl, hst, hnp, hli⟩; have L2 := hid (L1.out.s.step hst hnp hli); clear hst hnp hli HSS L1))
            go_wp2_with fail
            go_roundw
            case measure => have := HJ.out; simp [intOf]; omega
            case rel => exact ⟨j + 1, q', d', e', HJ.out, rfl, by simp, L2⟩
          · by_cases hk5 : 5 ≤ k
            · go_upto_region 9 with (first | (refine wpList_load_mid rfl 77 _ rfl g5 0 rfl _ _ L1.out.s.box.range under77 rfl (by rw [size77]; rfl) ?_) | (refine wpList_load_mid rfl 48 _ rfl g8 0 rfl _ _ L1.out.c.range under48 rfl (by rw [size48]; rfl) ?_) | (go_at_call 41; refine HSS.out.mono ?_; rintro x w5 ⟨q', d', e', rfl, hst, hnp, hli⟩; have L2 := hid (L1.out.s.step hst hnp hli); clear hst hnp hli HSS L1))
              go_wp2_with fail
              go_roundw
              case measure => have := HJ.out; simp [intOf]; omega
              case rel => exact ⟨j + 1, q', d', e', HJ.out, rfl, by simp, L2⟩
            · exact absurd (show k ≤ 8 by omega) hk8
    · have hjn : n = j := by omega
      subst hjn
      clear hlt hj
      have HWh := whole_any wr p q d e HI.out.np.own HI.out.np.doc HI.out.np.sim
      rw [HI.out.g] at HWh
      have HWW := hid HWh
      clear HWh
      simp only [ptr] at HWW
      go_wp2_with (first | (refine wpList_load_mid rfl 77 _ rfl g5 0 rfl _ _ HI.out.box.range under77 rfl (by rw [size77]; rfl) ?_) | (go_at_call 42; refine HWW.out.mono ?_; rintro x w5 ⟨rfl, hb⟩; have HB5 := hid (below_on HI.out.np.bl hb); clear hb))
      go_ret
      exact ⟨rfl, HB5.out⟩
end Go.Proofs.YtdfnbcbnmiohnaaGreatDoor
namespace Go.Proofs.YtdfnbcbnmiohnaaGreatDoor
open Go.ChangeShapes Go.WideShapes Go.ChangeAt Go.RowKit
theorem own : ownKnob Tryz.prog.godebug = none := by kernel_rfl
theorem laidOut : laidOutB Tryz.prog = true := by kernel_rfl
theorem gTab : Tryz.prog.globalNamed "warden/sha.roundWords" = some 0 := by kernel_rfl
theorem gTabType : (Tryz.prog.globals[0]?).map (·.type) = some 234 := by kernel_rfl
theorem celA : Tryz.prog.cellsOf 234 = 64 := by kernel_rfl
theorem celW : Tryz.prog.cellsOf 43 = 1 := by kernel_rfl
theorem celI : Tryz.prog.cellsOf 3 = 1 := by kernel_rfl
theorem tab_of {rest : List (String × DataW Unit)} {W : World} (h : laidMet Tryz.prog (("warden/sha.roundWords", Rows.laid_warden_sha_roundWords) :: rest) W) : H.Tab W := by
  have hT : Lib.TabIs Tryz.prog W "warden/sha.roundWords" .u32 H.S.K := Lib.tabIs_of_head (rest := rest) gTab gTabType Tryz.underlying234 Tryz.underlying43 celW celA h
  have hc : ∀ i : Nat, i < 64 → W.cell? ⟨0, i, none⟩ = some (.int .u32 (H.S.K.getD i 0)) := fun i hi => hT.cell gTab i hi
  exact fun i hi => by rw [Nat.zero_add]; exact hc i hi
theorem size_of_shape {W : World} (h : W.ShapedOpen Tryz.prog) : 1 < W.heap.size := by
  have h0 : ((begin Tryz.prog (fun _ _ => 0) default).world.heap[1]?).bind Obj.row? = some (#[.int .u32 0, .int .u32 0, .int .u32 0, .int .u32 0, .int .u32 0, .int .u32 0, .int .u32 0, .int .u32 0, .int .u32 0, .int .u32 0, .int .u32 0, .int .u32 0, .int .u32 0, .int .u32 0, .int .u32 0, .int .u32 0, .int .u32 0, .int .u32 0, .int .u32 0, .int .u32 0, .int .u32 0, .int .u32 0, .int .u32 0, .int .u32 0, .int .u32 0, .int .u32 0, .int .u32 0, .int .u32 0, .int .u32 0, .int .u32 0, .int .u32 0, .int .u32 0, .int .u32 0, .int .u32 0, .int .u32 0, .int .u32 0, .int .u32 0, .int .u32 0, .int .u32 0, .int .u32 0, .int .u32 0, .int .u32 0, .int .u32 0, .int .u32 0, .int .u32 0, .int .u32 0, .int .u32 0, .int .u32 0, .int .u32 0, .int .u32 0, .int .u32 0, .int .u32 0, .int .u32 0, .int .u32 0, .int .u32 0, .int .u32 0, .int .u32 0, .int .u32 0, .int .u32 0, .int .u32 0, .int .u32 0, .int .u32 0, .int .u32 0, .int .u32 0], 234) := by kernel_rfl
  obtain ⟨cs, hh, _, _⟩ := h.1 1 _ _ (by rw [show Tryz.prog.globals.size = 2 from by kernel_rfl]; decide) h0
  exact (Array.getElem?_eq_some_iff.1 hh).1
theorem trodAll_below {H : Type} {enc : TypeId × Value → H} {P : Program} (hl : laidOutB P = true) {W W' : World} (hb : Below W.heap.size W W') (ts : List TypeId) : ∀ {vs : List Value} {ds : List (DataW H)} {ps : List MemPlace},
    (ts.all fun t => P.readableRec t && decide (t < P.types.size)) = true → DataW.TrodAll enc P W 0 (fun _ => true) true ts vs ds ps → (∀ x ∈ ps, x.block < W.heap.size) →
    DataW.TrodAll enc P W' 0 (fun b => decide (b < W.heap.size)) true ts vs ds ps := by
  induction ts with
  | nil =>
    intro vs ds ps _ h _
    obtain ⟨rfl, rfl, rfl⟩ := trodAll_nil h
    exact trodAll_mk0
  | cons t ts ih =>
    intro vs ds ps ht h hlt
    obtain ⟨v0, vs0, d0, ds0, p0, q0, rfl, rfl, rfl, h0, r0⟩ := trodAll_cons h
    simp only [List.all_cons, Bool.and_eq_true, decide_eq_true_eq] at ht
    exact trodAll_cons_mk (Below.trod hl ht.1.1 ht.1.2 h0 hb (fun x hx => hlt x (by simp [hx]))) (ih (by simpa using ht.2) r0 (fun x hx => hlt x (by simp [hx])))
theorem law_post {H : Type} {enc : TypeId × Value → H} {f : Func} {s : ChangeSpec} {W W' : World} {args : Array Value} {ds gs : List (DataW H)} {before : List MemPlace}
    (hts : (f.params.toList.all fun t => Tryz.prog.readableRec t && decide (t < Tryz.prog.types.size)) = true) (hr : f.resultTypes = #[4]) (hv : s.vars = [])
    (hs : s.fn H (ds ++ gs) = { results := [.lit (.bool true)], args := ds })
    (hW : DataW.Whole enc Tryz.prog f.params.toList s.vars false W args.toList ds gs before) (hb : Below W.heap.size W W') :
    s.post enc Tryz.prog f false true false false W args (.bool true) W' := by
  have hW' := hW
  have hlt := hW.lt
  obtain ⟨p, q, hA, hV, rfl, hfz, hnd⟩ := hW
  rw [hv] at hV
  obtain ⟨rfl, rfl⟩ := trodVars_none hV
  rw [List.append_nil] at hlt
  refine ⟨ds, [], _, [], p, [], hW', ?_, ?_, ?_, hb.frame _, fun h => by cases h⟩
  · rw [hs, hr]
    exact trodAll_mk1 (shut_bool Tryz.underlying4 _)
  · rw [hs]
    exact trodAll_below laidOut hb _ hts hA hlt
  · rw [hs, hv]
    rfl
theorem lit_u32 {n : Int} (h : (Lit.int .u32 n).wf = true) : 0 ≤ n ∧ n < 4294967296 := by
  simp only [Lit.wf, IntKind.min, IntKind.max, IntKind.signed, IntKind.bits, Bool.and_eq_true] at h
  obtain ⟨h1, h2⟩ := h
  simp at h1 h2
  omega
set_option maxRecDepth 100000 in
theorem open_slice {H : Type} {enc : TypeId × Value → H} {W : World} {fuel : Nat} {held : Bool} {cs0 : List Value} {y0 : DataW H × List MemPlace} {t e : TypeId} {st : Nat} (ht : Tryz.prog.underlying t = some (.slice e)) (hce : Tryz.prog.cellsOf e = st) (hst : 0 < st)
    (hf : DataW.trod enc Tryz.prog W 0 (fun _ => true) held fuel t cs0 = some y0) :
    ∃ (ao : Option Addr) (n cap b off : Nat), cs0 = [.slice ao n cap] ∧ n ≤ cap ∧ (0 < n → ao = some ⟨b, off, none⟩ ∧ b < W.heap.size) ∧
      (∀ k, k < n → ∃ cs m y, W.rangeAt b (off + k * st) cs ∧ DataW.trod enc Tryz.prog W 0 (fun _ => true) held m e cs = some y) ∧ (n = 0 ∨ ∃ elems spare, y0.1 = .slice elems spare ∧ elems.length = n) := by
  rcases DataW.trod_slice ht hf with ⟨hcs, hx⟩ | ⟨a, len, cap', elems, rest, m, rfl, hcs, hx, hb0, hl, hm, hlen, hel, hsp, hns⟩
  · exact ⟨none, 0, 0, 0, 0, hcs, Nat.le_refl _, fun h => absurd h (by decide), fun k hk => absurd hk (by omega), .inl rfl⟩
  · rw [hce] at hel
    have hd : len = 0 ∨ ∃ es sp, y0.1 = .slice es sp ∧ es.length = len := .inr ⟨_, _, by rw [hx], by rw [List.length_map]; exact hlen⟩
    rcases Nat.eq_zero_or_pos len with h0 | hn
    · subst h0
      exact ⟨_, 0, _, 0, 0, hcs, hl, fun h => absurd h (by decide), fun k hk => absurd hk (by omega), .inl rfl⟩
    · have each : ∀ k (hk : k < len), ∃ cs y, W.cells? 0 (a.add (k * st)) st = some cs ∧ DataW.trod enc Tryz.prog W 0 (fun _ => true) held m e cs = some y := fun k hk => by
        have he := hel k hk
        obtain ⟨y, hy⟩ : ∃ y, elems[k]? = some y := ⟨elems[k], List.getElem?_eq_getElem (by omega)⟩
        rw [hy] at he
        obtain ⟨cs, h1, h2⟩ := Option.bind_eq_some_iff.1 he
        exact ⟨cs, y, h1, h2⟩
      obtain ⟨b, off, spot⟩ := a
      have hspot : spot = none := by
        obtain ⟨cs, y, h1, _⟩ := each 0 hn
        have := (World.cells?_some h1).2.2 0 hst
        have hc := (World.cells?_some h1).2.1
        rw [List.getElem?_eq_getElem (by omega)] at this
        simpa [Addr.add] using World.cell?_spot this
      subst hspot
      have hadd : ∀ i j, ((⟨b, off, none⟩ : Addr).add i).add j = ⟨b, off + i + j, none⟩ := fun i j => by rw [Addr.add_mid, Addr.add_mid]
      have hblk : b < W.heap.size := by
        obtain ⟨cs, y, h1, _⟩ := each 0 hn
        have := World.cells?_block h1 hst
        simpa [Addr.add] using this
      refine ⟨_, len, cap', b, off, hcs, hl, fun _ => ⟨rfl, hblk⟩, fun k hk => ?_, hd⟩
      obtain ⟨cs, y, h1, h2⟩ := each k hk
      refine ⟨cs, m, y, fun j v hv => ?_, h2⟩
      have hj : j < st := by have := (List.getElem?_eq_some_iff.1 hv).1; have := (World.cells?_some h1).2.1; omega
      have := (World.cells?_some h1).2.2 j hj
      rw [hadd] at this
      rw [this, hv]
theorem pick {Q : Nat → Int → Prop} (n : Nat) (h : ∀ k, k < n → ∃ x, Q k x) : ∃ f : Nat → Int, ∀ k, k < n → Q k (f k) :=
  ⟨fun k => if hk : k < n then (h k hk).choose else 0, fun k hk => by simp only [hk, dif_pos]; exact (h k hk).choose_spec⟩
theorem pickA {α : Type} [Inhabited α] {Q : Nat → α → Prop} (n : Nat) (h : ∀ k, k < n → ∃ x, Q k x) : ∃ f : Nat → α, ∀ k, k < n → Q k (f k) :=
  ⟨fun k => if hk : k < n then (h k hk).choose else default, fun k hk => by simp only [hk, dif_pos]; exact (h k hk).choose_spec⟩
theorem celOp : Tryz.prog.cellsOf 48 = 6 := by kernel_rfl
theorem bytesOp : Tryz.prog.bytesOf 48 = 40 := by kernel_rfl
set_option maxRecDepth 100000 in
theorem open_op {H : Type} {enc : TypeId × Value → H} {W : World} {b0 fuel : Nat} {sp : Nat → Bool} {held : Bool} {cs : List Value} {y : DataW H × List MemPlace}
    (h : DataW.trod enc Tryz.prog W b0 sp held fuel 48 cs = some y) : ∃ x : Oq, cs = x.cs ∧ x.Ok := by
  obtain ⟨xs, m, rfl, hy, hlen, hn, hel⟩ := DataW.trod_struct Tryz.underlying48 h
  rw [celOp] at hlen
  have hsz : xs.length = 6 := hn
  match xs, hsz with
  | [x0, x1, x2, x3, x4, x5], _ =>
    have e0 : DataW.trod enc Tryz.prog W b0 sp held m 3 ((cs.drop 0).take (Tryz.prog.cellsOf 3)) = some x0 := hel 0 _ rfl
    have e1 : DataW.trod enc Tryz.prog W b0 sp held m 43 ((cs.drop 1).take (Tryz.prog.cellsOf 43)) = some x1 := hel 1 _ rfl
    have e2 : DataW.trod enc Tryz.prog W b0 sp held m 43 ((cs.drop 2).take (Tryz.prog.cellsOf 43)) = some x2 := hel 2 _ rfl
    have e3 : DataW.trod enc Tryz.prog W b0 sp held m 3 ((cs.drop 3).take (Tryz.prog.cellsOf 3)) = some x3 := hel 3 _ rfl
    have e4 : DataW.trod enc Tryz.prog W b0 sp held m 3 ((cs.drop 4).take (Tryz.prog.cellsOf 3)) = some x4 := hel 4 _ rfl
    have e5 : DataW.trod enc Tryz.prog W b0 sp held m 43 ((cs.drop 5).take (Tryz.prog.cellsOf 43)) = some x5 := hel 5 _ rfl
    rw [celI] at e0 e3 e4
    rw [celW] at e1 e2 e5
    obtain ⟨q0, g0, _, k0⟩ := DataW.trod_int Tryz.underlying3 (show _ = some x0 from e0)
    obtain ⟨q1, g1, _, k1⟩ := DataW.trod_int Tryz.underlying43 (show _ = some x1 from e1)
    obtain ⟨q2, g2, _, k2⟩ := DataW.trod_int Tryz.underlying43 (show _ = some x2 from e2)
    obtain ⟨q3, g3, _, k3⟩ := DataW.trod_int Tryz.underlying3 (show _ = some x3 from e3)
    obtain ⟨q4, g4, _, k4⟩ := DataW.trod_int Tryz.underlying3 (show _ = some x4 from e4)
    obtain ⟨q5, g5, _, k5⟩ := DataW.trod_int Tryz.underlying43 (show _ = some x5 from e5)
    refine ⟨⟨q0, q1, q2, q3, q4, q5⟩, ?_, ⟨(lit_u32 k1).1, (lit_u32 k1).2, (lit_u32 k2).1, (lit_u32 k2).2, (lit_u32 k5).1, (lit_u32 k5).2⟩⟩
    match cs, hlen with
    | [c0, c1, c2, c3, c4, c5], _ =>
      simp at g0 g1 g2 g3 g4 g5
      rw [g0, g1, g2, g3, g4, g5]
      rfl
set_option maxRecDepth 100000 in
theorem open_ops {H : Type} {enc : TypeId × Value → H} {W : World} {base : Nat} {held : Bool} {v : Value} {d : DataW H} {p : List MemPlace}
    (hv : Value.okWide Tryz.prog W .any base 22 v) (h : DataW.Trod enc Tryz.prog W 0 (fun _ => true) held 22 v d p) :
    ∃ (ao : Option Addr) (n cp : Nat) (q : Nat → Oq), v = .slice ao n cp ∧ OpsAt W ao n q ∧ (n = 0 ∨ ∃ elems spare, d = .slice elems spare ∧ elems.length = n) := by
  obtain ⟨ao, n, cp, rfl⟩ := okWide_slice Tryz.underlying22 hv
  obtain ⟨fuel, hf⟩ := h
  obtain ⟨ao', n', cp', b, off, hcs, _, hao, hk, hd⟩ := open_slice Tryz.underlying22 celOp (by decide) hf
  simp only [Value.cells, List.cons.injEq, Value.slice.injEq, and_true] at hcs
  obtain ⟨rfl, rfl, rfl⟩ := hcs
  obtain ⟨F, hF⟩ := pickA (α := Oq) (Q := fun k x => W.rangeAt b (off + k * 6) x.cs ∧ x.Ok) n fun k hkn => by
    obtain ⟨cs, m, y, h1, h2⟩ := hk k hkn
    obtain ⟨x, rfl, hx⟩ := open_op h2
    exact ⟨x, h1, hx⟩
  exact ⟨ao, n, cp, F, rfl, ⟨fun hn => ⟨b, off, (hao hn).1, (hao hn).2, fun j hj => (hF j hj).1⟩, fun j hj => (hF j hj).2⟩, hd⟩
end Go.Proofs.YtdfnbcbnmiohnaaGreatDoor
