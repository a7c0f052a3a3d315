import Derived.Test.YtdfnbcbnmiohnaaGreatDoorP49
import Derived.Test.YtdfnbcbnmiohnaaGreatDoorP01
import Derived.Test.YtdfnbcbnmiohnaaGreatDoorP43
import Derived.Test.YtdfnbcbnmiohnaaGreatDoorP48
namespace Go.Proofs.YtdfnbcbnmiohnaaGreatDoor
open Go.RowKit
set_option maxHeartbeats 4000000
set_option maxRecDepth 100000
structure NewP (W w : World) (p : Dp) (r : Rp) (d : DS) : Prop where
  own : DB w p d
  doc : RDB w r d
  bl : Below W.heap.size W w
  pn : ∀ k ∈ p.all, W.heap.size ≤ k
  rn : ∀ k ∈ r.all, W.heap.size ≤ k
  ap : ∀ k ∈ p.all, k ∉ r.all
theorem NewP.on {W w w' : World} {p : Dp} {r : Rp} {d : DS} (h : NewP W w p r d) (hb : Below w.heap.size w w') : NewP W w' p r d := ⟨h.own.on hb, h.doc.on hb, below_on h.bl hb, h.pn, h.rn, h.ap⟩
theorem NewP.back {W X w : World} {p : Dp} {r : Rp} {d : DS} (h : NewP X w p r d) (hb : Below W.heap.size W X) : NewP W w p r d := ⟨h.own, h.doc, below_on hb h.bl, fun k hk => Nat.le_trans hb.size (h.pn k hk), fun k hk => Nat.le_trans hb.size (h.rn k hk), h.ap⟩
theorem pair_new {X w1 w2 w3 w4 : World} {f : Fp} {r : Rf} {g gw : Nat} {p : Rp} {m : MS} {d : DS} (h1 : NewMem X w1 f m) (h2 : NewR w1 w2 r m) (hd : DB w3 ⟨g, gw, f⟩ d) (hg : w2.heap.size ≤ g) (hgw : w2.heap.size ≤ gw) (hb : ButL f.w w2 w3) (hn : NewD w3 w4 r p d) : NewP X w4 ⟨g, gw, f⟩ p d := by
  have s1 := h1.below.size
  have s2 := h2.below.size
  have s3 := hb.size
  have hfl : ∀ k ∈ f.all, k < w1.heap.size := h1.mem.lt
  have hrl : ∀ k ∈ r.all, k < w2.heap.size := h2.mem.lt
  have hpall : ∀ k ∈ (Dp.mk g gw f).all, k = g ∨ k = gw ∨ k ∈ f.all := fun k hk => by
    simpa only [Dp.all, List.mem_cons] using hk
  have hball : ∀ k ∈ p.all, k = p.g ∨ k = p.ge ∨ k ∈ p.r.all := fun k hk => by
    simpa only [Rp.all, List.mem_cons] using hk
  have hoff : ∀ k ∈ (Dp.mk g gw f).all, k ∉ r.all := fun k hk hm => by
    have h3 := hrl k hm
    have h4 := h2.new k hm
    rcases hpall k hk with rfl | rfl | hk
    · omega
    · omega
    · have := hfl k hk; omega
  have b1 : Below X.heap.size X w3 := (below_on h1.below h2.below).trans (hb.below (B := X.heap.size) (fun k hk => h1.new k (Fp.w_all hk)) (by omega))
  have b2 : Below X.heap.size X w4 := b1.trans (hn.but.below (B := X.heap.size) (fun k hk => by have := h2.new k hk; omega) b1.size)
  refine ⟨hd.frame hn.but hoff, hn.db, b2, fun k hk => ?_, fun k hk => ?_, fun k hk hm => ?_⟩
  · rcases hpall k hk with rfl | rfl | hk
    · omega
    · omega
    · exact h1.new k hk
  · rcases hball k hk with rfl | rfl | hk
    · have := hn.g; omega
    · have := hn.ge; omega
    · rcases hn.sub k hk with hk | hk
      · have := h2.new k hk; omega
      · omega
  · have h3 := hd.lt k hk
    rcases hball k hm with rfl | rfl | hm
    · have := hn.g; omega
    · have := hn.ge; omega
    · rcases hn.sub k hm with hm | hm
      · exact hoff k hk hm
      · omega
theorem fresh_any (W : World) (s : Nat) (s1 : 1 ≤ s) (s2 : s ≤ 64) :
    Calls Tryz.prog 35 #[.int .i64 (s : Int)] W fun x W' => ∃ p r, x = .returned (.tuple #[.agg #[ptr p.g, ptr r.g], .bool true]) ∧ NewP W W' p r (DS.fresh (MS.new s 1)) := by
  have BB : Hid (Below W.heap.size W (W.alloc (.cells #[.pointer none, .pointer none] 77))) := hid (below_one _ _)
  have B0 : Hid (Cel (W.alloc (.cells #[.pointer none, .pointer none] 77)) W.heap.size 77 [.pointer none, .pointer none]) := hid (Cel.new W 77 [.pointer none, .pointer none])
  have H1 := hid (fun w => new_any w s 1 s1 s2 (by decide) (by decide))
  have H2 := hid (fun w => rnew_any w s 1 s1 s2 (by decide) (by decide))
  have H3 := hid (fun w f (hm : Mem w f (MS.new s 1)) => newDB_any w f (MS.new s 1) hm (by show s ≤ 64; exact s2))
  have H4 := hid (fun w r (hm : RMem w r (MS.new s 1)) => rnewDB_any w r (MS.new s 1) hm (by show s ≤ 64; exact s2) (by show 0 < s; omega))
  clear s1 s2
  generalize MS.new s 1 = m at *
  generalize DS.fresh m = d at *
  simp only [ptr] at *
  go_enter Tryz.func35, Tryz.ntmps35
  go_upto_region 1 with fail
  generalize W.alloc _ = X at *
  generalize hg2 : W.heap.size = g2 at B0 ⊢
  have HG2 := hid hg2
  clear hg2
  go_upto_region 5 with (first | (go_at_call 13; refine (H1.out _).mono ?_; rintro e w1 ⟨f, rfl, h1⟩; have N1 := hid h1; clear h1) | (go_at_call 74; refine (H2.out _).mono ?_; rintro e w2 ⟨r, rfl, h2⟩; have N2 := hid h2; clear h2))
  have HM2 := hid (N1.out.mem.on N2.out.below)
  go_upto_region 6 with (first | (go_at_call 14; refine (H3.out _ _ HM2.out).mono ?_; rintro e w3 ⟨g, gw, rfl, hd, hg, hgw, hb⟩; have N3 := hid (And.intro hd (And.intro hg (And.intro hgw hb))); have R3 := hid (N2.out.mem.frame hb (fun k hk hm => by have a := N2.out.new k hk; have b := N1.out.mem.lt k (Fp.w_all hm); omega)); clear hd hg hgw hb) | (go_at_call 75; refine (H4.out _ _ R3.out).mono ?_; rintro e w4 ⟨q, rfl, hn⟩; have N4 := hid (pair_new N1.out N2.out N3.out.1 N3.out.2.1 N3.out.2.2.1 N3.out.2.2.2 hn); clear hn) | (refine wpList_build_f rfl 77 _ rfl _ rfl _ (built77 g q.g) ?_) | (refine wpList_store_st rfl 77 _ _ rfl w4.heap.size [.pointer (some ⟨g, 0, none⟩), .pointer (some ⟨q.g, 0, none⟩)] rfl rfl (Cel.new w4 77 [.pointer none, .pointer none]) size77 rfl rfl ?_; intro w5 hc hb hs; have N5 := hid (N4.out.on ((below_one w4 _).trans (hb.below (B := w4.heap.size) (by simp) (by simp)))); have C5 := hid (And.intro hc N4.out.bl.size); clear hc hb hs N4))
  clear N1 N2 N3 HM2 R3
  generalize w4.heap.size = g8 at *
  have N6 := hid (N5.out.on (Below.refl _ _).drew)
  have C6 := hid (And.intro (C5.out.1.on (Below.refl _ _).drew) (And.intro (B0.out.on N6.out.bl) (And.intro BB.out (And.intro C5.out.2 B0.out.lt))))
  clear N5 C5 B0 BB
  refine wp_region_held_drew (S := fun w => Cel w g8 77 [.pointer (some ⟨g, 0, none⟩), .pointer (some ⟨q.g, 0, none⟩)]) (by kernel_rfl) C6.out.1 (fun hHeld => ?_)
  generalize World.drew _ = w6 at *
  refine tk 0 (some 27) (.agg #[.pointer (some ⟨g, 0, none⟩), .pointer (some ⟨q.g, 0, none⟩)]) ?_ (hy := yieldsIf_load_mid (by rfl) _ _ rfl _ _ rfl _ _ (fun w hSw => hSw.range) under77 rfl (by rw [size77]; rfl))
  simp only [Act.put, tqA, tqZ, tqS]
  refine tk 1 (some 28) (.pointer (some ⟨g8, 0, none⟩)) ?_
  simp only [Act.put, tqA, tqZ, tqS]
  refine tk 2 (some 29) (.pointer (some ⟨g, 0, none⟩)) ?_ (hy := Or.inl ⟨by rfl, by intro w hSw; have hc : w.cell? ⟨g8, 0, none⟩ = some (.pointer (some ⟨g, 0, none⟩)) := hSw.cell 0; go_simp⟩)
  simp only [Act.put, tqA, tqZ, tqS]
  refine tk 3 (some 30) (.bool true) ?_
  simp only [Act.put, tqA, tqZ, tqS]
  refine wpAnyH_ready (rs := [4]) (by kernel_rfl) (by simp) (AllReadyH.cons rfl (fun KQ hK => ?_) AllReadyH.nil)
  rw [if_pos (by rfl)]
  refine wp_store_st 77 _ _ rfl g2 [.pointer (some ⟨g, 0, none⟩), .pointer (some ⟨q.g, 0, none⟩)] rfl rfl C6.out.2.1 size77 rfl rfl ?_
  intro w7 hc hb hs
  have HNE : g8 ∉ [g2] := by rw [List.mem_singleton]; have a := C6.out.2.2.2.1; have b := C6.out.2.2.2.2; omega
  have N7 := hid (NewP.mk (N6.out.own.frame hb (fun k hk hm => by rw [List.mem_singleton] at hm; have a := N6.out.pn k hk; have b := C6.out.2.2.2.2; omega)) (N6.out.doc.frame hb (fun k hk hm => by rw [List.mem_singleton] at hm; have a := N6.out.rn k hk; have b := C6.out.2.2.2.2; omega)) ((below_on C6.out.2.2.1 N6.out.bl).trans (hb.below (B := W.heap.size) (fun k hk => by rw [List.mem_singleton] at hk; have := HG2.out; omega) (below_on C6.out.2.2.1 N6.out.bl).size)) (fun k hk => Nat.le_trans C6.out.2.2.1.size (N6.out.pn k hk)) (fun k hk => Nat.le_trans C6.out.2.2.1.size (N6.out.rn k hk)) N6.out.ap)
  have C7 := hid hc
  have C8 := hid (C6.out.1.but hb HNE)
  clear hc hb hs N6 C6 HNE
  refine hK.out _ _ C8.out (fun hHeld => ?_)
  clear hK KQ
  try simp only [Act.put]
  refine wpAnyH_ready (rs := [5]) (by kernel_rfl) (by simp) (AllReadyH.cons rfl (fun KQ hK => ?_) AllReadyH.nil)
  go_simp
  refine hK.out _ _ C8.out (fun hHeld => ?_)
  clear hK KQ
  try simp only [Act.put, tqA, tqZ, tqS]
  refine wpAnyH_done (by kernel_rfl) ?_ _
  go_wp2_with fail
  exact ret_st2 rfl rfl g2 _ rfl C7.out under77 rfl size77 ⟨⟨g, gw, f⟩, q, rfl, N7.out⟩
theorem NewP.np {W w : World} {p : Dp} {r : Rp} {d : DS} (h : NewP W w p r d) : NP W w p r d d := ⟨h.own, h.doc, h.bl, h.pn, h.rn, h.ap, .refl d⟩
set_option maxHeartbeats 4000000
set_option maxRecDepth 100000
structure WH (W w : World) (p : Dp) (r : Rp) (d e : DS) (g : Nat) : Prop where
  own : DB w p d
  doc : RDB w r e
  bl : Below W.heap.size W w
  box : Cel w g 77 [.pointer (some ⟨p.g, 0, none⟩), .pointer (some ⟨r.g, 0, none⟩)]
theorem WH.on {W w w' : World} {p : Dp} {r : Rp} {d e : DS} {g : Nat} (h : WH W w p r d e g) (hb : Below w.heap.size w w') : WH W w' p r d e g := ⟨h.own.on hb, h.doc.on hb, below_on h.bl hb, h.box.on hb⟩
theorem WH.hold {W w : World} {p : Dp} {r : Rp} {d e : DS} {g : Nat} (h : WH W w p r d e g) : Cel w g 77 [.pointer (some ⟨p.g, 0, none⟩), .pointer (some ⟨r.g, 0, none⟩)] ∧ w.cell? ⟨r.g, 0, none⟩ = some (.pointer (some ⟨r.r.g, 0, none⟩)) := ⟨h.box, h.doc.c0⟩
theorem WH.pair {W w : World} {p : Dp} {r : Rp} {d e : DS} {g : Nat} (h : WH W w p r d e g) : w.cell? ⟨g, 0, none⟩ = some (.pointer (some ⟨p.g, 0, none⟩)) ∧ w.cell? ⟨g, 1, none⟩ = some (.pointer (some ⟨r.g, 0, none⟩)) := ⟨h.box.cell 0, h.box.cell 1⟩
structure WV (W w : World) (p : Dp) (r : Rp) (d e : DS) (g gn gb : Nat) (ws : List Int) : Prop where
  wh : WH W w p r d e g
  ca : Cel w gn 43 (u32s ws)
  cb : ∀ j u, (u32s ws)[j]? = some u → w.cell? ⟨gb, j, none⟩ = some u
  lt : gb < w.heap.size
theorem WV.on {W w w' : World} {p : Dp} {r : Rp} {d e : DS} {g gn gb : Nat} {ws : List Int} (h : WV W w p r d e g gn gb ws) (hb : Below w.heap.size w w') : WV W w' p r d e g gn gb ws :=
  ⟨h.wh.on hb, h.ca.on hb, fun j u hu => (hb.cell (p := ⟨gb, j, none⟩) h.lt).trans (h.cb j u hu), Nat.lt_of_lt_of_le h.lt hb.size⟩
theorem WV.at {W w : World} {p : Dp} {r : Rp} {d e : DS} {g gn gb : Nat} {ws : List Int} (h : WV W w p r d e g gn gb ws) (j : Nat) (hj : j < ws.length) : w.cell? ⟨gn, j, none⟩ = some (.int .u32 (ws.getD j 0)) ∧ w.cell? ⟨gb, j, none⟩ = some (.int .u32 (ws.getD j 0)) := by
  refine ⟨u32s_at h.ca j hj, h.cb j _ ?_⟩
  rw [u32s, List.getElem?_map, List.getD_eq_getElem?_getD, List.getElem?_eq_getElem hj]
  rfl
theorem whole_any (W : World) (p : Dp) (r : Rp) (d e : DS) (h : DB W p d) (h' : RDB W r e) (hs : DS.Sim d e) :
    Calls Tryz.prog 42 #[.agg #[ptr p.g, ptr r.g]] W fun x W' => x = .returned (.bool true) ∧ Below W.heap.size W W' := by
  have T0 : Hid (WH W (W.alloc (.cells #[.pointer (some ⟨p.g, 0, none⟩), .pointer (some ⟨r.g, 0, none⟩)] 77)) p r d e W.heap.size) := hid ⟨h.on (below_one _ _), h'.on (below_one _ _), below_one _ _, Cel.new W 77 [.pointer (some ⟨p.g, 0, none⟩), .pointer (some ⟨r.g, 0, none⟩)]⟩
  have HR := hid (fun w (hw : RDB w r e) => rwords_any w r e hw)
  have HA := hid (fun w (hw : DB w p d) => words_any w p d hw)
  have hWs : d.ws.length = 1 + 2 * d.m.ns := d.ws_len h.ok
  have HN64 : Hid (d.m.ns ≤ 64) := hid h.ok.n64
  have HRP := hid (fun w (hw : RDB w r e) => rpages_any w r e hw)
  have HM := hid (fun w (hw : DB w p d) => memory_any w p d hw)
  have HPk := hid (fun w (hw : DB w p d) (a b : Int) => peek_any w p.f d.m hw.mem true a b)
  have HRK : Hid (∀ w, RDB w r e → ∀ a b : Int, Calls Tryz.prog 89 #[ptr r.r.g, fr true a, .int .i64 b] w fun x w' => x = .returned (.int .u32 (d.m.word true a b)) ∧ Below w.heap.size w w') := hid (fun w hw a b => by
    have h0 := rpeek_any w r.r e.m hw.mem true a b
    rw [hs.word] at h0
    exact h0)
  rw [hs.ws] at HR
  rw [hs.ns] at HRP
  clear h h' hs
  generalize d.ws = ws at *
  generalize hM : 1 + 2 * d.m.ns = M at *
  have HMM := hid hM
  clear hM
  simp only [ptr, fr] at *
  go_enter Tryz.func42, Tryz.ntmps42
  go_upto_region 1 with fail
  generalize W.alloc _ = X at *
  generalize W.heap.size = g1 at T0 ⊢
  generalize hn : d.m.ns = n at *
  clear hn
  obtain ⟨x0, x1⟩ := T0.out.pair
  go_upto_region 2 with (go_at_call 67; refine (HA.out _ T0.out.own).mono ?_; rintro x w1 ⟨gn, rfl, hc, hl, hb⟩; have CA := hid hc; have T1 := hid (T0.out.on hb); clear hc hl hb T0 x0 x1)
  obtain ⟨x0, x1⟩ := T1.out.pair
  go_upto_region 3 with (go_at_call 87; refine (HR.out _ T1.out.doc).mono ?_; rintro x w2 ⟨v2, rfl, ho⟩; obtain ⟨bo, cb, rfl, hf⟩ := ho.form; rw [hWs] at hf ⊢; obtain ⟨gb, rfl, hB, hl, _, hc⟩ := hf (by have := HMM.out; omega); have V2 : Hid (WV W w2 p r d e g1 gn gb ws) := hid ⟨T1.out.on ho.below, CA.out.on ho.below, hc, hl⟩; clear ho hB hl hc hf CA T1 x0 x1)
  have HWl := hid hWs
  clear hWs
  have HM4 : Hid (M ≤ 200) := hid (by have := HMM.out; have := HN64.out; omega)
  go_upto_region 6 with fail
  go_loopw [5] (fun i wr => ∃ j : Nat, j ≤ M ∧ i = .int .i64 (j : Int) ∧ Hid (WV W wr p r d e g1 gn gb ws)) (fun i _ => M - (intOf i).toNat)
  case atStart => exact ⟨0, Nat.zero_le _, rfl, V2⟩
  case round =>
    clear V2
    obtain ⟨j, hj, rfl, HV⟩ := hrel
    by_cases hlt : j < M
    · have q1 : (j : Int) < (M : Int) := by omega
      have q2 : (j : Int) ≤ 200 := by have := HM4.out; omega
      have HJ := hid hlt
      clear hlt hj
      have hat := fun w (hv : WV W w p r d e g1 gn gb ws) => hv.at j (by rw [HWl.out]; exact HJ.out)
      generalize ws.getD j 0 = x at hat
      have HAt := hid hat
      clear hat
      go_upto_region 8 with fail
      have V3 := hid (HV.out.on (Below.refl _ _).drew)
      clear HV
      refine wp_region_held_drew (S := fun w => w.cell? ⟨gn, j, none⟩ = some (.int .u32 x) ∧ w.cell? ⟨gb, j, none⟩ = some (.int .u32 x)) (by kernel_rfl) (HAt.out _ V3.out) (fun hHeld => ?_)
      generalize World.drew _ = w3 at *
      refine tk 0 (some 25) (.slice (some ⟨gn, 0, none⟩) M M) ?_
      simp only [Act.put, tqA, tqZ, tqS]
      refine tk 1 (some 26) (.int .i64 (j : Int)) ?_
      simp only [Act.put, tqA, tqZ, tqS]
      refine tk 2 (some 27) (.pointer (some ⟨gn, j, none⟩)) ?_
      simp only [Act.put, tqA, tqZ, tqS]
      refine tk 3 (some 28) (.int .u32 x) ?_ (hy := Or.inl ⟨by rfl, by intro w hSw; have t1 := hSw.1; go_simp⟩)
      simp only [Act.put, tqA, tqZ, tqS]
      refine tk 4 (some 29) (.slice (some ⟨gb, 0, none⟩) M cb) ?_
      simp only [Act.put, tqA, tqZ, tqS]
      refine tk 5 (some 30) (.int .i64 (j : Int)) ?_
      simp only [Act.put, tqA, tqZ, tqS]
      refine tk 6 (some 31) (.pointer (some ⟨gb, j, none⟩)) ?_
      simp only [Act.put, tqA, tqZ, tqS]
      refine tk 7 (some 32) (.int .u32 x) ?_ (hy := Or.inl ⟨by rfl, by intro w hSw; have t1 := hSw.2; go_simp⟩)
      simp only [Act.put, tqA, tqZ, tqS]
      refine tk 8 (some 33) (.bool false) ?_
      simp only [Act.put, tqA, tqZ, tqS]
      refine wpAnyH_done (by kernel_rfl) ?_ _
      go_wp2_with fail
      go_roundw
      case measure => have := HJ.out; simp [intOf]; omega
      case rel => exact ⟨j + 1, HJ.out, by simp, V3⟩
    · have hjn : M = j := by omega
      subst hjn
      clear hlt hj
      have T6 := hid HV.out.wh
      clear HV HWl
      go_upto_region 11 with fail
      go_loopw [6, 7] (fun i _ wr => ∃ j : Nat, j ≤ n ∧ i = .int .i64 (j : Int) ∧ Hid (WH W wr p r d e g1)) (fun i _ _ => n - (intOf i).toNat)
      case atStart => exact ⟨0, Nat.zero_le _, rfl, T6⟩
      case round =>
        obtain ⟨j, hj, rfl, HQ⟩ := hrel
        clear T6
        obtain ⟨x0, x1⟩ := HQ.out.pair
        by_cases hlt : j < n
        · have q1 : (j : Int) < (n : Int) := by omega
          have q2 : (j : Int) ≤ 64 := by have := HN64.out; omega
          have HJ := hid hlt
          clear hlt hj
          go_upto_region 14 with (go_at_call 88; refine (HRP.out _ HQ.out.doc).mono ?_; rintro x wx ⟨rfl, hw⟩; subst wx)
          clear x0 x1
          go_loopw [7] (fun i wr => ∃ k : Nat, k ≤ 1024 ∧ i = .int .i64 (k : Int) ∧ Hid (WH W wr p r d e g1)) (fun i _ => 1024 - (intOf i).toNat)
          case atStart => exact ⟨0, Nat.zero_le _, rfl, hid HQ.out⟩
          case round =>
            obtain ⟨k, hk, rfl, HK⟩ := hrel
            clear HQ
            by_cases hlt : k < 1024
            · have q3 : (k : Int) < 1024 := by omega
              have HKK := hid hlt
              have HFr := hid (fun u => lframe_any u (j : Int) (by omega) (by omega))
              simp only [fr] at HFr
              have kj : IntKind.wrap .u32 (j : Int) = (j : Int) := by rw [IntKind.wrap_u32]; omega
              clear hlt hk
              go_upto_region 16 with fail
              have K1 := hid (HK.out.on (Below.refl _ _).drew)
              have HV := hid (And.intro (HPk.out · · (j : Int) (k : Int)) (HRK.out · · (j : Int) (k : Int)))
              generalize d.m.word true (j : Int) (k : Int) = V at *
              clear HK
              refine wp_region_held_drew (S := fun w => Cel w g1 77 [.pointer (some ⟨p.g, 0, none⟩), .pointer (some ⟨r.g, 0, none⟩)] ∧ w.cell? ⟨r.g, 0, none⟩ = some (.pointer (some ⟨r.r.g, 0, none⟩))) (by kernel_rfl) K1.out.hold (fun hHeld => ?_)
              generalize World.drew _ = wa at *
              refine tk 0 (some 45) (.pointer (some ⟨g1, 0, none⟩)) ?_
              simp only [Act.put, tqA, tqZ, tqS]
              refine tk 1 (some 46) (.pointer (some ⟨p.g, 0, none⟩)) ?_ (hy := Or.inl ⟨by rfl, by intro w hSw; have hc : w.cell? ⟨g1, 0, none⟩ = some (.pointer (some ⟨p.g, 0, none⟩)) := hSw.1.cell 0; go_simp⟩)
              simp only [Act.put, tqA, tqZ, tqS]
              refine tk 3 (some 48) (.int .i64 (j : Int)) ?_
              simp only [Act.put, tqA, tqZ, tqS]
              refine tk 4 (some 49) (.int .u32 (j : Int)) ?_
              simp only [Act.put, tqA, tqZ, tqS]
              refine tk 6 (some 51) (.int .i64 (k : Int)) ?_
              simp only [Act.put, tqA, tqZ, tqS]
              refine tk 8 (some 53) (.pointer (some ⟨g1, 1, none⟩)) ?_
              simp only [Act.put, tqA, tqZ, tqS]
              refine tk 9 (some 54) (.pointer (some ⟨r.g, 0, none⟩)) ?_ (hy := Or.inl ⟨by rfl, by intro w hSw; have hc : w.cell? ⟨g1, 1, none⟩ = some (.pointer (some ⟨r.g, 0, none⟩)) := hSw.1.cell 1; go_simp⟩)
              simp only [Act.put, tqA, tqZ, tqS]
              refine tk 10 (some 55) (.pointer (some ⟨r.g, 0, none⟩)) ?_
              simp only [Act.put, tqA, tqZ, tqS]
              refine tk 11 (some 56) (.pointer (some ⟨r.g, 0, none⟩)) ?_
              simp only [Act.put, tqA, tqZ, tqS]
              refine tk 12 (some 57) (.pointer (some ⟨r.r.g, 0, none⟩)) ?_ (hy := Or.inl ⟨by rfl, by intro w hSw; have hc := hSw.2; go_simp⟩)
              simp only [Act.put, tqA, tqZ, tqS]
              refine tk 13 (some 58) (.int .i64 (j : Int)) ?_
              simp only [Act.put, tqA, tqZ, tqS]
              refine tk 14 (some 59) (.agg #[.bool true, .int .i64 (j : Int)]) ?_
              simp only [Act.put, tqA, tqZ, tqS]
              refine tk 15 (some 60) (.int .i64 (k : Int)) ?_
              simp only [Act.put, tqA, tqZ, tqS]
              refine wpAnyH_ready (rs := [2]) (by kernel_rfl) (by simp) (AllReadyH.cons rfl (fun KQ hK => ?_) AllReadyH.nil)
              go_simp
              refine (HM.out _ K1.out.own).mono ?_
              rintro x wx ⟨rfl, hw⟩
              subst hw
              go_wp2_with fail
              refine hK.out _ _ K1.out.hold (fun hHeld => ?_)
              clear hK KQ
              try simp only [Act.put, tqA, tqZ, tqS]
              refine wpAnyH_ready (rs := [5]) (by kernel_rfl) (by simp) (AllReadyH.cons rfl (fun KQ hK => ?_) AllReadyH.nil)
              go_simp
              refine (HFr.out _).mono ?_
              rintro x wb ⟨rfl, hb⟩
              have K2 := hid (K1.out.on hb)
              clear hb K1
              go_wp2_with fail
              refine hK.out _ _ K2.out.hold (fun hHeld => ?_)
              clear hK KQ
              try simp only [Act.put, tqA, tqZ, tqS]
              refine wpAnyH_ready (rs := [7]) (by kernel_rfl) (by simp) (AllReadyH.cons rfl (fun KQ hK => ?_) AllReadyH.nil)
              go_simp
              refine (HV.out.1 _ K2.out.own).mono ?_
              rintro x wc ⟨rfl, hb⟩
              have K3 := hid (K2.out.on hb)
              clear hb K2
              go_wp2_with fail
              refine hK.out _ _ K3.out.hold (fun hHeld => ?_)
              clear hK KQ
              try simp only [Act.put, tqA, tqZ, tqS]
              refine wpAnyH_ready (rs := [16]) (by kernel_rfl) (by simp) (AllReadyH.cons rfl (fun KQ hK => ?_) AllReadyH.nil)
              go_simp
              refine (HV.out.2 _ K3.out.doc).mono ?_
              rintro x wd ⟨rfl, hb⟩
              have K4 := hid (K3.out.on hb)
              clear hb K3
              go_wp2_with fail
              refine hK.out _ _ K4.out.hold (fun hHeld => ?_)
              clear hK KQ
              try simp only [Act.put, tqA, tqZ, tqS]
              refine tk 17 (some 62) (.bool false) ?_
              simp only [Act.put, tqA, tqZ, tqS]
              refine wpAnyH_done (by kernel_rfl) ?_ _
              go_wp2_with fail
              go_roundw
              case measure => have := HKK.out; simp [intOf]; omega
              case rel => exact ⟨k + 1, HKK.out, by simp, K4⟩
            · have hk4 : k = 1024 := by omega
              subst hk4
              clear hlt hk
              go_wp2_with fail
              go_roundw
              case measure => have := HJ.out; simp [intOf]; omega
              case rel => exact ⟨j + 1, HJ.out, by simp, HK⟩
        · have hjn : j = n := by omega
          subst hjn
          clear hlt hj
          go_wp2_with (go_at_call 88; refine (HRP.out _ HQ.out.doc).mono ?_; rintro x wx ⟨rfl, hw⟩; subst wx)
          go_ret
          exact ⟨rfl, HQ.out.bl⟩
end Go.Proofs.YtdfnbcbnmiohnaaGreatDoor
