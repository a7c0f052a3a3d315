import Derived.Test.YtildhjiddidghaaGreatDoorP45
import Derived.Test.YtildhjiddidghaaGreatDoorP01
import Derived.Test.YtildhjiddidghaaGreatDoorP43
namespace Go.Proofs.YtildhjiddidghaaGreatDoor
open Go.RowKit
set_option maxHeartbeats 4000000
set_option maxRecDepth 100000
structure E9 (L : List BxT) (W x : World) (g : Nat) (p : Dp) (r : Rp) (d : DS) (g3 : Nat) (cs : List Value) (gd g6 j : Nat) : Prop where
  sb : ∃ ao k c, SB W x g p r d d ([(g6, 132, H.rdC (dgA j) (.slice ao k c) (j : Int)), (g3, 42, cs)] ++ L) ∧ k = (dgP j).length ∧ k ≤ c ∧ H.Wat x ao (dgP j)
  dig : H.DigL x gd (rep7 j)
  nd : W.heap.size ≤ gd
  n6 : W.heap.size ≤ g6
theorem E9.on {L : List BxT} {W x x' : World} {g : Nat} {p : Dp} {r : Rp} {d : DS} {g3 : Nat} {cs : List Value} {gd g6 j : Nat} (h : E9 L W x g p r d g3 cs gd g6 j) (hb : Below x.heap.size x x') : E9 L W x' g p r d g3 cs gd g6 j := by
  obtain ⟨ao, k, c, h1, h2, h3, h4⟩ := h.sb
  exact ⟨⟨ao, k, c, h1.on hb, h2, h3, h4.below hb⟩, h.dig.below hb, h.nd, h.n6⟩
theorem E9.b3 {L : List BxT} {W x : World} {g : Nat} {p : Dp} {r : Rp} {d : DS} {g3 : Nat} {cs : List Value} {gd g6 j : Nat} (h : E9 L W x g p r d g3 cs gd g6 j) : Cel x g3 42 cs := by
  obtain ⟨ao, k, c, h1, _⟩ := h.sb
  exact h1.get 1 rfl
theorem E9.bl {L : List BxT} {W x : World} {g : Nat} {p : Dp} {r : Rp} {d : DS} {g3 : Nat} {cs : List Value} {gd g6 j : Nat} (h : E9 L W x g p r d g3 cs gd g6 j) : Below W.heap.size W x := by
  obtain ⟨ao, k, c, h1, _⟩ := h.sb
  exact h1.ss.bl
structure E9h (L : List BxT) (W x : World) (g : Nat) (p : Dp) (r : Rp) (d : DS) (g3 : Nat) (cs : List Value) (gd g6 j : Nat) (ao : Option Addr) (k c : Nat) : Prop where
  sb : SB W x g p r d d ([(g6, 132, H.rdC (dgA j) (.slice ao k c) (j : Int)), (g3, 42, cs)] ++ L)
  hk : k = (dgP j).length
  hc : k ≤ c
  wat : H.Wat x ao (dgP j)
  dig : H.DigL x gd (rep7 (j + 1))
  nd : W.heap.size ≤ gd
  n6 : W.heap.size ≤ g6
theorem E9.half {L : List BxT} (hL : ∀ y ∈ L, y.2.1 = 42) {W x x' : World} {g : Nat} {p : Dp} {r : Rp} {d : DS} {g3 : Nat} {cs : List Value} {gd g6 j : Nat} (h : E9 L W x g p r d g3 cs gd g6 j) (hd : H.DigL x' gd (rep7 j ++ [7])) (hb : H.But gd x x') : ∃ ao k c, E9h L W x' g p r d g3 cs gd g6 j ao k c := by
  obtain ⟨ao, k, c, h1, h2, h3, h4⟩ := h.sb
  obtain ⟨dc, hdc⟩ := DigL.cel h.dig
  refine ⟨ao, k, c, h1.but hdc rfl (by decide) h.nd (fun y hy => ?_) (butL_of hb), h2, h3, h4.but hdc (by decide) hb, by rw [rep7_snoc] at hd; exact hd, h.nd, h.n6⟩
  simp only [List.cons_append, List.nil_append, List.mem_cons] at hy
  rcases hy with rfl | rfl | hy
  · exact (h1.get 0 rfl).ne2 hdc (by decide)
  · exact (h1.get 1 rfl).ne2 hdc (by decide)
  · exact (h1.bag y (by simp [hy])).ne2 hdc (by rw [hL y hy]; decide)
theorem E9h.on {L : List BxT} {W x x' : World} {g : Nat} {p : Dp} {r : Rp} {d : DS} {g3 : Nat} {cs : List Value} {gd g6 j : Nat} {ao : Option Addr} {k c : Nat} (h : E9h L W x g p r d g3 cs gd g6 j ao k c) (hb : Below x.heap.size x x') : E9h L W x' g p r d g3 cs gd g6 j ao k c :=
  ⟨h.sb.on hb, h.hk, h.hc, h.wat.below hb, h.dig.below hb, h.nd, h.n6⟩
theorem E9h.full {L : List BxT} (hL : ∀ y ∈ L, y.2.1 = 42) {W x x' : World} {g : Nat} {p : Dp} {r : Rp} {d : DS} {g3 : Nat} {cs : List Value} {gd g6 j : Nat} {ao ao' : Option Addr} {k c c' : Nat} (h : E9h L W x g p r d g3 cs gd g6 j ao k c) (hc : Cel x' g6 132 (H.rdC (dgA (j + 1)) (.slice ao' (dgP (j + 1)).length c') ((j + 1 : Nat) : Int))) (hb : ButL [g6] x x') (hw : H.Wat x ao' (dgP (j + 1))) (hcc : (dgP (j + 1)).length ≤ c') : E9 L W x' g p r d g3 cs gd g6 (j + 1) := by
  have c6 := h.sb.get 0 rfl
  obtain ⟨dc, hdc⟩ := DigL.cel h.dig
  have hb' : H.But g6 x x' := ⟨hb.os, hb.tape, hb.output, hb.size, fun k hk hn => hb.block k hk (by simpa using hn)⟩
  refine ⟨⟨ao', _, c', h.sb.put (by decide) h.n6 (fun y hy => ?_) hc hb, rfl, hcc, hw.but c6 (by decide) hb'⟩, h.dig.but hb' (hdc.ne2 c6 (by decide)), h.nd, h.n6⟩
  rcases List.mem_cons.1 (show y ∈ (g3, 42, cs) :: L from hy) with rfl | hy
  · exact (h.sb.get 1 rfl).ne2 c6 (by decide)
  · exact (h.sb.bag y (by simp [hy])).ne2 c6 (by rw [hL y hy]; decide)
theorem digests_b (W w : World) (hT : H.Tab W) (hR : H.TabR W) (h2 : 2 < W.heap.size) (g : Nat) (p : Dp) (r : Rp) (d : DS) (L : List BxT) (hL : ∀ y ∈ L, y.2.1 = 42) (h : SB W w g p r d d L) (k a b c v : Int) (v0 : 0 ≤ v) (v1 : v < 4294967296) (u : Value) :
    Calls Tryz.prog 43 #[.pointer (some ⟨g, 0, none⟩), .agg #[.int .i64 k, .int .i64 a, .int .i64 b, .int .i64 c, .int .u32 v, u]] w fun e w' => e = .returned (.bool true) ∧ ∃ q, SB W w' g p q (d.dgs a (min v.toNat 40)) (d.dgs a (min v.toNat 40)) L := by
  have HTb := hid (fun w (hb : Below W.heap.size W w) => And.intro (hT.below hb h2) (And.intro (hR.below hb (by omega)) (show 2 < w.heap.size by have := hb.size; omega)))
  obtain ⟨n, hn⟩ : ∃ n : Nat, v = (n : Int) := ⟨v.toNat, by omega⟩
  subst hn
  have HV : Hid (((n : Int)).toNat = n) := hid (by omega)
  rw [HV.out]
  have X0 : Hid (SB W (w.alloc (.cells #[.int .i64 k, .int .i64 a, .int .i64 b, .int .i64 c, .int .u32 (n : Int), u] 42)) g p r d d ((w.heap.size, 42, [.int .i64 k, .int .i64 a, .int .i64 b, .int .i64 c, .int .u32 (n : Int), u]) :: L)) := hid (h.cons 42 [.int .i64 k, .int .i64 a, .int .i64 b, .int .i64 c, .int .u32 (n : Int), u] rfl)
  have HWs := hid h.ss.bl.size
  have HL42 := hid hL
  obtain ⟨N, hN⟩ : ∃ N, min n 40 = N := ⟨_, rfl⟩
  rw [hN]
  have HN := hid hN
  clear h hT hR h2 v0 hN hL
  go_enter Tryz.func43, Tryz.ntmps43
  go_upto_region 1 with fail
  generalize World.alloc _ _ = X at *
  generalize w.heap.size = g3 at *
  go_upto_region 4 with (go_at_call 76; refine (H.newL_any _).mono ?_; rintro e w1 ⟨gd, hgd, rfl, hdig, hb1⟩; have X1 := hid (X0.out.on hb1); have DG := hid hdig; have HGd := hid (show W.heap.size ≤ gd by have := X0.out.ss.bl.size; omega); clear hgd hdig hb1 X0)
  go_upto_region 5 with (first | (go_at_call 77; refine (H.rnew_any _).mono ?_; rintro e w2 ⟨rfl, hb2⟩; have X2 := hid (X1.out.on hb2); have DG2 := hid (DG.out.below hb2); clear hb2 X1 DG) | (refine H.wpList_store_cel rfl 132 _ _ rfl w2.heap.size (H.rdC H.S.First (.slice none 0 0) 0) rfl rfl (Cel.new w2 132 H.zero59) H.size59 rfl (H.rdC_one H.S.First none 0 0 0) ?_; intro w3 hc3 hb3 hs3))
  simp only [Act.put]
  have D0 : Hid (E9 L W w3 g p r d g3 [.int .i64 k, .int .i64 a, .int .i64 b, .int .i64 c, .int .u32 (n : Int), u] gd w2.heap.size 0) := hid (by
    have x5 := X2.out.made 132 H.zero59 (H.rdC H.S.First (.slice none 0 0) 0) rfl (by decide) hc3 (butL_of hb3)
    have ld := DG2.out.lt
    exact ⟨⟨none, 0, 0, x5, rfl, Nat.le_refl _, .inl rfl⟩, (DG2.out.below (below_one _ _)).but hb3 (by omega), HGd.out, X2.out.ss.bl.size⟩)
  generalize w2.heap.size = g6 at *
  clear hc3 hb3 hs3 X2 DG2 HGd
  go_upto_region 6 with fail
  go_loopw [7] (fun i wr => ∃ (j : Nat), j ≤ min n 40 ∧ i = .int .u32 (j : Int) ∧ Hid (E9 L W wr g p r d g3 [.int .i64 k, .int .i64 a, .int .i64 b, .int .i64 c, .int .u32 (n : Int), u] gd g6 j)) (fun i _ => min n 40 - (intOf i).toNat)
  case atStart => exact ⟨0, Nat.zero_le _, rfl, D0⟩
  case round =>
    obtain ⟨j, hj, rfl, HD⟩ := hrel
    clear D0
    have y4 : wr.cell? ⟨g3, 4, none⟩ = some (.int .u32 (n : Int)) := HD.out.b3.cell 4
    by_cases hlt : j < min n 40
    · have q1 : (j : Int) < (n : Int) := by omega
      have q2 : (j : Int) < 40 := by omega
      have HJ := hid hlt
      have hwj : IntKind.wrap .u32 ((j : Int) + 1) = (j : Int) + 1 := wr32 _ (by omega) (by omega)
      clear hlt hj
      go_upto_region 8 with fail
      have HDa := hid (HD.out.on (below_one wr (.cells #[.int .u32 7] 22)))
      have A7 : Hid (H.At (wr.alloc (.cells #[.int .u32 7] 22)) .u32 (some ⟨wr.heap.size, 0, none⟩) [7]) := hid (.inr ⟨wr.heap.size, 0, rfl, (Cel.new wr 22 [.int .u32 7]).lt, H.row_new wr .u32 22 [7] #[.int .u32 7] rfl⟩)
      clear HD y4
      go_upto_region 9 with (go_at_call 78; refine (H.addL_any _ (HTb.out _ HDa.out.bl).1 (HTb.out _ HDa.out.bl).2.2 gd (rep7 j) HDa.out.dig (some ⟨wr.heap.size, 0, none⟩) 1 1 [7] rfl A7.out (by decide) (by rw [rep7_len]; have := HJ.out; omega)).mono ?_; rintro e w5 ⟨rfl, hd5, hb5⟩; obtain ⟨ao, kk, cc, hh⟩ := HDa.out.half HL42.out hd5 hb5; have HH := hid hh; clear hh hd5 hb5 HDa A7)
      have C6 := hid (HH.out.sb.get 0 rfl)
      have HHa := hid (HH.out.on (below_one w5 (.cells #[.int .u32 7] 22)))
      have A8 : Hid (H.At (w5.alloc (.cells #[.int .u32 7] 22)) .u32 (some ⟨w5.heap.size, 0, none⟩) [7]) := hid (.inr ⟨w5.heap.size, 0, rfl, (Cel.new w5 22 [.int .u32 7]).lt, H.row_new w5 .u32 22 [7] #[.int .u32 7] rfl⟩)
      clear HH
      go_wp2_with (first | (refine H.wpList_load_cel rfl 132 _ rfl g6 (H.rdC (dgA j) (.slice ao kk cc) (j : Int)) rfl C6.out Tryz.underlying132 rfl (by rw [H.size59, H.rdC_length _ _ _ (dgA_len j)]) ?_) | (go_at_call 79; refine (radd7 _ (HTb.out _ HHa.out.sb.ss.bl).2.1 (HTb.out _ HHa.out.sb.ss.bl).2.2 j (by have := HJ.out; omega) ao kk cc HHa.out.hk HHa.out.wat w5.heap.size A8.out).mono ?_; rintro e w6 ⟨ao', c', rfl, hc6, hw6, hb6⟩; have HHb := hid (HHa.out.on hb6); have HW6 := hid (And.intro hc6 hw6); clear hc6 hw6 hb6 HHa A8 C6; have C7 := hid (HHb.out.sb.get 0 rfl)) | (refine H.wpList_store_cel rfl 132 _ _ rfl g6 (H.rdC (dgA (j + 1)) (.slice ao' (dgP (j + 1)).length c') ((j + 1 : Nat) : Int)) rfl rfl C7.out (by rw [H.size59, H.rdC_length _ _ _ (dgA_len (j + 1))]) (by rw [H.rdC_length _ _ _ (dgA_len j), H.rdC_length _ _ _ (dgA_len (j + 1))]) (H.rdC_one _ _ _ _ _) ?_; intro w7 hc7 hb7 hs7; have HE9 := hid (HHb.out.full HL42.out hc7 (butL_of hb7) HW6.out.2 HW6.out.1); clear hc7 hb7 hs7 HHb HW6 C7))
      go_roundw
      case measure => have := HJ.out; simp [intOf] <;> omega
      case rel => exact ⟨j + 1, by have := HJ.out; omega, by simp, HE9⟩
    · have HJm : Hid (j = N) := hid (by have := HN.out; omega)
      go_upto_region 6 with fail
      go_cut [21] (fun x w => x = .bool false ∧ wr = w)
      case first =>
        have hjn : (n : Int) ≤ (j : Int) ∨ ((j : Int) < (n : Int) ∧ (40 : Int) ≤ (j : Int)) := by omega
        clear hlt hj
        rcases hjn with hjn | ⟨hjn, hjm⟩
        · clear v1
          go_wp2_with fail
          go_meet
          first | exact ⟨rfl, rfl⟩ | exact ⟨by simp <;> omega, rfl⟩
        · clear v1
          go_wp2_with fail
          go_meet
          first | exact ⟨rfl, rfl⟩ | exact ⟨by simp <;> omega, rfl⟩
      case rest =>
        obtain ⟨rfl, rfl⟩ := hcut
        have HJ40 : Hid (j ≤ 40) := hid (by omega)
        clear hlt hj y4
        have HL26 : Hid ((sv j).length = 26) := hid (sv_len j)
        obtain ⟨ao, kk, cc, hsb, hkk, hcc, hwt⟩ := HD.out.sb
        have S1 := hid hsb
        have HKW := hid (And.intro hkk hwt)
        have SVd : Hid (∀ w, H.DigL w gd (rep7 j) → Calls Tryz.prog 80 #[.pointer (some ⟨gd, 0, none⟩)] w fun e w' => e = .returned (.agg ((sv j).map (Value.int .u32)).toArray) ∧ Below w.heap.size w w') := hid (fun w hd => by have := H.save_any w gd _ _ _ hd; rw [rep7_len] at this; exact this)
        have RSv : Hid (∀ w, H.Wat w ao (dgP j) → Calls Tryz.prog 81 #[.agg (H.rdC (dgA j) (.slice ao kk cc) (j : Int)).toArray] w fun e w' => e = .returned (.agg ((sv j).map (Value.int .u32)).toArray) ∧ Below w.heap.size w w') := hid (fun w hw => H.rdsave_any w (dgA j) (dgA_len j) ao kk cc j (by have := HJ40.out; omega) (dgP j) hkk.symm (by rw [hkk, dgP_len]; omega) hw.at)
        have HDg := hid HD.out.dig
        clear hsb hkk hcc hwt HD
        go_upto_region 11 with (first | (go_at_call 80; refine (SVd.out _ HDg.out).mono ?_; rintro e w8 ⟨rfl, hb8⟩; have S2 := hid (S1.out.on hb8); have HW8 := hid (HKW.out.2.below hb8); clear hb8 S1) | (refine H.wpList_store_cel rfl 136 _ _ rfl w8.heap.size ((sv j).map (Value.int .u32)) rfl rfl (Cel.new w8 136 ((List.replicate 26 0).map (Value.int .u32))) (by rw [size136, List.length_map, HL26.out]) (by rw [List.length_map, List.length_map, HL26.out]; rfl) (by intro y hy; rw [List.mem_map] at hy; obtain ⟨z, _, rfl⟩ := hy; rfl) ?_; intro w9 hc9 hb9 hs9; have S3 := hid (S2.out.made 136 ((List.replicate 26 0).map (Value.int .u32)) ((sv j).map (Value.int .u32)) rfl (by decide) hc9 (butL_of hb9)); have HW9 := hid ((HW8.out.below (below_one w8 (.cells ((List.replicate 26 0).map (Value.int .u32)).toArray 136))).but (Cel.new w8 136 ((List.replicate 26 0).map (Value.int .u32))) (by decide) hb9); clear hc9 hb9 hs9 S2 HW8))
        simp only [Act.put]
        generalize w8.heap.size = g8 at *
        have S4 := hid (S3.out.on (Below.refl _ _).drew)
        have HWa := hid (HW9.out.below (Below.refl _ _).drew)
        clear S3 HW9 SVd HDg
        refine wp_region_held_drew (S := fun w => Cel w g8 136 ((sv j).map (Value.int .u32)) ∧ Cel w g6 132 (H.rdC (dgA j) (.slice ao kk cc) (j : Int))) (by kernel_rfl) ⟨S4.out.get 0 rfl, S4.out.get 1 rfl⟩ (fun hHeld => ?_)
        refine tk 0 ⟨some 32, .load 136 (.tmp 8), 136, "law.go:86", #[], none⟩ (.agg ((sv j).map (Value.int .u32)).toArray) ?_ (hy := yieldsIf_load_mid (by rfl) _ _ rfl _ _ rfl _ _ (fun w hSw => hSw.1.range) Tryz.underlying136 rfl (by rw [size136, List.length_map, HL26.out]))
        simp only [Act.put, List.setIfInBounds_toArray, List.set_cons_zero, List.set_cons_succ]
        refine tk 1 ⟨some 33, .load 132 (.tmp 6), 132, "law.go:86", #[], none⟩ (.agg (H.rdC (dgA j) (.slice ao kk cc) (j : Int)).toArray) ?_ (hy := yieldsIf_load_mid (by rfl) _ _ rfl _ _ rfl _ _ (fun w hSw => hSw.2.range) Tryz.underlying132 rfl (by rw [H.size59, H.rdC_length _ _ _ (dgA_len j)]))
        simp only [Act.put, List.setIfInBounds_toArray, List.set_cons_zero, List.set_cons_succ]
        refine wpAnyH_ready (rs := [2]) (by kernel_rfl) (by simp) (AllReadyH.cons (o := ⟨some 34, .call { callee := .value (.func 81), args := #[.tmp 33], argTypes := #[132] }, 136, "law.go:86", #[⟨1, .data⟩], none⟩) rfl (fun KQ hK => ?_) AllReadyH.nil)
        go_simp
        refine (RSv.out _ HWa.out).mono ?_
        rintro e wb ⟨rfl, hbb⟩
        have S5 := hid (S4.out.on hbb)
        clear hbb S4 HWa
        go_wp2_with fail
        refine hK.out _ _ ⟨S5.out.get 0 rfl, S5.out.get 1 rfl⟩ (fun hHeld => ?_)
        clear hK KQ
        try simp only [Act.put, List.setIfInBounds_toArray, List.set_cons_zero, List.set_cons_succ]
        refine tk 3 ⟨some 35, .binOp .neq 136 (.tmp 32) (.tmp 34) 136, 4, "law.go:86", #[⟨0, .data⟩, ⟨2, .data⟩], none⟩ (.bool false) ?_ (hy := Or.inl ⟨by rfl, by intro w hSw; have e40 := H.eq40 (sv j) (sv j) HL26.out HL26.out w; simp only [decide_true] at e40; go_simp⟩)
        simp only [Act.put, List.setIfInBounds_toArray, List.set_cons_zero, List.set_cons_succ]
        refine wpAnyH_done (by kernel_rfl) ?_ _
        go_upto_region 14 with fail
        have S6 := hid S5.out
        go_loopw [9] (fun i wr => ∃ (q : Nat) (r2 : Rp), q ≤ 26 ∧ i = .int .i64 (q : Int) ∧ Hid (SB W wr g p r2 { d with m := d.m.w26 a (sv j) q } { d with m := d.m.w26 a (sv j) q } ([(g8, 136, (sv j).map (Value.int .u32)), (g6, 132, H.rdC (dgA j) (.slice ao kk cc) (j : Int)), (g3, 42, [.int .i64 k, .int .i64 a, .int .i64 b, .int .i64 c, .int .u32 (n : Int), u])] ++ L))) (fun i _ => 26 - (intOf i).toNat)
        case atStart => exact ⟨0, _, by omega, rfl, S6⟩
        case round =>
          obtain ⟨q, r2, hq, rfl, HS⟩ := hrel
          clear S5 S6
          by_cases hlt : q < 26
          · have q1 : (q : Int) < 26 := by omega
            have HQ := hid hlt
            have hwq : IntKind.wrap .i64 (11 + (q : Int)) = 11 + (q : Int) := wr64 _ (by omega) (by omega)
            have HHd : Hid (∀ w r3 d3, SB W w g p r3 d3 d3 ([(g8, 136, (sv j).map (Value.int .u32)), (g6, 132, H.rdC (dgA j) (.slice ao kk cc) (j : Int)), (g3, 42, [.int .i64 k, .int .i64 a, .int .i64 b, .int .i64 c, .int .u32 (n : Int), u])] ++ L) → w.cell? ⟨g3, 1, none⟩ = some (.int .i64 a) ∧ w.cell? ⟨g8, q, none⟩ = some (.int .u32 ((sv j).getD q 0))) := hid (fun w r3 d3 hh => by
              refine ⟨(hh.get 2 rfl).cell 1, ?_⟩
              have hlq : q < (sv j).length := by rw [HL26.out]; exact hlt
              rw [(hh.get 0 rfl).cell q, List.getElem?_map, List.getElem?_eq_getElem hlq, List.getD_eq_getElem?_getD, List.getElem?_eq_getElem hlq]
              rfl)
            clear hlt hq
            go_upto_region 16 with fail
            have S7 := hid (HS.out.on (Below.refl _ _).drew)
            clear HS
            refine wp_region_held_drew (S := fun w => w.cell? ⟨g3, 1, none⟩ = some (.int .i64 a) ∧ w.cell? ⟨g8, q, none⟩ = some (.int .u32 ((sv j).getD q 0))) (by kernel_rfl) (HHd.out _ _ _ S7.out) (fun hHeld => ?_)
            refine tk 0 ⟨some 40, .move (.tmp 0), 26, "law.go:90", #[], none⟩ (.pointer (some ⟨g, 0, none⟩)) ?_
            simp only [Act.put, List.setIfInBounds_toArray, List.set_cons_zero, List.set_cons_succ]
            refine tk 1 ⟨some 41, .fieldAddr 42 (.tmp 3) 1, 0, "law.go:90", #[], none⟩ (.pointer (some ⟨g3, 1, none⟩)) ?_
            simp only [Act.put, List.setIfInBounds_toArray, List.set_cons_zero, List.set_cons_succ]
            refine tk 2 ⟨some 42, .load 3 (.tmp 41), 3, "law.go:90", #[⟨1, .data⟩], none⟩ (.int .i64 a) ?_ (hy := Or.inl ⟨by rfl, by intro w hSw; have hc := hSw.1; go_simp⟩)
            simp only [Act.put, List.setIfInBounds_toArray, List.set_cons_zero, List.set_cons_succ]
            refine tk 3 ⟨some 43, .move (.tmp 9), 3, "law.go:90", #[], none⟩ (.int .i64 (q : Int)) ?_
            simp only [Act.put, List.setIfInBounds_toArray, List.set_cons_zero, List.set_cons_succ]
            refine tk 4 ⟨some 44, .binOp .add 3 (.const (.int .i64 11)) (.tmp 43) 3, 3, "law.go:90", #[⟨3, .data⟩], none⟩ (.int .i64 (11 + (q : Int))) ?_
            simp only [Act.put, List.setIfInBounds_toArray, List.set_cons_zero, List.set_cons_succ]
            refine tk 5 ⟨some 45, .move (.tmp 9), 3, "law.go:90", #[], none⟩ (.int .i64 (q : Int)) ?_
            simp only [Act.put, List.setIfInBounds_toArray, List.set_cons_zero, List.set_cons_succ]
            refine tk 6 ⟨some 46, .indexAddr 136 (.tmp 8) (.tmp 45), 0, "law.go:90", #[⟨5, .data⟩], none⟩ (.pointer (some ⟨g8, q, none⟩)) ?_
            simp only [Act.put, List.setIfInBounds_toArray, List.set_cons_zero, List.set_cons_succ]
            refine tk 7 ⟨some 47, .load 22 (.tmp 46), 22, "law.go:90", #[⟨6, .data⟩], none⟩ (.int .u32 ((sv j).getD q 0)) ?_ (hy := Or.inl ⟨by rfl, by intro w hSw; have hc := hSw.2; go_simp⟩)
            simp only [Act.put, List.setIfInBounds_toArray, List.set_cons_zero, List.set_cons_succ]
            refine wpAnyH_ready (rs := [8]) (by kernel_rfl) (by simp) (AllReadyH.cons (o := ⟨some 48, .call { callee := .value (.func 8), args := #[.tmp 40, .tmp 42, .tmp 44, .tmp 47], argTypes := #[26, 3, 3, 22] }, 4, "law.go:90", #[⟨0, .data⟩, ⟨2, .data⟩, ⟨4, .data⟩, ⟨7, .data⟩], none⟩) rfl (fun KQ hK => ?_) AllReadyH.nil)
            go_simp
            refine (write_b W _ g p r2 { d with m := d.m.w26 a (sv j) q } _ S7.out a (11 + (q : Int)) ((sv j).getD q 0)).mono ?_
            rintro e wc ⟨rfl, r3, hs3⟩
            have S8 := hid hs3
            clear hs3 S7
            go_wp2_with fail
            refine hK.out _ _ (HHd.out _ _ _ S8.out) (fun hHeld => ?_)
            clear hK KQ
            try simp only [Act.put, List.setIfInBounds_toArray, List.set_cons_zero, List.set_cons_succ]
            refine tk 9 ⟨some 49, .unOp .not 4 (.tmp 48), 4, "law.go:90", #[⟨8, .data⟩], none⟩ (.bool false) ?_
            simp only [Act.put, List.setIfInBounds_toArray, List.set_cons_zero, List.set_cons_succ]
            refine wpAnyH_done (by kernel_rfl) ?_ _
            go_wp2_with fail
            go_roundw
            case measure => have := HQ.out; simp [intOf] <;> omega
            case rel => exact ⟨q + 1, _, HQ.out, by simp, S8⟩
          · obtain rfl : q = 26 := by omega
            clear hlt hq
            go_wp2_with fail
            go_ret
            have hjN := HJm.out
            subst hjN
            exact ⟨rfl, _, HS.out.tail.tail.tail⟩
theorem actb_8 (W w : World) (hT : H.Tab W) (hR : H.TabR W) (h2 : 2 < W.heap.size) (g : Nat) (p : Dp) (r : Rp) (d : DS) (L : List BxT) (hL : ∀ y ∈ L, y.2.1 = 42) (h : SB W w g p r d d L) (a b c v : Int) (v0 : 0 ≤ v) (v1 : v < 4294967296) (uo : Option Addr) (un uc : Nat) :
    Calls Tryz.prog 11 #[.pointer (some ⟨g, 0, none⟩), .agg #[.int .i64 8, .int .i64 a, .int .i64 b, .int .i64 c, .int .u32 v, .slice uo un uc]] w fun e w' => e = .returned (.bool true) ∧ ∃ q, SB W w' g p q (d.dgs a (min v.toNat 40)) (d.dgs a (min v.toNat 40)) L := by
  have X0 : Hid (SB W (w.alloc (.cells #[.int .i64 8, .int .i64 a, .int .i64 b, .int .i64 c, .int .u32 v, .slice uo un uc] 42)) g p r d d ((w.heap.size, 42, [.int .i64 8, .int .i64 a, .int .i64 b, .int .i64 c, .int .u32 v, .slice uo un uc]) :: L)) := hid (h.cons 42 [.int .i64 8, .int .i64 a, .int .i64 b, .int .i64 c, .int .u32 v, .slice uo un uc] rfl)
  have HW := hid (fun w L hL (h : SB W w g p r d d L) => digests_b W w hT hR h2 g p r d L hL h 8 a b c v v0 v1 (.slice uo un uc))
  have HL42 := hid hL
  clear h v0 v1 hL
  generalize hd2 : d.dgs a (min v.toNat 40) = d2 at *
  clear hd2
  go_enter Tryz.func11, Tryz.ntmps11
  go_upto_region 1 with fail
  generalize World.alloc _ _ = X at *
  generalize w.heap.size = g3 at *
  have y0 : X.cell? ⟨g3, 0, none⟩ = some (.int .i64 8) := (X0.out.get 0 rfl).cell 0
  have y1 : X.cell? ⟨g3, 1, none⟩ = some (.int .i64 a) := (X0.out.get 0 rfl).cell 1
  have y2 : X.cell? ⟨g3, 2, none⟩ = some (.int .i64 b) := (X0.out.get 0 rfl).cell 2
  have y3 : X.cell? ⟨g3, 3, none⟩ = some (.int .i64 c) := (X0.out.get 0 rfl).cell 3
  have y4 : X.cell? ⟨g3, 4, none⟩ = some (.int .u32 v) := (X0.out.get 0 rfl).cell 4
  have y5 : X.cell? ⟨g3, 5, none⟩ = some (.slice uo un uc) := (X0.out.get 0 rfl).cell 5
  go_wp2_with (go_at_call 43; refine (HW.out _ _ (by intro y hy; rcases List.mem_cons.1 hy with rfl | hy; rfl; exact HL42.out y hy) X0.out).mono ?_; rintro e w1 ⟨rfl, hs⟩; obtain ⟨q, hs⟩ := hs; have S1 := hid hs; clear hs)
  go_ret
  exact ⟨rfl, _, S1.out.tail⟩
end Go.Proofs.YtildhjiddidghaaGreatDoor
namespace Go.Proofs.YtildhjiddidghaaGreatDoor
open Go.RowKit
set_option maxHeartbeats 4000000
set_option maxRecDepth 100000
section
variable {g : Nat → Nat} {P : Nat → Prop} [DecidablePred P]
theorem cnt_flat (hs : ∀ n, g (n + 1) = g n + if P n then 1 else 0) {a n : Nat} (han : a ≤ n) (h : ∀ j, a ≤ j → j < n → ¬ P j) : g n = g a := by
  induction n with
  | zero =>
    have e : a = 0 := by omega
    subst e
    rfl
  | succ n ih =>
    by_cases e : a = n + 1
    · rw [e]
    · rw [hs, if_neg (h n (by omega) (by omega)), Nat.add_zero, ih (by omega) (fun j h1 h2 => h j h1 (by omega))]
theorem cnt_step (hs : ∀ n, g (n + 1) = g n + if P n then 1 else 0) {a n : Nat} (ha : a < n) (hP : P a) (h : ∀ j, a < j → j < n → ¬ P j) : g n = g a + 1 := by
  rw [cnt_flat hs (a := a + 1) (by omega) (fun j h1 h2 => h j (by omega) h2), hs, if_pos hP]
end
def eB (s : Int) : List En := [⟨1, 0, 6, s, false⟩, ⟨3, 0, 0, 0, false⟩, ⟨4, 0, 0, 0, false⟩, ⟨5, 0, 0, 0, false⟩, ⟨5, 0, 0, 0, false⟩, ⟨2, 0, 0, 0, false⟩, ⟨6, 0, 0, 0, false⟩, ⟨0, 0, 0, 0, false⟩]
structure Bt (d : DS) (s : Int) : Prop where
  ns : d.m.ns = 8
  b : d.b = 1
  E : d.E = eB s
  i1 : (d.m.at false 1).isSome = true
  i2 : (d.m.at false 2).isSome = false
theorem Bt.at {d : DS} {s : Int} (h : Bt d s) (k : Nat) : d.at k = (eB s).getD k En.zero := by unfold DS.at; rw [h.E]
theorem lt8 {q : Nat} (h : q < 8) : q = 0 ∨ q = 1 ∨ q = 2 ∨ q = 3 ∨ q = 4 ∨ q = 5 ∨ q = 6 ∨ q = 7 := by omega
theorem bt_only {d : DS} (t : Int) (p : Nat) (f : Nat → Bool) (hd : ∀ q, q < 8 → (d.at q).t = t → q = p) (hf : f p = true) : ∀ q, q < 8 → ((d.at q).t != t || f q) = true := fun q hq => by
  by_cases e : (d.at q).t = t
  · rw [hd q hq e, hf]; simp
  · have : ((d.at q).t != t) = true := by simpa using e
    rw [this]; rfl
section
variable {d : DS} {s : Int} (h : Bt d s)
include h
theorem Bt.t : (d.at 0).t = 1 ∧ (d.at 1).t = 3 ∧ (d.at 2).t = 4 ∧ (d.at 3).t = 5 ∧ (d.at 4).t = 5 ∧ (d.at 5).t = 2 ∧ (d.at 6).t = 6 ∧ (d.at 7).t = 0 := by
  simp only [h.at]; exact ⟨rfl, rfl, rfl, rfl, rfl, rfl, rfl, rfl⟩
theorem Bt.o (k : Nat) : (d.at k).o = 0 := by
  rw [h.at]
  match k with
  | 0 | 1 | 2 | 3 | 4 | 5 | 6 | 7 => rfl
  | k + 8 => rfl
theorem Bt.s0 : (d.at 0).s = s := by rw [h.at]; rfl
theorem Bt.isOf (q : Nat) (t : Int) : d.isOf q t 0 = (decide (q < 8) && ((d.at q).t == t)) := by
  unfold DS.isOf
  rw [h.ns, h.o]; simp
theorem Bt.c1 : ∀ q, q < 8 → d.at12 1 q = true := fun q hq => by
  show ((d.at q).t != 1 || (d.at q).o == (q : Int)) = true
  rw [h.at]
  rcases lt8 hq with rfl | rfl | rfl | rfl | rfl | rfl | rfl | rfl <;> rfl
theorem Bt.c3 : ∀ q, q < 8 → d.at12 3 q = true := fun q hq => by
  show ((d.at q).t == 0 || ((d.at q).t == 1 || d.hasSp q)) = true
  have e : d.hasSp q = true := by unfold DS.hasSp DS.ownr; rw [h.o, h.at]; rfl
  rw [e]; simp
theorem Bt.c4 : ∀ q, q < 8 → d.at12 4 q = true := fun q hq => by
  show ((d.at q).t != 1 || ((d.at q).r == ((d.owned (q : Int)).length : Int))) = true
  by_cases e : q = 0
  · subst e
    have e1 : (d.owned ((0 : Nat) : Int)).length = 6 := by
      unfold DS.owned DS.ent DS.there
      rw [h.ns]
      simp only [h.at]
      rfl
    rw [e1, h.at]; rfl
  · have : ((d.at q).t != 1) = true := by
      rw [h.at]
      rcases lt8 hq with rfl | rfl | rfl | rfl | rfl | rfl | rfl | rfl
      · exact absurd rfl e
      all_goals rfl
    rw [this]; rfl
theorem Bt.typ (q : Nat) (hq : q < 8) : ((d.at q).t = 1 → q = 0) ∧ ((d.at q).t = 3 → q = 1) ∧ ((d.at q).t = 4 → q = 2) ∧ ((d.at q).t = 5 → q = 3 ∨ q = 4) ∧ ((d.at q).t = 2 → q = 5) ∧ ((d.at q).t = 6 → q = 6) ∧ ((d.at q).t = 0 → q = 7) := by
  obtain ⟨a0, a1, a2, a3, a4, a5, a6, a7⟩ := h.t
  rcases lt8 hq with rfl | rfl | rfl | rfl | rfl | rfl | rfl | rfl <;> (simp only [a0, a1, a2, a3, a4, a5, a6, a7]; decide)
theorem Bt.c2 (hz : ∀ k, k < 1024 → d.w 7 k = 0) : ∀ q, q < 8 → d.at12 2 q = true := fun q hq => by
  show ((d.at q).t != 0 || d.zr (q : Int) 0 1024) = true
  exact bt_only 0 7 (fun q => d.zr (q : Int) 0 1024) (fun q hq => (h.typ q hq).2.2.2.2.2.2) (DS.zr_yes (fun k _ hk => hz k hk)) q hq
theorem Bt.c12 (hz : ∀ k, k < 1024 → d.w 6 k = 0) : ∀ q, q < 8 → d.at12 12 q = true := fun q hq => by
  show ((d.at q).t != 6 || d.zr (q : Int) 0 1024) = true
  exact bt_only 6 6 (fun q => d.zr (q : Int) 0 1024) (fun q hq => (h.typ q hq).2.2.2.2.2.1) (DS.zr_yes (fun k _ hk => hz k hk)) q hq
theorem Bt.c5 (h1 : d.w 0 1 = 0) (h2 : d.w 0 2 ≤ 4096) : ∀ q, q < 8 → d.at12 5 q = true := fun q hq => by
  show ((d.at q).t != 1 || d.born1 q) = true
  refine bt_only 1 0 d.born1 (fun q hq => (h.typ q hq).1) ?_ q hq
  unfold DS.born1
  rw [h1, h.b]
  simp [h2]
theorem Bt.c6 (hf : d.fits 0 = true) : ∀ q, q < 8 → d.at12 6 q = true := fun q hq => bt_only 1 0 d.fits (fun q hq => (h.typ q hq).1) hf q hq
theorem Bt.c7 (ho : d.one1 0 = true) : ∀ q, q < 8 → d.at12 7 q = true := fun q hq => bt_only 1 0 d.one1 (fun q hq => (h.typ q hq).1) ho q hq
theorem Bt.c8 (hn : (!(d.alive 1) || d.names 1) = true) : ∀ q, q < 8 → d.at12 8 q = true := fun q hq => bt_only 3 1 (fun k => !(d.alive k) || d.names k) (fun q hq => (h.typ q hq).2.1) hn q hq
theorem Bt.c9 (hn : (!(d.alive 2) || d.mays 2) = true) : ∀ q, q < 8 → d.at12 9 q = true := fun q hq => bt_only 4 2 (fun k => !(d.alive k) || d.mays k) (fun q hq => (h.typ q hq).2.2.1) hn q hq
theorem Bt.c11 (ht : d.thr 5 = true) : ∀ q, q < 8 → d.at12 11 q = true := fun q hq => bt_only 2 5 d.thr (fun q hq => (h.typ q hq).2.2.2.2.1) ht q hq
theorem Bt.mc8 (q : Nat) (hq : q < 8) : ((d.mcL d.m.ns).getD q 0) = d.mc1 2 1024 q := by
  obtain ⟨a0, a1, a2, a3, a4, a5, a6, a7⟩ := h.t
  unfold DS.mcL
  rw [h.ns, List.getD_eq_getElem?_getD, List.getElem?_map, List.getElem?_range hq]
  simp only [Option.map_some, Option.getD_some, DS.mc, a0, a1, a2, a3, a4, a5, a6, a7]
  simp
theorem Bt.c10 (h3 : d.alive 3 = true → d.mc1 2 1024 3 = 1) (h4 : d.alive 4 = true → d.mc1 2 1024 4 = 1) : ∀ q, q < 8 → d.at12 10 q = true := fun q hq => by
  show ((d.at q).t != 5 || (!(d.alive q) || ((((d.mcL d.m.ns).getD q 0 : Nat) : Int) == 1))) = true
  by_cases e : (d.at q).t = 5
  · rw [h.mc8 q hq]
    cases ha : d.alive q
    · simp
    · rcases (h.typ q hq).2.2.2.1 e with rfl | rfl
      · rw [h3 ha]; simp
      · rw [h4 ha]; simp
  · have : ((d.at q).t != 5) = true := by simpa using e
    rw [this]; rfl
theorem Bt.alive (k : Nat) : d.alive k = (s != 3) := by
  unfold DS.alive DS.hasSp DS.ownr
  rw [h.o, h.at]; rfl
theorem Bt.firsts : d.firsts 0 d.m.ns = [1] := by
  unfold DS.firsts
  have hi : (fun j => d.isOf j 3 ((0 : Nat) : Int)) = (fun j => decide (j < 8) && (((eB s).getD j En.zero).t == 3)) := by
    funext j
    have := h.isOf j 3
    rw [h.at] at this
    exact this
  rw [hi, h.ns]
  rfl
theorem Bt.first (ho : d.w 0 0 = 1) : d.one1 0 = true := by
  unfold DS.one1
  split
  · rfl
  · rw [h.firsts, ho]; rfl
end
end Go.Proofs.YtildhjiddidghaaGreatDoor
namespace Go.Proofs.YtildhjiddidghaaGreatDoor
open Go.RowKit
set_option maxHeartbeats 4000000
set_option maxRecDepth 100000
def F1 (k j : Nat) : Int :=
  if k = 0 then (if j = 0 then 1 else if j = 3 then 4660 else 0) else if k = 1 then (if j = 3 then 513 else 0) else if k = 2 then (if j = 5 then 775 else if j = 6 then 1035 else if j = 7 then 261 else 0) else if k = 5 then (if j = 0 then 4096 else 0) else 0
def upF (F : Nat → Nat → Int) (p o : Nat) (v : Int) (k j : Nat) : Int := if k = p ∧ j = o then v else F k j
def Wd (d : DS) (G : Nat → Nat → Int) : Prop := ∀ k j, k < 8 → j < 1024 → d.w k j = G k j
theorem fb_first {d : DS} {c q : Nat} (hns : d.m.ns = 8) (h1 : 1 ≤ c) (h2 : c ≤ 12) (hp : ∀ i, 1 ≤ i → i < c → ∀ q, q < 8 → d.at12 i q = true) (hq : q < 8) (hb : d.at12 c q = false) (hl : ∀ j, j < q → d.at12 c j = true) : d.fb 1 12 = ((c : Int), (q : Int)) := by
  have hbad : d.bad c = some q := bad_some (by rw [hns]; exact hq) hb hl
  have hnone : ∀ i, 1 ≤ i → i < c → d.bad i = none := fun i hi1 hi2 => bad_none (fun j hj => hp i hi1 hi2 j (by rw [← hns]; exact hj))
  rcases fb_gen d 12 1 with ⟨_, h4⟩ | ⟨e, q', h3, h4, h5, h6, h7⟩
  · rw [h4 c h1 (by omega)] at hbad; cases hbad
  · by_cases hce : c = e
    · subst hce
      rw [hbad] at h5
      cases h5
      exact h6
    · by_cases hlt : c < e
      · rw [h7 c h1 hlt] at hbad; cases hbad
      · rw [hnone e h3 (by omega)] at h5; cases h5
theorem mays_of {d : DS} {s : Int} (h : Bt d s) (hw : ∀ j, j < 1024 → d.w 2 j = 0 ∨ d.w 2 j = 775 ∨ d.w 2 j = 1035 ∨ d.w 2 j = 261) : d.mays 2 = true := by
  unfold DS.mays
  rw [List.all_eq_true]
  intro j hj
  rw [List.mem_range] at hj
  unfold DS.mp1
  rcases hw j hj with e | e | e | e
  · rw [e]; rfl
  · rw [e, h.o]
    have : d.may (ps 775).s (ps 775).p.toNat 0 = true := by
      show d.isOf 3 5 0 = true
      rw [h.isOf, h.at]; rfl
    rw [this]; rfl
  · rw [e, h.o]
    have : d.may (ps 1035).s (ps 1035).p.toNat 0 = true := by
      show d.isOf 4 5 0 = true
      rw [h.isOf, h.at]; rfl
    rw [this]; rfl
  · rw [e, h.o]
    have : d.may (ps 261).s (ps 261).p.toNat 0 = true := by
      show (d.m.at false 1).isSome = true
      exact h.i1
    rw [this]; rfl
theorem hit_of {d : DS} {s : Int} (h : Bt d s) (j q : Nat) (v : Int) (hv : d.w 2 j = v) : d.hit 2 j q = ((psE v == 0) && ((ps v).s && (((ps v).p.toNat == q) && (decide (q < 8) && ((d.at q).t == 5))))) := by
  unfold DS.hit
  rw [hv, h.o, h.isOf]
theorem hit3 {d : DS} {s : Int} (h : Bt d s) (j : Nat) : (d.w 2 j = 775 → d.hit 2 j 3 = true ∧ d.hit 2 j 4 = false) ∧ (d.w 2 j = 1035 → d.hit 2 j 3 = false ∧ d.hit 2 j 4 = true) ∧ (d.w 2 j = 0 ∨ d.w 2 j = 261 → d.hit 2 j 3 = false ∧ d.hit 2 j 4 = false) := by
  refine ⟨fun e => ?_, fun e => ?_, fun e => ?_⟩
  · rw [hit_of h j 3 _ e, hit_of h j 4 _ e, h.at, h.at]; exact ⟨rfl, rfl⟩
  · rw [hit_of h j 3 _ e, hit_of h j 4 _ e, h.at, h.at]; exact ⟨rfl, rfl⟩
  · rcases e with e | e
    · rw [hit_of h j 3 _ e, hit_of h j 4 _ e]; exact ⟨rfl, rfl⟩
    · rw [hit_of h j 3 _ e, hit_of h j 4 _ e]; exact ⟨rfl, rfl⟩
theorem mc_one {d : DS} {q a : Nat} (ha : a < 1024) (h1 : d.hit 2 a q = true) (h2 : ∀ j, j < 1024 → j ≠ a → d.hit 2 j q = false) : d.mc1 2 1024 q = 1 := by
  have hs : ∀ n, d.mc1 2 (n + 1) q = d.mc1 2 n q + if d.hit 2 n q = true then 1 else 0 := fun n => rfl
  rw [cnt_step (g := fun n => d.mc1 2 n q) (P := fun n => d.hit 2 n q = true) hs ha h1 (fun j h3 h4 => by rw [h2 j h4 (by omega)]; decide), cnt_flat (g := fun n => d.mc1 2 n q) (P := fun n => d.hit 2 n q = true) hs (Nat.zero_le a) (fun j _ h4 => by rw [h2 j (by omega) (by omega)]; decide)]
  rfl
theorem mc_none {d : DS} {q : Nat} (h2 : ∀ j, j < 1024 → d.hit 2 j q = false) : d.mc1 2 1024 q = 0 := by
  have hs : ∀ n, d.mc1 2 (n + 1) q = d.mc1 2 n q + if d.hit 2 n q = true then 1 else 0 := fun n => rfl
  rw [cnt_flat (g := fun n => d.mc1 2 n q) (P := fun n => d.hit 2 n q = true) hs (Nat.zero_le 1024) (fun j _ h4 => by rw [h2 j h4]; decide)]
  rfl
theorem mc_two {d : DS} {q a b : Nat} (hab : a < b) (hb : b < 1024) (h1 : d.hit 2 a q = true) (h3 : d.hit 2 b q = true) (h2 : ∀ j, j < 1024 → j ≠ a → j ≠ b → d.hit 2 j q = false) : d.mc1 2 1024 q = 2 := by
  have hs : ∀ n, d.mc1 2 (n + 1) q = d.mc1 2 n q + if d.hit 2 n q = true then 1 else 0 := fun n => rfl
  rw [cnt_step (g := fun n => d.mc1 2 n q) (P := fun n => d.hit 2 n q = true) hs hb h3 (fun j h3 h4 => by rw [h2 j h4 (by omega) (by omega)]; decide), cnt_step (g := fun n => d.mc1 2 n q) (P := fun n => d.hit 2 n q = true) hs hab h1 (fun j h3 h4 => by rw [h2 j (by omega) (by omega) (by omega)]; decide), cnt_flat (g := fun n => d.mc1 2 n q) (P := fun n => d.hit 2 n q = true) hs (Nat.zero_le a) (fun j _ h4 => by rw [h2 j (by omega) (by omega) (by omega)]; decide)]
  rfl
theorem nmd_hs (d : DS) (q n : Nat) : d.nmd 1 (n + 1) q = d.nmd 1 n q + if pfE (d.w 1 n) = 0 ∧ (pf (d.w 1 n)).toNat = q then 1 else 0 := rfl
theorem nm_zero {d : DS} {j : Nat} (h : d.w 1 j = 0) (q : Nat) : ¬ (pfE (d.w 1 j) = 0 ∧ (pf (d.w 1 j)).toNat = q) := by
  rw [h]
  intro hh
  exact absurd hh.1 (by decide)
theorem nm_513 {d : DS} {j : Nat} (h : d.w 1 j = 513) : pfE (d.w 1 j) = 0 ∧ (pf (d.w 1 j)).toNat = 2 := by rw [h]; decide
theorem names_of {d : DS} {s : Int} (h : Bt d s) (h3 : d.w 1 3 = 513) (hw : ∀ j, j < 1024 → j ≠ 3 → d.w 1 j = 0) : d.names 1 = true := by
  have hone : d.nmd 1 256 2 = 1 := by
    rw [cnt_step (g := fun n => d.nmd 1 n 2) (nmd_hs d 2) (a := 3) (by decide) (nm_513 h3) (fun j h1 h2 => nm_zero (hw j (by omega) (by omega)) 2), cnt_flat (g := fun n => d.nmd 1 n 2) (nmd_hs d 2) (Nat.zero_le 3) (fun j _ h2 => nm_zero (hw j (by omega) (by omega)) 2)]
    rfl
  unfold DS.names
  rw [Bool.and_eq_true, Bool.and_eq_true]
  refine ⟨DS.zr_yes (fun k h1 h2 => hw k h2 (by omega)), List.all_eq_true.2 (fun j hj => ?_), List.all_eq_true.2 (fun q hq => ?_)⟩
  · rw [List.mem_range] at hj
    unfold DS.nm1
    by_cases e : j = 3
    · subst e
      have : d.isOf (pf 513).toNat 4 0 = true := by
        show d.isOf 2 4 0 = true
        rw [h.isOf, h.at]; rfl
      rw [h3, h.o, this]; rfl
    · rw [hw j (by omega) e]; rfl
  · rw [List.mem_range, h.ns] at hq
    unfold DS.nq
    rw [h.o, h.isOf]
    by_cases e : q = 2
    · subst e; rw [hone]; simp
    · have : ((d.at q).t == 4) = false := by
        rw [beq_eq_false_iff_ne]
        exact fun hh => e ((h.typ q hq).2.2.1 hh)
      rw [this]; simp
theorem thr_of {d : DS} {s : Int} (h : Bt d s) (hz : ∀ j, 1 ≤ j → j < 1024 → d.w 5 j = 0) : d.thr 5 = true := by
  unfold DS.thr
  have e : (d.at 5).e = false := by rw [h.at]; rfl
  rw [e, DS.zr_yes (fun k h1 h2 => hz k (by omega) h2)]
  exact DS.zr_yes (fun k h1 h2 => hz k h1 (by omega))
theorem fits_of {d : DS} (h : Bt d 2) (hz : ∀ j, 11 ≤ j → j < 1024 → d.w 0 j = 0) : d.fits 0 = true := by
  unfold DS.fits
  rw [h.s0, if_neg (by decide), if_pos rfl, DS.zr_yes (fun k h1 h2 => hz k (by omega) h2), DS.zr_yes (fun k h1 h2 => hz k h1 (by omega))]
  rfl
end Go.Proofs.YtildhjiddidghaaGreatDoor
namespace Go.Proofs.YtildhjiddidghaaGreatDoor
open Go.RowKit
set_option maxHeartbeats 4000000
set_option maxRecDepth 100000
theorem F1_0 (j : Nat) (hj : 4 ≤ j) : F1 0 j = 0 := by unfold F1; rw [if_pos rfl, if_neg (by omega), if_neg (by omega)]
structure Sv (d : DS) (G : Nat → Nat → Int) : Prop where
  b : Bt d 2
  w : Wd d G
section
variable {d : DS} {G : Nat → Nat → Int} (h : Sv d G)
include h
theorem Sv.k7 (hG : ∀ j, G 7 j = F1 7 j) : ∀ q, q < 8 → d.at12 2 q = true := h.b.c2 (fun k hk => by rw [h.w 7 k (by decide) hk, hG]; rfl)
theorem Sv.k6 (hG : ∀ j, G 6 j = F1 6 j) : ∀ q, q < 8 → d.at12 12 q = true := h.b.c12 (fun k hk => by rw [h.w 6 k (by decide) hk, hG]; rfl)
theorem Sv.k05 (hG : ∀ j, G 0 j = F1 0 j) : ∀ q, q < 8 → d.at12 5 q = true := h.b.c5 (by rw [h.w 0 1 (by decide) (by decide), hG]; rfl) (by rw [h.w 0 2 (by decide) (by decide), hG]; decide)
end
section
variable {d : DS} {G : Nat → Nat → Int} (h : Sv d G)
include h
theorem Sv.k06 (hG : ∀ j, G 0 j = F1 0 j) : ∀ q, q < 8 → d.at12 6 q = true := h.b.c6 (fits_of h.b (fun j h1 h2 => by rw [h.w 0 j (by decide) h2, hG, F1_0 j (by omega)]))
theorem Sv.k07 (hG : G 0 0 = 1) : ∀ q, q < 8 → d.at12 7 q = true := h.b.c7 (h.b.first (by rw [h.w 0 0 (by decide) (by decide), hG]))
theorem Sv.k1 (hG : ∀ j, G 1 j = F1 1 j) : ∀ q, q < 8 → d.at12 8 q = true := h.b.c8 (by
  rw [names_of h.b (by rw [h.w 1 3 (by decide) (by decide), hG]; rfl) (fun j hj hn => by rw [h.w 1 j (by decide) hj, hG]; unfold F1; rw [if_neg (by decide), if_pos rfl, if_neg hn])]
  simp)
theorem Sv.may (hG : ∀ j, j < 1024 → G 2 j = 0 ∨ G 2 j = 775 ∨ G 2 j = 1035 ∨ G 2 j = 261) : ∀ q, q < 8 → d.at12 9 q = true := h.b.c9 (by
  rw [mays_of h.b (fun j hj => by rw [h.w 2 j (by decide) hj]; exact hG j hj)]
  simp)
theorem Sv.k5 (hG : ∀ j, G 5 j = F1 5 j) : ∀ q, q < 8 → d.at12 11 q = true := h.b.c11 (thr_of h.b (fun j h1 h2 => by
  rw [h.w 5 j (by decide) h2, hG]; unfold F1; rw [if_neg (by decide), if_neg (by decide), if_neg (by decide), if_pos rfl, if_neg (by omega)]))
end
theorem F1_2 (j : Nat) : F1 2 j = 0 ∨ F1 2 j = 775 ∨ F1 2 j = 1035 ∨ F1 2 j = 261 := by
  unfold F1
  rw [if_neg (by decide), if_neg (by decide), if_pos rfl]
  split
  · exact .inr (.inl rfl)
  · split
    · exact .inr (.inr (.inl rfl))
    · split
      · exact .inr (.inr (.inr rfl))
      · exact .inl rfl
theorem F1_2o (j : Nat) (hj : j ≠ 5) : F1 2 j ≠ 775 := by
  unfold F1
  rw [if_neg (by decide), if_neg (by decide), if_pos rfl, if_neg hj]
  split
  · decide
  · split <;> decide
theorem F1_2p (j : Nat) (hj : j ≠ 6) : F1 2 j ≠ 1035 := by
  unfold F1
  rw [if_neg (by decide), if_neg (by decide), if_pos rfl]
  by_cases e5 : j = 5
  · rw [if_pos e5]; decide
  · rw [if_neg e5, if_neg hj]; split <;> decide
section
variable {d : DS} {G : Nat → Nat → Int} (h : Sv d G)
include h
theorem Sv.hits {j : Nat} (hj : j < 1024) (hG : G 2 j = 0 ∨ G 2 j = 775 ∨ G 2 j = 1035 ∨ G 2 j = 261) : (d.hit 2 j 3 = decide (G 2 j = 775)) ∧ (d.hit 2 j 4 = decide (G 2 j = 1035)) := by
  obtain ⟨a, b, c⟩ := hit3 h.b j
  rw [h.w 2 j (by decide) hj] at a b c
  rcases hG with e | e | e | e
  · obtain ⟨x, y⟩ := c (.inl e); rw [x, y, e]; exact ⟨rfl, rfl⟩
  · obtain ⟨x, y⟩ := a e; rw [x, y, e]; exact ⟨rfl, rfl⟩
  · obtain ⟨x, y⟩ := b e; rw [x, y, e]; exact ⟨rfl, rfl⟩
  · obtain ⟨x, y⟩ := c (.inr e); rw [x, y, e]; exact ⟨rfl, rfl⟩
theorem Sv.k10 (hG : ∀ j, G 2 j = F1 2 j) : ∀ q, q < 8 → d.at12 10 q = true := by
  refine h.b.c10 (fun _ => mc_one (a := 5) (by decide) ?_ (fun j hj hn => ?_)) (fun _ => mc_one (a := 6) (by decide) ?_ (fun j hj hn => ?_))
  · rw [(h.hits (j := 5) (by decide) (by rw [hG]; exact F1_2 5)).1, hG]; rfl
  · rw [(h.hits hj (by rw [hG]; exact F1_2 j)).1, hG]; exact decide_eq_false (F1_2o j hn)
  · rw [(h.hits (j := 6) (by decide) (by rw [hG]; exact F1_2 6)).2, hG]; rfl
  · rw [(h.hits hj (by rw [hG]; exact F1_2 j)).2, hG]; exact decide_eq_false (F1_2p j hn)
theorem Sv.pre (c : Nat) (hc : c ≤ 13) (k7 : 2 < c → ∀ j, G 7 j = F1 7 j) (k05 : 5 < c → ∀ q, q < 8 → d.at12 5 q = true) (k06 : 6 < c → ∀ q, q < 8 → d.at12 6 q = true) (k07 : 7 < c → G 0 0 = 1) (k1 : 8 < c → ∀ j, G 1 j = F1 1 j) (k2 : 9 < c → ∀ j, j < 1024 → G 2 j = 0 ∨ G 2 j = 775 ∨ G 2 j = 1035 ∨ G 2 j = 261) (k10 : 10 < c → ∀ j, G 2 j = F1 2 j) (k5 : 11 < c → ∀ j, G 5 j = F1 5 j) (k6 : 12 < c → ∀ j, G 6 j = F1 6 j) :
    ∀ i, 1 ≤ i → i < c → ∀ q, q < 8 → d.at12 i q = true := fun i h1 h2 => by
  have hi : i = 1 ∨ i = 2 ∨ i = 3 ∨ i = 4 ∨ i = 5 ∨ i = 6 ∨ i = 7 ∨ i = 8 ∨ i = 9 ∨ i = 10 ∨ i = 11 ∨ i = 12 := by omega
  rcases hi with rfl | rfl | rfl | rfl | rfl | rfl | rfl | rfl | rfl | rfl | rfl | rfl
  · exact h.b.c1
  · exact h.k7 (k7 h2)
  · exact h.b.c3
  · exact h.b.c4
  · exact k05 h2
  · exact k06 h2
  · exact h.k07 (k07 h2)
  · exact h.k1 (k1 h2)
  · exact h.may (k2 h2)
  · exact h.k10 (k10 h2)
  · exact h.k5 (k5 h2)
  · exact h.k6 (k6 h2)
end
theorem sv_less {d : DS} (t : Int) (c q : Nat) (f : Nat → Bool) (hc : ∀ j, d.at12 c j = ((d.at j).t != t || f j)) (hd : ∀ j, j < 8 → (d.at j).t = t → q ≤ j) : ∀ j, j < q → q < 8 → d.at12 c j = true := fun j hj hq => by
  rw [hc]
  have : ((d.at j).t != t) = true := by
    rw [bne_iff_ne]
    intro e
    have := hd j (by omega) e
    omega
  rw [this]; rfl
theorem upF_ne (F : Nat → Nat → Int) (p o : Nat) (v : Int) (k : Nat) (hk : k ≠ p) (j : Nat) : upF F p o v k j = F k j := by unfold upF; rw [if_neg (fun e => hk e.1)]
theorem upF_eq (F : Nat → Nat → Int) (p o : Nat) (v : Int) : upF F p o v p o = v := by unfold upF; rw [if_pos ⟨rfl, rfl⟩]
theorem upF_of (F : Nat → Nat → Int) (p o : Nat) (v : Int) (j : Nat) (hj : j ≠ o) : upF F p o v p j = F p j := by unfold upF; rw [if_neg (fun e => hj e.2)]
end Go.Proofs.YtildhjiddidghaaGreatDoor
namespace Go.Proofs.YtildhjiddidghaaGreatDoor
open Go.RowKit
set_option maxHeartbeats 4000000
set_option maxRecDepth 100000
theorem sp_fb {d : DS} {G : Nat → Nat → Int} (h : Sv d G) (t : Int) (c q : Nat) (f : Nat → Bool) (h1 : 1 ≤ c) (h2 : c ≤ 12) (hq : q < 8) (hc : ∀ j, d.at12 c j = ((d.at j).t != t || f j)) (ht : (d.at q).t = t) (hd : ∀ j, j < 8 → (d.at j).t = t → q ≤ j) (hf : f q = false) (hp : ∀ i, 1 ≤ i → i < c → ∀ q, q < 8 → d.at12 i q = true) : d.fb 1 12 = ((c : Int), (q : Int)) := by
  refine fb_first h.b.ns h1 h2 hp hq ?_ (fun j hj => sv_less t c q f hc hd j hj hq)
  rw [hc, ht, hf]; simp
theorem sp0 {d : DS} (o : Nat) (v : Int) (ho : o < 900) (hv : v ≠ 0) (h : Sv d (upF F1 7 o v)) : d.fb 1 12 = (2, 7) := by
  refine sp_fb h 0 2 7 (fun k => d.zr (k : Int) 0 1024) (by decide) (by decide) (by decide) (fun _ => rfl) h.b.t.2.2.2.2.2.2.2 (fun j hj e => by have := (h.b.typ j hj).2.2.2.2.2.2 e; omega) ?_ (h.pre 2 (by decide) (fun hh => absurd hh (by decide)) (fun hh => absurd hh (by decide)) (fun hh => absurd hh (by decide)) (fun hh => absurd hh (by decide)) (fun hh => absurd hh (by decide)) (fun hh => absurd hh (by decide)) (fun hh => absurd hh (by decide)) (fun hh => absurd hh (by decide)) (fun hh => absurd hh (by decide)))
  exact DS.zr_no (q := ((7 : Nat) : Int)) (lo := 0) (hi := 1024) (k := o) (by omega) (by omega) (by show d.w 7 (o) ≠ 0; rw [h.w 7 (o) (by decide) (by omega), upF_eq]; exact hv)
theorem sp1 {d : DS} (o : Nat) (v : Int) (ho : o < 900) (hv : v ≠ 0) (h : Sv d (upF F1 6 o v)) : d.fb 1 12 = (12, 6) := by
  refine sp_fb h 6 12 6 (fun k => d.zr (k : Int) 0 1024) (by decide) (by decide) (by decide) (fun _ => rfl) h.b.t.2.2.2.2.2.2.1 (fun j hj e => by have := (h.b.typ j hj).2.2.2.2.2.1 e; omega) ?_ (h.pre 12 (by decide) (fun _ j => (upF_ne F1 6 _ _ 7 (by decide) j)) (fun _ => h.k05 (fun j => (upF_ne F1 6 _ _ 0 (by decide) j))) (fun _ => h.k06 (fun j => (upF_ne F1 6 _ _ 0 (by decide) j))) (fun _ => (upF_ne F1 6 _ _ 0 (by decide) 0)) (fun _ j => (upF_ne F1 6 _ _ 1 (by decide) j)) (fun _ j _ => by rw [(upF_ne F1 6 _ _ 2 (by decide) j)]; exact F1_2 j) (fun _ j => (upF_ne F1 6 _ _ 2 (by decide) j)) (fun _ j => (upF_ne F1 6 _ _ 5 (by decide) j)) (fun hh => absurd hh (by decide)))
  exact DS.zr_no (q := ((6 : Nat) : Int)) (lo := 0) (hi := 1024) (k := o) (by omega) (by omega) (by show d.w 6 (o) ≠ 0; rw [h.w 6 (o) (by decide) (by omega), upF_eq]; exact hv)
theorem sp2 {d : DS} (o : Nat) (v : Int) (ho : o < 900) (hv : v ≠ 0) (h : Sv d (upF F1 5 (18 + o) v)) : d.fb 1 12 = (11, 5) := by
  refine sp_fb h 2 11 5 (d.thr) (by decide) (by decide) (by decide) (fun _ => rfl) h.b.t.2.2.2.2.2.1 (fun j hj e => by have := (h.b.typ j hj).2.2.2.2.1 e; omega) ?_ (h.pre 11 (by decide) (fun _ j => (upF_ne F1 5 _ _ 7 (by decide) j)) (fun _ => h.k05 (fun j => (upF_ne F1 5 _ _ 0 (by decide) j))) (fun _ => h.k06 (fun j => (upF_ne F1 5 _ _ 0 (by decide) j))) (fun _ => (upF_ne F1 5 _ _ 0 (by decide) 0)) (fun _ j => (upF_ne F1 5 _ _ 1 (by decide) j)) (fun _ j _ => by rw [(upF_ne F1 5 _ _ 2 (by decide) j)]; exact F1_2 j) (fun _ j => (upF_ne F1 5 _ _ 2 (by decide) j)) (fun hh => absurd hh (by decide)) (fun hh => absurd hh (by decide)))
  unfold DS.thr
  rw [DS.zr_no (q := ((5 : Nat) : Int)) (lo := 18) (hi := 1024) (k := 18 + o) (by omega) (by omega) (by show d.w 5 (18 + o) ≠ 0; rw [h.w 5 (18 + o) (by decide) (by omega), upF_eq]; exact hv)]; rfl
theorem sp3 {d : DS} (o : Nat) (v : Int) (ho : o < 17) (hv : v ≠ 0) (h : Sv d (upF F1 5 (1 + o) v)) : d.fb 1 12 = (11, 5) := by
  refine sp_fb h 2 11 5 (d.thr) (by decide) (by decide) (by decide) (fun _ => rfl) h.b.t.2.2.2.2.2.1 (fun j hj e => by have := (h.b.typ j hj).2.2.2.2.1 e; omega) ?_ (h.pre 11 (by decide) (fun _ j => (upF_ne F1 5 _ _ 7 (by decide) j)) (fun _ => h.k05 (fun j => (upF_ne F1 5 _ _ 0 (by decide) j))) (fun _ => h.k06 (fun j => (upF_ne F1 5 _ _ 0 (by decide) j))) (fun _ => (upF_ne F1 5 _ _ 0 (by decide) 0)) (fun _ j => (upF_ne F1 5 _ _ 1 (by decide) j)) (fun _ j _ => by rw [(upF_ne F1 5 _ _ 2 (by decide) j)]; exact F1_2 j) (fun _ j => (upF_ne F1 5 _ _ 2 (by decide) j)) (fun hh => absurd hh (by decide)) (fun hh => absurd hh (by decide)))
  unfold DS.thr
  have e : (d.at 5).e = false := by rw [h.b.at]; rfl
  rw [e, if_neg (by decide), DS.zr_no (q := ((5 : Nat) : Int)) (lo := 1) (hi := 18) (k := 1 + o) (by omega) (by omega) (by show d.w 5 (1 + o) ≠ 0; rw [h.w 5 (1 + o) (by decide) (by omega), upF_eq]; exact hv)]; simp
theorem sp4 {d : DS} (o : Nat) (v : Int) (ho : o < 900) (hv : v ≠ 0) (h : Sv d (upF F1 0 (37 + o) v)) : d.fb 1 12 = (6, 0) := by
  refine sp_fb h 1 6 0 (d.fits) (by decide) (by decide) (by decide) (fun _ => rfl) h.b.t.1 (fun j hj e => by have := (h.b.typ j hj).1 e; omega) ?_ (h.pre 6 (by decide) (fun _ j => (upF_ne F1 0 _ _ 7 (by decide) j)) (fun _ => h.b.c5 (by rw [h.w 0 1 (by decide) (by decide), upF_of _ _ _ _ 1 (by omega)]; rfl) (by rw [h.w 0 2 (by decide) (by decide), upF_of _ _ _ _ 2 (by omega)]; decide)) (fun hh => absurd hh (by decide)) (fun hh => absurd hh (by decide)) (fun hh => absurd hh (by decide)) (fun hh => absurd hh (by decide)) (fun hh => absurd hh (by decide)) (fun hh => absurd hh (by decide)) (fun hh => absurd hh (by decide)))
  unfold DS.fits
  rw [DS.zr_no (q := ((0 : Nat) : Int)) (lo := 37) (hi := 1024) (k := 37 + o) (by omega) (by omega) (by show d.w 0 (37 + o) ≠ 0; rw [h.w 0 (37 + o) (by decide) (by omega), upF_eq]; exact hv)]; rfl
theorem sp5 {d : DS} (o : Nat) (v : Int) (ho : o < 26) (hv : v ≠ 0) (h : Sv d (upF F1 0 (11 + o) v)) : d.fb 1 12 = (6, 0) := by
  refine sp_fb h 1 6 0 (d.fits) (by decide) (by decide) (by decide) (fun _ => rfl) h.b.t.1 (fun j hj e => by have := (h.b.typ j hj).1 e; omega) ?_ (h.pre 6 (by decide) (fun _ j => (upF_ne F1 0 _ _ 7 (by decide) j)) (fun _ => h.b.c5 (by rw [h.w 0 1 (by decide) (by decide), upF_of _ _ _ _ 1 (by omega)]; rfl) (by rw [h.w 0 2 (by decide) (by decide), upF_of _ _ _ _ 2 (by omega)]; decide)) (fun hh => absurd hh (by decide)) (fun hh => absurd hh (by decide)) (fun hh => absurd hh (by decide)) (fun hh => absurd hh (by decide)) (fun hh => absurd hh (by decide)) (fun hh => absurd hh (by decide)) (fun hh => absurd hh (by decide)))
  unfold DS.fits
  rw [h.b.s0, if_neg (by decide), if_pos rfl, DS.zr_no (q := ((0 : Nat) : Int)) (lo := 11) (hi := 37) (k := 11 + o) (by omega) (by omega) (by show d.w 0 (11 + o) ≠ 0; rw [h.w 0 (11 + o) (by decide) (by omega), upF_eq]; exact hv)]; simp
theorem sp6 {d : DS} (v : Int) (hv : 1 ≤ v) (h : Sv d (upF F1 0 1 v)) : d.fb 1 12 = (5, 0) := by
  refine sp_fb h 1 5 0 (d.born1) (by decide) (by decide) (by decide) (fun _ => rfl) h.b.t.1 (fun j hj e => by have := (h.b.typ j hj).1 e; omega) ?_ (h.pre 5 (by decide) (fun _ j => (upF_ne F1 0 _ _ 7 (by decide) j)) (fun hh => absurd hh (by decide)) (fun hh => absurd hh (by decide)) (fun hh => absurd hh (by decide)) (fun hh => absurd hh (by decide)) (fun hh => absurd hh (by decide)) (fun hh => absurd hh (by decide)) (fun hh => absurd hh (by decide)) (fun hh => absurd hh (by decide)))
  unfold DS.born1
  have e : decide (d.w 0 1 < d.b) = false := by rw [h.w 0 1 (by decide) (by decide), upF_eq, h.b.b]; simp; omega
  rw [e]; simp
theorem sp7 {d : DS} (v : Int) (hv : 4097 ≤ v) (h : Sv d (upF F1 0 2 v)) : d.fb 1 12 = (5, 0) := by
  refine sp_fb h 1 5 0 (d.born1) (by decide) (by decide) (by decide) (fun _ => rfl) h.b.t.1 (fun j hj e => by have := (h.b.typ j hj).1 e; omega) ?_ (h.pre 5 (by decide) (fun _ j => (upF_ne F1 0 _ _ 7 (by decide) j)) (fun hh => absurd hh (by decide)) (fun hh => absurd hh (by decide)) (fun hh => absurd hh (by decide)) (fun hh => absurd hh (by decide)) (fun hh => absurd hh (by decide)) (fun hh => absurd hh (by decide)) (fun hh => absurd hh (by decide)) (fun hh => absurd hh (by decide)))
  unfold DS.born1
  have e : decide (d.w 0 2 ≤ 4096) = false := by rw [h.w 0 2 (by decide) (by decide), upF_eq]; simp; omega
  rw [e]; simp
theorem sp8 {d : DS} (v : Int) (hv : 2 ≤ v) (h : Sv d (upF F1 0 0 v)) : d.fb 1 12 = (7, 0) := by
  refine sp_fb h 1 7 0 (d.one1) (by decide) (by decide) (by decide) (fun _ => rfl) h.b.t.1 (fun j hj e => by have := (h.b.typ j hj).1 e; omega) ?_ (h.pre 7 (by decide) (fun _ j => (upF_ne F1 0 _ _ 7 (by decide) j)) (fun _ => h.b.c5 (by rw [h.w 0 1 (by decide) (by decide), upF_of _ _ _ _ 1 (by omega)]; rfl) (by rw [h.w 0 2 (by decide) (by decide), upF_of _ _ _ _ 2 (by omega)]; decide)) (fun _ => h.b.c6 (fits_of h.b (fun j h1 h2 => by rw [h.w 0 j (by decide) h2, upF_of _ _ _ _ j (by omega), F1_0 j (by omega)]))) (fun hh => absurd hh (by decide)) (fun hh => absurd hh (by decide)) (fun hh => absurd hh (by decide)) (fun hh => absurd hh (by decide)) (fun hh => absurd hh (by decide)) (fun hh => absurd hh (by decide)))
  unfold DS.one1
  rw [h.b.s0, if_neg (by decide)]
  have e : ((d.firsts 0 d.m.ns).getD 0 0 == d.w 0 0) = false := by
    have e1 : d.firsts 0 d.m.ns = [1] := h.b.firsts
    rw [e1, h.w 0 0 (by decide) (by decide), upF_eq, beq_eq_false_iff_ne]
    simp only [List.getD_cons_zero]
    omega
  rw [e]; simp
theorem sp9 {d : DS} (o : Nat) (v : Int) (ho : o < 768) (hv : v ≠ 0) (h : Sv d (upF F1 1 (256 + o) v)) : d.fb 1 12 = (8, 1) := by
  refine sp_fb h 3 8 1 (fun k => !(d.alive k) || d.names k) (by decide) (by decide) (by decide) (fun _ => rfl) h.b.t.2.1 (fun j hj e => by have := (h.b.typ j hj).2.1 e; omega) ?_ (h.pre 8 (by decide) (fun _ j => (upF_ne F1 1 _ _ 7 (by decide) j)) (fun _ => h.k05 (fun j => (upF_ne F1 1 _ _ 0 (by decide) j))) (fun _ => h.k06 (fun j => (upF_ne F1 1 _ _ 0 (by decide) j))) (fun _ => (upF_ne F1 1 _ _ 0 (by decide) 0)) (fun hh => absurd hh (by decide)) (fun hh => absurd hh (by decide)) (fun hh => absurd hh (by decide)) (fun hh => absurd hh (by decide)) (fun hh => absurd hh (by decide)))
  have ea : d.alive 1 = true := by rw [h.b.alive]; rfl
  have e : d.zr ((1 : Nat) : Int) 256 1024 = false := DS.zr_no (q := ((1 : Nat) : Int)) (lo := 256) (hi := 1024) (k := 256 + o) (by omega) (by omega) (by show d.w 1 (256 + o) ≠ 0; rw [h.w 1 (256 + o) (by decide) (by omega), upF_eq]; exact hv)
  simp only [ea]
  unfold DS.names
  rw [e]; rfl
theorem sp10 {d : DS} (o : Nat) (ho : o < 200) (h : Sv d (upF F1 1 (4 + o) 513)) : d.fb 1 12 = (8, 1) := by
  refine sp_fb h 3 8 1 (fun k => !(d.alive k) || d.names k) (by decide) (by decide) (by decide) (fun _ => rfl) h.b.t.2.1 (fun j hj e => by have := (h.b.typ j hj).2.1 e; omega) ?_ (h.pre 8 (by decide) (fun _ j => (upF_ne F1 1 _ _ 7 (by decide) j)) (fun _ => h.k05 (fun j => (upF_ne F1 1 _ _ 0 (by decide) j))) (fun _ => h.k06 (fun j => (upF_ne F1 1 _ _ 0 (by decide) j))) (fun _ => (upF_ne F1 1 _ _ 0 (by decide) 0)) (fun hh => absurd hh (by decide)) (fun hh => absurd hh (by decide)) (fun hh => absurd hh (by decide)) (fun hh => absurd hh (by decide)) (fun hh => absurd hh (by decide)))
  have ea : d.alive 1 = true := by rw [h.b.alive]; rfl
  have hw : ∀ j, j < 1024 → j ≠ 3 → j ≠ 4 + o → d.w 1 j = 0 := fun j h1 h2 h3 => by rw [h.w 1 j (by decide) h1, upF_of _ _ _ _ j h3]; unfold F1; rw [if_neg (by decide), if_pos rfl, if_neg h2]
  have h3 : d.w 1 3 = 513 := by rw [h.w 1 3 (by decide) (by decide), upF_of _ _ _ _ 3 (by omega)]; rfl
  have h4 : d.w 1 (4 + o) = 513 := by rw [h.w 1 (4 + o) (by decide) (by omega), upF_eq]
  have e : d.nmd 1 256 2 = 2 := by
    rw [cnt_step (g := fun n => d.nmd 1 n 2) (nmd_hs d 2) (a := 4 + o) (by omega) (nm_513 h4) (fun j h1 h2 => nm_zero (hw j (by omega) (by omega) (by omega)) 2), cnt_step (g := fun n => d.nmd 1 n 2) (nmd_hs d 2) (a := 3) (by omega) (nm_513 h3) (fun j h1 h2 => nm_zero (hw j (by omega) (by omega) (by omega)) 2), cnt_flat (g := fun n => d.nmd 1 n 2) (nmd_hs d 2) (Nat.zero_le 3) (fun j _ h2 => nm_zero (hw j (by omega) (by omega) (by omega)) 2)]
    rfl
  have e2 : (List.range d.m.ns).all (d.nq 1) = false := by
    rw [List.all_eq_false]
    refine ⟨2, by rw [List.mem_range, h.b.ns]; decide, ?_⟩
    unfold DS.nq
    rw [e, h.b.o, h.b.isOf, h.b.at]; decide
  simp only [ea]
  unfold DS.names
  rw [e2]; simp
theorem sp11 {d : DS} (h : Sv d (upF F1 1 3 0)) : d.fb 1 12 = (8, 1) := by
  refine sp_fb h 3 8 1 (fun k => !(d.alive k) || d.names k) (by decide) (by decide) (by decide) (fun _ => rfl) h.b.t.2.1 (fun j hj e => by have := (h.b.typ j hj).2.1 e; omega) ?_ (h.pre 8 (by decide) (fun _ j => (upF_ne F1 1 _ _ 7 (by decide) j)) (fun _ => h.k05 (fun j => (upF_ne F1 1 _ _ 0 (by decide) j))) (fun _ => h.k06 (fun j => (upF_ne F1 1 _ _ 0 (by decide) j))) (fun _ => (upF_ne F1 1 _ _ 0 (by decide) 0)) (fun hh => absurd hh (by decide)) (fun hh => absurd hh (by decide)) (fun hh => absurd hh (by decide)) (fun hh => absurd hh (by decide)) (fun hh => absurd hh (by decide)))
  have ea : d.alive 1 = true := by rw [h.b.alive]; rfl
  have hw : ∀ j, j < 1024 → d.w 1 j = 0 := fun j h1 => by
    rw [h.w 1 j (by decide) h1]
    by_cases e : j = 3
    · rw [e, upF_eq]
    · rw [upF_of _ _ _ _ j e]; unfold F1; rw [if_neg (by decide), if_pos rfl, if_neg e]
  have e : d.nmd 1 256 2 = 0 := by
    rw [cnt_flat (g := fun n => d.nmd 1 n 2) (nmd_hs d 2) (Nat.zero_le 256) (fun j _ h2 => nm_zero (hw j (by omega)) 2)]
    rfl
  have e2 : (List.range d.m.ns).all (d.nq 1) = false := by
    rw [List.all_eq_false]
    refine ⟨2, by rw [List.mem_range, h.b.ns]; decide, ?_⟩
    unfold DS.nq
    rw [e, h.b.o, h.b.isOf, h.b.at]; decide
  simp only [ea]
  unfold DS.names
  rw [e2]; simp
theorem sp12 {d : DS} (o : Nat) (ho : o < 200) (h : Sv d (upF F1 1 (4 + o) 769)) : d.fb 1 12 = (8, 1) := by
  refine sp_fb h 3 8 1 (fun k => !(d.alive k) || d.names k) (by decide) (by decide) (by decide) (fun _ => rfl) h.b.t.2.1 (fun j hj e => by have := (h.b.typ j hj).2.1 e; omega) ?_ (h.pre 8 (by decide) (fun _ j => (upF_ne F1 1 _ _ 7 (by decide) j)) (fun _ => h.k05 (fun j => (upF_ne F1 1 _ _ 0 (by decide) j))) (fun _ => h.k06 (fun j => (upF_ne F1 1 _ _ 0 (by decide) j))) (fun _ => (upF_ne F1 1 _ _ 0 (by decide) 0)) (fun hh => absurd hh (by decide)) (fun hh => absurd hh (by decide)) (fun hh => absurd hh (by decide)) (fun hh => absurd hh (by decide)) (fun hh => absurd hh (by decide)))
  have ea : d.alive 1 = true := by rw [h.b.alive]; rfl
  have h4 : d.w 1 (4 + o) = 769 := by rw [h.w 1 (4 + o) (by decide) (by omega), upF_eq]
  have e2 : (List.range 256).all (d.nm1 1) = false := by
    rw [List.all_eq_false]
    refine ⟨4 + o, by rw [List.mem_range]; omega, ?_⟩
    unfold DS.nm1
    have : d.isOf (pf 769).toNat 4 0 = false := by
      show d.isOf 3 4 0 = false
      rw [h.b.isOf, h.b.at]; rfl
    rw [h4, h.b.o, this]; decide
  simp only [ea]
  unfold DS.names
  rw [e2]; simp
theorem sp13 {d : DS} (o : Nat) (ho : o < 900) (h : Sv d (upF F1 2 (100 + o) 775)) : d.fb 1 12 = (10, 3) := by
  refine sp_fb h 5 10 3 (fun k => !(d.alive k) || ((((d.mcL d.m.ns).getD k 0 : Nat) : Int) == 1)) (by decide) (by decide) (by decide) (fun _ => rfl) h.b.t.2.2.2.1 (fun j hj e => by rcases (h.b.typ j hj).2.2.2.1 e with e | e <;> omega) ?_ (h.pre 10 (by decide) (fun _ j => (upF_ne F1 2 _ _ 7 (by decide) j)) (fun _ => h.k05 (fun j => (upF_ne F1 2 _ _ 0 (by decide) j))) (fun _ => h.k06 (fun j => (upF_ne F1 2 _ _ 0 (by decide) j))) (fun _ => (upF_ne F1 2 _ _ 0 (by decide) 0)) (fun _ j => (upF_ne F1 2 _ _ 1 (by decide) j)) (fun _ j _ => by by_cases e : j = 100 + o; rw [e, upF_eq]; exact .inr (.inl rfl); rw [upF_of _ _ _ _ j e]; exact F1_2 j) (fun hh => absurd hh (by decide)) (fun hh => absurd hh (by decide)) (fun hh => absurd hh (by decide)))
  have ea : d.alive 3 = true := by rw [h.b.alive]; rfl
  have hm : d.mc1 2 1024 3 = 2 := by
    refine mc_two (a := 5) (b := 100 + o) (by omega) (by omega) ?_ ?_ (fun j hj n1 n2 => ?_)
    · rw [(h.hits (j := 5) (by decide) (by rw [upF_of _ _ _ _ 5 (by omega)]; exact F1_2 5)).1, upF_of _ _ _ _ 5 (by omega)]; rfl
    · rw [(h.hits (j := 100 + o) (by omega) (by rw [upF_eq]; exact .inr (.inl rfl))).1, upF_eq]; rfl
    · rw [(h.hits hj (by rw [upF_of _ _ _ _ j n2]; exact F1_2 j)).1, upF_of _ _ _ _ j n2]; exact decide_eq_false (F1_2o j n1)
  simp only [ea, h.b.mc8 3 (by decide), hm]; decide
theorem sp14 {d : DS} (h : Sv d (upF F1 2 5 0)) : d.fb 1 12 = (10, 3) := by
  refine sp_fb h 5 10 3 (fun k => !(d.alive k) || ((((d.mcL d.m.ns).getD k 0 : Nat) : Int) == 1)) (by decide) (by decide) (by decide) (fun _ => rfl) h.b.t.2.2.2.1 (fun j hj e => by rcases (h.b.typ j hj).2.2.2.1 e with e | e <;> omega) ?_ (h.pre 10 (by decide) (fun _ j => (upF_ne F1 2 _ _ 7 (by decide) j)) (fun _ => h.k05 (fun j => (upF_ne F1 2 _ _ 0 (by decide) j))) (fun _ => h.k06 (fun j => (upF_ne F1 2 _ _ 0 (by decide) j))) (fun _ => (upF_ne F1 2 _ _ 0 (by decide) 0)) (fun _ j => (upF_ne F1 2 _ _ 1 (by decide) j)) (fun _ j _ => by by_cases e : j = 5; rw [e, upF_eq]; exact .inl rfl; rw [upF_of _ _ _ _ j e]; exact F1_2 j) (fun hh => absurd hh (by decide)) (fun hh => absurd hh (by decide)) (fun hh => absurd hh (by decide)))
  have ea : d.alive 3 = true := by rw [h.b.alive]; rfl
  have hm : d.mc1 2 1024 3 = 0 := by
    refine mc_none (fun j hj => ?_)
    by_cases e : j = 5
    · subst e; rw [(h.hits (j := 5) (by decide) (by rw [upF_eq]; exact .inl rfl)).1, upF_eq]; rfl
    · rw [(h.hits hj (by rw [upF_of _ _ _ _ j e]; exact F1_2 j)).1, upF_of _ _ _ _ j e]; exact decide_eq_false (F1_2o j e)
  simp only [ea, h.b.mc8 3 (by decide), hm]; decide
theorem sp15 {d : DS} (o : Nat) (ho : o < 900) (h : Sv d (upF F1 2 (100 + o) 515)) : d.fb 1 12 = (9, 2) := by
  refine sp_fb h 4 9 2 (fun k => !(d.alive k) || d.mays k) (by decide) (by decide) (by decide) (fun _ => rfl) h.b.t.2.2.1 (fun j hj e => by have := (h.b.typ j hj).2.2.1 e; omega) ?_ (h.pre 9 (by decide) (fun _ j => (upF_ne F1 2 _ _ 7 (by decide) j)) (fun _ => h.k05 (fun j => (upF_ne F1 2 _ _ 0 (by decide) j))) (fun _ => h.k06 (fun j => (upF_ne F1 2 _ _ 0 (by decide) j))) (fun _ => (upF_ne F1 2 _ _ 0 (by decide) 0)) (fun _ j => (upF_ne F1 2 _ _ 1 (by decide) j)) (fun hh => absurd hh (by decide)) (fun hh => absurd hh (by decide)) (fun hh => absurd hh (by decide)) (fun hh => absurd hh (by decide)))
  have ea : d.alive 2 = true := by rw [h.b.alive]; rfl
  have h4 : d.w 2 (100 + o) = 515 := by rw [h.w 2 (100 + o) (by decide) (by omega), upF_eq]
  have e2 : d.mays 2 = false := by
    unfold DS.mays
    rw [List.all_eq_false]
    refine ⟨100 + o, by rw [List.mem_range]; omega, ?_⟩
    unfold DS.mp1
    rw [h4, h.b.o]
    have : d.may (ps 515).s (ps 515).p.toNat 0 = false := by
      show d.isOf 2 5 0 = false
      rw [h.b.isOf, h.b.at]; rfl
    rw [this]; decide
  simp only [ea, e2]; rfl
theorem sp16 {d : DS} (o : Nat) (ho : o < 900) (h : Sv d (upF F1 2 (100 + o) 513)) : d.fb 1 12 = (9, 2) := by
  refine sp_fb h 4 9 2 (fun k => !(d.alive k) || d.mays k) (by decide) (by decide) (by decide) (fun _ => rfl) h.b.t.2.2.1 (fun j hj e => by have := (h.b.typ j hj).2.2.1 e; omega) ?_ (h.pre 9 (by decide) (fun _ j => (upF_ne F1 2 _ _ 7 (by decide) j)) (fun _ => h.k05 (fun j => (upF_ne F1 2 _ _ 0 (by decide) j))) (fun _ => h.k06 (fun j => (upF_ne F1 2 _ _ 0 (by decide) j))) (fun _ => (upF_ne F1 2 _ _ 0 (by decide) 0)) (fun _ j => (upF_ne F1 2 _ _ 1 (by decide) j)) (fun hh => absurd hh (by decide)) (fun hh => absurd hh (by decide)) (fun hh => absurd hh (by decide)) (fun hh => absurd hh (by decide)))
  have ea : d.alive 2 = true := by rw [h.b.alive]; rfl
  have h4 : d.w 2 (100 + o) = 513 := by rw [h.w 2 (100 + o) (by decide) (by omega), upF_eq]
  have e2 : d.mays 2 = false := by
    unfold DS.mays
    rw [List.all_eq_false]
    refine ⟨100 + o, by rw [List.mem_range]; omega, ?_⟩
    unfold DS.mp1
    rw [h4, h.b.o]
    have : d.may (ps 513).s (ps 513).p.toNat 0 = false := by
      show (d.m.at false 2).isSome = false
      exact h.b.i2
    rw [this]; decide
  simp only [ea, e2]; rfl
theorem sp17 {d : DS} (o : Nat) (ho : o < 900) (h : Sv d (upF F1 2 (100 + o) 9)) : d.fb 1 12 = (9, 2) := by
  refine sp_fb h 4 9 2 (fun k => !(d.alive k) || d.mays k) (by decide) (by decide) (by decide) (fun _ => rfl) h.b.t.2.2.1 (fun j hj e => by have := (h.b.typ j hj).2.2.1 e; omega) ?_ (h.pre 9 (by decide) (fun _ j => (upF_ne F1 2 _ _ 7 (by decide) j)) (fun _ => h.k05 (fun j => (upF_ne F1 2 _ _ 0 (by decide) j))) (fun _ => h.k06 (fun j => (upF_ne F1 2 _ _ 0 (by decide) j))) (fun _ => (upF_ne F1 2 _ _ 0 (by decide) 0)) (fun _ j => (upF_ne F1 2 _ _ 1 (by decide) j)) (fun hh => absurd hh (by decide)) (fun hh => absurd hh (by decide)) (fun hh => absurd hh (by decide)) (fun hh => absurd hh (by decide)))
  have ea : d.alive 2 = true := by rw [h.b.alive]; rfl
  have h4 : d.w 2 (100 + o) = 9 := by rw [h.w 2 (100 + o) (by decide) (by omega), upF_eq]
  have e2 : d.mays 2 = false := by
    unfold DS.mays
    rw [List.all_eq_false]
    refine ⟨100 + o, by rw [List.mem_range]; omega, ?_⟩
    unfold DS.mp1
    rw [h4, h.b.o]
    have : psE 9 = 90 := by decide
    rw [this]; simp
  simp only [ea, e2]; rfl
theorem sp18 {d : DS} (o : Nat) (ho : o < 900) (h : Sv d (upF F1 2 (100 + o) 1795)) : d.fb 1 12 = (9, 2) := by
  refine sp_fb h 4 9 2 (fun k => !(d.alive k) || d.mays k) (by decide) (by decide) (by decide) (fun _ => rfl) h.b.t.2.2.1 (fun j hj e => by have := (h.b.typ j hj).2.2.1 e; omega) ?_ (h.pre 9 (by decide) (fun _ j => (upF_ne F1 2 _ _ 7 (by decide) j)) (fun _ => h.k05 (fun j => (upF_ne F1 2 _ _ 0 (by decide) j))) (fun _ => h.k06 (fun j => (upF_ne F1 2 _ _ 0 (by decide) j))) (fun _ => (upF_ne F1 2 _ _ 0 (by decide) 0)) (fun _ j => (upF_ne F1 2 _ _ 1 (by decide) j)) (fun hh => absurd hh (by decide)) (fun hh => absurd hh (by decide)) (fun hh => absurd hh (by decide)) (fun hh => absurd hh (by decide)))
  have ea : d.alive 2 = true := by rw [h.b.alive]; rfl
  have h4 : d.w 2 (100 + o) = 1795 := by rw [h.w 2 (100 + o) (by decide) (by omega), upF_eq]
  have e2 : d.mays 2 = false := by
    unfold DS.mays
    rw [List.all_eq_false]
    refine ⟨100 + o, by rw [List.mem_range]; omega, ?_⟩
    unfold DS.mp1
    rw [h4, h.b.o]
    have : d.may (ps 1795).s (ps 1795).p.toNat 0 = false := by
      show d.isOf 7 5 0 = false
      rw [h.b.isOf, h.b.at]; rfl
    rw [this]; decide
  simp only [ea, e2]; rfl
end Go.Proofs.YtildhjiddidghaaGreatDoor
namespace Go.Proofs.YtildhjiddidghaaGreatDoor
open Go.RowKit
set_option maxHeartbeats 4000000
set_option maxRecDepth 100000
theorem fb_zero {d : DS} (hns : d.m.ns = 8) (hp : ∀ i, 1 ≤ i → i < 13 → ∀ q, q < 8 → d.at12 i q = true) : d.fb 1 12 = (0, 0) :=
  fb_none 12 1 (fun i h1 h2 q hq => hp i h1 (by omega) q (by rw [← hns]; exact hq))
theorem final_fb {d : DS} (h : Sv d F1) : d.fb 1 12 = (0, 0) :=
  fb_zero h.b.ns (h.pre 13 (by decide) (fun _ _ => rfl) (fun _ => h.k05 (fun _ => rfl)) (fun _ => h.k06 (fun _ => rfl)) (fun _ => rfl) (fun _ _ => rfl) (fun _ j _ => F1_2 j) (fun _ _ => rfl) (fun _ _ => rfl) (fun _ _ => rfl))
structure S3 (d : DS) : Prop where
  b : Bt d 3
  w1 : d.w 0 1 = 0
  w2 : d.w 0 2 = 0
  z0 : ∀ j, 11 ≤ j → j < 1024 → d.w 0 j = 0
  z5 : ∀ j, 1 ≤ j → j < 1024 → d.w 5 j = 0
  z6 : ∀ j, j < 1024 → d.w 6 j = 0
  z7 : ∀ j, j < 1024 → d.w 7 j = 0
theorem stopped_fb {d : DS} (h : S3 d) : d.fb 1 12 = (0, 0) := by
  have al : ∀ k, d.alive k = false := fun k => by rw [h.b.alive]; rfl
  refine fb_zero h.b.ns (fun i h1 h2 => ?_)
  have hi : i = 1 ∨ i = 2 ∨ i = 3 ∨ i = 4 ∨ i = 5 ∨ i = 6 ∨ i = 7 ∨ i = 8 ∨ i = 9 ∨ i = 10 ∨ i = 11 ∨ i = 12 := by omega
  rcases hi with rfl | rfl | rfl | rfl | rfl | rfl | rfl | rfl | rfl | rfl | rfl | rfl
  · exact h.b.c1
  · exact h.b.c2 h.z7
  · exact h.b.c3
  · exact h.b.c4
  · exact h.b.c5 h.w1 (by rw [h.w2]; decide)
  · refine h.b.c6 ?_
    unfold DS.fits
    rw [h.b.s0, if_neg (by decide), if_neg (by decide), DS.zr_yes (lo := 37) (fun k h1 h2 => h.z0 k (by omega) h2), DS.zr_yes (lo := 11) (hi := 37) (fun k h1 h2 => h.z0 k h1 (by omega))]
    simp
  · refine h.b.c7 ?_
    unfold DS.one1
    rw [h.b.s0, if_pos rfl]
  · exact h.b.c8 (by rw [al]; rfl)
  · exact h.b.c9 (by rw [al]; rfl)
  · exact h.b.c10 (fun e => by rw [al] at e; cases e) (fun e => by rw [al] at e; cases e)
  · exact h.b.c11 (thr_of h.b h.z5)
  · exact h.b.c12 h.z6
def F0 (k j : Nat) : Int := if k = 0 then (if j = 0 then 1 else if 11 ≤ j ∧ j < 37 then (sv 3).getD (j - 11) 0 else 0) else F1 k j
theorem sv3 : H.LoadOk (sv 3) := by unfold H.LoadOk; decide +kernel
theorem init_fb {d : DS} (h : Bt d 1) (hw : Wd d F0) : d.fb 1 12 = (0, 0) := by
  have wF : ∀ k j, k ≠ 0 → k < 8 → j < 1024 → d.w k j = F1 k j := fun k j h0 h1 h2 => by rw [hw k j h1 h2]; unfold F0; rw [if_neg h0]
  refine fb_zero h.ns (fun i h1 h2 => ?_)
  have hi : i = 1 ∨ i = 2 ∨ i = 3 ∨ i = 4 ∨ i = 5 ∨ i = 6 ∨ i = 7 ∨ i = 8 ∨ i = 9 ∨ i = 10 ∨ i = 11 ∨ i = 12 := by omega
  rcases hi with rfl | rfl | rfl | rfl | rfl | rfl | rfl | rfl | rfl | rfl | rfl | rfl
  · exact h.c1
  · exact h.c2 (fun k hk => wF 7 k (by decide) (by decide) hk)
  · exact h.c3
  · exact h.c4
  · exact h.c5 (hw 0 1 (by decide) (by decide)) (by rw [hw 0 2 (by decide) (by decide)]; decide)
  · refine h.c6 ?_
    have e1 : d.wds ((0 : Nat) : Int) 11 26 = sv 3 := by
      unfold DS.wds
      apply List.ext_getElem?
      intro i
      rw [List.getElem?_map]
      by_cases hi : i < 26
      · rw [List.getElem?_range hi, List.getElem?_eq_getElem (by rw [sv_len]; exact hi)]
        have := hw 0 (11 + i) (by decide) (by omega)
        unfold DS.w at this
        simp only [Option.map_some]
        rw [this]
        unfold F0
        rw [if_pos rfl, if_neg (by omega), if_pos ⟨by omega, by omega⟩, Nat.add_sub_cancel_left, List.getD_eq_getElem?_getD, List.getElem?_eq_getElem (by rw [sv_len]; exact hi)]
        rfl
      · rw [List.getElem?_eq_none (by simp; omega), List.getElem?_eq_none (by rw [sv_len]; omega)]
        rfl
    have z : ∀ j, (1 ≤ j ∧ j < 11 ∨ 37 ≤ j) → j < 1024 → d.w 0 j = 0 := fun j h1 h2 => by
      rw [hw 0 j (by decide) h2]; unfold F0; rw [if_pos rfl, if_neg (by omega), if_neg (by omega)]
    unfold DS.fits
    rw [h.s0, if_pos rfl, DS.zr_yes (lo := 37) (fun k h1 h2 => z k (.inr h1) h2)]
    unfold DS.inb
    rw [e1, DS.zr_yes (lo := 3) (fun k h1 h2 => z k (.inl ⟨by omega, h2⟩) (by omega)), decide_eq_true sv3]
    rfl
  · exact h.c7 (h.first (hw 0 0 (by decide) (by decide)))
  · refine h.c8 ?_
    rw [names_of h (wF 1 3 (by decide) (by decide) (by decide)) (fun j hj hn => by rw [wF 1 j (by decide) (by decide) hj]; unfold F1; rw [if_neg (by decide), if_pos rfl, if_neg hn])]
    simp
  · refine h.c9 ?_
    rw [mays_of h (fun j hj => by rw [wF 2 j (by decide) (by decide) hj]; exact F1_2 j)]
    simp
  · have hh : ∀ j, j < 1024 → (d.hit 2 j 3 = decide (F1 2 j = 775)) ∧ (d.hit 2 j 4 = decide (F1 2 j = 1035)) := fun j hj => by
      obtain ⟨a, b, c⟩ := hit3 h j
      rw [wF 2 j (by decide) (by decide) hj] at a b c
      rcases F1_2 j with e | e | e | e
      · obtain ⟨x, y⟩ := c (.inl e); rw [x, y, e]; exact ⟨rfl, rfl⟩
      · obtain ⟨x, y⟩ := a e; rw [x, y, e]; exact ⟨rfl, rfl⟩
      · obtain ⟨x, y⟩ := b e; rw [x, y, e]; exact ⟨rfl, rfl⟩
      · obtain ⟨x, y⟩ := c (.inr e); rw [x, y, e]; exact ⟨rfl, rfl⟩
    refine h.c10 (fun _ => mc_one (a := 5) (by decide) ?_ (fun j hj hn => ?_)) (fun _ => mc_one (a := 6) (by decide) ?_ (fun j hj hn => ?_))
    · rw [(hh 5 (by decide)).1]; rfl
    · rw [(hh j hj).1]; exact decide_eq_false (F1_2o j hn)
    · rw [(hh 6 (by decide)).2]; rfl
    · rw [(hh j hj).2]; exact decide_eq_false (F1_2p j hn)
  · exact h.c11 (thr_of h (fun j h1 h2 => by rw [wF 5 j (by decide) (by decide) h2]; unfold F1; rw [if_neg (by decide), if_neg (by decide), if_neg (by decide), if_pos rfl, if_neg (by omega)]))
  · exact h.c12 (fun k hk => wF 6 k (by decide) (by decide) hk)
end Go.Proofs.YtildhjiddidghaaGreatDoor
