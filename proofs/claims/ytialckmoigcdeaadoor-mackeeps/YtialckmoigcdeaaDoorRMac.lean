/- The document's answer for layer 3: padded, TagBytes, Tag, Same, Extract. -/
import Derived.Test.YtialckmoigcdeaaDoorRB
import Derived.Test.YtialckmoigcdeaaDoorExp
import Derived.Test.YtialckmoigcdeaaDoorRSum
import Derived.Deep.DeepCutAuto
namespace Go.Proofs.YtialckmoigcdeaaDoor
open Go.RowKit

theorem TabR.on {W w : World} (h : TabR W) (h2 : 2 < W.heap.size) (hb : Below W.heap.size W w) : TabR w := h.below hb h2
theorem rsumBytes_sum (W : World) (hT : TabR W) (h2 : 2 < W.heap.size) (ao : Option Addr) (m c : Nat) (bs : List Int) (hx : bs.length = m) (hbs : Bts bs) (hat : At W .u8 ao bs) (hc : m ≤ c) (hm : m ≤ 140737488351232) :
    Calls Tryd.prog 51 #[.slice ao m c] W fun e W' => e = .returned (Ag (sumB bs)) ∧ Below W.heap.size W W' := by
  have := rsumBytes_any W hT h2 ao m c bs hx hbs hat hc hm
  rw [rsumB_eq _ (by omega)] at this
  exact this
attribute [-simp] Tryd.isAgg26 Tryd.sizeOf26 Tryd.zeroValue26
set_option maxRecDepth 20000 in
set_option maxHeartbeats 2000000 in
theorem rpadded_any (W : World) (hT : TabR W) (h2 : 2 < W.heap.size) (ao : Option Addr) (n c : Nat) (ks : List Int) (hx : ks.length = n) (hks : Bts ks) (hat : At W .u8 ao ks) (hc : n ≤ c) (hn : n ≤ 140737488351232) (p : Nat) :
    Calls Tryd.prog 50 #[.slice ao n c, .int .u8 (p : Int)] W fun e W' => ∃ vo vc, e = .returned (.slice vo 64 vc) ∧ Holds W W' .u8 5 (.slice vo 64 vc) (xorB (p : Int) (key64 ks)) := by
  obtain ⟨V, hV⟩ : ∃ V : List Int, V = List.replicate 8 0 := ⟨_, rfl⟩
  have hVl : V.length = 8 := by rw [hV]; simp
  have hv : ∀ w, (zeroValue 26).run Tryd.prog w = .ok (.agg (V.map (Value.int .u32)).toArray) w := fun w => by rw [Tryd.zeroValue26, hV]; rfl
  clear hV
  obtain ⟨i0, hi, hz0, hz1, hz2⟩ := info_parts Tryd.info5
  have i1 : (n : Int) ≤ 140737488351232 := by omega
  go_enter Tryd.func50, Tryd.ntmps50
  go_upto_if 13 with fail
  go_cut [5] (fun v w => (∃ ao' c', v = .slice ao' (keyB ks).length c' ∧ At w .u8 ao' (keyB ks)) ∧ Below W.heap.size W w)
  case first =>
    by_cases hbig : 64 < n
    · have i2 : (64 : Int) < (n : Int) := by omega
      have hkb : keyB ks = bytesD (sumB ks) := by unfold keyB; rw [if_pos (by omega)]
      have SB : Hid (Calls Tryd.prog 51 #[.slice ao n c] W fun e W' => e = .returned (Ag (sumB ks)) ∧ Below W.heap.size W W') := rsumBytes_sum W hT h2 ao n c ks hx hks hat hc hn
      have hsl : (sumB ks).length = 8 := sumB_length _
      have hs : (Tryd.prog.info? 26).map (·.size) = some (sumB ks).length := by rw [hsl]; exact size26
      have HW : Wds (sumB ks) := sumB_wds ks
      obtain ⟨M, hM⟩ : ∃ M, sumB ks = M := ⟨_, rfl⟩
      rw [hM] at SB hsl hs hkb HW
      clear hM hat hks hx hc hn hbig hT hi hz0 hz1 hz2
      go_wp2_with (first | (go_at_call 51; refine SB.out.mono ?_; rintro e w1 ⟨rfl, hb1⟩) | (refine wpList_store_but rfl 26 _ _ rfl w1.heap.size M rfl rfl (Blk.new w1 .u32 26 V) hs (hVl.trans hsl.symm) ?_; intro w2 b2 hw2 hs2))
      have hs1 := hb1.size
      have HB2 : Hid (Below W.heap.size W w2) := (hb1.alloc hs1 _).trans (hw2.below hs1 (by simp; omega))
      have B2 : Hid (Blk w2 w1.heap.size .u32 26 M) := b2
      clear hb1 hw2 hs2 b2
      refine (rbytes_at w2 _ 8 8 M hsl HW B2.out.at (by decide)).mono ?_
      rintro e w3 ⟨vo, vc, rfl, _, a3, _, hb3⟩
      have HB3 : Hid (Below W.heap.size W w3) := HB2.out.trans (hb3.mono HB2.out.size)
      have A3 : Hid (At w3 .u8 vo (keyB ks)) := by rw [hkb]; exact a3
      have hkl : (keyB ks).length = 32 := by rw [hkb, bytesD_length, hsl]
      clear a3 hb3 hkb
      go_wp2_with fail
      go_meet
      rw [hkl]
      exact ⟨⟨_, _, rfl, A3.out⟩, HB3.out⟩
    · have i2 : (n : Int) ≤ 64 := by omega
      have hkb : keyB ks = ks := by unfold keyB; rw [if_neg (by omega)]
      have A3 : Hid (At W .u8 ao ks) := hat
      have hxx : Hid (ks.length = n) := hx
      clear hat hks hx hc hn hbig hT hi hz0 hz1 hz2
      go_wp2_with fail
      go_meet
      rw [hkb, hxx.out]
      exact ⟨⟨_, _, rfl, A3.out⟩, Below.refl _ _⟩
  case rest =>
    clear hat i1 hn hc hx
    obtain ⟨⟨ao', c', rfl, hk⟩, hb⟩ := hcut
    have hkl := keyB_length ks
    have HG := key64_getD ks
    have KL : (key64 ks).length = 64 := key64_length ks
    have HBC : Hid (Below W.heap.size W wc) := hb
    clear hks hT hb
    obtain ⟨KK, hKK⟩ : ∃ KK, key64 ks = KK := ⟨_, rfl⟩
    have HKK : Hid (key64 ks = KK) := hKK
    rw [hKK] at HG KL
    clear hKK
    generalize keyB ks = k at *
    obtain ⟨l, hl⟩ : ∃ l, k.length = l := ⟨_, rfl⟩
    have HL : Hid (k.length = l) := hl
    rw [hl] at hkl HG ⊢
    clear hl
    have l64 : (l : Int) ≤ 64 := by omega
    have SH : Hid (Holds wc wc .u8 5 (.slice none 0 0) (xorB (p : Int) (KK.take 0))) := Holds.start _ _ _
    go_wp2_with fail
    go_loopw [7, 8] (fun v i wr => ∃ t : Nat, t ≤ 64 ∧ i = .int .i64 t ∧ Holds wc wr .u8 5 v (xorB (p : Int) (KK.take t))) (fun _ i _ => 64 - (intOf i).toNat)
    case atStart => exact ⟨0, Nat.zero_le _, rfl, SH.out⟩
    case round =>
      clear SH
      obtain ⟨t, ht, rfl, F6⟩ := hrel
      by_cases hlt : t < 64
      · have i2 : (t : Int) < 64 := by omega
        have e6 := xorB_take (p : Int) KK t (by omega)
        have l6 : (xorB (p : Int) (KK.take t)).length = t := by rw [xorB_length, List.length_take]; omega
        have F6' : Hid (Holds wc wr .u8 5 u7 (xorB (p : Int) (KK.take t))) := F6
        have hg := HG t
        have N6 : Hid (∀ w v, Holds wc w .u8 5 v (xorB (p : Int) (KK.take t) ++ [bits .xor .u8 (KK.getD t 0) (p : Int)]) → Holds wc w .u8 5 v (xorB (p : Int) (KK.take (t + 1)))) := fun w v h => by rw [← e6]; exact h
        have h636 : (xorB (p : Int) (KK.take t)).length + 1 ≤ maxLen := by rw [l6]; unfold maxLen; omega
        have hb6 : ((xorB (p : Int) (KK.take t)).length + 1) * 1 ≤ 140737488355328 := by rw [l6]; omega
        clear e6 l6 F6 HG
        generalize KK.getD t 0 = x at *
        generalize xorB (p : Int) (KK.take t) = L6 at *
        by_cases hin : t < l
        · rw [if_pos hin] at hg
          have i3 : (t : Int) < (l : Int) := by omega
          obtain ⟨b, off, rfl, hbl, hrow⟩ : ∃ b off, ao' = some ⟨b, off, none⟩ ∧ b < wc.heap.size ∧ Row wc .u8 b off k := by
            rcases hk with h0 | h1
            · have := HL.out; rw [h0] at this; simp at this; omega
            · exact h1
          have hcell := hrow.below F6'.out.below hbl t (by rw [HL.out]; exact hin)
          rw [← hg] at hcell
          clear hg hin hrow
          go_wp2_with (first | (at_builtin; refine wpList_append_at (W := wc) rfl _ _ 22 rfl .u8 5 i0 (.int .u8 0) 1 Tryd.underlying22 hi hz0 hz1 hz2 rfl u7 L6 rfl (F6'.out.alloc _) (some ⟨wr.heap.size, 0, none⟩) 1 1 [bits .xor .u8 x (p : Int)] rfl rfl (Blk.new wr .u8 5 [bits .xor .u8 x (p : Int)]).at (fun h => by cases h) h636 hb6 ?_; intro v6 w2 G6; have G6' : Hid _ := N6.out _ _ G6; clear G6))
          go_roundw
          case rel => exact ⟨t + 1, by omega, by go_num, G6'.out⟩
          case measure => simp [intOf]; omega
        · rw [if_neg hin] at hg
          subst hg
          have i3 : (l : Int) ≤ (t : Int) := by omega
          clear hin
          go_wp2_with (first | (at_builtin; refine wpList_append_at (W := wc) rfl _ _ 22 rfl .u8 5 i0 (.int .u8 0) 1 Tryd.underlying22 hi hz0 hz1 hz2 rfl u7 L6 rfl (F6'.out.alloc _) (some ⟨wr.heap.size, 0, none⟩) 1 1 [bits .xor .u8 0 (p : Int)] rfl rfl (Blk.new wr .u8 5 [bits .xor .u8 0 (p : Int)]).at (fun h => by cases h) h636 hb6 ?_; intro v6 w2 G6; have G6' : Hid _ := N6.out _ _ G6; clear G6))
          go_roundw
          case rel => exact ⟨t + 1, by omega, by go_num, G6'.out⟩
          case measure => simp [intOf]; omega
      · obtain rfl : t = 64 := by omega
        rw [List.take_of_length_le (by omega)] at F6
        obtain ⟨vo, vc, hv6, hvc, hva, hvn⟩ := F6.at'
        subst hv6
        have q6 : (xorB (p : Int) KK).length = 64 := by rw [xorB_length, KL]
        rw [q6] at F6 ⊢
        have FF : Hid (Holds W wr .u8 5 (.slice vo 64 vc) (xorB (p : Int) (key64 ks))) := by rw [HKK.out]; exact F6.base HBC.out
        clear F6 hva hvn hvc
        go_wp2_with fail
        go_ret
        exact ⟨vo, vc, rfl, FF.out⟩
set_option maxRecDepth 20000 in
set_option maxHeartbeats 2000000 in
theorem rtagBytes_any (W : World) (hT : TabR W) (h2 : 2 < W.heap.size) (ao : Option Addr) (n c : Nat) (ks : List Int) (hx : ks.length = n) (hks : Bts ks) (hat : At W .u8 ao ks) (hc : n ≤ c) (hn : n ≤ 140737488351232)
    (bo : Option Addr) (m d : Nat) (bs : List Int) (hy : bs.length = m) (hbs : Bts bs) (hbt : At W .u8 bo bs) (hd : Sl bo d) (hm : m ≤ 140737488350000) :
    Calls Tryd.prog 38 #[.slice ao n c, .slice bo m d] W fun e W' => e = .returned (Ag (hmac ks bs)) ∧ Below W.heap.size W W' := by
  obtain ⟨V, hV⟩ : ∃ V : List Int, V = List.replicate 8 0 := ⟨_, rfl⟩
  have hVl : V.length = 8 := by rw [hV]; simp
  have hv : ∀ w, (zeroValue 26).run Tryd.prog w = .ok (.agg (V.map (Value.int .u32)).toArray) w := fun w => by rw [Tryd.zeroValue26, hV]; rfl
  clear hV
  obtain ⟨i0, hi, hz0, hz1, hz2⟩ := info_parts Tryd.info5
  obtain ⟨X, hX⟩ : ∃ X, X = W.alloc (Obj.cells (List.map (Value.int IntKind.u32) V).toArray 26) := ⟨_, rfl⟩
  have BV : Hid (Blk X W.heap.size .u32 26 V) := by rw [hX]; exact Blk.new W .u32 26 V
  have HB : Hid (Below W.heap.size W X) := by rw [hX]; exact below_one W _
  have zX := BV.out.lt
  have TX : Hid (TabR X) := hT.on h2 HB.out
  have x2 : 2 < X.heap.size := by omega
  have AX : Hid (At X .u8 ao ks) := hat.below HB.out
  have AXX : Hid (At X .u8 ao ks) := hat.below HB.out
  have AM : Hid (At X .u8 bo bs) := hbt.below HB.out
  have HF : Hid (hmac ks bs = sumB (xorB 92 (key64 ks) ++ bytesD (sumB (xorB 54 (key64 ks) ++ bs)))) := rfl
  have KB : Bts (key64 ks) := key64_bts hks
  have p6 : Bts (xorB 54 (key64 ks)) := xorB_bts 54 (by decide) KB
  have p7 : Bts (xorB 92 (key64 ks)) := xorB_bts 92 (by decide) KB
  have q6 : (xorB 54 (key64 ks)).length = 64 := by rw [xorB_length, key64_length]
  have q7 : (xorB 92 (key64 ks)).length = 64 := by rw [xorB_length, key64_length]
  clear hat hbt hT KB
  go_enter Tryd.func38, Tryd.ntmps38
  go_wp2_with fail
  rw [← hX]
  clear hX
  refine (rpadded_any X TX.out x2 ao n c ks hx hks AX.out hc hn 54).mono ?_
  rintro e w1 ⟨v1, c1, rfl, H1⟩
  have hb1 := H1.below
  have TX1 : Hid (TabR w1) := TX.out.on x2 hb1
  have AX1 : Hid (At w1 .u8 ao ks) := AX.out.below hb1
  have AM1 : Hid (At w1 .u8 bo bs) := AM.out.below hb1
  have h636 : (xorB 54 (key64 ks)).length + m ≤ maxLen := by rw [q6]; unfold maxLen; omega
  have hb6 : ((xorB 54 (key64 ks)).length + m) * 1 ≤ 140737488355328 := by rw [q6]; omega
  have pJ : Bts (xorB 54 (key64 ks) ++ bs) := bts_append p6 hbs
  have qJ : (xorB 54 (key64 ks) ++ bs).length ≤ 140737488351232 := by rw [List.length_append, q6]; omega
  obtain ⟨J, hJ⟩ : ∃ J, xorB 54 (key64 ks) ++ bs = J := ⟨_, rfl⟩
  have NJ : Hid (∀ w v, Holds X w .u8 5 v (xorB 54 (key64 ks) ++ bs) → Holds X w .u8 5 v J) := fun w v h => by rw [← hJ]; exact h
  rw [hJ] at pJ qJ HF
  have H1' : Hid (Holds X w1 .u8 5 (.slice v1 64 c1) (xorB 54 (key64 ks))) := H1
  have HD : Hid (Sl bo d) := hd
  have HY : Hid (bs.length = m) := hy
  clear H1 hb1 hJ hd hy hbs p6 q6 AX AM
  generalize xorB 54 (key64 ks) = L6 at *
  go_wp2_with (first | (at_builtin; refine wpList_append_at (W := X) rfl _ _ 22 rfl .u8 5 i0 (.int .u8 0) 1 Tryd.underlying22 hi hz0 hz1 hz2 rfl (.slice v1 64 c1) L6 rfl H1'.out bo m d bs rfl HY.out AM1.out HD.out h636 hb6 ?_; intro v6 w2 G6; have G6' : Hid _ := NJ.out _ _ G6; clear G6))
  clear NJ H1' AM1 h636 hb6 HD HY TX1 AX1
  obtain ⟨vo, vc, hv6, hvc, hva, _⟩ := G6'.out.at'
  subst hv6
  obtain ⟨j, hj⟩ : ∃ j, J.length = j := ⟨_, rfl⟩
  have HJ : Hid (J.length = j) := hj
  rw [hj] at hvc qJ ⊢
  have b2 := G6'.out.below
  clear hj G6'
  have x22 : 2 < w2.heap.size := by have := b2.size; omega
  have T2 : Hid (TabR w2) := TX.out.on x2 b2
  have B2 : Hid (Blk w2 W.heap.size .u32 26 V) := BV.out.on b2
  have H2 : Hid (Below W.heap.size W w2) := HB.out.trans (b2.mono (by omega))
  refine (rsumBytes_sum w2 T2.out x22 vo j vc J HJ.out pJ hva hvc qJ).mono ?_
  rintro e w3 ⟨rfl, hb3⟩
  obtain ⟨I, hI⟩ : ∃ I, sumB J = I := ⟨_, rfl⟩
  have hIl : I.length = 8 := by rw [← hI]; exact sumB_length _
  have hIw : Wds I := by rw [← hI]; exact sumB_wds _
  rw [hI] at HF ⊢
  have hsI : (Tryd.prog.info? 26).map (·.size) = some I.length := by rw [hIl]; exact size26
  have B3 : Hid (Below X.heap.size X w3) := b2.trans (hb3.mono b2.size)
  clear hb3 hva hvc hI pJ qJ HJ b2 T2 B2 H2
  go_wp2_with (first | (refine wpList_store_but rfl 26 _ _ rfl w3.heap.size I rfl rfl (Blk.new w3 .u32 26 V) hsI (hVl.trans hIl.symm) ?_; intro w4 b4 hw4 hs4))
  have hb34 : Below w3.heap.size w3 w4 := (below_one w3 _).trans (hw4.below (Nat.le_refl _) (by simp))
  have B4 : Hid (Below X.heap.size X w4) := B3.out.trans (hb34.mono B3.out.size)
  have BI : Hid (Blk w4 w3.heap.size .u32 26 I) := b4
  have x4 : 2 < w4.heap.size := by have := B4.out.size; omega
  have AX4 : Hid (At w4 .u8 ao ks) := AXX.out.below B4.out
  clear hb34 hw4 hs4 b4 B3
  generalize w3.heap.size = gI at *
  refine (rpadded_any w4 (TX.out.on x2 B4.out) x4 ao n c ks hx hks AX4.out hc hn 92).mono ?_
  rintro e w5 ⟨v5, c5, rfl, H5⟩
  have b5 := H5.below
  have B5 : Hid (Below X.heap.size X w5) := B4.out.trans (b5.mono B4.out.size)
  have BI5 : Hid (Blk w5 gI .u32 26 I) := BI.out.on b5
  have H5' : Hid (Holds X w5 .u8 5 (.slice v5 64 c5) (xorB 92 (key64 ks))) := H5.base B4.out
  clear H5 b5 BI B4
  go_wp2_with fail
  refine (rbytes_at w5 _ 8 8 I hIl hIw BI5.out.at (by decide)).mono ?_
  rintro e w6 ⟨v8, c8, rfl, _, a8, s8, hb6'⟩
  have hQl : (bytesD I).length = 32 := by rw [bytesD_length, hIl]
  have pQ : Bts (xorB 92 (key64 ks) ++ bytesD I) := bts_append p7 (bytesD_bts I)
  have qQ : (xorB 92 (key64 ks) ++ bytesD I).length = 96 := by rw [List.length_append, q7, hQl]
  have h637 : (xorB 92 (key64 ks)).length + 32 ≤ maxLen := by rw [q7]; unfold maxLen; omega
  have hb7 : ((xorB 92 (key64 ks)).length + 32) * 1 ≤ 140737488355328 := by rw [q7]; omega
  have H6 : Hid (Holds X w6 .u8 5 (.slice v5 64 c5) (xorB 92 (key64 ks))) := H5'.out.on hb6'
  obtain ⟨O, hO⟩ : ∃ O, xorB 92 (key64 ks) = O := ⟨_, rfl⟩
  rw [hO] at pQ qQ h637 hb7 H6 HF
  obtain ⟨Q, hQ⟩ : ∃ Q, bytesD I = Q := ⟨_, rfl⟩
  rw [hQ] at pQ qQ hQl a8 HF
  obtain ⟨P, hP⟩ : ∃ P, O ++ Q = P := ⟨_, rfl⟩
  have NP : Hid (∀ w v, Holds X w .u8 5 v (O ++ Q) → Holds X w .u8 5 v P) := fun w v h => by rw [← hP]; exact h
  rw [hP] at pQ qQ HF
  have A8 : Hid (At w6 .u8 v8 Q) := a8
  have S8 : Hid (Sl v8 c8) := s8
  have HQl : Hid (Q.length = 32) := hQl
  have HPl : Hid (P.length = 96) := qQ
  clear hP hQ hO a8 s8 hQl qQ hb6' H5' BI5 B5 q7 p7
  go_wp2_with (first | (at_builtin; refine wpList_append_at (W := X) rfl _ _ 22 rfl .u8 5 i0 (.int .u8 0) 1 Tryd.underlying22 hi hz0 hz1 hz2 rfl (.slice v5 64 c5) O rfl H6.out v8 32 c8 Q rfl HQl.out A8.out S8.out h637 hb7 ?_; intro v9 w7 G9; have G9' : Hid _ := NP.out _ _ G9; clear G9))
  obtain ⟨vp, cp, hv9, hvc, hva, _⟩ := G9'.out.at'
  subst hv9
  rw [HPl.out] at hvc ⊢
  have b7 := G9'.out.below
  have x7 : 2 < w7.heap.size := by have := b7.size; omega
  have B7 : Hid (Blk w7 W.heap.size .u32 26 V) := BV.out.on b7
  have H7 : Hid (Below W.heap.size W w7) := HB.out.trans (b7.mono (by omega))
  have T7 : Hid (TabR w7) := TX.out.on x2 b7
  clear b7 G9' H6
  refine (rsumBytes_sum w7 T7.out x7 vp 96 cp P HPl.out pQ hva hvc (by decide)).mono ?_
  rintro e w8 ⟨rfl, hb8⟩
  have hRl : (sumB P).length = 8 := sumB_length _
  obtain ⟨R, hR⟩ : ∃ R, sumB P = R := ⟨_, rfl⟩
  rw [hR] at hRl HF ⊢
  have hs : (Tryd.prog.info? 26).map (·.size) = some R.length := by rw [hRl]; exact size26
  replace B7 : Hid (Blk w8 W.heap.size .u32 26 V) := B7.out.on hb8
  replace H7 : Hid (Below W.heap.size W w8) := H7.out.trans (hb8.mono H7.out.size)
  clear hb8 hva hvc hR
  go_wp2_with (first | (refine wpList_store_blk rfl 26 _ _ rfl W.heap.size R rfl rfl B7.out hs (hVl.trans hRl.symm) ?_))
  refine ret_cell rfl rfl W.heap.size R rfl (B7.out.setRow _) Tryd.underlying26 hs ?_
  rw [HF.out]
  exact ⟨rfl, below_setRow H7.out (Nat.le_refl _) _⟩
end Go.Proofs.YtialckmoigcdeaaDoor
