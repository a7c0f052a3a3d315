/- The law's own tag: HMAC by its definition. -/
import Derived.Test.YtialckmoigcdeaaDoorLawA
import Derived.Deep.DeepCutAuto
namespace Go.Proofs.YtialckmoigcdeaaDoor
open Go.RowKit

theorem key64_getD (ks : List Int) (t : Nat) : (key64 ks).getD t 0 = if t < (keyB ks).length then (keyB ks).getD t 0 else 0 := by
  unfold key64
  split
  · next h => simp [List.getD_eq_getElem?_getD, List.getElem?_append_left h]
  · next h =>
    rw [List.getD_eq_getElem?_getD, List.getElem?_append_right (by omega), List.getElem?_replicate]
    split <;> rfl
theorem xorB_take (p : Int) (K : List Int) (t : Nat) (h : t < K.length) : xorB p (K.take t) ++ [bits .xor .u8 (K.getD t 0) p] = xorB p (K.take (t + 1)) := by
  have e : K.getD t 0 = K[t] := by simp [List.getD_eq_getElem?_getD, h]
  rw [List.take_succ_eq_append_getElem h, e]
  unfold xorB
  rw [List.map_append]
  rfl
theorem xorB_bts {bs : List Int} (p : Nat) (hp : p < 256) (h : Bts bs) : Bts (xorB (p : Int) bs) := fun i => by
  by_cases hi : i < bs.length
  · have e : (xorB (p : Int) bs).getD i 0 = bits .xor .u8 (bs.getD i 0) p := by simp [xorB, List.getD_eq_getElem?_getD, hi]
    rw [e]
    have := xor_u8 (bs.getD i 0) p (h i).1 (h i).2 (by omega) (by omega)
    rw [this.1]
    omega
  · simp [xorB, List.getD_eq_getElem?_getD, List.getElem?_eq_none (show bs.length ≤ i by omega)]

attribute [-simp] Tryd.isAgg26 Tryd.sizeOf26 Tryd.zeroValue26
set_option maxRecDepth 20000 in
set_option maxHeartbeats 2000000 in
theorem tag_law (W : World) (hT : Tabs W) (ao : Option Addr) (n c : Nat) (ks : List Int) (hx : ks.length = n) (hks : Bts ks) (hat : At W .u8 ao ks) (hc : n ≤ c) (hn : n ≤ 140737488355200)
    (bo : Option Addr) (m d : Nat) (bs : List Int) (hy : bs.length = m) (hbs : Bts bs) (hbt : At W .u8 bo bs) (hd : Sl bo d) (hm : m ≤ 140737488355072) :
    Calls Tryd.prog 10 #[.slice ao n c, .slice bo m d] W fun e W' => e = .returned (Ag (hmac ks bs)) ∧ Below W.heap.size W W' := by
  obtain ⟨V, hV⟩ : ∃ V : List Int, V = List.replicate 8 0 := ⟨_, rfl⟩
  have hVl : V.length = 8 := by rw [hV]; simp
  have hv : ∀ w, (zeroValue 26).run Tryd.prog w = .ok (.agg (V.map (Value.int .u32)).toArray) w := fun w => by rw [Tryd.zeroValue26, hV]; rfl
  clear hV
  obtain ⟨i0, hi, hz0, hz1, hz2⟩ := info_parts Tryd.info5
  have B0 : Hid (Blk (W.alloc (Obj.cells (List.map (Value.int IntKind.u32) V).toArray 26)) W.heap.size .u32 26 V) := Blk.new W .u32 26 V
  have H0 : Hid (Below W.heap.size W (W.alloc (Obj.cells (List.map (Value.int IntKind.u32) V).toArray 26))) := below_one W _
  have i1 : (n : Int) ≤ 140737488355200 := by omega
  go_enter Tryd.func10, Tryd.ntmps10
  go_upto_if 13 with fail
  go_cut [0] (fun v w => (∃ ao' c', v = .slice ao' (keyB ks).length c' ∧ At w .u8 ao' (keyB ks)) ∧ Below W.heap.size W w ∧ Blk w W.heap.size .u32 26 V)
  case first =>
    generalize (W.alloc (Obj.cells (List.map (Value.int IntKind.u32) V).toArray 26)) = X at *
    have hzX := B0.out.lt
    by_cases hbig : 64 < n
    · have i2 : (64 : Int) < (n : Int) := by omega
      have hkb : keyB ks = bytesD (sumB ks) := by unfold keyB; rw [if_pos (by omega)]
      have SB : Hid (Calls Tryd.prog 26 #[.slice ao n c] X fun e W' => e = .returned (Ag (sumB ks)) ∧ Below X.heap.size X W') := by
        have hat' : At X .u8 ao ks := hat.below H0.out
        exact sumBytes_sum X (hT.on H0.out) ao n c ks hx hks hat' hc hn
      have hsl : (sumB ks).length = 8 := sumB_length _
      have hs : (Tryd.prog.info? 26).map (·.size) = some (sumB ks).length := by rw [hsl]; exact size26
      have HW : Wds (sumB ks) := sumB_wds ks
      obtain ⟨M, hM⟩ : ∃ M, sumB ks = M := ⟨_, rfl⟩
      rw [hM] at SB hsl hs hkb HW
      have HT : Hid (Tabs X) := hT.on H0.out
      clear hM hat hks hx hc hn hbig hT hbt hbs hd hm hy hi hz0 hz1 hz2
      go_wp2_with (first | (go_at_call 26; refine SB.out.mono ?_; rintro e w1 ⟨rfl, hb1⟩) | (refine wpList_store_but rfl 26 _ _ rfl w1.heap.size M rfl rfl (Blk.new w1 .u32 26 V) hs (hVl.trans hsl.symm) ?_; intro w2 b2 hw2 hs2))
      have hs1 := hb1.size
      have HB2 : Hid (Below X.heap.size X w2) := (hb1.alloc hs1 _).trans (hw2.below hs1 (by simp; omega))
      have B2 : Hid (Blk w2 w1.heap.size .u32 26 M) := b2
      clear hb1 hw2 hs2 b2
      have T2 : Hid (Tabs w2) := HT.out.on HB2.out
      refine (bytes_at w2 T2.out.lows _ 8 8 M hsl HW B2.out.at (by decide) (by have := T2.out.sz; omega)).mono ?_
      rintro e w3 ⟨rfl, O3⟩
      have HB3 : Hid (Below X.heap.size X w3) := HB2.out.trans (O3.below.mono HB2.out.size)
      have A3 : Hid (At w3 .u8 (some ⟨w2.heap.size, 0, none⟩) (keyB ks)) := by rw [hkb]; exact O3.at
      have hkl : (keyB ks).length = 32 := by rw [hkb, bytesD_length, hsl]
      clear O3 hkb
      go_wp2_with fail
      go_meet
      rw [hkl]
      exact ⟨⟨_, _, rfl, A3.out⟩, H0.out.trans (HB3.out.mono (Nat.le_of_lt hzX)), B0.out.below HB3.out hzX⟩
    · have i2 : (n : Int) ≤ 64 := by omega
      have hkb : keyB ks = ks := by unfold keyB; rw [if_neg (by omega)]
      have A3 : Hid (At X .u8 ao ks) := hat.below H0.out
      have hxx : Hid (ks.length = n) := hx
      clear hat hks hx hc hn hbig hT hbt hbs hd hm hy hi hz0 hz1 hz2
      go_wp2_with fail
      go_meet
      rw [hkb, hxx.out]
      exact ⟨⟨_, _, rfl, A3.out⟩, H0.out, B0.out⟩
  case rest =>
    clear B0 H0 hat i1 hn hc hx
    obtain ⟨⟨ao', c', rfl, hk⟩, hb, bz⟩ := hcut
    have hkl := keyB_length ks
    have HG := key64_getD ks
    have KB : Bts (key64 ks) := key64_bts hks
    have KL : (key64 ks).length = 64 := key64_length ks
    have hT' : Tabs wc := hT.on hb
    have TWC : Hid (Tabs wc) := hT'
    have BZC : Hid (Blk wc W.heap.size .u32 26 V) := bz
    have HBC : Hid (Below W.heap.size W wc) := hb
    have BWC : Hid (W.heap.size < wc.heap.size) := bz.lt
    have hbt' : At wc .u8 bo bs := hbt.below hb
    have HF : Hid (hmac ks bs = sumB (xorB 92 (key64 ks) ++ bytesD (sumB (xorB 54 (key64 ks) ++ bs)))) := rfl
    clear hks hbt hT
    generalize key64 ks = KK at *
    generalize keyB ks = k at *
    obtain ⟨l, hl⟩ : ∃ l, k.length = l := ⟨_, rfl⟩
    have HL : Hid (k.length = l) := hl
    rw [hl] at hkl HG ⊢
    clear hl
    have l64 : (l : Int) ≤ 64 := by omega
    have SH : Hid (Holds wc wc .u8 5 (.slice none 0 0) (xorB 54 (KK.take 0)) ∧ Holds wc wc .u8 5 (.slice none 0 0) (xorB 92 (KK.take 0)) ∧ Apart (.slice none 0 0) (.slice none 0 0)) := ⟨Holds.start _ _ _, Holds.start _ _ _, Apart.nil _⟩
    go_wp2_with fail
    go_loopw [6, 7, 8] (fun v u i wr => ∃ t : Nat, t ≤ 64 ∧ i = .int .i64 t ∧ Holds wc wr .u8 5 v (xorB 54 (KK.take t)) ∧ Holds wc wr .u8 5 u (xorB 92 (KK.take t)) ∧ Apart v u) (fun _ _ i _ => 64 - (intOf i).toNat)
    case atStart => exact ⟨0, Nat.zero_le _, rfl, SH.out⟩
    case round =>
      clear SH
      obtain ⟨t, ht, rfl, F6, F7, FA⟩ := hrel
      by_cases hlt : t < 64
      · have i2 : (t : Int) < 64 := by omega
        have e6 := xorB_take 54 KK t (by omega)
        have e7 := xorB_take 92 KK t (by omega)
        have l6 : (xorB 54 (KK.take t)).length = t := by rw [xorB_length, List.length_take]; omega
        have l7 : (xorB 92 (KK.take t)).length = t := by rw [xorB_length, List.length_take]; omega
        have F6' : Hid (Holds wc wr .u8 5 u6 (xorB 54 (KK.take t))) := F6
        have F7' : Hid (Holds wc wr .u8 5 u7 (xorB 92 (KK.take t))) := F7
        have FA' : Hid (Apart u6 u7) := FA
        have hg := HG t
        have N6 : Hid (∀ w v, Holds wc w .u8 5 v (xorB 54 (KK.take t) ++ [bits .xor .u8 (KK.getD t 0) 54]) → Holds wc w .u8 5 v (xorB 54 (KK.take (t + 1)))) := fun w v h => by rw [← e6]; exact h
        have N7 : Hid (∀ w v, Holds wc w .u8 5 v (xorB 92 (KK.take t) ++ [bits .xor .u8 (KK.getD t 0) 92]) → Holds wc w .u8 5 v (xorB 92 (KK.take (t + 1)))) := fun w v h => by rw [← e7]; exact h
        have h636 : (xorB 54 (KK.take t)).length + 1 ≤ maxLen := by rw [l6]; unfold maxLen; omega
        have h637 : (xorB 92 (KK.take t)).length + 1 ≤ maxLen := by rw [l7]; unfold maxLen; omega
        have hb6 : ((xorB 54 (KK.take t)).length + 1) * 1 ≤ 140737488355328 := by rw [l6]; omega
        have hb7 : ((xorB 92 (KK.take t)).length + 1) * 1 ≤ 140737488355328 := by rw [l7]; omega
        clear e6 e7 l6 l7 F6 F7 FA HG
        generalize KK.getD t 0 = x at *
        generalize xorB 54 (KK.take t) = L6 at *
        generalize xorB 92 (KK.take t) = L7 at *
        by_cases hin : t < l
        · rw [if_pos hin] at hg
          have i3 : (t : Int) < (l : Int) := by omega
          obtain ⟨b, off, rfl, hbl, hrow⟩ : ∃ b off, ao' = some ⟨b, off, none⟩ ∧ b < wc.heap.size ∧ Row wc .u8 b off k := by
            rcases hk with h0 | h1
            · have := HL.out; rw [h0] at this; simp at this; omega
            · exact h1
          have hcell := hrow.below F6'.out.below hbl t (by rw [HL.out]; exact hin)
          rw [← hg] at hcell
          clear hg hin hrow
          go_wp2_with (first | (at_builtin; refine wpList_append_apart (W := wc) rfl _ _ 22 rfl .u8 5 i0 (.int .u8 0) 1 Tryd.underlying22 hi hz0 hz1 hz2 rfl u6 L6 rfl (F6'.out.alloc _) ⟨wr.heap.size, 0, none⟩ 1 1 [bits .xor .u8 x 54] rfl rfl (Blk.new wr .u8 5 [bits .xor .u8 x 54]).at h636 hb6 ?_; intro v6 w2 G6 keep; have G6' : Hid _ := N6.out _ _ G6; have G7' : Hid _ := keep _ _ _ _ (F7'.out.alloc _) FA'.out; clear G6 keep N6) | (at_builtin; refine wpList_append_apart (W := wc) rfl _ _ 22 rfl .u8 5 i0 (.int .u8 0) 1 Tryd.underlying22 hi hz0 hz1 hz2 rfl u7 L7 rfl (G7'.out.1.alloc _) ⟨w2.heap.size, 0, none⟩ 1 1 [bits .xor .u8 x 92] rfl rfl (Blk.new w2 .u8 5 [bits .xor .u8 x 92]).at h637 hb7 ?_; intro v7 w3 G7 keep; have K7' : Hid _ := N7.out _ _ G7; have K6' : Hid _ := keep _ _ _ _ (G6'.out.alloc _) G7'.out.2.symm; clear G7 keep))
          go_roundw
          case rel => exact ⟨t + 1, by omega, by go_num, K6'.out.1, K7'.out, K6'.out.2.symm⟩
          case measure => simp [intOf]; omega
        · rw [if_neg hin] at hg
          subst hg
          have i3 : (l : Int) ≤ (t : Int) := by omega
          clear hin
          go_wp2_with (first | (at_builtin; refine wpList_append_apart (W := wc) rfl _ _ 22 rfl .u8 5 i0 (.int .u8 0) 1 Tryd.underlying22 hi hz0 hz1 hz2 rfl u6 L6 rfl (F6'.out.alloc _) ⟨wr.heap.size, 0, none⟩ 1 1 [bits .xor .u8 0 54] rfl rfl (Blk.new wr .u8 5 [bits .xor .u8 0 54]).at h636 hb6 ?_; intro v6 w2 G6 keep; have G6' : Hid _ := N6.out _ _ G6; have G7' : Hid _ := keep _ _ _ _ (F7'.out.alloc _) FA'.out; clear G6 keep N6) | (at_builtin; refine wpList_append_apart (W := wc) rfl _ _ 22 rfl .u8 5 i0 (.int .u8 0) 1 Tryd.underlying22 hi hz0 hz1 hz2 rfl u7 L7 rfl (G7'.out.1.alloc _) ⟨w2.heap.size, 0, none⟩ 1 1 [bits .xor .u8 0 92] rfl rfl (Blk.new w2 .u8 5 [bits .xor .u8 0 92]).at h637 hb7 ?_; intro v7 w3 G7 keep; have K7' : Hid _ := N7.out _ _ G7; have K6' : Hid _ := keep _ _ _ _ (G6'.out.alloc _) G7'.out.2.symm; clear G7 keep))
          go_roundw
          case rel => exact ⟨t + 1, by omega, by go_num, K6'.out.1, K7'.out, K6'.out.2.symm⟩
          case measure => simp [intOf]; omega
      · obtain rfl : t = 64 := by omega
        rw [List.take_of_length_le (by omega)] at F6 F7
        have q6 : (xorB 54 KK).length = 64 := by rw [xorB_length, KL]
        have q7 : (xorB 92 KK).length = 64 := by rw [xorB_length, KL]
        have p6 : Bts (xorB 54 KK) := xorB_bts 54 (by decide) KB
        have p7 : Bts (xorB 92 KK) := xorB_bts 92 (by decide) KB
        have h636 : (xorB 54 KK).length + m ≤ maxLen := by rw [q6]; unfold maxLen; omega
        have hb6 : ((xorB 54 KK).length + m) * 1 ≤ 140737488355328 := by rw [q6]; omega
        have pJ : Bts (xorB 54 KK ++ bs) := bts_append p6 hbs
        have qJ : (xorB 54 KK ++ bs).length ≤ 140737488355200 := by rw [List.length_append, q6]; omega
        obtain ⟨J, hJ⟩ : ∃ J, xorB 54 KK ++ bs = J := ⟨_, rfl⟩
        have NJ : Hid (∀ w v, Holds wc w .u8 5 v (xorB 54 KK ++ bs) → Holds wc w .u8 5 v J) := fun w v h => by rw [← hJ]; exact h
        rw [hJ] at pJ qJ HF
        obtain ⟨O, hO⟩ : ∃ O, xorB 92 KK = O := ⟨_, rfl⟩
        rw [hO] at F7 q7 p7 HF
        have F6' : Hid (Holds wc wr .u8 5 u6 (xorB 54 KK)) := F6
        have F7' : Hid (Holds wc wr .u8 5 u7 O) := F7
        have FA' : Hid (Apart u6 u7) := FA
        have AB : Hid (At wr .u8 bo bs) := hbt'.below F6.below
        have HD : Hid (Sl bo d) := hd
        have HY : Hid (bs.length = m) := hy
        have TW : Hid (Tabs wc) := hT'
        have BZ : Hid (Blk wc W.heap.size .u32 26 V) := bz
        have HB : Hid (Below W.heap.size W wc) := hb
        clear hk HG KB F6 F7 FA hbt' hd hy hbs hJ hO q6 p6 hT' bz hb
        generalize xorB 54 KK = L6 at *
        go_wp2_with (first | (at_builtin; refine wpList_append_any (W := wc) rfl _ _ 22 rfl .u8 5 i0 (.int .u8 0) 1 Tryd.underlying22 hi hz0 hz1 hz2 rfl u6 L6 rfl F6'.out bo m d bs rfl HY.out AB.out HD.out h636 hb6 ?_; intro v6 w2 G6 keep; have G6' : Hid _ := NJ.out _ _ G6; have G7' : Hid _ := keep _ _ _ _ F7'.out FA'.out; clear G6 keep))
        clear NJ F6' F7' FA' AB h636 hb6 HD HY
        obtain ⟨vo, vc, hv6, hvc, hva, _⟩ := G6'.out.at'
        subst hv6
        obtain ⟨j, hj⟩ : ∃ j, J.length = j := ⟨_, rfl⟩
        have HJ : Hid (J.length = j) := hj
        rw [hj] at hvc qJ ⊢
        have b2 := G6'.out.below
        have F7 : Hid (Holds wc w2 .u8 5 u7 O) := G7'.out.1
        clear hj G6' G7'
        have T2 : Hid (Tabs w2) := TW.out.on b2
        have B2 : Hid (Blk w2 W.heap.size .u32 26 V) := BZ.out.on b2
        have H2 : Hid (Below W.heap.size W w2) := HB.out.trans (b2.mono HB.out.size)
        clear b2 TW BZ HB
        refine (sumBytes_sum w2 T2.out vo j vc J HJ.out pJ hva hvc qJ).mono ?_
        rintro e w3 ⟨rfl, hb3⟩
        obtain ⟨I, hI⟩ : ∃ I, sumB J = I := ⟨_, rfl⟩
        have hIl : I.length = 8 := by rw [← hI]; exact sumB_length _
        have hIw : Wds I := by rw [← hI]; exact sumB_wds _
        rw [hI] at HF ⊢
        have hsI : (Tryd.prog.info? 26).map (·.size) = some I.length := by rw [hIl]; exact size26
        replace F7 : Hid (Holds wc w3 .u8 5 u7 O) := F7.out.on hb3
        replace T2 : Hid (Tabs w3) := T2.out.on hb3
        replace H2 : Hid (Below W.heap.size W w3) := H2.out.trans (hb3.mono H2.out.size)
        replace B2 : Hid (Blk w3 W.heap.size .u32 26 V) := B2.out.on hb3
        clear hb3 hva hvc hI pJ qJ HJ
        have z3 := B2.out.lt
        go_wp2_with (first | (refine wpList_store_but rfl 26 _ _ rfl w3.heap.size I rfl rfl (Blk.new w3 .u32 26 V) hsI (hVl.trans hIl.symm) ?_; intro w4 b4 hw4 hs4))
        have hb34 : Below w3.heap.size w3 w4 := (below_one w3 _).trans (hw4.below (Nat.le_refl _) (by simp))
        have BI : Hid (Blk w4 w3.heap.size .u32 26 I) := b4
        replace F7 : Hid (Holds wc w4 .u8 5 u7 O) := F7.out.on hb34
        replace T2 : Hid (Tabs w4) := T2.out.on hb34
        replace H2 : Hid (Below W.heap.size W w4) := H2.out.trans (hb34.mono (by omega))
        replace B2 : Hid (Blk w4 W.heap.size .u32 26 V) := B2.out.on hb34
        clear hb34 hw4 hs4 b4
        refine (bytes_at w4 T2.out.lows _ 8 8 I hIl hIw BI.out.at (by decide) (by have := T2.out.sz; omega)).mono ?_
        rintro e w5 ⟨rfl, O5⟩
        have A5 : Hid (At w5 .u8 (some ⟨w4.heap.size, 0, none⟩) (bytesD I)) := O5.at
        have hQl : (bytesD I).length = 32 := by rw [bytesD_length, hIl]
        have pQ : Bts (O ++ bytesD I) := bts_append p7 (bytesD_bts I)
        have qQ : (O ++ bytesD I).length = 96 := by rw [List.length_append, q7, hQl]
        obtain ⟨Q, hQ⟩ : ∃ Q, bytesD I = Q := ⟨_, rfl⟩
        rw [hQ] at A5 hQl pQ qQ HF
        replace F7 : Hid (Holds wc w5 .u8 5 u7 O) := F7.out.on O5.below
        replace T2 : Hid (Tabs w5) := T2.out.on O5.below
        replace H2 : Hid (Below W.heap.size W w5) := H2.out.trans (O5.below.mono H2.out.size)
        clear O5 hQ BI
        have HQ : Hid (Q.length = 32) := hQl
        have h637 : O.length + 32 ≤ maxLen := by rw [q7]; unfold maxLen; omega
        have hb7 : (O.length + 32) * 1 ≤ 140737488355328 := by rw [q7]; omega
        obtain ⟨P, hP⟩ : ∃ P, O ++ Q = P := ⟨_, rfl⟩
        have NP : Hid (∀ w v, Holds wc w .u8 5 v (O ++ Q) → Holds wc w .u8 5 v P) := fun w v h => by rw [← hP]; exact h
        have HP : Hid (P.length = 96) := by rw [hP] at qQ; exact qQ
        rw [hP] at pQ HF
        clear hP hQl qQ
        generalize w4.heap.size = gq at *
        go_wp2_with (first | (at_builtin; refine wpList_append_any (W := wc) rfl _ _ 22 rfl .u8 5 i0 (.int .u8 0) 1 Tryd.underlying22 hi hz0 hz1 hz2 rfl u7 O rfl F7.out (some ⟨gq, 0, none⟩) 32 32 Q rfl HQ.out A5.out (fun h => by cases h) h637 hb7 ?_; intro v7 w6 G7 keep; have G7' : Hid _ := NP.out _ _ G7; clear G7 keep))
        obtain ⟨vo, vc, hv7, hvc, hva, _⟩ := G7'.out.at'
        subst hv7
        rw [HP.out] at hvc ⊢
        have b6 := G7'.out.below
        have T6 : Hid (Tabs w6) := TWC.out.on b6
        have B6 : Hid (Blk w6 W.heap.size .u32 26 V) := BZC.out.on b6
        have H6 : Hid (Below W.heap.size W w6) := HBC.out.trans (b6.mono HBC.out.size)
        clear b6 G7'
        refine (sumBytes_sum w6 T6.out vo 96 vc P HP.out pQ hva hvc (by decide)).mono ?_
        rintro e w7 ⟨rfl, hb7'⟩
        have hRl : (sumB P).length = 8 := sumB_length _
        obtain ⟨R, hR⟩ : ∃ R, sumB P = R := ⟨_, rfl⟩
        rw [hR] at hRl HF ⊢
        have hs : (Tryd.prog.info? 26).map (·.size) = some R.length := by rw [hRl]; exact size26
        replace B6 : Hid (Blk w7 W.heap.size .u32 26 V) := B6.out.on hb7'
        replace H6 : Hid (Below W.heap.size W w7) := H6.out.trans (hb7'.mono H6.out.size)
        clear hb7' hva hvc hR
        go_wp2_with (first | (refine wpList_store_blk rfl 26 _ _ rfl W.heap.size R rfl rfl B6.out hs (hVl.trans hRl.symm) ?_))
        refine ret_cell rfl rfl W.heap.size R rfl (B6.out.setRow _) Tryd.underlying26 hs ?_
        rw [HF.out]
        exact ⟨rfl, below_setRow H6.out (Nat.le_refl _) _⟩
end Go.Proofs.YtialckmoigcdeaaDoor
