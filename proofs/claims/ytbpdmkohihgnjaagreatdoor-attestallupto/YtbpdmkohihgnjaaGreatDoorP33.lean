import Derived.Test.YtbpdmkohihgnjaaGreatDoorP32
import Derived.Test.YtbpdmkohihgnjaaGreatDoorP29
import Derived.Deep.DeepCutAuto
namespace Go.Proofs.YtbpdmkohihgnjaaGreatDoor
open Go.RowKit
set_option maxRecDepth 100000

set_option maxRecDepth 20000 in
theorem rfirst_any (W : World) :
    Calls Tryz.prog 112 #[] W fun e W' => e = .returned (Ag S.First) ∧ Below W.heap.size W W' := by
  have b := Blk.new W .u32 26 [0, 0, 0, 0, 0, 0, 0, 0]
  have B : Hid (Blk (W.alloc (.cells #[.int .u32 0, .int .u32 0, .int .u32 0, .int .u32 0, .int .u32 0, .int .u32 0, .int .u32 0, .int .u32 0] 26)) W.heap.size .u32 26 [0, 0, 0, 0, 0, 0, 0, 0]) := b
  clear b
  go_enter Tryz.func112, Tryz.ntmps112
  go_wp2_with (first | (refine wpList_store_blk rfl 26 _ _ rfl W.heap.size S.First rfl rfl B.out size26 rfl ?_))
  refine ret_cell rfl rfl W.heap.size S.First rfl (B.out.setRow _) Tryz.underlying26 size26 ⟨rfl, ?_⟩
  exact below_setRow (below_one _ _) (Nat.le_refl _) _
attribute [-simp] Tryz.isAgg26 Tryz.sizeOf26 Tryz.zeroValue26 Tryz.isAgg197 Tryz.sizeOf197
set_option maxRecDepth 20000 in
set_option maxHeartbeats 2000000 in
theorem rsumBytes_any (W : World) (hT : TabR W) (h2 : 12 < W.heap.size) (ao : Option Addr) (m c : Nat) (bs : List Int) (hx : bs.length = m) (hbs : Bts bs) (hat : At W .u8 ao bs) (hc : m ≤ c) (hm : m ≤ 140737488351232) :
    Calls Tryz.prog 101 #[.slice ao m c] W fun e W' => e = .returned (Ag (rsumB bs)) ∧ Below W.heap.size W W' := by
  obtain ⟨Z, hZ⟩ : ∃ Z : List Int, Z = List.replicate 8 0 := ⟨_, rfl⟩
  have hZl : Z.length = 8 := by rw [hZ]; simp
  have hz : ∀ w, (zeroValue 26).run Tryz.prog w = .ok (.agg (Z.map (Value.int .u32)).toArray) w := fun w => by rw [Tryz.zeroValue26, hZ]; rfl
  clear hZ
  have bz0 : Blk (W.alloc (Obj.cells (List.map (Value.int IntKind.u32) Z).toArray 26)) W.heap.size .u32 26 Z := Blk.new W .u32 26 Z
  have hb0 : Below W.heap.size W (W.alloc (Obj.cells (List.map (Value.int IntKind.u32) Z).toArray 26)) := below_one _ _
  have FS : Hid (Calls Tryz.prog 112 #[] (W.alloc (Obj.cells (List.map (Value.int IntKind.u32) Z).toArray 26)) fun e W' => e = .returned (Ag S.First) ∧ Below W.heap.size W W' ∧ Blk W' W.heap.size .u32 26 Z) := by
    refine (rfirst_any _).mono ?_
    rintro e w ⟨rfl, hb⟩
    exact ⟨rfl, hb0.trans (hb.mono (by simp)), bz0.on hb⟩
  clear bz0 hb0
  have hi64 : (m : Int) ≤ 140737488351232 := by omega
  go_enter Tryz.func101, Tryz.ntmps101
  go_wp2_with (first | (go_at_call 112; refine FS.out.mono ?_; rintro en w1 ⟨rfl, hb1, bz1⟩) | (refine wpList_store_but rfl 26 _ _ rfl w1.heap.size S.First rfl rfl (Blk.new w1 .u32 26 Z) size26 hZl ?_; intro w2 bs2 hw2 hs2))
  have hgs : W.heap.size < w1.heap.size := bz1.lt
  have bz2 := hw2.blk (bz1.alloc _) (by omega)
  have hb2 := (hb1.alloc hb1.size _).trans (hw2.below (B := W.heap.size) (by omega) (by simp; omega))
  clear hw2 hs2 bz1 hb1 FS
  generalize w1.heap.size = gs at *
  go_loopw [4] (fun i wr => ∃ k : Nat, 64 * k ≤ m ∧ i = .int .i64 ((64 * k : Nat) : Int) ∧ Blk wr W.heap.size .u32 26 Z ∧ Blk wr gs .u32 26 (S.runB S.First bs k) ∧ Below W.heap.size W wr) (fun i _ => m + 1 - (intOf i).toNat)
  case atStart => exact ⟨0, Nat.zero_le _, rfl, bz2, bs2, hb2⟩
  case round =>
    clear bz2 bs2 hb2
    obtain ⟨k, hk, rfl, bZ, bA, hb⟩ := hrel
    have hL := runB_length S.First bs rfl k
    obtain ⟨N, hN⟩ : ∃ N : Nat, N = 8 := ⟨_, rfl⟩
    have a27 := Tryz.isAgg26
    have z27 := Tryz.sizeOf26
    rw [← hN] at z27
    have ld : ∀ w, Below wr.heap.size wr w → (loadCellsFrom ⟨gs, 0, none⟩ 0 N #[]).run Tryz.prog w = .ok ((S.runB S.First bs k).map (Value.int .u32)).toArray w := fun w hw => cells_blk (e := 26) (bA.on hw) N (by rw [hL, hN])
    have C0 : Below wr.heap.size wr wr.drew := (Below.refl _ _).drew
    by_cases hlt : 64 * k + 64 ≤ m
    · have hst : S.runB S.First bs (k + 1) = S.block (S.runB S.First bs k) (wordsD ((bs.drop (64 * k)).take 64) 16) := rfl
      have hBl : (wordsD ((bs.drop (64 * k)).take 64) 16).length = 16 := wordsD_length _ _
      have hMl' : (S.runB S.First bs (k + 1)).length = 8 := runB_length S.First bs rfl (k + 1)
      have C44 : Hid (Calls Tryz.prog 114 #[.slice ao m c, .int .i64 (64 * (k : Int))] wr.drew fun e w' => e = .returned (.agg ((wordsD ((bs.drop (64 * k)).take 64) 16).map (Value.int .u32)).toArray) ∧ Below wr.heap.size wr w') := by
        have := blockAt_any wr.drew ao m c (64 * k) bs hx hbs (hat.below hb.drew) (by omega) (by omega)
        rw [show ((64 * k : Nat) : Int) = 64 * (k : Int) by omega] at this
        refine this.mono ?_
        rintro e w' ⟨rfl, hb'⟩
        exact ⟨rfl, C0.trans hb'⟩
      have C34 : Hid (∀ w, Below wr.heap.size wr w → Calls Tryz.prog 113 #[.agg ((S.runB S.First bs k).map (Value.int .u32)).toArray, .agg ((wordsD ((bs.drop (64 * k)).take 64) 16).map (Value.int .u32)).toArray] w fun e w' => e = .returned (.agg ((S.runB S.First bs (k + 1)).map (Value.int .u32)).toArray) ∧ (storeCells ⟨gs, 0, none⟩ ((S.runB S.First bs (k + 1)).map (Value.int .u32)) 0).run Tryz.prog w' = .ok () (w'.setRow gs ((S.runB S.First bs (k + 1)).map (Value.int .u32)).toArray) ∧ Hid (Blk (w'.setRow gs ((S.runB S.First bs (k + 1)).map (Value.int .u32)).toArray) W.heap.size .u32 26 Z ∧ Blk (w'.setRow gs ((S.runB S.First bs (k + 1)).map (Value.int .u32)).toArray) gs .u32 26 (S.runB S.First bs (k + 1)) ∧ Below W.heap.size W (w'.setRow gs ((S.runB S.First bs (k + 1)).map (Value.int .u32)).toArray))) := fun w hw => by
        have hs1 := hb.size
        have hs2 := hw.size
        have hWw := hb.trans (hw.mono hs1)
        refine (rblock_any w (hT.below hWw (by omega)) (by omega) _ _ hL hBl).mono ?_
        rintro e w' ⟨rfl, hb'⟩
        have hw' : Below wr.heap.size wr w' := hw.trans (hb'.mono hs2)
        exact ⟨rfl, storeCells_blk (bA.on hw') (by rw [hL, hMl']), (bZ.on hw').setRow_other _ (by omega), (bA.on hw').setRow _, below_setRow (hb.trans (hw'.mono hs1)) (by omega) _⟩
      have i7 : 64 * (k : Int) + 64 ≤ (m : Int) := by omega
      have hLN : (S.runB S.First bs k).length = N := by rw [hN]; exact hL
      have hMN : (S.runB S.First bs (k + 1)).length = N := by rw [hN]; exact hMl'
      clear bA bZ hb hN hst hL hMl' hk hlt hm hat
      generalize S.runB S.First bs k = L at *
      generalize hMe : S.runB S.First bs (k + 1) = M at *
      have HMe : Hid (S.runB S.First bs (k + 1) = M) := hMe
      clear hMe
      generalize wordsD ((bs.drop (64 * k)).take 64) 16 = B at *
      go_wp2
      go_region_with (first | (go_at_call 114; refine C44.out.mono ?_; rintro en w1 ⟨rfl, hw1⟩) | (go_at_call 113; refine (C34.out _ hw1).mono ?_; rintro en w2 ⟨rfl, hst2, FF⟩))
      all_goals
        clear hst2 hw1
        go_wp2
        go_roundw
        case rel => exact ⟨k + 1, by omega, by go_num, by rw [HMe.out]; exact FF.out⟩
        case measure => simp [intOf]; omega
    · obtain rfl : k = m / 64 := by omega
      obtain ⟨s, hs⟩ : ∃ s, s = 64 * (m / 64) := ⟨_, rfl⟩
      obtain ⟨r, hr⟩ : ∃ r, r = m - s := ⟨_, rfl⟩
      have hr64 : r < 64 := by omega
      have hdl : (bs.drop s).length = r := by rw [List.length_drop, hx, hr]
      have hRl : (rsumB bs).length = 8 := endR_length _ _ (runB_length _ _ rfl _) _
      have HR : Hid (endR (S.runB S.First bs (m / 64)) (bs.drop s) (8 * (m : Int)) = rsumB bs) := by
        show _ = _
        unfold rsumB; rw [hx, hs]
      have C45 : Hid (∀ w, Below wr.heap.size wr w → Calls Tryz.prog 115 #[.agg ((S.runB S.First bs (m / 64)).map (Value.int .u32)).toArray, .slice (if c = s then ao else Option.map (fun x => x.add s) ao) r (c - s), .int .u64 (m : Int)] w fun e w' => e = .returned (.agg ((rsumB bs).map (Value.int .u32)).toArray) ∧ (storeCells ⟨W.heap.size, 0, none⟩ ((rsumB bs).map (Value.int .u32)) 0).run Tryz.prog w' = .ok () (w'.setRow W.heap.size ((rsumB bs).map (Value.int .u32)).toArray) ∧ Hid (Blk (w'.setRow W.heap.size ((rsumB bs).map (Value.int .u32)).toArray) W.heap.size .u32 26 (rsumB bs) ∧ Below W.heap.size W (w'.setRow W.heap.size ((rsumB bs).map (Value.int .u32)).toArray))) := fun w hw => by
        have hs1 := hb.size
        have hs2 := hw.size
        have hWw := hb.trans (hw.mono hs1)
        have hat2 : At w .u8 (if c = s then ao else Option.map (fun x => x.add s) ao) (bs.drop s) := by
          by_cases hcs : c = s
          · left; apply List.eq_nil_of_length_eq_zero; omega
          · rw [if_neg hcs]
            rcases hat.below hWw with h0 | ⟨b, off, rfl, hbl, hrow⟩
            · left; rw [h0]; simp
            · exact .inr ⟨b, off + s, by simp [Addr.add_mid], hbl, hrow.drop s⟩
        refine (ended_any w (hT.below hWw (by omega)) (by omega) _ (bs.drop s) hL _ r (c - s) hdl (bts_drop hbs _) hat2 hr64 (m : Int) (by omega) (by omega)).mono ?_
        rintro e w' ⟨rfl, hb'⟩
        have hw' : Below wr.heap.size wr w' := hw.trans (hb'.mono hs2)
        rw [HR.out]
        exact ⟨rfl, storeCells_blk (bZ.on hw') (by rw [hZl, hRl]), (bZ.on hw').setRow _, below_setRow (hb.trans (hw'.mono hs1)) (Nat.le_refl _) _⟩
      have j1 : (s : Int) ≤ (m : Int) := by omega
      have j2 : (s : Int) ≤ (c : Int) := by omega
      have j3 : ¬ ((s : Int) + 64 ≤ (m : Int)) := by omega
      have j4 : ((64 * (m / 64) : Nat) : Int) = (s : Int) := by omega
      have j6 : m - s = r := hr.symm
      have j7 : (m : Int) ≤ (c : Int) := by omega
      have j8 : IntKind.u64.wrap (m : Int) = (m : Int) := by rw [IntKind.wrap_u64]; omega
      have hLN : (S.runB S.First bs (m / 64)).length = N := by rw [hN]; exact hL
      have hRN : (rsumB bs).length = N := by rw [hN]; exact hRl
      have z8 : (Tryz.prog.info? 26).map (·.size) = some (rsumB bs).length := by rw [hRl]; exact size26
      rw [j4]
      clear bA bZ hb hN hL hRl hlt hk hm hat HR j4 hs hr hdl
      generalize S.runB S.First bs (m / 64) = L at *
      generalize hMe : rsumB bs = M at *
      have HMe : Hid (rsumB bs = M) := hMe
      clear hMe
      by_cases hcs : c = s
      · subst hcs
        simp only [if_true, Nat.sub_self] at C45
        go_wp2
        go_region_with (first | (go_at_call 115; refine (C45.out _ C0).mono ?_; rintro en w2 ⟨rfl, hst2, FF⟩))
        all_goals
          clear hst2
          go_wp2
          refine ret_cell rfl rfl W.heap.size M rfl FF.out.1 Tryz.underlying26 z8 ?_
          rw [HMe.out]
          exact ⟨rfl, FF.out.2⟩
      · simp only [if_neg hcs] at C45
        go_wp2
        go_region_with (first | (go_at_call 115; refine (C45.out _ C0).mono ?_; rintro en w2 ⟨rfl, hst2, FF⟩))
        all_goals
          clear hst2
          go_wp2
          refine ret_cell rfl rfl W.heap.size M rfl FF.out.1 Tryz.underlying26 z8 ?_
          rw [HMe.out]
          exact ⟨rfl, FF.out.2⟩
end Go.Proofs.YtbpdmkohihgnjaaGreatDoor
namespace Go.Proofs.YtbpdmkohihgnjaaGreatDoor
open Go.RowKit

theorem key64_getD (ks : List Int) (t : Nat) : (key64 ks).getD t 0 = if t < (keyB ks).length then (keyB ks).getD t 0 else 0 := by
  unfold key64
  split
  · next h => simp [List.getD_eq_getElem?_getD, List.getElem?_append_left h]
  · next h =>
    rw [List.getD_eq_getElem?_getD, List.getElem?_append_right (by omega), List.getElem?_replicate]
    split <;> rfl
theorem xorB_take (p : Int) (K : List Int) (t : Nat) (h : t < K.length) : xorB p (K.take t) ++ [bits .xor .u8 (K.getD t 0) p] = xorB p (K.take (t + 1)) := by
  have e : K.getD t 0 = K[t] := by simp [List.getD_eq_getElem?_getD, h]
  rw [List.take_succ_eq_append_getElem h, e]
  unfold xorB
  rw [List.map_append]
  rfl
theorem xorB_bts {bs : List Int} (p : Nat) (hp : p < 256) (h : Bts bs) : Bts (xorB (p : Int) bs) := fun i => by
  by_cases hi : i < bs.length
  · have e : (xorB (p : Int) bs).getD i 0 = bits .xor .u8 (bs.getD i 0) p := by simp [xorB, List.getD_eq_getElem?_getD, hi]
    rw [e]
    have := xor_u8 (bs.getD i 0) p (h i).1 (h i).2 (by omega) (by omega)
    rw [this.1]
    omega
  · simp [xorB, List.getD_eq_getElem?_getD, List.getElem?_eq_none (show bs.length ≤ i by omega)]

theorem Holds.base {W0 W wr : World} {k : IntKind} {e : TypeId} {v : Value} {L : List Int} (h : Holds W wr k e v L) (hb : Below W0.heap.size W0 W) : Holds W0 wr k e v L := by
  refine ⟨⟨h.own.1, ?_⟩, hb.trans (h.below.mono hb.size)⟩
  rcases h.own.2 with h0 | ⟨g, cap, cur, h1, h2, r⟩
  · exact .inl h0
  · exact .inr ⟨g, cap, cur, h1, Nat.le_trans hb.size h2, r⟩
theorem TabR.on {W w : World} (h : TabR W) (h2 : 12 < W.heap.size) (hb : Below W.heap.size W w) : TabR w := h.below hb h2
theorem rsumBytes_sum (W : World) (hT : TabR W) (h2 : 12 < W.heap.size) (ao : Option Addr) (m c : Nat) (bs : List Int) (hx : bs.length = m) (hbs : Bts bs) (hat : At W .u8 ao bs) (hc : m ≤ c) (hm : m ≤ 140737488351232) :
    Calls Tryz.prog 101 #[.slice ao m c] W fun e W' => e = .returned (Ag (sumB bs)) ∧ Below W.heap.size W W' := by
  have := rsumBytes_any W hT h2 ao m c bs hx hbs hat hc hm
  rw [rsumB_eq _ (by omega)] at this
  exact this
attribute [-simp] Tryz.isAgg26 Tryz.sizeOf26 Tryz.zeroValue26
set_option maxRecDepth 20000 in
set_option maxHeartbeats 2000000 in
theorem rpadded_any (W : World) (hT : TabR W) (h2 : 12 < W.heap.size) (ao : Option Addr) (n c : Nat) (ks : List Int) (hx : ks.length = n) (hks : Bts ks) (hat : At W .u8 ao ks) (hc : n ≤ c) (hn : n ≤ 140737488351232) (p : Nat) :
    Calls Tryz.prog 100 #[.slice ao n c, .int .u8 (p : Int)] W fun e W' => ∃ vo vc, e = .returned (.slice vo 64 vc) ∧ Holds W W' .u8 5 (.slice vo 64 vc) (xorB (p : Int) (key64 ks)) := by
  obtain ⟨V, hV⟩ : ∃ V : List Int, V = List.replicate 8 0 := ⟨_, rfl⟩
  have hVl : V.length = 8 := by rw [hV]; simp
  have hv : ∀ w, (zeroValue 26).run Tryz.prog w = .ok (.agg (V.map (Value.int .u32)).toArray) w := fun w => by rw [Tryz.zeroValue26, hV]; rfl
  clear hV
  obtain ⟨i0, hi, hz0, hz1, hz2⟩ := info_parts Tryz.info5
  have i1 : (n : Int) ≤ 140737488351232 := by omega
  go_enter Tryz.func100, Tryz.ntmps100
  go_upto_if 13 with fail
  go_cut [5] (fun v w => (∃ ao' c', v = .slice ao' (keyB ks).length c' ∧ At w .u8 ao' (keyB ks)) ∧ Below W.heap.size W w)
  case first =>
    by_cases hbig : 64 < n
    · have i2 : (64 : Int) < (n : Int) := by omega
      have hkb : keyB ks = bytesD (sumB ks) := by unfold keyB; rw [if_pos (by omega)]
      have SB : Hid (Calls Tryz.prog 101 #[.slice ao n c] W fun e W' => e = .returned (Ag (sumB ks)) ∧ Below W.heap.size W W') := rsumBytes_sum W hT h2 ao n c ks hx hks hat hc hn
      have hsl : (sumB ks).length = 8 := sumB_length _
      have hs : (Tryz.prog.info? 26).map (·.size) = some (sumB ks).length := by rw [hsl]; exact size26
      have HW : Wds (sumB ks) := sumB_wds ks
      obtain ⟨M, hM⟩ : ∃ M, sumB ks = M := ⟨_, rfl⟩
      rw [hM] at SB hsl hs hkb HW
      clear hM hat hks hx hc hn hbig hT hi hz0 hz1 hz2
      go_wp2_with (first | (go_at_call 101; refine SB.out.mono ?_; rintro e w1 ⟨rfl, hb1⟩) | (refine wpList_store_but rfl 26 _ _ rfl w1.heap.size M rfl rfl (Blk.new w1 .u32 26 V) hs (hVl.trans hsl.symm) ?_; intro w2 b2 hw2 hs2))
      have hs1 := hb1.size
      have HB2 : Hid (Below W.heap.size W w2) := (hb1.alloc hs1 _).trans (hw2.below hs1 (by simp; omega))
      have B2 : Hid (Blk w2 w1.heap.size .u32 26 M) := b2
      clear hb1 hw2 hs2 b2
      refine (rbytes_at w2 _ 8 8 M hsl HW B2.out.at (by decide)).mono ?_
      rintro e w3 ⟨vo, vc, rfl, _, a3, _, hb3⟩
      have HB3 : Hid (Below W.heap.size W w3) := HB2.out.trans (hb3.mono HB2.out.size)
      have A3 : Hid (At w3 .u8 vo (keyB ks)) := by rw [hkb]; exact a3
      have hkl : (keyB ks).length = 32 := by rw [hkb, bytesD_length, hsl]
      clear a3 hb3 hkb
      go_wp2_with fail
      go_meet
      rw [hkl]
      exact ⟨⟨_, _, rfl, A3.out⟩, HB3.out⟩
    · have i2 : (n : Int) ≤ 64 := by omega
      have hkb : keyB ks = ks := by unfold keyB; rw [if_neg (by omega)]
      have A3 : Hid (At W .u8 ao ks) := hat
      have hxx : Hid (ks.length = n) := hx
      clear hat hks hx hc hn hbig hT hi hz0 hz1 hz2
      go_wp2_with fail
      go_meet
      rw [hkb, hxx.out]
      exact ⟨⟨_, _, rfl, A3.out⟩, Below.refl _ _⟩
  case rest =>
    clear hat i1 hn hc hx
    obtain ⟨⟨ao', c', rfl, hk⟩, hb⟩ := hcut
    have hkl := keyB_length ks
    have HG := key64_getD ks
    have KL : (key64 ks).length = 64 := key64_length ks
    have HBC : Hid (Below W.heap.size W wc) := hb
    clear hks hT hb
    obtain ⟨KK, hKK⟩ : ∃ KK, key64 ks = KK := ⟨_, rfl⟩
    have HKK : Hid (key64 ks = KK) := hKK
    rw [hKK] at HG KL
    clear hKK
    generalize keyB ks = k at *
    obtain ⟨l, hl⟩ : ∃ l, k.length = l := ⟨_, rfl⟩
    have HL : Hid (k.length = l) := hl
    rw [hl] at hkl HG ⊢
    clear hl
    have l64 : (l : Int) ≤ 64 := by omega
    have SH : Hid (Holds wc wc .u8 5 (.slice none 0 0) (xorB (p : Int) (KK.take 0))) := Holds.start _ _ _
    go_wp2_with fail
    go_loopw [7, 8] (fun v i wr => ∃ t : Nat, t ≤ 64 ∧ i = .int .i64 t ∧ Holds wc wr .u8 5 v (xorB (p : Int) (KK.take t))) (fun _ i _ => 64 - (intOf i).toNat)
    case atStart => exact ⟨0, Nat.zero_le _, rfl, SH.out⟩
    case round =>
      clear SH
      obtain ⟨t, ht, rfl, F6⟩ := hrel
      by_cases hlt : t < 64
      · have i2 : (t : Int) < 64 := by omega
        have e6 := xorB_take (p : Int) KK t (by omega)
        have l6 : (xorB (p : Int) (KK.take t)).length = t := by rw [xorB_length, List.length_take]; omega
        have F6' : Hid (Holds wc wr .u8 5 u7 (xorB (p : Int) (KK.take t))) := F6
        have hg := HG t
        have N6 : Hid (∀ w v, Holds wc w .u8 5 v (xorB (p : Int) (KK.take t) ++ [bits .xor .u8 (KK.getD t 0) (p : Int)]) → Holds wc w .u8 5 v (xorB (p : Int) (KK.take (t + 1)))) := fun w v h => by rw [← e6]; exact h
        have h636 : (xorB (p : Int) (KK.take t)).length + 1 ≤ maxLen := by rw [l6]; unfold maxLen; omega
        have hb6 : ((xorB (p : Int) (KK.take t)).length + 1) * 1 ≤ 140737488355328 := by rw [l6]; omega
        clear e6 l6 F6 HG
        generalize KK.getD t 0 = x at *
        generalize xorB (p : Int) (KK.take t) = L6 at *
        by_cases hin : t < l
        · rw [if_pos hin] at hg
          have i3 : (t : Int) < (l : Int) := by omega
          obtain ⟨b, off, rfl, hbl, hrow⟩ : ∃ b off, ao' = some ⟨b, off, none⟩ ∧ b < wc.heap.size ∧ Row wc .u8 b off k := by
            rcases hk with h0 | h1
            · have := HL.out; rw [h0] at this; simp at this; omega
            · exact h1
          have hcell := hrow.below F6'.out.below hbl t (by rw [HL.out]; exact hin)
          rw [← hg] at hcell
          clear hg hin hrow
          go_wp2_with (first | (at_builtin; refine wpList_append_at (W := wc) rfl _ _ 124 rfl .u8 5 i0 (.int .u8 0) 1 Tryz.underlying124 hi hz0 hz1 hz2 rfl u7 L6 rfl (F6'.out.alloc _) (some ⟨wr.heap.size, 0, none⟩) 1 1 [bits .xor .u8 x (p : Int)] rfl rfl (Blk.new wr .u8 5 [bits .xor .u8 x (p : Int)]).at (fun h => by cases h) h636 hb6 ?_; intro v6 w2 G6; have G6' : Hid _ := N6.out _ _ G6; clear G6))
          go_roundw
          case rel => exact ⟨t + 1, by omega, by go_num, G6'.out⟩
          case measure => simp [intOf]; omega
        · rw [if_neg hin] at hg
          subst hg
          have i3 : (l : Int) ≤ (t : Int) := by omega
          clear hin
          go_wp2_with (first | (at_builtin; refine wpList_append_at (W := wc) rfl _ _ 124 rfl .u8 5 i0 (.int .u8 0) 1 Tryz.underlying124 hi hz0 hz1 hz2 rfl u7 L6 rfl (F6'.out.alloc _) (some ⟨wr.heap.size, 0, none⟩) 1 1 [bits .xor .u8 0 (p : Int)] rfl rfl (Blk.new wr .u8 5 [bits .xor .u8 0 (p : Int)]).at (fun h => by cases h) h636 hb6 ?_; intro v6 w2 G6; have G6' : Hid _ := N6.out _ _ G6; clear G6))
          go_roundw
          case rel => exact ⟨t + 1, by omega, by go_num, G6'.out⟩
          case measure => simp [intOf]; omega
      · obtain rfl : t = 64 := by omega
        rw [List.take_of_length_le (by omega)] at F6
        obtain ⟨vo, vc, hv6, hvc, hva, hvn⟩ := F6.at'
        subst hv6
        have q6 : (xorB (p : Int) KK).length = 64 := by rw [xorB_length, KL]
        rw [q6] at F6 ⊢
        have FF : Hid (Holds W wr .u8 5 (.slice vo 64 vc) (xorB (p : Int) (key64 ks))) := by rw [HKK.out]; exact F6.base HBC.out
        clear F6 hva hvn hvc
        go_wp2_with fail
        go_ret
        exact ⟨vo, vc, rfl, FF.out⟩
set_option maxRecDepth 20000 in
set_option maxHeartbeats 2000000 in
theorem rtagBytes_any (W : World) (hT : TabR W) (h2 : 12 < W.heap.size) (ao : Option Addr) (n c : Nat) (ks : List Int) (hx : ks.length = n) (hks : Bts ks) (hat : At W .u8 ao ks) (hc : n ≤ c) (hn : n ≤ 140737488351232)
    (bo : Option Addr) (m d : Nat) (bs : List Int) (hy : bs.length = m) (hbs : Bts bs) (hbt : At W .u8 bo bs) (hd : Sl bo d) (hm : m ≤ 140737488350000) :
    Calls Tryz.prog 86 #[.slice ao n c, .slice bo m d] W fun e W' => e = .returned (Ag (hmac ks bs)) ∧ Below W.heap.size W W' := by
  obtain ⟨V, hV⟩ : ∃ V : List Int, V = List.replicate 8 0 := ⟨_, rfl⟩
  have hVl : V.length = 8 := by rw [hV]; simp
  have hv : ∀ w, (zeroValue 26).run Tryz.prog w = .ok (.agg (V.map (Value.int .u32)).toArray) w := fun w => by rw [Tryz.zeroValue26, hV]; rfl
  clear hV
  obtain ⟨i0, hi, hz0, hz1, hz2⟩ := info_parts Tryz.info5
  obtain ⟨X, hX⟩ : ∃ X, X = W.alloc (Obj.cells (List.map (Value.int IntKind.u32) V).toArray 26) := ⟨_, rfl⟩
  have BV : Hid (Blk X W.heap.size .u32 26 V) := by rw [hX]; exact Blk.new W .u32 26 V
  have HB : Hid (Below W.heap.size W X) := by rw [hX]; exact below_one W _
  have zX := BV.out.lt
  have TX : Hid (TabR X) := hT.on h2 HB.out
  have x2 : 12 < X.heap.size := by omega
  have AX : Hid (At X .u8 ao ks) := hat.below HB.out
  have AXX : Hid (At X .u8 ao ks) := hat.below HB.out
  have AM : Hid (At X .u8 bo bs) := hbt.below HB.out
  have HF : Hid (hmac ks bs = sumB (xorB 92 (key64 ks) ++ bytesD (sumB (xorB 54 (key64 ks) ++ bs)))) := rfl
  have KB : Bts (key64 ks) := key64_bts hks
  have p6 : Bts (xorB 54 (key64 ks)) := xorB_bts 54 (by decide) KB
  have p7 : Bts (xorB 92 (key64 ks)) := xorB_bts 92 (by decide) KB
  have q6 : (xorB 54 (key64 ks)).length = 64 := by rw [xorB_length, key64_length]
  have q7 : (xorB 92 (key64 ks)).length = 64 := by rw [xorB_length, key64_length]
  clear hat hbt hT KB
  go_enter Tryz.func86, Tryz.ntmps86
  go_wp2_with fail
  rw [← hX]
  clear hX
  refine (rpadded_any X TX.out x2 ao n c ks hx hks AX.out hc hn 54).mono ?_
  rintro e w1 ⟨v1, c1, rfl, H1⟩
  have hb1 := H1.below
  have TX1 : Hid (TabR w1) := TX.out.on x2 hb1
  have AX1 : Hid (At w1 .u8 ao ks) := AX.out.below hb1
  have AM1 : Hid (At w1 .u8 bo bs) := AM.out.below hb1
  have h636 : (xorB 54 (key64 ks)).length + m ≤ maxLen := by rw [q6]; unfold maxLen; omega
  have hb6 : ((xorB 54 (key64 ks)).length + m) * 1 ≤ 140737488355328 := by rw [q6]; omega
  have pJ : Bts (xorB 54 (key64 ks) ++ bs) := bts_append p6 hbs
  have qJ : (xorB 54 (key64 ks) ++ bs).length ≤ 140737488351232 := by rw [List.length_append, q6]; omega
  obtain ⟨J, hJ⟩ : ∃ J, xorB 54 (key64 ks) ++ bs = J := ⟨_, rfl⟩
  have NJ : Hid (∀ w v, Holds X w .u8 5 v (xorB 54 (key64 ks) ++ bs) → Holds X w .u8 5 v J) := fun w v h => by rw [← hJ]; exact h
  rw [hJ] at pJ qJ HF
  have H1' : Hid (Holds X w1 .u8 5 (.slice v1 64 c1) (xorB 54 (key64 ks))) := H1
  have HD : Hid (Sl bo d) := hd
  have HY : Hid (bs.length = m) := hy
  clear H1 hb1 hJ hd hy hbs p6 q6 AX AM
  generalize xorB 54 (key64 ks) = L6 at *
  go_wp2_with (first | (at_builtin; refine wpList_append_at (W := X) rfl _ _ 124 rfl .u8 5 i0 (.int .u8 0) 1 Tryz.underlying124 hi hz0 hz1 hz2 rfl (.slice v1 64 c1) L6 rfl H1'.out bo m d bs rfl HY.out AM1.out HD.out h636 hb6 ?_; intro v6 w2 G6; have G6' : Hid _ := NJ.out _ _ G6; clear G6))
  clear NJ H1' AM1 h636 hb6 HD HY TX1 AX1
  obtain ⟨vo, vc, hv6, hvc, hva, _⟩ := G6'.out.at'
  subst hv6
  obtain ⟨j, hj⟩ : ∃ j, J.length = j := ⟨_, rfl⟩
  have HJ : Hid (J.length = j) := hj
  rw [hj] at hvc qJ ⊢
  have b2 := G6'.out.below
  clear hj G6'
  have x22 : 12 < w2.heap.size := by have := b2.size; omega
  have T2 : Hid (TabR w2) := TX.out.on x2 b2
  have B2 : Hid (Blk w2 W.heap.size .u32 26 V) := BV.out.on b2
  have H2 : Hid (Below W.heap.size W w2) := HB.out.trans (b2.mono (by omega))
  refine (rsumBytes_sum w2 T2.out x22 vo j vc J HJ.out pJ hva hvc qJ).mono ?_
  rintro e w3 ⟨rfl, hb3⟩
  obtain ⟨I, hI⟩ : ∃ I, sumB J = I := ⟨_, rfl⟩
  have hIl : I.length = 8 := by rw [← hI]; exact sumB_length _
  have hIw : Wds I := by rw [← hI]; exact sumB_wds _
  rw [hI] at HF ⊢
  have hsI : (Tryz.prog.info? 26).map (·.size) = some I.length := by rw [hIl]; exact size26
  have B3 : Hid (Below X.heap.size X w3) := b2.trans (hb3.mono b2.size)
  clear hb3 hva hvc hI pJ qJ HJ b2 T2 B2 H2
  go_wp2_with (first | (refine wpList_store_but rfl 26 _ _ rfl w3.heap.size I rfl rfl (Blk.new w3 .u32 26 V) hsI (hVl.trans hIl.symm) ?_; intro w4 b4 hw4 hs4))
  have hb34 : Below w3.heap.size w3 w4 := (below_one w3 _).trans (hw4.below (Nat.le_refl _) (by simp))
  have B4 : Hid (Below X.heap.size X w4) := B3.out.trans (hb34.mono B3.out.size)
  have BI : Hid (Blk w4 w3.heap.size .u32 26 I) := b4
  have x4 : 12 < w4.heap.size := by have := B4.out.size; omega
  have AX4 : Hid (At w4 .u8 ao ks) := AXX.out.below B4.out
  clear hb34 hw4 hs4 b4 B3
  generalize w3.heap.size = gI at *
  refine (rpadded_any w4 (TX.out.on x2 B4.out) x4 ao n c ks hx hks AX4.out hc hn 92).mono ?_
  rintro e w5 ⟨v5, c5, rfl, H5⟩
  have b5 := H5.below
  have B5 : Hid (Below X.heap.size X w5) := B4.out.trans (b5.mono B4.out.size)
  have BI5 : Hid (Blk w5 gI .u32 26 I) := BI.out.on b5
  have H5' : Hid (Holds X w5 .u8 5 (.slice v5 64 c5) (xorB 92 (key64 ks))) := H5.base B4.out
  clear H5 b5 BI B4
  go_wp2_with fail
  refine (rbytes_at w5 _ 8 8 I hIl hIw BI5.out.at (by decide)).mono ?_
  rintro e w6 ⟨v8, c8, rfl, _, a8, s8, hb6'⟩
  have hQl : (bytesD I).length = 32 := by rw [bytesD_length, hIl]
  have pQ : Bts (xorB 92 (key64 ks) ++ bytesD I) := bts_append p7 (bytesD_bts I)
  have qQ : (xorB 92 (key64 ks) ++ bytesD I).length = 96 := by rw [List.length_append, q7, hQl]
  have h637 : (xorB 92 (key64 ks)).length + 32 ≤ maxLen := by rw [q7]; unfold maxLen; omega
  have hb7 : ((xorB 92 (key64 ks)).length + 32) * 1 ≤ 140737488355328 := by rw [q7]; omega
  have H6 : Hid (Holds X w6 .u8 5 (.slice v5 64 c5) (xorB 92 (key64 ks))) := H5'.out.on hb6'
  obtain ⟨O, hO⟩ : ∃ O, xorB 92 (key64 ks) = O := ⟨_, rfl⟩
  rw [hO] at pQ qQ h637 hb7 H6 HF
  obtain ⟨Q, hQ⟩ : ∃ Q, bytesD I = Q := ⟨_, rfl⟩
  rw [hQ] at pQ qQ hQl a8 HF
  obtain ⟨P, hP⟩ : ∃ P, O ++ Q = P := ⟨_, rfl⟩
  have NP : Hid (∀ w v, Holds X w .u8 5 v (O ++ Q) → Holds X w .u8 5 v P) := fun w v h => by rw [← hP]; exact h
  rw [hP] at pQ qQ HF
  have A8 : Hid (At w6 .u8 v8 Q) := a8
  have S8 : Hid (Sl v8 c8) := s8
  have HQl : Hid (Q.length = 32) := hQl
  have HPl : Hid (P.length = 96) := qQ
  clear hP hQ hO a8 s8 hQl qQ hb6' H5' BI5 B5 q7 p7
  go_wp2_with (first | (at_builtin; refine wpList_append_at (W := X) rfl _ _ 124 rfl .u8 5 i0 (.int .u8 0) 1 Tryz.underlying124 hi hz0 hz1 hz2 rfl (.slice v5 64 c5) O rfl H6.out v8 32 c8 Q rfl HQl.out A8.out S8.out h637 hb7 ?_; intro v9 w7 G9; have G9' : Hid _ := NP.out _ _ G9; clear G9))
  obtain ⟨vp, cp, hv9, hvc, hva, _⟩ := G9'.out.at'
  subst hv9
  rw [HPl.out] at hvc ⊢
  have b7 := G9'.out.below
  have x7 : 12 < w7.heap.size := by have := b7.size; omega
  have B7 : Hid (Blk w7 W.heap.size .u32 26 V) := BV.out.on b7
  have H7 : Hid (Below W.heap.size W w7) := HB.out.trans (b7.mono (by omega))
  have T7 : Hid (TabR w7) := TX.out.on x2 b7
  clear b7 G9' H6
  refine (rsumBytes_sum w7 T7.out x7 vp 96 cp P HPl.out pQ hva hvc (by decide)).mono ?_
  rintro e w8 ⟨rfl, hb8⟩
  have hRl : (sumB P).length = 8 := sumB_length _
  obtain ⟨R, hR⟩ : ∃ R, sumB P = R := ⟨_, rfl⟩
  rw [hR] at hRl HF ⊢
  have hs : (Tryz.prog.info? 26).map (·.size) = some R.length := by rw [hRl]; exact size26
  replace B7 : Hid (Blk w8 W.heap.size .u32 26 V) := B7.out.on hb8
  replace H7 : Hid (Below W.heap.size W w8) := H7.out.trans (hb8.mono H7.out.size)
  clear hb8 hva hvc hR
  go_wp2_with (first | (refine wpList_store_blk rfl 26 _ _ rfl W.heap.size R rfl rfl B7.out hs (hVl.trans hRl.symm) ?_))
  refine ret_cell rfl rfl W.heap.size R rfl (B7.out.setRow _) Tryz.underlying26 hs ?_
  rw [HF.out]
  exact ⟨rfl, below_setRow H7.out (Nat.le_refl _) _⟩
end Go.Proofs.YtbpdmkohihgnjaaGreatDoor
namespace Go.Proofs.YtbpdmkohihgnjaaGreatDoor
open Go.RowKit

attribute [-simp] Tryz.isAgg26 Tryz.sizeOf26 Tryz.zeroValue26
set_option maxRecDepth 20000 in
set_option maxHeartbeats 400000 in
set_option maxRecDepth 20000 in
set_option maxHeartbeats 400000 in
theorem rtag_any (W : World) (hT : TabR W) (h2 : 12 < W.heap.size) (ao : Option Addr) (n c : Nat) (ks : List Int) (hx : ks.length = n) (wx : Wds ks) (hat : At W .u32 ao ks) (hn : 4 * n ≤ 140737488350000)
    (bo : Option Addr) (m d : Nat) (xs : List Int) (hy : xs.length = m) (wy : Wds xs) (hbt : At W .u32 bo xs) (hm : 4 * m ≤ 140737488350000) :
    Calls Tryz.prog 65 #[.slice ao n c, .slice bo m d] W fun e W' => e = .returned (Ag (hmac (bytesD ks) (bytesD xs))) ∧ Below W.heap.size W W' := by
  obtain ⟨V, hV⟩ : ∃ V : List Int, V = List.replicate 8 0 := ⟨_, rfl⟩
  have hVl : V.length = 8 := by rw [hV]; simp
  have hv : ∀ w, (zeroValue 26).run Tryz.prog w = .ok (.agg (V.map (Value.int .u32)).toArray) w := fun w => by rw [Tryz.zeroValue26, hV]; rfl
  clear hV
  obtain ⟨X, hX⟩ : ∃ X, X = W.alloc (Obj.cells (List.map (Value.int IntKind.u32) V).toArray 26) := ⟨_, rfl⟩
  have BV : Hid (Blk X W.heap.size .u32 26 V) := by rw [hX]; exact Blk.new W .u32 26 V
  have HB : Hid (Below W.heap.size W X) := by rw [hX]; exact below_one W _
  have zX := BV.out.lt
  have TX : Hid (TabR X) := hT.on h2 HB.out
  have x2 : 12 < X.heap.size := by omega
  have AX : Hid (At X .u32 ao ks) := hat.below HB.out
  have AM : Hid (At X .u32 bo xs) := hbt.below HB.out
  have lk : (bytesD ks).length = 4 * n := by rw [bytesD_length, hx]
  have lm : (bytesD xs).length = 4 * m := by rw [bytesD_length, hy]
  clear hat hbt hT
  go_enter Tryz.func65, Tryz.ntmps65
  go_wp2_with fail
  rw [← hX]
  clear hX
  refine (rbytes_at X ao n c ks hx wx AX.out (by omega)).mono ?_
  rintro e w1 ⟨v1, c1, rfl, h1, a1, s1, hb1⟩
  have A1 : Hid (At w1 .u8 v1 (bytesD ks)) := a1
  have B1 : Hid (Below X.heap.size X w1) := hb1
  have AM1 : Hid (At w1 .u32 bo xs) := AM.out.below hb1
  clear a1 hb1 s1
  go_wp2_with fail
  refine (rbytes_at w1 bo m d xs hy wy AM1.out (by omega)).mono ?_
  rintro e w2 ⟨v2, c2, rfl, h22, a2, s2, hb2⟩
  have A2 : Hid (At w2 .u8 v2 (bytesD xs)) := a2
  have S2 : Hid (Sl v2 c2) := s2
  have A12 : Hid (At w2 .u8 v1 (bytesD ks)) := A1.out.below hb2
  have B2 : Hid (Below X.heap.size X w2) := B1.out.trans (hb2.mono B1.out.size)
  have x22 : 12 < w2.heap.size := by have := B2.out.size; omega
  clear a2 s2 hb2 A1 B1 AM1
  have pk := bytesD_bts ks
  have pm := bytesD_bts xs
  have hRl : (hmac (bytesD ks) (bytesD xs)).length = 8 := hmac_length _ _
  obtain ⟨R, hR⟩ : ∃ R, hmac (bytesD ks) (bytesD xs) = R := ⟨_, rfl⟩
  have HR : Hid (hmac (bytesD ks) (bytesD xs) = R) := hR
  rw [hR] at hRl
  have hs : (Tryz.prog.info? 26).map (·.size) = some R.length := by rw [hRl]; exact size26
  clear hR
  go_wp2_with fail
  refine (rtagBytes_any w2 (TX.out.on x2 B2.out) x22 v1 (4 * n) c1 (bytesD ks) lk pk A12.out h1 (by omega) v2 (4 * m) c2 (bytesD xs) lm pm A2.out S2.out (by omega)).mono ?_
  rintro e w3 ⟨rfl, hb3⟩
  rw [HR.out]
  have B3 : Hid (Blk w3 W.heap.size .u32 26 V) := (BV.out.on B2.out).on hb3
  have H3 : Hid (Below W.heap.size W w3) := HB.out.trans ((B2.out.trans (hb3.mono B2.out.size)).mono (by omega))
  clear hb3 B2 A2 A12 S2
  go_wp2_with (first | (refine wpList_store_blk rfl 26 _ _ rfl W.heap.size R rfl rfl B3.out hs (hVl.trans hRl.symm) ?_))
  refine ret_cell rfl rfl W.heap.size R rfl (B3.out.setRow _) Tryz.underlying26 hs ?_
  rw [HR.out]
  exact ⟨rfl, below_setRow H3.out (Nat.le_refl _) _⟩
end Go.Proofs.YtbpdmkohihgnjaaGreatDoor
