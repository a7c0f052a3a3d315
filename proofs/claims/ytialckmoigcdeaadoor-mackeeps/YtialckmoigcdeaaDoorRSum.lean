import Derived.Test.YtialckmoigcdeaaDoorREnd
namespace Go.Proofs.YtialckmoigcdeaaDoor
open Go.RowKit

set_option maxRecDepth 20000 in
theorem rfirst_any (W : World) :
    Calls Tryd.prog 58 #[] W fun e W' => e = .returned (Ag S.First) ∧ Below W.heap.size W W' := by
  have b := Blk.new W .u32 26 [0, 0, 0, 0, 0, 0, 0, 0]
  have B : Hid (Blk (W.alloc (.cells #[.int .u32 0, .int .u32 0, .int .u32 0, .int .u32 0, .int .u32 0, .int .u32 0, .int .u32 0, .int .u32 0] 26)) W.heap.size .u32 26 [0, 0, 0, 0, 0, 0, 0, 0]) := b
  clear b
  go_enter Tryd.func58, Tryd.ntmps58
  go_wp2_with (first | (refine wpList_store_blk rfl 26 _ _ rfl W.heap.size S.First rfl rfl B.out size26 rfl ?_))
  refine ret_cell rfl rfl W.heap.size S.First rfl (B.out.setRow _) Tryd.underlying26 size26 ⟨rfl, ?_⟩
  exact below_setRow (below_one _ _) (Nat.le_refl _) _
attribute [-simp] Tryd.isAgg26 Tryd.sizeOf26 Tryd.zeroValue26 Tryd.isAgg64 Tryd.sizeOf64
set_option maxRecDepth 20000 in
set_option maxHeartbeats 2000000 in
theorem rsumBytes_any (W : World) (hT : TabR W) (h2 : 2 < W.heap.size) (ao : Option Addr) (m c : Nat) (bs : List Int) (hx : bs.length = m) (hbs : Bts bs) (hat : At W .u8 ao bs) (hc : m ≤ c) (hm : m ≤ 140737488351232) :
    Calls Tryd.prog 51 #[.slice ao m c] W fun e W' => e = .returned (Ag (rsumB bs)) ∧ Below W.heap.size W W' := by
  obtain ⟨Z, hZ⟩ : ∃ Z : List Int, Z = List.replicate 8 0 := ⟨_, rfl⟩
  have hZl : Z.length = 8 := by rw [hZ]; simp
  have hz : ∀ w, (zeroValue 26).run Tryd.prog w = .ok (.agg (Z.map (Value.int .u32)).toArray) w := fun w => by rw [Tryd.zeroValue26, hZ]; rfl
  clear hZ
  have bz0 : Blk (W.alloc (Obj.cells (List.map (Value.int IntKind.u32) Z).toArray 26)) W.heap.size .u32 26 Z := Blk.new W .u32 26 Z
  have hb0 : Below W.heap.size W (W.alloc (Obj.cells (List.map (Value.int IntKind.u32) Z).toArray 26)) := below_one _ _
  have FS : Hid (Calls Tryd.prog 58 #[] (W.alloc (Obj.cells (List.map (Value.int IntKind.u32) Z).toArray 26)) fun e W' => e = .returned (Ag S.First) ∧ Below W.heap.size W W' ∧ Blk W' W.heap.size .u32 26 Z) := by
    refine (rfirst_any _).mono ?_
    rintro e w ⟨rfl, hb⟩
    exact ⟨rfl, hb0.trans (hb.mono (by simp)), bz0.on hb⟩
  clear bz0 hb0
  have hi64 : (m : Int) ≤ 140737488351232 := by omega
  go_enter Tryd.func51, Tryd.ntmps51
  go_wp2_with (first | (go_at_call 58; refine FS.out.mono ?_; rintro en w1 ⟨rfl, hb1, bz1⟩) | (refine wpList_store_but rfl 26 _ _ rfl w1.heap.size S.First rfl rfl (Blk.new w1 .u32 26 Z) size26 hZl ?_; intro w2 bs2 hw2 hs2))
  have hgs : W.heap.size < w1.heap.size := bz1.lt
  have bz2 := hw2.blk (bz1.alloc _) (by omega)
  have hb2 := (hb1.alloc hb1.size _).trans (hw2.below (B := W.heap.size) (by omega) (by simp; omega))
  clear hw2 hs2 bz1 hb1 FS
  generalize w1.heap.size = gs at *
  go_loopw [4] (fun i wr => ∃ k : Nat, 64 * k ≤ m ∧ i = .int .i64 ((64 * k : Nat) : Int) ∧ Blk wr W.heap.size .u32 26 Z ∧ Blk wr gs .u32 26 (S.runB S.First bs k) ∧ Below W.heap.size W wr) (fun i _ => m + 1 - (intOf i).toNat)
  case atStart => exact ⟨0, Nat.zero_le _, rfl, bz2, bs2, hb2⟩
  case round =>
    clear bz2 bs2 hb2
    obtain ⟨k, hk, rfl, bZ, bA, hb⟩ := hrel
    have hL := runB_length S.First bs rfl k
    obtain ⟨N, hN⟩ : ∃ N : Nat, N = 8 := ⟨_, rfl⟩
    have a27 := Tryd.isAgg26
    have z27 := Tryd.sizeOf26
    rw [← hN] at z27
    have ld : ∀ w, Below wr.heap.size wr w → (loadCellsFrom ⟨gs, 0, none⟩ 0 N #[]).run Tryd.prog w = .ok ((S.runB S.First bs k).map (Value.int .u32)).toArray w := fun w hw => cells_blk (e := 26) (bA.on hw) N (by rw [hL, hN])
    have C0 : Below wr.heap.size wr wr.drew := (Below.refl _ _).drew
    by_cases hlt : 64 * k + 64 ≤ m
    · have hst : S.runB S.First bs (k + 1) = S.block (S.runB S.First bs k) (wordsD ((bs.drop (64 * k)).take 64) 16) := rfl
      have hBl : (wordsD ((bs.drop (64 * k)).take 64) 16).length = 16 := wordsD_length _ _
      have hMl' : (S.runB S.First bs (k + 1)).length = 8 := runB_length S.First bs rfl (k + 1)
      have C44 : Hid (Calls Tryd.prog 60 #[.slice ao m c, .int .i64 (64 * (k : Int))] wr.drew fun e w' => e = .returned (.agg ((wordsD ((bs.drop (64 * k)).take 64) 16).map (Value.int .u32)).toArray) ∧ Below wr.heap.size wr w') := by
        have := blockAt_any wr.drew ao m c (64 * k) bs hx hbs (hat.below hb.drew) (by omega) (by omega)
        rw [show ((64 * k : Nat) : Int) = 64 * (k : Int) by omega] at this
        refine this.mono ?_
        rintro e w' ⟨rfl, hb'⟩
        exact ⟨rfl, C0.trans hb'⟩
      have C34 : Hid (∀ w, Below wr.heap.size wr w → Calls Tryd.prog 59 #[.agg ((S.runB S.First bs k).map (Value.int .u32)).toArray, .agg ((wordsD ((bs.drop (64 * k)).take 64) 16).map (Value.int .u32)).toArray] w fun e w' => e = .returned (.agg ((S.runB S.First bs (k + 1)).map (Value.int .u32)).toArray) ∧ (storeCells ⟨gs, 0, none⟩ ((S.runB S.First bs (k + 1)).map (Value.int .u32)) 0).run Tryd.prog w' = .ok () (w'.setRow gs ((S.runB S.First bs (k + 1)).map (Value.int .u32)).toArray) ∧ Hid (Blk (w'.setRow gs ((S.runB S.First bs (k + 1)).map (Value.int .u32)).toArray) W.heap.size .u32 26 Z ∧ Blk (w'.setRow gs ((S.runB S.First bs (k + 1)).map (Value.int .u32)).toArray) gs .u32 26 (S.runB S.First bs (k + 1)) ∧ Below W.heap.size W (w'.setRow gs ((S.runB S.First bs (k + 1)).map (Value.int .u32)).toArray))) := fun w hw => by
        have hs1 := hb.size
        have hs2 := hw.size
        have hWw := hb.trans (hw.mono hs1)
        refine (rblock_any w (hT.below hWw (by omega)) (by omega) _ _ hL hBl).mono ?_
        rintro e w' ⟨rfl, hb'⟩
        have hw' : Below wr.heap.size wr w' := hw.trans (hb'.mono hs2)
        exact ⟨rfl, storeCells_blk (bA.on hw') (by rw [hL, hMl']), (bZ.on hw').setRow_other _ (by omega), (bA.on hw').setRow _, below_setRow (hb.trans (hw'.mono hs1)) (by omega) _⟩
      have i7 : 64 * (k : Int) + 64 ≤ (m : Int) := by omega
      have hLN : (S.runB S.First bs k).length = N := by rw [hN]; exact hL
      have hMN : (S.runB S.First bs (k + 1)).length = N := by rw [hN]; exact hMl'
      clear bA bZ hb hN hst hL hMl' hk hlt hm hat
      generalize S.runB S.First bs k = L at *
      generalize hMe : S.runB S.First bs (k + 1) = M at *
      have HMe : Hid (S.runB S.First bs (k + 1) = M) := hMe
      clear hMe
      generalize wordsD ((bs.drop (64 * k)).take 64) 16 = B at *
      go_wp2
      go_region_with (first | (go_at_call 60; refine C44.out.mono ?_; rintro en w1 ⟨rfl, hw1⟩) | (go_at_call 59; refine (C34.out _ hw1).mono ?_; rintro en w2 ⟨rfl, hst2, FF⟩))
      all_goals
        clear hst2 hw1
        go_wp2
        go_roundw
        case rel => exact ⟨k + 1, by omega, by go_num, by rw [HMe.out]; exact FF.out⟩
        case measure => simp [intOf]; omega
    · obtain rfl : k = m / 64 := by omega
      obtain ⟨s, hs⟩ : ∃ s, s = 64 * (m / 64) := ⟨_, rfl⟩
      obtain ⟨r, hr⟩ : ∃ r, r = m - s := ⟨_, rfl⟩
      have hr64 : r < 64 := by omega
      have hdl : (bs.drop s).length = r := by rw [List.length_drop, hx, hr]
      have hRl : (rsumB bs).length = 8 := endR_length _ _ (runB_length _ _ rfl _) _
      have HR : Hid (endR (S.runB S.First bs (m / 64)) (bs.drop s) (8 * (m : Int)) = rsumB bs) := by
        show _ = _
        unfold rsumB; rw [hx, hs]
      have C45 : Hid (∀ w, Below wr.heap.size wr w → Calls Tryd.prog 61 #[.agg ((S.runB S.First bs (m / 64)).map (Value.int .u32)).toArray, .slice (if c = s then ao else Option.map (fun x => x.add s) ao) r (c - s), .int .u64 (m : Int)] w fun e w' => e = .returned (.agg ((rsumB bs).map (Value.int .u32)).toArray) ∧ (storeCells ⟨W.heap.size, 0, none⟩ ((rsumB bs).map (Value.int .u32)) 0).run Tryd.prog w' = .ok () (w'.setRow W.heap.size ((rsumB bs).map (Value.int .u32)).toArray) ∧ Hid (Blk (w'.setRow W.heap.size ((rsumB bs).map (Value.int .u32)).toArray) W.heap.size .u32 26 (rsumB bs) ∧ Below W.heap.size W (w'.setRow W.heap.size ((rsumB bs).map (Value.int .u32)).toArray))) := fun w hw => by
        have hs1 := hb.size
        have hs2 := hw.size
        have hWw := hb.trans (hw.mono hs1)
        have hat2 : At w .u8 (if c = s then ao else Option.map (fun x => x.add s) ao) (bs.drop s) := by
          by_cases hcs : c = s
          · left; apply List.eq_nil_of_length_eq_zero; omega
          · rw [if_neg hcs]
            rcases hat.below hWw with h0 | ⟨b, off, rfl, hbl, hrow⟩
            · left; rw [h0]; simp
            · exact .inr ⟨b, off + s, by simp [Addr.add_mid], hbl, hrow.drop s⟩
        refine (ended_any w (hT.below hWw (by omega)) (by omega) _ (bs.drop s) hL _ r (c - s) hdl (bts_drop hbs _) hat2 hr64 (m : Int) (by omega) (by omega)).mono ?_
        rintro e w' ⟨rfl, hb'⟩
        have hw' : Below wr.heap.size wr w' := hw.trans (hb'.mono hs2)
        rw [HR.out]
        exact ⟨rfl, storeCells_blk (bZ.on hw') (by rw [hZl, hRl]), (bZ.on hw').setRow _, below_setRow (hb.trans (hw'.mono hs1)) (Nat.le_refl _) _⟩
      have j1 : (s : Int) ≤ (m : Int) := by omega
      have j2 : (s : Int) ≤ (c : Int) := by omega
      have j3 : ¬ ((s : Int) + 64 ≤ (m : Int)) := by omega
      have j4 : ((64 * (m / 64) : Nat) : Int) = (s : Int) := by omega
      have j6 : m - s = r := hr.symm
      have j7 : (m : Int) ≤ (c : Int) := by omega
      have j8 : IntKind.u64.wrap (m : Int) = (m : Int) := by rw [IntKind.wrap_u64]; omega
      have hLN : (S.runB S.First bs (m / 64)).length = N := by rw [hN]; exact hL
      have hRN : (rsumB bs).length = N := by rw [hN]; exact hRl
      have z8 : (Tryd.prog.info? 26).map (·.size) = some (rsumB bs).length := by rw [hRl]; exact size26
      rw [j4]
      clear bA bZ hb hN hL hRl hlt hk hm hat HR j4 hs hr hdl
      generalize S.runB S.First bs (m / 64) = L at *
      generalize hMe : rsumB bs = M at *
      have HMe : Hid (rsumB bs = M) := hMe
      clear hMe
      by_cases hcs : c = s
      · subst hcs
        simp only [if_true, Nat.sub_self] at C45
        go_wp2
        go_region_with (first | (go_at_call 61; refine (C45.out _ C0).mono ?_; rintro en w2 ⟨rfl, hst2, FF⟩))
        all_goals
          clear hst2
          go_wp2
          refine ret_cell rfl rfl W.heap.size M rfl FF.out.1 Tryd.underlying26 z8 ?_
          rw [HMe.out]
          exact ⟨rfl, FF.out.2⟩
      · simp only [if_neg hcs] at C45
        go_wp2
        go_region_with (first | (go_at_call 61; refine (C45.out _ C0).mono ?_; rintro en w2 ⟨rfl, hst2, FF⟩))
        all_goals
          clear hst2
          go_wp2
          refine ret_cell rfl rfl W.heap.size M rfl FF.out.1 Tryd.underlying26 z8 ?_
          rw [HMe.out]
          exact ⟨rfl, FF.out.2⟩
end Go.Proofs.YtialckmoigcdeaaDoor
