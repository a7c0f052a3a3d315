import Derived.Test.YtjkkelkblccolaaDoorBackPre
namespace Go.Proofs.YtjkkelkblccolaaDoor
open Go.RowKit

/-- Saved words are taken up again. -/
theorem loadSaved_any (W : World) (gs : Nat) (L : List Int) (wL : Wds L) (hL : L.length ≤ 36028797018963968) (hb : Blk W gs .u32 40 (saveOf L)) :
    Calls Tryd.prog 23 #[.slice (some ⟨gs, 0, none⟩) 26 26] W fun e W' => ∃ g, W.heap.size ≤ g ∧ e = .returned (.tuple #[.pointer (some ⟨g, 0, none⟩), .int .i64 0]) ∧ DigL W' g L ∧ Below W.heap.size W W' := by
  refine (load_any W gs 0 26 (saveOf L) (saveOf_length L) (wds_saveOf wL hL) hb.row hb.lt (Nat.le_refl _)).mono ?_
  have hA := run_length S.First L rfl (L.length / 16)
  have hp : (L.drop (16 * (L.length / 16))).length = L.length % 16 := by rw [List.length_drop]; omega
  rintro e w ⟨hw, ⟨_, g, hg, rfl, D⟩ | ⟨hno, _⟩⟩
  · refine ⟨g, hg, rfl, ?_, hw⟩
    unfold saveOf at D
    rw [saveL_head _ _ _ hA, saveL_num _ _ _ hA, saveL_wait _ _ _ hA hp] at D
    exact D
  · refine absurd ?_ hno
    refine saveL_ok _ _ _ hA hp hL ?_
    by_cases h : 16 ≤ L.length
    · exact .inl h
    · right; rw [show L.length / 16 = 0 by omega]; rfl
/-- Words that are no saved state are refused. -/
theorem loadNo_any (W : World) (gs : Nat) (ys : List Int) (wy : Wds ys) (hy : ys.length = 26) (hb : Blk W gs .u32 40 ys) (hno : ¬ LoadOk ys) :
    Calls Tryd.prog 23 #[.slice (some ⟨gs, 0, none⟩) 26 26] W fun e W' => e = .returned (.tuple #[.pointer none, .int .i64 20]) ∧ Below W.heap.size W W' := by
  refine (load_any W gs 0 26 ys hy wy hb.row hb.lt (Nat.le_refl _)).mono ?_
  rintro e w ⟨hw, ⟨h, _⟩ | ⟨_, rfl⟩⟩
  · exact absurd h hno
  · exact ⟨rfl, hw⟩

theorem getD_set_ne {xs : List Int} {i j : Nat} {u : Int} (h : i ≠ j) : (xs.set i u).getD j 0 = xs.getD j 0 := by
  simp only [List.getD_eq_getElem?_getD, List.getElem?_set, if_neg h]
theorem getD_set_eq {xs : List Int} {i : Nat} {u : Int} (h : i < xs.length) : (xs.set i u).getD i 0 = u := by
  simp [List.getD_eq_getElem?_getD, h]
theorem bad_no (xs : List Int) (k : Nat) (h1 : 10 + xs.length % 16 ≤ k) (h2 : k < 26) (hz : (saveOf xs).getD k 0 = 0) : ¬ LoadOk ((saveOf xs).set k 1) := by
  rintro ⟨_, _, h⟩
  have hA := run_length S.First xs rfl (xs.length / 16)
  have hp : (xs.drop (16 * (xs.length / 16))).length = xs.length % 16 := by rw [List.length_drop]; omega
  have hl := saveOf_length xs
  have n1 : numL ((saveOf xs).set k 1) = xs.length := by
    unfold numL
    rw [getD_set_ne (by omega), getD_set_ne (by omega)]
    exact saveL_num _ _ _ hA
  have t1 : ((saveOf xs).set k 1).take 8 = S.run S.First xs (xs.length / 16) := by
    rw [List.take_set_of_le (by omega)]
    exact saveL_head _ _ _ hA
  have w1 : waitL ((saveOf xs).set k 1) = xs.drop (16 * (xs.length / 16)) := by
    unfold waitL
    rw [n1]
    have := saveL_wait _ xs.length _ hA hp
    unfold waitL at this
    rw [saveL_num _ _ _ hA] at this
    rw [← this]
    apply list_ext_getD
    · simp [saveOf]
    · intro i hi
      rw [List.length_take] at hi
      rw [getD_take (by omega), getD_take (by omega), getD_drop, getD_drop, getD_set_ne (by omega)]
      rfl
  rw [n1, t1, w1] at h
  have : (saveOf xs).getD k 0 = ((saveOf xs).set k 1).getD k 0 := by rw [← h]; rfl
  rw [hz, getD_set_eq (by omega)] at this
  omega
theorem far_no (ys : List Int) (a b : Int) (hl : ys.length = 26) (ha : 8388608 ≤ a) (hb : 1 ≤ b) : ¬ LoadOk ((ys.set 8 a).set 9 b) := by
  rintro ⟨h, _⟩
  unfold numL at h
  rw [getD_set_ne (by omega), getD_set_eq (by omega), getD_set_eq (by rw [List.length_set]; omega)] at h
  omega

attribute [-simp] Tryd.isAgg40 Tryd.sizeOf40 Tryd.zeroValue40
set_option maxRecDepth 100000 in
set_option maxHeartbeats 8000000 in
theorem back_any (W : World) (hT : Tab W) (h2 : 2 < W.heap.size) (aw : Option Addr) (n cw : Nat) (xs : List Int) (hx1 : xs.length = n) (hx2 : Wds xs) (hx3 : At W .u32 aw xs) (hx4 : n ≤ cw) (hx5 : n ≤ 1048576)
    (am : Option Addr) (m cm : Nat) (ys : List Int) (hy1 : ys.length = m) (hy3 : At W .u32 am ys) (hy5 : m ≤ 1048576) (at' : Int) :
    Calls Tryd.prog 5 #[.slice aw n cw, .slice am m cm, .int .i64 at'] W fun e W' => e = .returned (.bool true) ∧ Below W.heap.size W W' := by
  obtain ⟨Z, hZ⟩ : ∃ Z : List Int, Z = List.replicate 26 0 := ⟨_, rfl⟩
  have hZl : Z.length = 26 := by rw [hZ]; simp
  have hz : ∀ w, (zeroValue 40).run Tryd.prog w = .ok (.agg (Z.map (Value.int .u32)).toArray) w := fun w => by rw [Tryd.zeroValue40, hZ]; rfl
  clear hZ
  have TW : Hid (∀ w, Below W.heap.size W w → Tab w ∧ 2 < w.heap.size) := fun w hw => ⟨hT.below hw h2, by have := hw.size; omega⟩
  have SUM : Hid (∀ w g L, Below W.heap.size W w → DigL w g L → Calls Tryd.prog 16 #[.pointer (some ⟨g, 0, none⟩)] w fun e w' => e = .returned (.agg ((sumW L).map (Value.int .u32)).toArray) ∧ Below w.heap.size w w') := fun w g L hw D => sumL_any w (TW.out w hw).1 (TW.out w hw).2 g L D
  have hSl := saveOf_length xs
  have wS := wds_saveOf hx2 (by omega)
  have hA := run_length S.First xs rfl (xs.length / 16)
  have hp : (xs.drop (16 * (xs.length / 16))).length = n % 16 := by rw [List.length_drop]; omega
  have s8 : (saveOf xs).getD 8 0 = 0 := by unfold saveOf; rw [saveL_8 _ _ _ hA]; omega
  have s9 : (saveOf xs).getD 9 0 = (n : Int) := by unfold saveOf; rw [saveL_9 _ _ _ hA]; omega
  have s10 : (saveOf xs).drop 10 = xs.drop (n - n % 16) ++ List.replicate (16 - n % 16) 0 := by
    unfold saveOf; rw [saveL_ten _ _ _ hA, hp, show 16 * (xs.length / 16) = n - n % 16 by omega]
  obtain ⟨t, ht⟩ : ∃ t, n % 16 = t := ⟨_, rfl⟩
  rw [ht] at s10
  have ht16 : t < 16 := by omega
  have htn : t ≤ n := by omega
  have i1 : (n : Int) ≤ 1048576 := by omega
  have i2 : (n : Int) % 16 = (t : Int) := by omega
  go_enter Tryd.func5, Tryd.ntmps5
  go_wp2_with fail
  refine (newL_any W).mono ?_
  rintro e w1 ⟨g, hg, rfl, D1, hb1⟩
  go_wp2_with fail
  refine (addL_any w1 (TW.out w1 hb1).1 (TW.out w1 hb1).2 g [] D1 aw n cw xs hx1 (hx3.below hb1) (by omega) (by simp; omega)).mono ?_
  rintro e w2 ⟨rfl, D2, hb2⟩
  rw [List.nil_append] at D2
  have hW2 := hb1.trans (hb2.below hg hb1.size)
  clear D1 hb1 hb2
  go_wp2_with fail
  refine (saveOfL_any w2 g xs D2).mono ?_
  rintro e w3 ⟨rfl, hb3⟩
  have hW3 := hW2.trans (hb3.mono hW2.size)
  have D3 := D2.below hb3
  have BN : Hid (Blk (w3.alloc (Obj.cells (List.map (Value.int IntKind.u32) Z).toArray 40)) w3.heap.size .u32 40 Z) := Blk.new w3 .u32 40 Z
  have zS : (Tryd.prog.info? 40).map (·.size) = some (saveOf xs).length := by rw [hSl]; exact size40
  generalize hSO : saveOf xs = SL at *
  go_wp2_with (first | (refine wpList_store_but rfl 40 _ _ rfl w3.heap.size SL rfl rfl BN.out zS (by rw [hZl, hSl]) ?_; intro w4 bS hw4 hs4))
  have hal : Below w3.heap.size w3 (w3.alloc (Obj.cells (List.map (Value.int IntKind.u32) Z).toArray 40)) := below_one _ _
  have hb4 : Below w3.heap.size w3 w4 := hal.trans (hw4.below (Nat.le_refl _) (by simp))
  have hW4 := hW3.trans (hb4.mono hW3.size)
  have D4 := D3.below hb4
  have hgs : g < w3.heap.size := D3.lt
  have hgW := hW3.size
  clear hal hw4 hs4 hb4 D3 D2 hW2 hW3 hb3 BN
  generalize w3.heap.size = gs at *
  have c8 := bS.cell 8 (by omega)
  have c9 := bS.cell 9 (by omega)
  rw [s8] at c8
  rw [s9] at c9
  obtain ⟨az, haz⟩ : ∃ az, (if cw = n - t then aw else Option.map (fun x => x.add (n - t)) aw) = az := ⟨_, rfl⟩
  have hla : (xs.drop (n - t)).length = t := by rw [List.length_drop]; omega
  have SAME : Hid (∀ k, Calls Tryd.prog 22 #[.slice (some ⟨gs, 10, none⟩) t 16, .slice az t (cw - (n - t))] (w4.drewN k) fun e w' => e = .returned (.bool true) ∧ ∃ j, w' = w4.drewN j) := fun k => by
    have hbk : Below w4.heap.size w4 (w4.drewN k) := below_drewN (Below.refl _ _) k
    have ha1 : At w4 .u32 (some ⟨gs, 10, none⟩) (xs.drop (n - t)) := by
      refine .inr ⟨gs, 10, rfl, bS.lt, ?_⟩
      have := bS.row.drop 10
      rw [s10, Nat.zero_add] at this
      exact this.head
    have ha2 : At w4 .u32 az (xs.drop (n - t)) := by
      have := (hx3.cut n cw (n - t) t hx1 hx4 (by omega)).below hW4
      rw [haz, List.take_of_length_le (by omega)] at this
      exact this
    refine (same_yes (w4.drewN k) _ _ t 16 _ (xs.drop (n - t)) hla (ha1.below hbk) (ha2.below hbk) (by omega)).mono ?_
    rintro e w' ⟨rfl, j, rfl⟩
    exact ⟨rfl, k + j, by rw [World.drewN_drewN]⟩
  have v1 : IntKind.i64.wrap (10 + (t : Int)) = 10 + (t : Int) := by rw [IntKind.wrap_i64]; omega
  have v2 : IntKind.u32.wrap (n : Int) = (n : Int) := by rw [IntKind.wrap_u32]; omega
  have v3 : IntKind.i64.wrap ((n : Int) - (t : Int)) = (n : Int) - (t : Int) := by rw [IntKind.wrap_i64]; omega
  have v4 : (10 : Int) ≤ 10 + (t : Int) := by omega
  have v5 : (10 : Int) + (t : Int) ≤ 26 := by omega
  have v6 : ((10 : Int) + (t : Int)).toNat = 10 + t := by omega
  have v7 : (0 : Int) ≤ (n : Int) - (t : Int) := by omega
  have v8 : (n : Int) - (t : Int) ≤ (n : Int) := by omega
  have v9 : ((n : Int) - (t : Int)).toNat = n - t := by omega
  have v10 : n - (n - t) = t := by omega
  have v11 : 10 + t - 10 = t := by omega
  go_quiet (first | (go_at_call 22; exact SAME.out _))
  have hb5 : Below w4.heap.size w4 (w4.drewN nq) := below_drewN (Below.refl _ _) nq
  have bS5 := bS.on hb5
  have D5 := D4.below hb5
  have hW5 := hW4.trans (hb5.mono hW4.size)
  clear hb5 bS D4 hW4 SAME haz hla c8 c9 v2 v3 v7 v8 v9 v10 v11 v6 v4 v5
  generalize w4.drewN nq = w5 at *
  have BS5 : Hid (Blk w5 gs .u32 40 SL) := bS5
  have D5' : Hid (DigL w5 g xs) := D5
  have HW5 : Hid (Below W.heap.size W w5) := hW5
  have I2 : Hid ((n : Int) % 16 = (t : Int)) := i2
  have szero : ∀ k, 10 + t ≤ k → SL.getD k 0 = 0 := fun k hk => by
    have e1 : SL.getD k 0 = (SL.drop 10).getD (k - 10) 0 := by rw [getD_drop, show 10 + (k - 10) = k by omega]
    have hla : (xs.drop (n - t)).length = t := by rw [List.length_drop]; omega
    rw [e1, s10, List.getD_eq_getElem?_getD, List.getElem?_append_right (by omega), List.getElem?_replicate]
    split <;> rfl
  clear D5 hW5
  go_wp2_with fail
  clear i2 v1
  go_loopw [11] (fun i wr => wr = w5 ∧ ∃ k : Nat, 10 + t ≤ k ∧ k ≤ 26 ∧ i = .int .i64 (k : Int)) (fun i _ => 26 - (intOf i).toNat)
  case atStart => exact ⟨rfl, 10 + t, Nat.le_refl _, by omega, by push_cast; rfl⟩
  case round =>
    obtain ⟨rfl, k, hk1, hk2, rfl⟩ := hrel
    by_cases hlt : k < 26
    · have ck := bS5.cell k (by omega)
      rw [szero k hk1] at ck
      clear bS5
      go_wp2_with fail
      go_roundw
      case rel => exact ⟨by simp, k + 1, by omega, by omega, by go_num⟩
      case measure => simp [intOf]; omega
    · obtain rfl : k = 26 := by omega
      clear bS5
      have e1 := eq27 (sumW xs) (sumW xs) (sumW_length _) (sumW_length _)
      rw [decide_eq_true rfl] at e1
      go_wp2_with fail
      refine (loadSaved_any wr gs xs hx2 (by omega) (by rw [hSO]; exact BS5.out)).mono ?_
      rintro e w6 ⟨ge, hge, rfl, E6, hb6⟩
      have bS6 := BS5.out.on hb6
      have D6 := D5'.out.below hb6
      have hW6 := HW5.out.trans (hb6.mono HW5.out.size)
      have hgg : g < ge := by have := D5'.out.lt; omega
      have hgsg : gs < ge := by have := BS5.out.lt; omega
      clear hb6 BS5 D5' HW5
      go_wp2_with fail
      refine (num_any w6 0).mono ?_
      rintro e w' ⟨rfl, rfl⟩
      go_wp2_with fail
      refine (lenL_any w6 ge xs E6).mono ?_
      rintro e w' ⟨rfl, rfl⟩
      rw [hx1]
      go_wp2_with fail
      refine (SUM.out w6 ge xs hW6 E6).mono ?_
      rintro e w7 ⟨rfl, hb7⟩
      have bS7 := bS6.on hb7
      have D7 := D6.below hb7
      have E7 := E6.below hb7
      have hW7 := hW6.trans (hb7.mono hW6.size)
      clear bS6 D6 E6 hW6 hb7
      go_wp2_with fail
      refine (SUM.out w7 g xs hW7 D7).mono ?_
      rintro e w8 ⟨rfl, hb8⟩
      have bS8 := bS7.on hb8
      have D8 := D7.below hb8
      have E8 := E7.below hb8
      have hW8 := hW7.trans (hb8.mono hW7.size)
      clear bS7 D7 E7 hW7 hb8
      go_wp2_with fail
      have hlen : (xs ++ ys).length = n + m := by rw [List.length_append, hx1, hy1]
      refine (addL_any w8 (TW.out w8 hW8).1 (TW.out w8 hW8).2 g xs D8 am m cm ys hy1 (hy3.below hW8) (by omega) (by omega)).mono ?_
      rintro e w9 ⟨rfl, D9, hb9⟩
      have bS9 := hb9.blk bS8 (by omega)
      have E9 := E8.but hb9 (by omega)
      have hW9 := hW8.trans (hb9.below hg hW8.size)
      clear bS8 D8 E8 hW8 hb9
      go_wp2_with fail
      refine (addL_any w9 (TW.out w9 hW9).1 (TW.out w9 hW9).2 ge xs E9 am m cm ys hy1 (hy3.below hW9) (by omega) (by omega)).mono ?_
      rintro e w10 ⟨rfl, E10, hb10⟩
      have bS10 := hb10.blk bS9 (by omega)
      have D10 := D9.but hb10 (by omega)
      have hW10 := hW9.trans (hb10.below (by omega) hW9.size)
      clear bS9 D9 E9 hW9 hb10 e1
      have e1 := eq27 (sumW (xs ++ ys)) (sumW (xs ++ ys)) (sumW_length _) (sumW_length _)
      rw [decide_eq_true rfl] at e1
      have e2 := eq40 (saveOf (xs ++ ys)) (saveOf (xs ++ ys)) (saveOf_length _) (saveOf_length _)
      rw [decide_eq_true rfl] at e2
      go_wp2_with fail
      refine (saveOfL_any w10 g _ D10).mono ?_
      rintro e w11 ⟨rfl, hb11⟩
      have bS11 := bS10.on hb11
      have D11 := D10.below hb11
      have E11 := E10.below hb11
      have hW11 := hW10.trans (hb11.mono hW10.size)
      clear bS10 D10 E10 hW10 hb11
      go_wp2_with fail
      refine (saveOfL_any w11 ge _ E11).mono ?_
      rintro e w12 ⟨rfl, hb12⟩
      have bS12 := bS11.on hb12
      have D12 := D11.below hb12
      have E12 := E11.below hb12
      have hW12 := hW11.trans (hb12.mono hW11.size)
      clear bS11 D11 E11 hW11 hb12
      generalize saveOf (xs ++ ys) = SX at *
      go_wp2_with fail
      refine (SUM.out w12 g _ hW12 D12).mono ?_
      rintro e w13 ⟨rfl, hb13⟩
      have bS13 := bS12.on hb13
      have E13 := E12.below hb13
      have hW13 := hW12.trans (hb13.mono hW12.size)
      clear bS12 D12 E12 hW12 hb13
      go_wp2_with fail
      refine (SUM.out w13 ge _ hW13 E13).mono ?_
      rintro e w14 ⟨rfl, hb14⟩
      have bS14 := bS13.on hb14
      have hW14 := hW13.trans (hb14.mono hW13.size)
      clear bS13 E13 hW13 hb14
      generalize sumW (xs ++ ys) = SM at *
      clear hlen hgg hgsg hge hgs
      have BS14 : Hid (Blk w14 gs .u32 40 SL) := bS14
      have HW14 : Hid (Below W.heap.size W w14) := hW14
      clear bS14 hW14
      have i2 := I2.out
      have i3 : (t : Int) ≤ 15 := by omega
      have BN : Hid (Blk (w14.alloc (Obj.cells (List.map (Value.int IntKind.u32) Z).toArray 40)) w14.heap.size .u32 40 Z) := Blk.new w14 .u32 40 Z
      go_wp2_with (first | (refine wpList_load_blk rfl 40 _ rfl gs SL rfl BS14.out Tryd.underlying40 zS ?_) | (refine wpList_store_but rfl 40 _ _ rfl w14.heap.size SL rfl rfl BN.out zS (by rw [hZl, hSl]) ?_; intro w15 bB hw15 hs15))
      have hal15 : Below w14.heap.size w14 (w14.alloc (Obj.cells (List.map (Value.int IntKind.u32) Z).toArray 40)) := below_one _ _
      have hb15 : Below w14.heap.size w14 w15 := hal15.trans (hw15.below (Nat.le_refl _) (by simp))
      have bS15 := BS14.out.on hb15
      have hW15 := HW14.out.trans (hb15.mono HW14.out.size)
      have hgb : gs < w14.heap.size := BS14.out.lt
      clear hal15 hw15 hs15 hb15 BS14 HW14 BN e1 e2
      generalize w14.heap.size = gb at *
      refine (cut_any w15 at' (15 - (t : Int)) (by omega) (by omega)).mono ?_
      rintro e w' ⟨⟨r, hr, rfl⟩, rfl⟩
      obtain ⟨k, hk⟩ : ∃ k, k = 10 + t + r := ⟨_, rfl⟩
      have hk26 : k < 26 := by omega
      have u1 : (10 : Int) + (t : Int) + (r : Int) = (k : Int) := by omega
      have u2 : (k : Int) < 26 := by omega
      have ck := bB.cell k (by omega)
      rw [szero k (by omega)] at ck
      have fk := bB.free k
      have NO1 : Hid (¬ LoadOk (SL.set k 1)) := by
        rw [← hSO]
        refine bad_no xs k (by omega) hk26 ?_
        rw [hSO]
        exact szero k (by omega)
      have BB1 : Hid (Blk (w15.setCell ⟨gb, k, none⟩ (.int .u32 1)) gb .u32 40 (SL.set k 1)) := bB.set k 1
      have BS1 : Hid (Blk (w15.setCell ⟨gb, k, none⟩ (.int .u32 1)) gs .u32 40 SL) := bS15.other _ (by omega)
      have HW1 : Hid (Below W.heap.size W (w15.setCell ⟨gb, k, none⟩ (.int .u32 1))) := hW15.setCell (show W.heap.size ≤ gb by omega) _
      clear bB bS15 hW15 hk
      go_wp2_with fail
      refine (loadNo_any _ gb (SL.set k 1) (wds_set wS k 1 (by decide) (by decide)) (by rw [List.length_set]; exact hSl) BB1.out NO1.out).mono ?_
      rintro e w17 ⟨rfl, hb17⟩
      have bS17 := BS1.out.on hb17
      have hW17 := HW1.out.trans (hb17.mono HW1.out.size)
      clear hb17 BS1 BB1 HW1 NO1 ck fk u1 u2
      have BS17 : Hid (Blk w17 gs .u32 40 SL) := bS17
      have HW17 : Hid (Below W.heap.size W w17) := hW17
      have BN : Hid (Blk (w17.alloc (Obj.cells (List.map (Value.int IntKind.u32) Z).toArray 40)) w17.heap.size .u32 40 Z) := Blk.new w17 .u32 40 Z
      clear bS17 hW17
      go_wp2_with (first | (refine wpList_load_blk rfl 40 _ rfl gs SL rfl BS17.out Tryd.underlying40 zS ?_) | (refine wpList_store_but rfl 40 _ _ rfl w17.heap.size SL rfl rfl BN.out zS (by rw [hZl, hSl]) ?_; intro w18 bF hw18 hs18))
      have hal18 : Below w17.heap.size w17 (w17.alloc (Obj.cells (List.map (Value.int IntKind.u32) Z).toArray 40)) := below_one _ _
      have hb18 : Below w17.heap.size w17 w18 := hal18.trans (hw18.below (Nat.le_refl _) (by simp))
      have bS18 := BS17.out.on hb18
      have hW18 := HW17.out.trans (hb18.mono HW17.out.size)
      have hgf : gs < w17.heap.size := BS17.out.lt
      clear hal18 hw18 hs18 hb18 BS17 HW17 BN
      generalize w17.heap.size = gf at *
      refine (cut_any w18 at' 1048576 (by decide) (by decide)).mono ?_
      rintro e w' ⟨⟨r2, hr2, rfl⟩, rfl⟩
      have u1 : IntKind.u32.wrap (r2 : Int) = (r2 : Int) := by rw [IntKind.wrap_u32]; omega
      have u2 : IntKind.u32.wrap (8388608 + (r2 : Int)) = 8388608 + (r2 : Int) := by rw [IntKind.wrap_u32]; omega
      have c8 := bF.cell 8 (by omega)
      have f8 := bF.free 8
      have bF1 := bF.set 8 (8388608 + (r2 : Int))
      have c9 := bF1.cell 9 (by rw [List.length_set]; omega)
      rw [getD_set_ne (by decide), s9] at c9
      have f9 := bF1.free 9
      obtain ⟨x9, hx9⟩ : ∃ x9, bits .or .u32 (n : Int) 1 = x9 := ⟨_, rfl⟩
      have x9b : 1 ≤ x9 ∧ x9 < 4294967296 := by
        have h9 := u32_or_nat n 1 (by omega) (by decide)
        rw [show ((1 : Nat) : Int) = 1 from rfl] at h9
        have h9b : n ||| 1 < 2 ^ 32 := Nat.or_lt_two_pow (by omega) (by decide)
        have h9a : n ||| 1 ≠ 0 := by rw [Ne, Nat.or_eq_zero_iff]; omega
        rw [← hx9, h9]
        omega
      have NO2 : Hid (¬ LoadOk ((SL.set 8 (8388608 + (r2 : Int))).set 9 x9)) := far_no SL _ _ hSl (by omega) (by omega)
      have BF2 : Hid (Blk ((w18.setCell ⟨gf, 8, none⟩ (.int .u32 (8388608 + (r2 : Int)))).setCell ⟨gf, 9, none⟩ (.int .u32 x9)) gf .u32 40 ((SL.set 8 (8388608 + (r2 : Int))).set 9 x9)) := bF1.set 9 x9
      have WF : Hid (Wds ((SL.set 8 (8388608 + (r2 : Int))).set 9 x9)) := wds_set (wds_set wS 8 _ (by omega) (by omega)) 9 _ (by omega) (by omega)
      have BS2 : Hid (Blk ((w18.setCell ⟨gf, 8, none⟩ (.int .u32 (8388608 + (r2 : Int)))).setCell ⟨gf, 9, none⟩ (.int .u32 x9)) gs .u32 40 SL) := (bS18.other _ (by omega)).other _ (by omega)
      have HW2 : Hid (Below W.heap.size W ((w18.setCell ⟨gf, 8, none⟩ (.int .u32 (8388608 + (r2 : Int)))).setCell ⟨gf, 9, none⟩ (.int .u32 x9))) := (hW18.setCell (show W.heap.size ≤ gf by omega) _).setCell (show W.heap.size ≤ gf by omega) _
      generalize SL.getD 8 0 = y8 at *
      clear bF bF1 bS18 hW18 x9b
      go_wp2_with fail
      refine (loadNo_any _ gf _ WF.out (by rw [List.length_set, List.length_set]; exact hSl) BF2.out NO2.out).mono ?_
      rintro e w20 ⟨rfl, hb20⟩
      have hW20 := HW2.out.trans (hb20.mono HW2.out.size)
      clear hb20 WF BF2 NO2 BS2 HW2 c8 c9 f8 f9 u1 u2
      go_wp2_with fail
      refine (load_len w20 (some ⟨gs, 0, none⟩) 25 26 (by decide)).mono ?_
      rintro e w' ⟨rfl, rfl⟩
      go_wp2_with fail
      refine (num_any w20 20).mono ?_
      rintro e w' ⟨rfl, rfl⟩
      go_wp2_with fail
      refine (num_any w20 20).mono ?_
      rintro e w' ⟨rfl, rfl⟩
      go_wp2_with fail
      refine (num_any w20 20).mono ?_
      rintro e w' ⟨rfl, rfl⟩
      have HB : Hid (Below W.heap.size W w20) := hW20
      clear hW20
      go_wp2
      go_ret
      exact ⟨rfl, HB.out⟩
end Go.Proofs.YtjkkelkblccolaaDoor
