import Derived.Test.YtjkkelkblccolaaDoorBLoads
namespace Go.Proofs.YtjkkelkblccolaaDoor
open Go.RowKit
attribute [-simp] Tryd.isAgg59 Tryd.sizeOf59 Tryd.zeroValue59 Tryd.isAgg27 Tryd.sizeOf27 Tryd.zeroValue27 Tryd.isAgg62 Tryd.sizeOf62 Tryd.zeroValue62 Tryd.isAgg40 Tryd.sizeOf40 Tryd.zeroValue40
set_option maxRecDepth 20000 in
set_option maxHeartbeats 8000000 in
theorem step7 (W w0 : World) (_ : Tab W) (_ : TabR W) (_ : 2 < W.heap.size) (gb : Nat) (ps : List Value) (rs : List (List Value)) (B0 : Ben W w0 gb 6 ps rs) (d nn : Int) (aw : Option Addr) (m cw : Nat) (xs : List Int) (hx : xs.length = m) (wx : Wds xs) (hat : At W .u32 aw xs) (hm : 4 * m ≤ 140737488351232) :
    Calls Tryd.prog 35 #[.pointer (some ⟨gb, 0, none⟩), .agg #[.int .i64 7, .int .i64 d, .int .i64 nn, .slice aw m cw]] w0 fun e w => e = .returned (.bool true) ∧ ∃ ps' rs', Ben W w gb 6 ps' rs' := by
  have HX : Hid (At W .u32 aw xs) := hat
  have HWX : Hid (Wds xs) := wx
  have i1 : (m : Int) ≤ 35184372087808 := by omega
  have z59 := Tryd.sizeOf59
  obtain ⟨k, hkd⟩ : ∃ k, k = sl d := ⟨_, rfl⟩
  have hk : k < 6 := by rw [hkd]; exact sl_lt d
  obtain ⟨j, hjd⟩ : ∃ j, j = sl nn := ⟨_, rfl⟩
  have hj : j < 6 := by rw [hjd]; exact sl_lt nn
  have i2 : (k : Int) < 6 := by omega
  have i3 : (j : Int) < 6 := by omega
  have HKD : Hid (k = sl d) := hkd
  have HJD : Hid (j = sl nn) := hjd
  have S1 : Hid (∀ w, Calls Tryd.prog 49 #[.int .i64 d] w fun e w' => e = .returned (.int .i64 (k : Int)) ∧ w = w') := fun w => by rw [hkd]; exact slot_any w d
  have S2 : Hid (∀ w, Calls Tryd.prog 49 #[.int .i64 nn] w fun e w' => e = .returned (.int .i64 (j : Int)) ∧ w = w') := fun w => by rw [hjd]; exact slot_any w nn
  clear hat wx hkd hjd
  obtain ⟨w1, hw1⟩ : ∃ w1, w1 = w0.alloc (Obj.cells #[.int .i64 7, .int .i64 d, .int .i64 nn, .slice aw m cw] 65) := ⟨_, rfl⟩
  obtain ⟨go, hgo⟩ : ∃ go, go = w0.heap.size := ⟨_, rfl⟩
  have CO : Cel w1 go 65 [.int .i64 7, .int .i64 d, .int .i64 nn, .slice aw m cw] := by rw [hw1, hgo]; exact heap_alloc_new _ _
  have hb01 : Below w0.heap.size w0 w1 := by rw [hw1]; exact below_one _ _
  have B := B0.below hb01
  have BD := B.pl
  have HB : Hid (Ben W w1 gb 6 ps rs) := B
  have HCO : Hid (Cel w1 go 65 [.int .i64 7, .int .i64 d, .int .i64 nn, .slice aw m cw]) := CO
  have HG0 : Hid (Below w0.heap.size w0 w1 ∧ go = w0.heap.size) := ⟨hb01, hgo⟩
  have o0 := CO.cell 0
  have o1 := CO.cell 1
  have o2 := CO.cell 2
  have o3 := CO.cell 3
  simp only [List.getElem?_cons_zero, List.getElem?_cons_succ] at o0 o1 o2 o3
  go_enter Tryd.func35, Tryd.ntmps35
  go_wp2_with fail
  rw [← hw1, ← hgo]
  clear hb01 B CO hw1 hgo
  refine (S1.out _).mono ?_
  rintro e w' ⟨rfl, rfl⟩
  go_wp2_with fail
  refine (S2.out _).mono ?_
  rintro e w' ⟨rfl, rfl⟩
  go_wp2_with fail
  have hat1 := HX.out.below HB.out.low
  have HL : Hid (Calls Tryd.prog 54 #[.pointer (some ⟨gb, 0, none⟩), .int .i64 (k : Int), .slice aw m cw] w1 fun e w => e = .returned (.bool true) ∧ ∃ ps' rs', Ben W w gb 6 ps' rs') := by
    by_cases hok : m = 26 ∧ LoadOk xs
    · exact loads_yes W w1 gb k ps rs HB.out aw m cw xs hx HWX.out hat1 hk hok.1 hok.2
    · refine (loads_no W w1 gb k ps rs HB.out aw m cw xs hx HWX.out hat1 hm hok).mono ?_
      rintro e w ⟨rfl, h⟩
      exact ⟨rfl, ps, rs, h⟩
  refine HL.out.mono ?_
  rintro e w2 ⟨rfl, h⟩
  have HH : Hid (∃ ps' rs', Ben W w2 gb 6 ps' rs') := h
  clear h hat1
  go_wp2
  go_ret
  exact ⟨rfl, HH.out⟩
set_option maxRecDepth 20000 in
set_option maxHeartbeats 8000000 in
theorem step8 (W w0 : World) (_ : Tab W) (_ : TabR W) (_ : 2 < W.heap.size) (gb : Nat) (ps : List Value) (rs : List (List Value)) (B0 : Ben W w0 gb 6 ps rs) (d nn : Int) (aw : Option Addr) (m cw : Nat) (xs : List Int) (hx : xs.length = m) (wx : Wds xs) (hat : At W .u32 aw xs) (hm : 4 * m ≤ 140737488351232) :
    Calls Tryd.prog 35 #[.pointer (some ⟨gb, 0, none⟩), .agg #[.int .i64 8, .int .i64 d, .int .i64 nn, .slice aw m cw]] w0 fun e w => e = .returned (.bool true) ∧ ∃ ps' rs', Ben W w gb 6 ps' rs' := by
  have HX : Hid (At W .u32 aw xs) := hat
  have HWX : Hid (Wds xs) := wx
  have i1 : (m : Int) ≤ 35184372087808 := by omega
  have z59 := Tryd.sizeOf59
  obtain ⟨k, hkd⟩ : ∃ k, k = sl d := ⟨_, rfl⟩
  have hk : k < 6 := by rw [hkd]; exact sl_lt d
  obtain ⟨j, hjd⟩ : ∃ j, j = sl nn := ⟨_, rfl⟩
  have hj : j < 6 := by rw [hjd]; exact sl_lt nn
  have i2 : (k : Int) < 6 := by omega
  have i3 : (j : Int) < 6 := by omega
  have HKD : Hid (k = sl d) := hkd
  have HJD : Hid (j = sl nn) := hjd
  have S1 : Hid (∀ w, Calls Tryd.prog 49 #[.int .i64 d] w fun e w' => e = .returned (.int .i64 (k : Int)) ∧ w = w') := fun w => by rw [hkd]; exact slot_any w d
  have S2 : Hid (∀ w, Calls Tryd.prog 49 #[.int .i64 nn] w fun e w' => e = .returned (.int .i64 (j : Int)) ∧ w = w') := fun w => by rw [hjd]; exact slot_any w nn
  clear hat wx hkd hjd
  obtain ⟨w1, hw1⟩ : ∃ w1, w1 = w0.alloc (Obj.cells #[.int .i64 8, .int .i64 d, .int .i64 nn, .slice aw m cw] 65) := ⟨_, rfl⟩
  obtain ⟨go, hgo⟩ : ∃ go, go = w0.heap.size := ⟨_, rfl⟩
  have CO : Cel w1 go 65 [.int .i64 8, .int .i64 d, .int .i64 nn, .slice aw m cw] := by rw [hw1, hgo]; exact heap_alloc_new _ _
  have hb01 : Below w0.heap.size w0 w1 := by rw [hw1]; exact below_one _ _
  have B := B0.below hb01
  have BD := B.pl
  have HB : Hid (Ben W w1 gb 6 ps rs) := B
  have HCO : Hid (Cel w1 go 65 [.int .i64 8, .int .i64 d, .int .i64 nn, .slice aw m cw]) := CO
  have HG0 : Hid (Below w0.heap.size w0 w1 ∧ go = w0.heap.size) := ⟨hb01, hgo⟩
  have o0 := CO.cell 0
  have o1 := CO.cell 1
  have o2 := CO.cell 2
  have o3 := CO.cell 3
  simp only [List.getElem?_cons_zero, List.getElem?_cons_succ] at o0 o1 o2 o3
  go_enter Tryd.func35, Tryd.ntmps35
  go_wp2_with fail
  rw [← hw1, ← hgo]
  clear hb01 B CO hw1 hgo
  refine (S1.out _).mono ?_
  rintro e w' ⟨rfl, rfl⟩
  go_wp2_with fail
  refine (S2.out _).mono ?_
  rintro e w' ⟨rfl, rfl⟩
  obtain ⟨g, A, n, p, ao, c, hp, D, hr, hc, wat, wp⟩ := HB.out.slot j hj
  have cpj : w1.cell? ⟨gb, j, none⟩ = some (.pointer (some ⟨g, 0, none⟩)) := by
    rw [HB.out.cel.cell j, ben_ptr HB.out.pl j hj, hp]
  obtain ⟨Z, hZ⟩ : ∃ Z : List Int, Z = List.replicate 26 0 := ⟨_, rfl⟩
  have hZl : Z.length = 26 := by rw [hZ]; simp
  have hz : ∀ w, (zeroValue 40).run Tryd.prog w = .ok (.agg (Z.map (Value.int .u32)).toArray) w := fun w => by rw [Tryd.zeroValue40, hZ]; rfl
  obtain ⟨M, hM⟩ : ∃ M, M = saveL A n p := ⟨_, rfl⟩
  have hpk : p.length < 16 := by rw [D.pl]; omega
  have hMl : M.length = 26 := by rw [hM]; exact saveL_length A n p D.al (by omega)
  have WM : Hid (Wds M) := by
    unfold Hid
    rw [hM]
    refine wds_append (wds_append wp.2 fun i => ?_) (wds_append wp.1 (wds_zeros _))
    have := D.nl
    match i with
    | 0 => simp; omega
    | 1 => simp; omega
    | i + 2 => simp
  have C21 : Hid (Calls Tryd.prog 21 #[.pointer (some ⟨g, 0, none⟩)] w1 fun e w => e = .returned (.agg (M.map (Value.int .u32)).toArray) ∧ Below w1.heap.size w1 w) := by rw [hM]; exact save_any w1 g A n p D
  have e1 := eq40 M M hMl hMl
  rw [decide_eq_true rfl] at e1
  have HD : Hid (Dig w1 g A n p ∧ Wat w1 ao p ∧ rs[j]? = some (rdC A (.slice ao p.length c) (n : Int))) := ⟨D, wat, hr⟩
  have HM : Hid (M = saveL A n p) := hM
  have Dal := D.al
  have Dnl := D.nl
  have zM : (Tryd.prog.info? 40).map (·.size) = some M.length := by rw [hMl]; exact size40
  clear D wat hr hp hc wp hM hZ
  go_wp2_with fail
  refine C21.out.mono ?_
  rintro e w2 ⟨rfl, hb2⟩
  have BN : Hid (Blk (w2.alloc (Obj.cells (List.map (Value.int IntKind.u32) Z).toArray 40)) w2.heap.size .u32 40 Z) := Blk.new w2 .u32 40 Z
  go_upto_region 32 with (first | (refine wpList_store_but rfl 40 _ _ rfl w2.heap.size M rfl rfl BN.out zM (by rw [hZl, hMl]) ?_; intro w3 bM hw3 hs3))
  simp only [Act.put]
  have hb23 : Below w2.heap.size w2 w3 := (below_one w2 _).trans (hw3.below (Nat.le_refl _) (by simp))
  have hb3 := hb2.trans (hb23.mono hb2.size)
  have B3 := HB.out.below hb3
  clear hb23 hw3 hs3 BN hb2
  generalize w2.heap.size = gs at *
  obtain ⟨D1, wat1, hr1⟩ := HD.out
  have hgl := B3.cel.lt
  have rR0 : ∀ w, Below w3.heap.size w3 w → w.rangeAt gb (6 + j * 10) (rdC A (.slice ao p.length c) (n : Int)) := fun w hw t v hv => by
    have ht : t < 10 := by
      rcases Nat.lt_or_ge t 10 with h | h
      · exact h
      · rw [List.getElem?_eq_none (by rw [rdC_length _ _ _ Dal]; exact h)] at hv; cases hv
    rw [(B3.cel.below hw hgl).cell, show 6 + j * 10 + t = 6 + 10 * j + t by omega, ben_range B3.pl B3.ten j _ hr1 t ht, hv]
  have C53' : ∀ w, Below w3.heap.size w3 w → Calls Tryd.prog 53 #[.agg (rdC A (.slice ao p.length c) (n : Int)).toArray] w fun e w' => e = .returned (.agg (M.map (Value.int .u32)).toArray) ∧ Below w3.heap.size w3 w' := fun w hw => by
    refine (rdsave_any w A Dal ao p.length c n Dnl p rfl hpk ((wat1.below hb3).below hw).at).mono ?_
    rintro e w' ⟨rfl, hb⟩
    rw [HM.out]
    exact ⟨rfl, hw.trans (hb.mono hw.size)⟩
  obtain ⟨R, hR'⟩ : ∃ R, R = rdC A (.slice ao p.length c) (n : Int) := ⟨_, rfl⟩
  have hRl : R.length = 10 := by rw [hR']; exact rdC_length _ _ _ Dal
  rw [← hR'] at rR0 C53'
  have rR : Hid (∀ w, Below w3.heap.size w3 w → w.rangeAt gb (6 + j * 10) R) := rR0
  have C53 : Hid (∀ w, Below w3.heap.size w3 w → Calls Tryd.prog 53 #[.agg R.toArray] w fun e w' => e = .returned (.agg (M.map (Value.int .u32)).toArray) ∧ Below w3.heap.size w3 w') := C53'
  have BX : Hid (Below w3.heap.size w3 w3.drew) := (Below.refl _ _).drew
  have BM : Hid (Blk w3 gs .u32 40 M) := bM
  have HB3 : Hid (Ben W w3 gb 6 ps rs) := B3
  have zM' : (Tryd.prog.info? 40).map (·.size) = some (M.map (Value.int .u32)).length := by rw [List.length_map]; exact zM
  clear D1 wat1 hr1 hR' rR0 C53' bM B3 o0 o1 o2 o3 cpj
  refine wp_region_held_drew (S := fun w => Below w3.heap.size w3 w) (by kernel_rfl) BX.out (fun hHeld => ?_)
  refine wpAnyH_take (i := 0) (oi := { dst := some 184, op := Op.load 40 (Operand.tmp 10), type := 40, pos := "law.go:160", after := #[], guard := none }) (v := .agg (M.map (Value.int .u32)).toArray) rfl (by kernel_rfl) (by kernel_rfl) (by kernel_rfl) (fun _ _ _ h => h) (yieldsIf_load_mid (by rfl) _ _ rfl _ _ rfl _ _ (fun w hSw => (BM.out.below hSw BM.out.lt).row.range) Tryd.underlying40 rfl zM') (by assumption) ?_
  simp only [Act.put, List.setIfInBounds_toArray, List.set_cons_zero, List.set_cons_succ]
  refine wpAnyH_take (i := 1) (oi := { dst := some 185, op := Op.move (Operand.tmp 0), type := 56, pos := "law.go:160", after := #[], guard := none }) (v := .pointer (some ⟨gb, 0, none⟩)) rfl (by kernel_rfl) (by kernel_rfl) (by kernel_rfl) (fun _ _ _ h => h) (Or.inl ⟨by rfl, by intro w hSw; go_simp⟩) (by assumption) ?_
  simp only [Act.put, List.setIfInBounds_toArray, List.set_cons_zero, List.set_cons_succ]
  refine wpAnyH_take (i := 2) (oi := { dst := some 186, op := Op.move (Operand.tmp 6), type := 3, pos := "law.go:160", after := #[], guard := none }) (v := .int .i64 (j : Int)) rfl (by kernel_rfl) (by kernel_rfl) (by kernel_rfl) (fun _ _ _ h => h) (Or.inl ⟨by rfl, by intro w hSw; go_simp⟩) (by assumption) ?_
  simp only [Act.put, List.setIfInBounds_toArray, List.set_cons_zero, List.set_cons_succ]
  refine wpAnyH_take (i := 3) (oi := { dst := some 187, op := Op.nilCheck (Operand.tmp 185), type := 0, pos := "law.go:160", after := #[{ on := 1, ground := Ground.data }], guard := none }) (v := .pointer (some ⟨gb, 0, none⟩)) rfl (by kernel_rfl) (by kernel_rfl) (by kernel_rfl) (fun _ _ _ h => h) (Or.inl ⟨by rfl, by intro w hSw; go_simp⟩) (by assumption) ?_
  simp only [Act.put, List.setIfInBounds_toArray, List.set_cons_zero, List.set_cons_succ]
  refine wpAnyH_take (i := 4) (oi := { dst := some 188, op := Op.fieldAddr 62 (Operand.tmp 187) 1, type := 0, pos := "law.go:160", after := #[{ on := 3, ground := Ground.data }], guard := none }) (v := .pointer (some ⟨gb, 6, none⟩)) rfl (by kernel_rfl) (by kernel_rfl) (by kernel_rfl) (fun _ _ _ h => h) (Or.inl ⟨by rfl, by intro w hSw; go_simp⟩) (by assumption) ?_
  simp only [Act.put, List.setIfInBounds_toArray, List.set_cons_zero, List.set_cons_succ]
  refine wpAnyH_take (i := 5) (oi := { dst := some 189, op := Op.indexAddr 60 (Operand.tmp 188) (Operand.tmp 186), type := 0, pos := "law.go:160", after := #[{ on := 4, ground := Ground.data }, { on := 2, ground := Ground.data }], guard := none }) (v := .pointer (some ⟨gb, 6 + j * 10, none⟩)) rfl (by kernel_rfl) (by kernel_rfl) (by kernel_rfl) (fun _ _ _ h => h) (Or.inl ⟨by rfl, by intro w hSw; go_simp⟩) (by assumption) ?_
  simp only [Act.put, List.setIfInBounds_toArray, List.set_cons_zero, List.set_cons_succ]
  refine wpAnyH_take (i := 6) (oi := { dst := some 190, op := Op.load 59 (Operand.tmp 189), type := 59, pos := "law.go:160", after := #[{ on := 5, ground := Ground.data }], guard := none }) (v := .agg R.toArray) rfl (by kernel_rfl) (by kernel_rfl) (by kernel_rfl) (fun _ _ _ h => h) (yieldsIf_load_mid (by rfl) _ _ rfl _ _ rfl R _ (fun w hSw => rR.out w hSw) Tryd.underlying59 rfl (by rw [hRl]; exact size59)) (by assumption) ?_
  simp only [Act.put, List.setIfInBounds_toArray, List.set_cons_zero, List.set_cons_succ]
  refine wpAnyH_ready (rs := [7]) (by kernel_rfl) (by simp) (AllReadyH.cons (o := { dst := some 191, op := Op.call { callee := Callee.value (Operand.func 53), args := #[Operand.tmp 190], argTypes := #[59] }, type := 40, pos := "law.go:160", after := #[{ on := 6, ground := Ground.data }], guard := none }) rfl (fun K hK => ?_) AllReadyH.nil)
  go_simp
  refine (C53.out _ BX.out).mono ?_
  rintro en wa ⟨rfl, hwa⟩
  go_wp2_with fail
  refine hK.out _ _ hwa (fun hHeld => ?_)
  clear hK K
  try simp only [Act.put, List.setIfInBounds_toArray, List.set_cons_zero, List.set_cons_succ]
  refine wpAnyH_take (i := 8) (oi := { dst := some 192, op := Op.binOp BinOp.neq 40 (Operand.tmp 184) (Operand.tmp 191) 40, type := 4, pos := "law.go:160", after := #[{ on := 0, ground := Ground.data }, { on := 7, ground := Ground.data }], guard := none }) (v := .bool false) rfl (by kernel_rfl) (by kernel_rfl) (by kernel_rfl) (fun _ _ _ h => h) (Or.inl ⟨by rfl, by intro w hSw; go_simp⟩) (by assumption) ?_
  simp only [Act.put, List.setIfInBounds_toArray, List.set_cons_zero, List.set_cons_succ]
  refine wpAnyH_done (by kernel_rfl) ?_ _
  have Bx := HB3.out.below hwa
  have bm := BM.out.below hwa BM.out.lt
  have HL : Hid (Calls Tryd.prog 54 #[.pointer (some ⟨gb, 0, none⟩), .int .i64 (k : Int), .slice (some ⟨gs, 0, none⟩) 26 26] wa fun e w => e = .returned (.bool true) ∧ ∃ ps' rs', Ben W w gb 6 ps' rs') := by
    by_cases hok : (26 : Nat) = 26 ∧ LoadOk M
    · exact loads_yes W wa gb k ps rs Bx (some ⟨gs, 0, none⟩) 26 26 M hMl WM.out bm.at hk hok.1 hok.2
    · refine (loads_no W wa gb k ps rs Bx (some ⟨gs, 0, none⟩) 26 26 M hMl WM.out bm.at (by decide) hok).mono ?_
      rintro e w ⟨rfl, h⟩
      exact ⟨rfl, ps, rs, h⟩
  clear Bx bm hwa hHeld
  go_wp2_with fail
  refine HL.out.mono ?_
  rintro e w5 ⟨rfl, h⟩
  have HH : Hid (∃ ps' rs', Ben W w5 gb 6 ps' rs') := h
  clear h
  go_wp2
  go_ret
  exact ⟨rfl, HH.out⟩
set_option maxRecDepth 20000 in
set_option maxHeartbeats 8000000 in
theorem step9 (W w0 : World) (_ : Tab W) (_ : TabR W) (_ : 2 < W.heap.size) (gb : Nat) (ps : List Value) (rs : List (List Value)) (B0 : Ben W w0 gb 6 ps rs) (kd d nn : Int) (aw : Option Addr) (m cw : Nat) (xs : List Int) (_ : xs.length = m) (wx : Wds xs) (hat : At W .u32 aw xs) (_ : 4 * m ≤ 140737488351232) (hkd' : kd ≠ 1 ∧ kd ≠ 2 ∧ kd ≠ 3 ∧ kd ≠ 4 ∧ kd ≠ 5 ∧ kd ≠ 6 ∧ kd ≠ 7 ∧ kd ≠ 8) :
    Calls Tryd.prog 35 #[.pointer (some ⟨gb, 0, none⟩), .agg #[.int .i64 kd, .int .i64 d, .int .i64 nn, .slice aw m cw]] w0 fun e w => e = .returned (.bool true) ∧ ∃ ps' rs', Ben W w gb 6 ps' rs' := by
  have HX : Hid (At W .u32 aw xs) := hat
  have HWX : Hid (Wds xs) := wx
  have z59 := Tryd.sizeOf59
  obtain ⟨k, hkd⟩ : ∃ k, k = sl d := ⟨_, rfl⟩
  have hk : k < 6 := by rw [hkd]; exact sl_lt d
  obtain ⟨j, hjd⟩ : ∃ j, j = sl nn := ⟨_, rfl⟩
  have hj : j < 6 := by rw [hjd]; exact sl_lt nn
  have i2 : (k : Int) < 6 := by omega
  have i3 : (j : Int) < 6 := by omega
  have HKD : Hid (k = sl d) := hkd
  have HJD : Hid (j = sl nn) := hjd
  have S1 : Hid (∀ w, Calls Tryd.prog 49 #[.int .i64 d] w fun e w' => e = .returned (.int .i64 (k : Int)) ∧ w = w') := fun w => by rw [hkd]; exact slot_any w d
  have S2 : Hid (∀ w, Calls Tryd.prog 49 #[.int .i64 nn] w fun e w' => e = .returned (.int .i64 (j : Int)) ∧ w = w') := fun w => by rw [hjd]; exact slot_any w nn
  clear hat wx hkd hjd
  obtain ⟨w1, hw1⟩ : ∃ w1, w1 = w0.alloc (Obj.cells #[.int .i64 kd, .int .i64 d, .int .i64 nn, .slice aw m cw] 65) := ⟨_, rfl⟩
  obtain ⟨go, hgo⟩ : ∃ go, go = w0.heap.size := ⟨_, rfl⟩
  have CO : Cel w1 go 65 [.int .i64 kd, .int .i64 d, .int .i64 nn, .slice aw m cw] := by rw [hw1, hgo]; exact heap_alloc_new _ _
  have hb01 : Below w0.heap.size w0 w1 := by rw [hw1]; exact below_one _ _
  have B := B0.below hb01
  have BD := B.pl
  have HB : Hid (Ben W w1 gb 6 ps rs) := B
  have HCO : Hid (Cel w1 go 65 [.int .i64 kd, .int .i64 d, .int .i64 nn, .slice aw m cw]) := CO
  have HG0 : Hid (Below w0.heap.size w0 w1 ∧ go = w0.heap.size) := ⟨hb01, hgo⟩
  have o0 := CO.cell 0
  have o1 := CO.cell 1
  have o2 := CO.cell 2
  have o3 := CO.cell 3
  simp only [List.getElem?_cons_zero, List.getElem?_cons_succ] at o0 o1 o2 o3
  go_enter Tryd.func35, Tryd.ntmps35
  go_wp2_with fail
  rw [← hw1, ← hgo]
  clear hb01 B CO hw1 hgo
  refine (S1.out _).mono ?_
  rintro e w' ⟨rfl, rfl⟩
  go_wp2_with fail
  refine (S2.out _).mono ?_
  rintro e w' ⟨rfl, rfl⟩
  obtain ⟨n1, n2, n3, n4, n5, n6, n7, n8⟩ := hkd'
  have e1 : (kd == 1) = false := by simpa using n1
  have e2 : (kd == 2) = false := by simpa using n2
  have e3 : (kd == 3) = false := by simpa using n3
  have e4 : (kd == 4) = false := by simpa using n4
  have e5 : (kd == 5) = false := by simpa using n5
  have e6 : (kd == 6) = false := by simpa using n6
  have e7 : (kd == 7) = false := by simpa using n7
  have e8 : (kd == 8) = false := by simpa using n8
  clear n1 n2 n3 n4 n5 n6 n7 n8
  have HH : Hid (∃ ps' rs', Ben W w1 gb 6 ps' rs') := ⟨ps, rs, HB.out⟩
  go_wp2
  go_ret
  exact ⟨rfl, HH.out⟩
end Go.Proofs.YtjkkelkblccolaaDoor
