import Derived.Test.YtjkkelkblccolaaDoorBLoads
namespace Go.Proofs.YtjkkelkblccolaaDoor
open Go.RowKit
attribute [-simp] Tryd.isAgg59 Tryd.sizeOf59 Tryd.zeroValue59 Tryd.isAgg27 Tryd.sizeOf27 Tryd.zeroValue27 Tryd.isAgg62 Tryd.sizeOf62 Tryd.zeroValue62 Tryd.isAgg40 Tryd.sizeOf40 Tryd.zeroValue40
set_option maxRecDepth 20000 in
set_option maxHeartbeats 8000000 in
theorem step3 (W w0 : World) (hT : Tab W) (hR : TabR W) (h2 : 2 < W.heap.size) (gb : Nat) (ps : List Value) (rs : List (List Value)) (B0 : Ben W w0 gb 6 ps rs) (d nn : Int) (aw : Option Addr) (m cw : Nat) (xs : List Int) (hx : xs.length = m) (wx : Wds xs) (hat : At W .u32 aw xs) (hm : 4 * m ≤ 140737488351232) :
    Calls Tryd.prog 35 #[.pointer (some ⟨gb, 0, none⟩), .agg #[.int .i64 3, .int .i64 d, .int .i64 nn, .slice aw m cw]] w0 fun e w => e = .returned (.bool true) ∧ ∃ ps' rs', Ben W w gb 6 ps' rs' := by
  have HX : Hid (At W .u32 aw xs) := hat
  have HWX : Hid (Wds xs) := wx
  have i1 : (m : Int) ≤ 35184372087808 := by omega
  have z59 := Tryd.sizeOf59
  obtain ⟨k, hkd⟩ : ∃ k, k = sl d := ⟨_, rfl⟩
  have hk : k < 6 := by rw [hkd]; exact sl_lt d
  obtain ⟨j, hjd⟩ : ∃ j, j = sl nn := ⟨_, rfl⟩
  have hj : j < 6 := by rw [hjd]; exact sl_lt nn
  have i2 : (k : Int) < 6 := by omega
  have i3 : (j : Int) < 6 := by omega
  have HKD : Hid (k = sl d) := hkd
  have HJD : Hid (j = sl nn) := hjd
  have S1 : Hid (∀ w, Calls Tryd.prog 49 #[.int .i64 d] w fun e w' => e = .returned (.int .i64 (k : Int)) ∧ w = w') := fun w => by rw [hkd]; exact slot_any w d
  have S2 : Hid (∀ w, Calls Tryd.prog 49 #[.int .i64 nn] w fun e w' => e = .returned (.int .i64 (j : Int)) ∧ w = w') := fun w => by rw [hjd]; exact slot_any w nn
  clear hat wx hkd hjd
  obtain ⟨w1, hw1⟩ : ∃ w1, w1 = w0.alloc (Obj.cells #[.int .i64 3, .int .i64 d, .int .i64 nn, .slice aw m cw] 65) := ⟨_, rfl⟩
  obtain ⟨go, hgo⟩ : ∃ go, go = w0.heap.size := ⟨_, rfl⟩
  have CO : Cel w1 go 65 [.int .i64 3, .int .i64 d, .int .i64 nn, .slice aw m cw] := by rw [hw1, hgo]; exact heap_alloc_new _ _
  have hb01 : Below w0.heap.size w0 w1 := by rw [hw1]; exact below_one _ _
  have B := B0.below hb01
  have BD := B.pl
  have HB : Hid (Ben W w1 gb 6 ps rs) := B
  have HCO : Hid (Cel w1 go 65 [.int .i64 3, .int .i64 d, .int .i64 nn, .slice aw m cw]) := CO
  have HG0 : Hid (Below w0.heap.size w0 w1 ∧ go = w0.heap.size) := ⟨hb01, hgo⟩
  have o0 := CO.cell 0
  have o1 := CO.cell 1
  have o2 := CO.cell 2
  have o3 := CO.cell 3
  simp only [List.getElem?_cons_zero, List.getElem?_cons_succ] at o0 o1 o2 o3
  go_enter Tryd.func35, Tryd.ntmps35
  go_wp2_with fail
  rw [← hw1, ← hgo]
  clear hb01 B CO hw1 hgo
  refine (S1.out _).mono ?_
  rintro e w' ⟨rfl, rfl⟩
  go_wp2_with fail
  refine (S2.out _).mono ?_
  rintro e w' ⟨rfl, rfl⟩
  obtain ⟨g, A, n, p, ao, c, hp, D, hr, hc, wat, wp⟩ := HB.out.slot k hk
  have hgl := HB.out.cel.lt
  have cp : ∀ w, Below w1.heap.size w1 w → w.cell? ⟨gb, k, none⟩ = some (.pointer (some ⟨g, 0, none⟩)) := fun w hw => by
    rw [(HB.out.cel.below hw hgl).cell k, ben_ptr HB.out.pl k hk, hp]
  have rR : Hid (∀ w, Below w1.heap.size w1 w → w.rangeAt gb (6 + k * 10) (rdC A (.slice ao p.length c) (n : Int))) := fun w hw j v hv => by
    have hj : j < 10 := by
      rcases Nat.lt_or_ge j 10 with h | h
      · exact h
      · rw [List.getElem?_eq_none (by rw [rdC_length _ _ _ D.al]; exact h)] at hv; cases hv
    rw [(HB.out.cel.below hw hgl).cell, show 6 + k * 10 + j = 6 + 10 * k + j by omega, ben_range HB.out.pl HB.out.ten k _ hr j hj, hv]
  have hwk : p.length < 16 := by rw [D.pl]; omega
  have TW : Hid (∀ w, Below w1.heap.size w1 w → Tab w ∧ TabR w ∧ 2 < w.heap.size) := fun w hw => tabBoth hT hR h2 (HB.out.low.trans (hw.mono HB.out.low.size))
  have BX : Hid (Below w1.heap.size w1 w1.drew) := (Below.refl _ _).drew
  have HD : Hid (Dig w1 g A n p) := D
  have HWT : Hid (Wat w1 ao p) := wat
  have HWP : Hid (Wds p) := wp.1
  have Dal := D.al
  have Dnl := D.nl
  have cN : ∀ w, Below w1.heap.size w1 w → w.cell? ⟨gb, 6 + k * 10 + 9, none⟩ = some (.int .i64 (n : Int)) := fun w hw => rR.out w hw 9 _ (by rw [rdC, List.getElem?_append_right (by simp [Dal])]; simp [Dal])
  have L20 : Hid (∀ w, Below w1.heap.size w1 w → Calls Tryd.prog 20 #[.pointer (some ⟨g, 0, none⟩)] w fun e w' => e = .returned (.int .i64 (n : Int)) ∧ w = w') := fun w hw => len_any w g A n p (HD.out.below hw HD.out.lt)
  clear D wat wp hp hr
  go_wp2_with fail
  clear o0 o1 o2 o3
  go_region_held3 (fun w => Below w1.heap.size w1 w) (exact BX.out) (first | (go_at_call 20; refine (L20.out _ BX.out).mono ?_; rintro en w' ⟨rfl, rfl⟩))
  have HH : Hid (∃ ps' rs', Ben W w1.drew gb 6 ps' rs') := ⟨ps, rs, HB.out.below BX.out⟩
  go_wp2
  go_ret
  exact ⟨rfl, HH.out⟩
set_option maxRecDepth 20000 in
set_option maxHeartbeats 8000000 in
theorem step4 (W w0 : World) (hT : Tab W) (hR : TabR W) (h2 : 2 < W.heap.size) (gb : Nat) (ps : List Value) (rs : List (List Value)) (B0 : Ben W w0 gb 6 ps rs) (d nn : Int) (aw : Option Addr) (m cw : Nat) (xs : List Int) (hx : xs.length = m) (wx : Wds xs) (hat : At W .u32 aw xs) (hm : 4 * m ≤ 140737488351232) :
    Calls Tryd.prog 35 #[.pointer (some ⟨gb, 0, none⟩), .agg #[.int .i64 4, .int .i64 d, .int .i64 nn, .slice aw m cw]] w0 fun e w => e = .returned (.bool true) ∧ ∃ ps' rs', Ben W w gb 6 ps' rs' := by
  have HX : Hid (At W .u32 aw xs) := hat
  have HWX : Hid (Wds xs) := wx
  have i1 : (m : Int) ≤ 35184372087808 := by omega
  have z59 := Tryd.sizeOf59
  obtain ⟨k, hkd⟩ : ∃ k, k = sl d := ⟨_, rfl⟩
  have hk : k < 6 := by rw [hkd]; exact sl_lt d
  obtain ⟨j, hjd⟩ : ∃ j, j = sl nn := ⟨_, rfl⟩
  have hj : j < 6 := by rw [hjd]; exact sl_lt nn
  have i2 : (k : Int) < 6 := by omega
  have i3 : (j : Int) < 6 := by omega
  have HKD : Hid (k = sl d) := hkd
  have HJD : Hid (j = sl nn) := hjd
  have S1 : Hid (∀ w, Calls Tryd.prog 49 #[.int .i64 d] w fun e w' => e = .returned (.int .i64 (k : Int)) ∧ w = w') := fun w => by rw [hkd]; exact slot_any w d
  have S2 : Hid (∀ w, Calls Tryd.prog 49 #[.int .i64 nn] w fun e w' => e = .returned (.int .i64 (j : Int)) ∧ w = w') := fun w => by rw [hjd]; exact slot_any w nn
  clear hat wx hkd hjd
  obtain ⟨w1, hw1⟩ : ∃ w1, w1 = w0.alloc (Obj.cells #[.int .i64 4, .int .i64 d, .int .i64 nn, .slice aw m cw] 65) := ⟨_, rfl⟩
  obtain ⟨go, hgo⟩ : ∃ go, go = w0.heap.size := ⟨_, rfl⟩
  have CO : Cel w1 go 65 [.int .i64 4, .int .i64 d, .int .i64 nn, .slice aw m cw] := by rw [hw1, hgo]; exact heap_alloc_new _ _
  have hb01 : Below w0.heap.size w0 w1 := by rw [hw1]; exact below_one _ _
  have B := B0.below hb01
  have BD := B.pl
  have HB : Hid (Ben W w1 gb 6 ps rs) := B
  have HCO : Hid (Cel w1 go 65 [.int .i64 4, .int .i64 d, .int .i64 nn, .slice aw m cw]) := CO
  have HG0 : Hid (Below w0.heap.size w0 w1 ∧ go = w0.heap.size) := ⟨hb01, hgo⟩
  have o0 := CO.cell 0
  have o1 := CO.cell 1
  have o2 := CO.cell 2
  have o3 := CO.cell 3
  simp only [List.getElem?_cons_zero, List.getElem?_cons_succ] at o0 o1 o2 o3
  go_enter Tryd.func35, Tryd.ntmps35
  go_wp2_with fail
  rw [← hw1, ← hgo]
  clear hb01 B CO hw1 hgo
  refine (S1.out _).mono ?_
  rintro e w' ⟨rfl, rfl⟩
  go_wp2_with fail
  refine (S2.out _).mono ?_
  rintro e w' ⟨rfl, rfl⟩
  obtain ⟨g, A, n, p, ao, c, hp, D, hr, hc, wat, wp⟩ := HB.out.slot k hk
  have hgl := HB.out.cel.lt
  have cp : ∀ w, Below w1.heap.size w1 w → w.cell? ⟨gb, k, none⟩ = some (.pointer (some ⟨g, 0, none⟩)) := fun w hw => by
    rw [(HB.out.cel.below hw hgl).cell k, ben_ptr HB.out.pl k hk, hp]
  have rR : Hid (∀ w, Below w1.heap.size w1 w → w.rangeAt gb (6 + k * 10) (rdC A (.slice ao p.length c) (n : Int))) := fun w hw j v hv => by
    have hj : j < 10 := by
      rcases Nat.lt_or_ge j 10 with h | h
      · exact h
      · rw [List.getElem?_eq_none (by rw [rdC_length _ _ _ D.al]; exact h)] at hv; cases hv
    rw [(HB.out.cel.below hw hgl).cell, show 6 + k * 10 + j = 6 + 10 * k + j by omega, ben_range HB.out.pl HB.out.ten k _ hr j hj, hv]
  have hwk : p.length < 16 := by rw [D.pl]; omega
  have TW : Hid (∀ w, Below w1.heap.size w1 w → Tab w ∧ TabR w ∧ 2 < w.heap.size) := fun w hw => tabBoth hT hR h2 (HB.out.low.trans (hw.mono HB.out.low.size))
  have BX : Hid (Below w1.heap.size w1 w1.drew) := (Below.refl _ _).drew
  have HD : Hid (Dig w1 g A n p) := D
  have HWT : Hid (Wat w1 ao p) := wat
  have HWP : Hid (Wds p) := wp.1
  have Dal := D.al
  have Dnl := D.nl
  obtain ⟨M, hM⟩ : ∃ M, M = S.fin A (p ++ [2147483648]) (32 * (n : Int)) := ⟨_, rfl⟩
  have e1 := eq27 M M (by rw [hM]; exact run_length _ _ Dal _) (by rw [hM]; exact run_length _ _ Dal _)
  rw [decide_eq_true rfl] at e1
  have C1 : Hid (∀ w, Below w1.heap.size w1 w → Calls Tryd.prog 16 #[.pointer (some ⟨g, 0, none⟩)] w fun e w' => e = .returned (.agg (M.map (Value.int .u32)).toArray) ∧ Below w1.heap.size w1 w') := fun w hw => by
    refine (dsum_any w (TW.out w hw).1 (TW.out w hw).2.2 g A n p (HD.out.below hw HD.out.lt)).mono ?_
    rintro e w' ⟨rfl, hb⟩
    rw [hM]
    exact ⟨rfl, hw.trans (hb.mono hw.size)⟩
  have C2 : Hid (∀ w, Below w1.heap.size w1 w → Calls Tryd.prog 52 #[.agg (rdC A (.slice ao p.length c) (n : Int)).toArray] w fun e w' => e = .returned (.agg (M.map (Value.int .u32)).toArray) ∧ Below w1.heap.size w1 w') := fun w hw => by
    have hW := HB.out.low.trans (hw.mono HB.out.low.size)
    refine (rdsum_any w (TW.out w hw).2.1 (TW.out w hw).2.2 A Dal ao p.length c n Dnl p rfl hwk HWP.out (HWT.out.below hw).at).mono ?_
    rintro e w' ⟨rfl, hb⟩
    rw [hM]
    exact ⟨rfl, hw.trans (hb.mono hw.size)⟩
  obtain ⟨R, hR'⟩ : ∃ R, R = rdC A (.slice ao p.length c) (n : Int) := ⟨_, rfl⟩
  have u59 := Tryd.underlying59
  have s59 : (Tryd.prog.info? 59).map (·.size) = some R.length := by rw [hR', rdC_length _ _ _ Dal]; exact size59
  rw [← hR'] at rR C2
  clear D wat wp hp hr hM hR'
  go_wp2_with fail
  clear o0 o1 o2 o3
  refine wp_region_held_drew (S := fun w => Below w1.heap.size w1 w) (by kernel_rfl) BX.out (fun hHeld => ?_)
  refine wpAnyH_take (i := 0) (oi := { dst := some 104, op := Op.move (Operand.tmp 0), type := 56, pos := "law.go:149", after := #[], guard := none }) (v := .pointer (some ⟨gb, 0, none⟩)) rfl (by kernel_rfl) (by kernel_rfl) (by kernel_rfl) (fun _ _ _ h => h) (Or.inl ⟨by rfl, by intro w hSw; go_simp⟩) (by assumption) ?_
  simp only [Act.put, List.setIfInBounds_toArray, List.set_cons_zero, List.set_cons_succ]
  refine wpAnyH_take (i := 1) (oi := { dst := some 105, op := Op.move (Operand.tmp 5), type := 3, pos := "law.go:149", after := #[], guard := none }) (v := .int .i64 (k : Int)) rfl (by kernel_rfl) (by kernel_rfl) (by kernel_rfl) (fun _ _ _ h => h) (Or.inl ⟨by rfl, by intro w hSw; go_simp⟩) (by assumption) ?_
  simp only [Act.put, List.setIfInBounds_toArray, List.set_cons_zero, List.set_cons_succ]
  refine wpAnyH_take (i := 2) (oi := { dst := some 106, op := Op.nilCheck (Operand.tmp 104), type := 0, pos := "law.go:149", after := #[{ on := 0, ground := Ground.data }], guard := none }) (v := .pointer (some ⟨gb, 0, none⟩)) rfl (by kernel_rfl) (by kernel_rfl) (by kernel_rfl) (fun _ _ _ h => h) (Or.inl ⟨by rfl, by intro w hSw; go_simp⟩) (by assumption) ?_
  simp only [Act.put, List.setIfInBounds_toArray, List.set_cons_zero, List.set_cons_succ]
  refine wpAnyH_take (i := 3) (oi := { dst := some 107, op := Op.fieldAddr 62 (Operand.tmp 106) 0, type := 0, pos := "law.go:149", after := #[{ on := 2, ground := Ground.data }], guard := none }) (v := .pointer (some ⟨gb, 0, none⟩)) rfl (by kernel_rfl) (by kernel_rfl) (by kernel_rfl) (fun _ _ _ h => h) (Or.inl ⟨by rfl, by intro w hSw; go_simp⟩) (by assumption) ?_
  simp only [Act.put, List.setIfInBounds_toArray, List.set_cons_zero, List.set_cons_succ]
  refine wpAnyH_take (i := 4) (oi := { dst := some 108, op := Op.indexAddr 57 (Operand.tmp 107) (Operand.tmp 105), type := 0, pos := "law.go:149", after := #[{ on := 3, ground := Ground.data }, { on := 1, ground := Ground.data }], guard := none }) (v := .pointer (some ⟨gb, k, none⟩)) rfl (by kernel_rfl) (by kernel_rfl) (by kernel_rfl) (fun _ _ _ h => h) (Or.inl ⟨by rfl, by intro w hSw; go_simp⟩) (by assumption) ?_
  simp only [Act.put, List.setIfInBounds_toArray, List.set_cons_zero, List.set_cons_succ]
  refine wpAnyH_take (i := 5) (oi := { dst := some 109, op := Op.load 33 (Operand.tmp 108), type := 33, pos := "law.go:149", after := #[{ on := 4, ground := Ground.data }], guard := none }) (v := .pointer (some ⟨g, 0, none⟩)) rfl (by kernel_rfl) (by kernel_rfl) (by kernel_rfl) (fun _ _ _ h => h) (Or.inl ⟨by rfl, by intro w hSw; go_simp⟩) (by assumption) ?_
  simp only [Act.put, List.setIfInBounds_toArray, List.set_cons_zero, List.set_cons_succ]
  refine wpAnyH_take (i := 7) (oi := { dst := some 111, op := Op.move (Operand.tmp 0), type := 56, pos := "law.go:149", after := #[], guard := none }) (v := .pointer (some ⟨gb, 0, none⟩)) rfl (by kernel_rfl) (by kernel_rfl) (by kernel_rfl) (fun _ _ _ h => h) (Or.inl ⟨by rfl, by intro w hSw; go_simp⟩) (by assumption) ?_
  simp only [Act.put, List.setIfInBounds_toArray, List.set_cons_zero, List.set_cons_succ]
  refine wpAnyH_take (i := 8) (oi := { dst := some 112, op := Op.move (Operand.tmp 5), type := 3, pos := "law.go:149", after := #[], guard := none }) (v := .int .i64 (k : Int)) rfl (by kernel_rfl) (by kernel_rfl) (by kernel_rfl) (fun _ _ _ h => h) (Or.inl ⟨by rfl, by intro w hSw; go_simp⟩) (by assumption) ?_
  simp only [Act.put, List.setIfInBounds_toArray, List.set_cons_zero, List.set_cons_succ]
  refine wpAnyH_take (i := 9) (oi := { dst := some 113, op := Op.nilCheck (Operand.tmp 111), type := 0, pos := "law.go:149", after := #[{ on := 7, ground := Ground.data }], guard := none }) (v := .pointer (some ⟨gb, 0, none⟩)) rfl (by kernel_rfl) (by kernel_rfl) (by kernel_rfl) (fun _ _ _ h => h) (Or.inl ⟨by rfl, by intro w hSw; go_simp⟩) (by assumption) ?_
  simp only [Act.put, List.setIfInBounds_toArray, List.set_cons_zero, List.set_cons_succ]
  refine wpAnyH_take (i := 10) (oi := { dst := some 114, op := Op.fieldAddr 62 (Operand.tmp 113) 1, type := 0, pos := "law.go:149", after := #[{ on := 9, ground := Ground.data }], guard := none }) (v := .pointer (some ⟨gb, 6, none⟩)) rfl (by kernel_rfl) (by kernel_rfl) (by kernel_rfl) (fun _ _ _ h => h) (Or.inl ⟨by rfl, by intro w hSw; go_simp⟩) (by assumption) ?_
  simp only [Act.put, List.setIfInBounds_toArray, List.set_cons_zero, List.set_cons_succ]
  refine wpAnyH_take (i := 11) (oi := { dst := some 115, op := Op.indexAddr 60 (Operand.tmp 114) (Operand.tmp 112), type := 0, pos := "law.go:149", after := #[{ on := 10, ground := Ground.data }, { on := 8, ground := Ground.data }], guard := none }) (v := .pointer (some ⟨gb, 6 + k * 10, none⟩)) rfl (by kernel_rfl) (by kernel_rfl) (by kernel_rfl) (fun _ _ _ h => h) (Or.inl ⟨by rfl, by intro w hSw; go_simp⟩) (by assumption) ?_
  simp only [Act.put, List.setIfInBounds_toArray, List.set_cons_zero, List.set_cons_succ]
  refine wpAnyH_take (i := 12) (oi := { dst := some 116, op := Op.load 59 (Operand.tmp 115), type := 59, pos := "law.go:149", after := #[{ on := 11, ground := Ground.data }], guard := none }) (v := .agg R.toArray) rfl (by kernel_rfl) (by kernel_rfl) (by kernel_rfl) (fun _ _ _ h => h) (yieldsIf_load_mid (by rfl) _ _ rfl _ _ rfl R _ (fun w hSw => rR.out w hSw) u59 rfl s59) (by assumption) ?_
  simp only [Act.put, List.setIfInBounds_toArray, List.set_cons_zero, List.set_cons_succ]
  refine wpAnyH_ready (rs := [6]) (by kernel_rfl) (by simp) (AllReadyH.cons (o := { dst := some 110, op := Op.call { callee := Callee.value (Operand.func 16), args := #[Operand.tmp 109], argTypes := #[33] }, type := 27, pos := "law.go:149", after := #[{ on := 5, ground := Ground.data }], guard := none }) rfl (fun K hK => ?_) AllReadyH.nil)
  go_simp
  refine (C1.out _ BX.out).mono ?_
  rintro en wa ⟨rfl, hwa⟩
  go_wp2_with fail
  refine hK.out _ _ hwa (fun hHeld => ?_)
  clear hK K
  try simp only [Act.put, List.setIfInBounds_toArray, List.set_cons_zero, List.set_cons_succ]
  refine wpAnyH_ready (rs := [13]) (by kernel_rfl) (by simp) (AllReadyH.cons (o := { dst := some 117, op := Op.call { callee := Callee.value (Operand.func 52), args := #[Operand.tmp 116], argTypes := #[59] }, type := 27, pos := "law.go:149", after := #[{ on := 12, ground := Ground.data }, { on := 6, ground := Ground.chain }], guard := none }) rfl (fun K hK => ?_) AllReadyH.nil)
  go_simp
  refine (C2.out _ hwa).mono ?_
  rintro en wb ⟨rfl, hwb⟩
  go_wp2_with fail
  refine hK.out _ _ hwb (fun hHeld => ?_)
  clear hK K
  try simp only [Act.put, List.setIfInBounds_toArray, List.set_cons_zero, List.set_cons_succ]
  refine wpAnyH_take (i := 14) (oi := { dst := some 118, op := Op.binOp BinOp.eql 27 (Operand.tmp 110) (Operand.tmp 117) 27, type := 4, pos := "law.go:149", after := #[{ on := 6, ground := Ground.data }, { on := 13, ground := Ground.data }], guard := none }) (v := .bool true) rfl (by kernel_rfl) (by kernel_rfl) (by kernel_rfl) (fun _ _ _ h => h) (Or.inl ⟨by rfl, by intro w hSw; go_simp⟩) (by assumption) ?_
  simp only [Act.put, List.setIfInBounds_toArray, List.set_cons_zero, List.set_cons_succ]
  refine wpAnyH_ready (rs := [15]) (by kernel_rfl) (by simp) (AllReadyH.cons (o := { dst := some 4, op := Op.assign (Operand.tmp 118), type := 4, pos := "law.go:149", after := #[{ on := 14, ground := Ground.data }, { on := 13, ground := Ground.chain }, { on := 0, ground := Ground.phase }, { on := 1, ground := Ground.phase }, { on := 2, ground := Ground.phase }, { on := 3, ground := Ground.phase }, { on := 4, ground := Ground.phase }, { on := 5, ground := Ground.phase }, { on := 6, ground := Ground.phase }, { on := 7, ground := Ground.phase }, { on := 8, ground := Ground.phase }, { on := 9, ground := Ground.phase }, { on := 10, ground := Ground.phase }, { on := 11, ground := Ground.phase }, { on := 12, ground := Ground.phase }, { on := 13, ground := Ground.phase }, { on := 14, ground := Ground.phase }], guard := none }) rfl (fun K hK => ?_) AllReadyH.nil)
  go_simp
  refine hK.out _ _ hwb (fun hHeld => ?_)
  clear hK K
  try simp only [Act.put, List.setIfInBounds_toArray, List.set_cons_zero, List.set_cons_succ]
  refine wpAnyH_done (by kernel_rfl) ?_ _
  have HH : Hid (∃ ps' rs', Ben W wb gb 6 ps' rs') := ⟨ps, rs, HB.out.below hwb⟩
  clear hwa hwb hHeld
  go_wp2
  go_ret
  exact ⟨rfl, HH.out⟩
set_option maxRecDepth 20000 in
set_option maxHeartbeats 8000000 in
theorem step6 (W w0 : World) (hT : Tab W) (hR : TabR W) (h2 : 2 < W.heap.size) (gb : Nat) (ps : List Value) (rs : List (List Value)) (B0 : Ben W w0 gb 6 ps rs) (d nn : Int) (aw : Option Addr) (m cw : Nat) (xs : List Int) (hx : xs.length = m) (wx : Wds xs) (hat : At W .u32 aw xs) (hm : 4 * m ≤ 140737488351232) :
    Calls Tryd.prog 35 #[.pointer (some ⟨gb, 0, none⟩), .agg #[.int .i64 6, .int .i64 d, .int .i64 nn, .slice aw m cw]] w0 fun e w => e = .returned (.bool true) ∧ ∃ ps' rs', Ben W w gb 6 ps' rs' := by
  have HX : Hid (At W .u32 aw xs) := hat
  have HWX : Hid (Wds xs) := wx
  have i1 : (m : Int) ≤ 35184372087808 := by omega
  have z59 := Tryd.sizeOf59
  obtain ⟨k, hkd⟩ : ∃ k, k = sl d := ⟨_, rfl⟩
  have hk : k < 6 := by rw [hkd]; exact sl_lt d
  obtain ⟨j, hjd⟩ : ∃ j, j = sl nn := ⟨_, rfl⟩
  have hj : j < 6 := by rw [hjd]; exact sl_lt nn
  have i2 : (k : Int) < 6 := by omega
  have i3 : (j : Int) < 6 := by omega
  have HKD : Hid (k = sl d) := hkd
  have HJD : Hid (j = sl nn) := hjd
  have S1 : Hid (∀ w, Calls Tryd.prog 49 #[.int .i64 d] w fun e w' => e = .returned (.int .i64 (k : Int)) ∧ w = w') := fun w => by rw [hkd]; exact slot_any w d
  have S2 : Hid (∀ w, Calls Tryd.prog 49 #[.int .i64 nn] w fun e w' => e = .returned (.int .i64 (j : Int)) ∧ w = w') := fun w => by rw [hjd]; exact slot_any w nn
  clear hat wx hkd hjd
  obtain ⟨w1, hw1⟩ : ∃ w1, w1 = w0.alloc (Obj.cells #[.int .i64 6, .int .i64 d, .int .i64 nn, .slice aw m cw] 65) := ⟨_, rfl⟩
  obtain ⟨go, hgo⟩ : ∃ go, go = w0.heap.size := ⟨_, rfl⟩
  have CO : Cel w1 go 65 [.int .i64 6, .int .i64 d, .int .i64 nn, .slice aw m cw] := by rw [hw1, hgo]; exact heap_alloc_new _ _
  have hb01 : Below w0.heap.size w0 w1 := by rw [hw1]; exact below_one _ _
  have B := B0.below hb01
  have BD := B.pl
  have HB : Hid (Ben W w1 gb 6 ps rs) := B
  have HCO : Hid (Cel w1 go 65 [.int .i64 6, .int .i64 d, .int .i64 nn, .slice aw m cw]) := CO
  have HG0 : Hid (Below w0.heap.size w0 w1 ∧ go = w0.heap.size) := ⟨hb01, hgo⟩
  have o0 := CO.cell 0
  have o1 := CO.cell 1
  have o2 := CO.cell 2
  have o3 := CO.cell 3
  simp only [List.getElem?_cons_zero, List.getElem?_cons_succ] at o0 o1 o2 o3
  go_enter Tryd.func35, Tryd.ntmps35
  go_wp2_with fail
  rw [← hw1, ← hgo]
  clear hb01 B CO hw1 hgo
  refine (S1.out _).mono ?_
  rintro e w' ⟨rfl, rfl⟩
  go_wp2_with fail
  refine (S2.out _).mono ?_
  rintro e w' ⟨rfl, rfl⟩
  obtain ⟨g, A, n, p, ao, c, hp, D, hr, hc, wat, wp⟩ := HB.out.slot k hk
  have hgl := HB.out.cel.lt
  have cp : ∀ w, Below w1.heap.size w1 w → w.cell? ⟨gb, k, none⟩ = some (.pointer (some ⟨g, 0, none⟩)) := fun w hw => by
    rw [(HB.out.cel.below hw hgl).cell k, ben_ptr HB.out.pl k hk, hp]
  have rR : Hid (∀ w, Below w1.heap.size w1 w → w.rangeAt gb (6 + k * 10) (rdC A (.slice ao p.length c) (n : Int))) := fun w hw j v hv => by
    have hj : j < 10 := by
      rcases Nat.lt_or_ge j 10 with h | h
      · exact h
      · rw [List.getElem?_eq_none (by rw [rdC_length _ _ _ D.al]; exact h)] at hv; cases hv
    rw [(HB.out.cel.below hw hgl).cell, show 6 + k * 10 + j = 6 + 10 * k + j by omega, ben_range HB.out.pl HB.out.ten k _ hr j hj, hv]
  have hwk : p.length < 16 := by rw [D.pl]; omega
  have TW : Hid (∀ w, Below w1.heap.size w1 w → Tab w ∧ TabR w ∧ 2 < w.heap.size) := fun w hw => tabBoth hT hR h2 (HB.out.low.trans (hw.mono HB.out.low.size))
  have BX : Hid (Below w1.heap.size w1 w1.drew) := (Below.refl _ _).drew
  have HD : Hid (Dig w1 g A n p) := D
  have HWT : Hid (Wat w1 ao p) := wat
  have HWP : Hid (Wds p) := wp.1
  have Dal := D.al
  have Dnl := D.nl
  obtain ⟨M, hM⟩ : ∃ M, M = saveL A n p := ⟨_, rfl⟩
  have e1 := eq40 M M (by rw [hM]; exact saveL_length A n p Dal (by omega)) (by rw [hM]; exact saveL_length A n p Dal (by omega))
  rw [decide_eq_true rfl] at e1
  have C1 : Hid (∀ w, Below w1.heap.size w1 w → Calls Tryd.prog 21 #[.pointer (some ⟨g, 0, none⟩)] w fun e w' => e = .returned (.agg (M.map (Value.int .u32)).toArray) ∧ Below w1.heap.size w1 w') := fun w hw => by
    refine (save_any w g A n p (HD.out.below hw HD.out.lt)).mono ?_
    rintro e w' ⟨rfl, hb⟩
    rw [hM]
    exact ⟨rfl, hw.trans (hb.mono hw.size)⟩
  have C2 : Hid (∀ w, Below w1.heap.size w1 w → Calls Tryd.prog 53 #[.agg (rdC A (.slice ao p.length c) (n : Int)).toArray] w fun e w' => e = .returned (.agg (M.map (Value.int .u32)).toArray) ∧ Below w1.heap.size w1 w') := fun w hw => by
    have hW := HB.out.low.trans (hw.mono HB.out.low.size)
    refine (rdsave_any w A Dal ao p.length c n Dnl p rfl hwk (HWT.out.below hw).at).mono ?_
    rintro e w' ⟨rfl, hb⟩
    rw [hM]
    exact ⟨rfl, hw.trans (hb.mono hw.size)⟩
  obtain ⟨R, hR'⟩ : ∃ R, R = rdC A (.slice ao p.length c) (n : Int) := ⟨_, rfl⟩
  have u59 := Tryd.underlying59
  have s59 : (Tryd.prog.info? 59).map (·.size) = some R.length := by rw [hR', rdC_length _ _ _ Dal]; exact size59
  rw [← hR'] at rR C2
  clear D wat wp hp hr hM hR'
  go_wp2_with fail
  clear o0 o1 o2 o3
  refine wp_region_held_drew (S := fun w => Below w1.heap.size w1 w) (by kernel_rfl) BX.out (fun hHeld => ?_)
  refine wpAnyH_take (i := 0) (oi := { dst := some 153, op := Op.move (Operand.tmp 0), type := 56, pos := "law.go:155", after := #[], guard := none }) (v := .pointer (some ⟨gb, 0, none⟩)) rfl (by kernel_rfl) (by kernel_rfl) (by kernel_rfl) (fun _ _ _ h => h) (Or.inl ⟨by rfl, by intro w hSw; go_simp⟩) (by assumption) ?_
  simp only [Act.put, List.setIfInBounds_toArray, List.set_cons_zero, List.set_cons_succ]
  refine wpAnyH_take (i := 1) (oi := { dst := some 154, op := Op.move (Operand.tmp 5), type := 3, pos := "law.go:155", after := #[], guard := none }) (v := .int .i64 (k : Int)) rfl (by kernel_rfl) (by kernel_rfl) (by kernel_rfl) (fun _ _ _ h => h) (Or.inl ⟨by rfl, by intro w hSw; go_simp⟩) (by assumption) ?_
  simp only [Act.put, List.setIfInBounds_toArray, List.set_cons_zero, List.set_cons_succ]
  refine wpAnyH_take (i := 2) (oi := { dst := some 155, op := Op.nilCheck (Operand.tmp 153), type := 0, pos := "law.go:155", after := #[{ on := 0, ground := Ground.data }], guard := none }) (v := .pointer (some ⟨gb, 0, none⟩)) rfl (by kernel_rfl) (by kernel_rfl) (by kernel_rfl) (fun _ _ _ h => h) (Or.inl ⟨by rfl, by intro w hSw; go_simp⟩) (by assumption) ?_
  simp only [Act.put, List.setIfInBounds_toArray, List.set_cons_zero, List.set_cons_succ]
  refine wpAnyH_take (i := 3) (oi := { dst := some 156, op := Op.fieldAddr 62 (Operand.tmp 155) 0, type := 0, pos := "law.go:155", after := #[{ on := 2, ground := Ground.data }], guard := none }) (v := .pointer (some ⟨gb, 0, none⟩)) rfl (by kernel_rfl) (by kernel_rfl) (by kernel_rfl) (fun _ _ _ h => h) (Or.inl ⟨by rfl, by intro w hSw; go_simp⟩) (by assumption) ?_
  simp only [Act.put, List.setIfInBounds_toArray, List.set_cons_zero, List.set_cons_succ]
  refine wpAnyH_take (i := 4) (oi := { dst := some 157, op := Op.indexAddr 57 (Operand.tmp 156) (Operand.tmp 154), type := 0, pos := "law.go:155", after := #[{ on := 3, ground := Ground.data }, { on := 1, ground := Ground.data }], guard := none }) (v := .pointer (some ⟨gb, k, none⟩)) rfl (by kernel_rfl) (by kernel_rfl) (by kernel_rfl) (fun _ _ _ h => h) (Or.inl ⟨by rfl, by intro w hSw; go_simp⟩) (by assumption) ?_
  simp only [Act.put, List.setIfInBounds_toArray, List.set_cons_zero, List.set_cons_succ]
  refine wpAnyH_take (i := 5) (oi := { dst := some 158, op := Op.load 33 (Operand.tmp 157), type := 33, pos := "law.go:155", after := #[{ on := 4, ground := Ground.data }], guard := none }) (v := .pointer (some ⟨g, 0, none⟩)) rfl (by kernel_rfl) (by kernel_rfl) (by kernel_rfl) (fun _ _ _ h => h) (Or.inl ⟨by rfl, by intro w hSw; go_simp⟩) (by assumption) ?_
  simp only [Act.put, List.setIfInBounds_toArray, List.set_cons_zero, List.set_cons_succ]
  refine wpAnyH_take (i := 7) (oi := { dst := some 160, op := Op.move (Operand.tmp 0), type := 56, pos := "law.go:155", after := #[], guard := none }) (v := .pointer (some ⟨gb, 0, none⟩)) rfl (by kernel_rfl) (by kernel_rfl) (by kernel_rfl) (fun _ _ _ h => h) (Or.inl ⟨by rfl, by intro w hSw; go_simp⟩) (by assumption) ?_
  simp only [Act.put, List.setIfInBounds_toArray, List.set_cons_zero, List.set_cons_succ]
  refine wpAnyH_take (i := 8) (oi := { dst := some 161, op := Op.move (Operand.tmp 5), type := 3, pos := "law.go:155", after := #[], guard := none }) (v := .int .i64 (k : Int)) rfl (by kernel_rfl) (by kernel_rfl) (by kernel_rfl) (fun _ _ _ h => h) (Or.inl ⟨by rfl, by intro w hSw; go_simp⟩) (by assumption) ?_
  simp only [Act.put, List.setIfInBounds_toArray, List.set_cons_zero, List.set_cons_succ]
  refine wpAnyH_take (i := 9) (oi := { dst := some 162, op := Op.nilCheck (Operand.tmp 160), type := 0, pos := "law.go:155", after := #[{ on := 7, ground := Ground.data }], guard := none }) (v := .pointer (some ⟨gb, 0, none⟩)) rfl (by kernel_rfl) (by kernel_rfl) (by kernel_rfl) (fun _ _ _ h => h) (Or.inl ⟨by rfl, by intro w hSw; go_simp⟩) (by assumption) ?_
  simp only [Act.put, List.setIfInBounds_toArray, List.set_cons_zero, List.set_cons_succ]
  refine wpAnyH_take (i := 10) (oi := { dst := some 163, op := Op.fieldAddr 62 (Operand.tmp 162) 1, type := 0, pos := "law.go:155", after := #[{ on := 9, ground := Ground.data }], guard := none }) (v := .pointer (some ⟨gb, 6, none⟩)) rfl (by kernel_rfl) (by kernel_rfl) (by kernel_rfl) (fun _ _ _ h => h) (Or.inl ⟨by rfl, by intro w hSw; go_simp⟩) (by assumption) ?_
  simp only [Act.put, List.setIfInBounds_toArray, List.set_cons_zero, List.set_cons_succ]
  refine wpAnyH_take (i := 11) (oi := { dst := some 164, op := Op.indexAddr 60 (Operand.tmp 163) (Operand.tmp 161), type := 0, pos := "law.go:155", after := #[{ on := 10, ground := Ground.data }, { on := 8, ground := Ground.data }], guard := none }) (v := .pointer (some ⟨gb, 6 + k * 10, none⟩)) rfl (by kernel_rfl) (by kernel_rfl) (by kernel_rfl) (fun _ _ _ h => h) (Or.inl ⟨by rfl, by intro w hSw; go_simp⟩) (by assumption) ?_
  simp only [Act.put, List.setIfInBounds_toArray, List.set_cons_zero, List.set_cons_succ]
  refine wpAnyH_take (i := 12) (oi := { dst := some 165, op := Op.load 59 (Operand.tmp 164), type := 59, pos := "law.go:155", after := #[{ on := 11, ground := Ground.data }], guard := none }) (v := .agg R.toArray) rfl (by kernel_rfl) (by kernel_rfl) (by kernel_rfl) (fun _ _ _ h => h) (yieldsIf_load_mid (by rfl) _ _ rfl _ _ rfl R _ (fun w hSw => rR.out w hSw) u59 rfl s59) (by assumption) ?_
  simp only [Act.put, List.setIfInBounds_toArray, List.set_cons_zero, List.set_cons_succ]
  refine wpAnyH_ready (rs := [6]) (by kernel_rfl) (by simp) (AllReadyH.cons (o := { dst := some 159, op := Op.call { callee := Callee.value (Operand.func 21), args := #[Operand.tmp 158], argTypes := #[33] }, type := 40, pos := "law.go:155", after := #[{ on := 5, ground := Ground.data }], guard := none }) rfl (fun K hK => ?_) AllReadyH.nil)
  go_simp
  refine (C1.out _ BX.out).mono ?_
  rintro en wa ⟨rfl, hwa⟩
  go_wp2_with fail
  refine hK.out _ _ hwa (fun hHeld => ?_)
  clear hK K
  try simp only [Act.put, List.setIfInBounds_toArray, List.set_cons_zero, List.set_cons_succ]
  refine wpAnyH_ready (rs := [13]) (by kernel_rfl) (by simp) (AllReadyH.cons (o := { dst := some 166, op := Op.call { callee := Callee.value (Operand.func 53), args := #[Operand.tmp 165], argTypes := #[59] }, type := 40, pos := "law.go:155", after := #[{ on := 12, ground := Ground.data }, { on := 6, ground := Ground.chain }], guard := none }) rfl (fun K hK => ?_) AllReadyH.nil)
  go_simp
  refine (C2.out _ hwa).mono ?_
  rintro en wb ⟨rfl, hwb⟩
  go_wp2_with fail
  refine hK.out _ _ hwb (fun hHeld => ?_)
  clear hK K
  try simp only [Act.put, List.setIfInBounds_toArray, List.set_cons_zero, List.set_cons_succ]
  refine wpAnyH_take (i := 14) (oi := { dst := some 167, op := Op.binOp BinOp.eql 40 (Operand.tmp 159) (Operand.tmp 166) 40, type := 4, pos := "law.go:155", after := #[{ on := 6, ground := Ground.data }, { on := 13, ground := Ground.data }], guard := none }) (v := .bool true) rfl (by kernel_rfl) (by kernel_rfl) (by kernel_rfl) (fun _ _ _ h => h) (Or.inl ⟨by rfl, by intro w hSw; go_simp⟩) (by assumption) ?_
  simp only [Act.put, List.setIfInBounds_toArray, List.set_cons_zero, List.set_cons_succ]
  refine wpAnyH_ready (rs := [15]) (by kernel_rfl) (by simp) (AllReadyH.cons (o := { dst := some 4, op := Op.assign (Operand.tmp 167), type := 4, pos := "law.go:155", after := #[{ on := 14, ground := Ground.data }, { on := 13, ground := Ground.chain }, { on := 0, ground := Ground.phase }, { on := 1, ground := Ground.phase }, { on := 2, ground := Ground.phase }, { on := 3, ground := Ground.phase }, { on := 4, ground := Ground.phase }, { on := 5, ground := Ground.phase }, { on := 6, ground := Ground.phase }, { on := 7, ground := Ground.phase }, { on := 8, ground := Ground.phase }, { on := 9, ground := Ground.phase }, { on := 10, ground := Ground.phase }, { on := 11, ground := Ground.phase }, { on := 12, ground := Ground.phase }, { on := 13, ground := Ground.phase }, { on := 14, ground := Ground.phase }], guard := none }) rfl (fun K hK => ?_) AllReadyH.nil)
  go_simp
  refine hK.out _ _ hwb (fun hHeld => ?_)
  clear hK K
  try simp only [Act.put, List.setIfInBounds_toArray, List.set_cons_zero, List.set_cons_succ]
  refine wpAnyH_done (by kernel_rfl) ?_ _
  have HH : Hid (∃ ps' rs', Ben W wb gb 6 ps' rs') := ⟨ps, rs, HB.out.below hwb⟩
  clear hwa hwb hHeld
  go_wp2
  go_ret
  exact ⟨rfl, HH.out⟩
end Go.Proofs.YtjkkelkblccolaaDoor
