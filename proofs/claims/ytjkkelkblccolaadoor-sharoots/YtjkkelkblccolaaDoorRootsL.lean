import Derived.Test.YtjkkelkblccolaaDoorRtRoots
namespace Go.Proofs.YtjkkelkblccolaaDoor
open Go.RowKit
theorem eq48 (xs ys : List Int) (hx : xs.length = 64) (hy : ys.length = 64) (w : World) : (Op.equalIn 10000 48 (.agg (xs.map (Value.int .u32)).toArray) (.agg (ys.map (Value.int .u32)).toArray)).run Tryd.prog w = .ok (decide (xs = ys)) w :=
  run_equalIn_words w 9998 48 26 64 Tryd.underlying48 Tryd.underlying26 Tryd.sizeOf26 xs ys hx hy
attribute [-simp] Tryd.isAgg27 Tryd.sizeOf27 Tryd.zeroValue27 Tryd.isAgg48 Tryd.sizeOf48 Tryd.zeroValue48
set_option maxRecDepth 100000 in
set_option maxHeartbeats 4000000 in
theorem shaRoots_any (W : World) (hT : Tab W) (hR : TabR W) (hP : Row W .u64 1 0 primesL) (h2 : 2 < W.heap.size) :
    Calls Tryd.prog 6 #[] W fun e w => e = .returned (.bool true) ∧ Below W.heap.size W w := by
  obtain ⟨Z, hZ⟩ : ∃ Z : List Int, Z = List.replicate 8 0 := ⟨_, rfl⟩
  have hZl : Z.length = 8 := by rw [hZ]; simp
  have hz : ∀ w, (zeroValue 27).run Tryd.prog w = .ok (.agg (Z.map (Value.int .u32)).toArray) w := fun w => by rw [Tryd.zeroValue27, hZ]; rfl
  clear hZ
  obtain ⟨Y, hY⟩ : ∃ Y : List Int, Y = List.replicate 64 0 := ⟨_, rfl⟩
  have hYl : Y.length = 64 := by rw [hY]; simp
  have hy : ∀ w, (zeroValue 48).run Tryd.prog w = .ok (.agg (Y.map (Value.int .u32)).toArray) w := fun w => by rw [Tryd.zeroValue48, hY]; rfl
  clear hY
  obtain ⟨FI, hFI⟩ : ∃ FI, FI = S.First := ⟨_, rfl⟩
  obtain ⟨KI, hKI⟩ : ∃ KI, KI = S.K := ⟨_, rfl⟩
  have hFl : FI.length = 8 := by rw [hFI]; rfl
  have hKl : KI.length = 64 := by rw [hKI]; rfl
  go_enter Tryd.func6, Tryd.ntmps6
  go_wp2_with fail
  refine (roots_any W hP h2).mono ?_
  rintro e w1 ⟨rfl, hb1⟩
  rw [← hFI, ← hKI]
  unfold Ag
  have HFI : Hid (FI = S.First) := hFI
  have HKI : Hid (KI = S.K) := hKI
  clear hFI hKI
  have sF : (Tryd.prog.info? 27).map (·.size) = some FI.length := by rw [hFl]; exact size27
  have sK : (Tryd.prog.info? 48).map (·.size) = some KI.length := by rw [hKl]; exact size48
  have BZ : Hid (Blk ((w1.alloc (Obj.cells (List.map (Value.int IntKind.u32) Z).toArray 27)).alloc (Obj.cells (List.map (Value.int IntKind.u32) Y).toArray 48)) w1.heap.size .u32 27 Z) := (Blk.new w1 .u32 27 Z).alloc _
  have BY : Hid (Blk ((w1.alloc (Obj.cells (List.map (Value.int IntKind.u32) Z).toArray 27)).alloc (Obj.cells (List.map (Value.int IntKind.u32) Y).toArray 48)) (w1.heap.size + 1) .u32 48 Y) := Blk.newAt (by simp) .u32 48 Y
  go_upto_region 2 with (first | (refine wpList_store_but rfl 27 _ _ rfl w1.heap.size FI rfl rfl BZ.out sF (by rw [hZl, hFl]) ?_; intro w2 bF hw2 hs2; have BY2 : Hid (Blk w2 (w1.heap.size + 1) .u32 48 Y) := hw2.blk BY.out (by omega)) | (refine wpList_store_but rfl 48 _ _ rfl (w1.heap.size + 1) KI rfl rfl BY2.out sK (by rw [hYl, hKl]) ?_; intro w3 bK hw3 hs3))
  simp only [Act.put]
  have hal : Below w1.heap.size w1 ((w1.alloc (Obj.cells (List.map (Value.int IntKind.u32) Z).toArray 27)).alloc (Obj.cells (List.map (Value.int IntKind.u32) Y).toArray 48)) := (below_one _ _).alloc (by simp) _
  have hb2 : Below w1.heap.size w1 w2 := hal.trans (hw2.below (Nat.le_refl _) (by simp; omega))
  have hb3 : Below w1.heap.size w1 w3 := hb2.trans (hw3.below (by omega) hb2.size)
  have hW3 := hb1.trans (hb3.mono hb1.size)
  have bF3 := hw3.blk bF (by omega)
  clear hal hb2 hb3 hw2 hw3 hs2 hs3 bF BZ BY BY2 hb1
  have R10 : Hid (∀ w, Below w3.heap.size w3 w → Calls Tryd.prog 10 #[] w fun e w' => e = .returned (.bool true) ∧ Below w3.heap.size w3 w') := fun w hw => by
    have hW := hW3.trans (hw.mono hW3.size)
    refine (abc_any w (hT.below hW h2) (by have := hW.size; omega)).mono ?_
    rintro e w' ⟨rfl, hb⟩
    exact ⟨rfl, hw.trans (hb.mono hw.size)⟩
  have R26 : Hid (∀ w, Below w3.heap.size w3 w → Calls Tryd.prog 26 #[] w fun e w' => e = .returned (.agg (FI.map (Value.int .u32)).toArray) ∧ Below w3.heap.size w3 w') := fun w hw => by
    refine (first_any w).mono ?_
    rintro e w' ⟨rfl, hb⟩
    rw [HFI.out]
    exact ⟨rfl, hw.trans (hb.mono hw.size)⟩
  have R27 : Hid (∀ w, Below w3.heap.size w3 w → Calls Tryd.prog 27 #[] w fun e w' => e = .returned (.agg (FI.map (Value.int .u32)).toArray) ∧ Below w3.heap.size w3 w') := fun w hw => by
    refine (rfirst_any w).mono ?_
    rintro e w' ⟨rfl, hb⟩
    rw [HFI.out]
    exact ⟨rfl, hw.trans (hb.mono hw.size)⟩
  have RK : Hid (∀ w, Below w3.heap.size w3 w → w.rangeAt 0 0 (KI.map (Value.int .u32))) := fun w hw => by
    have hW := hW3.trans (hw.mono hW3.size)
    rw [HKI.out]
    exact Row.range (hR.below hW (by omega))
  have e1 := eq27 FI FI hFl hFl
  rw [decide_eq_true rfl] at e1
  have e2 := eq48 KI KI hKl hKl
  rw [decide_eq_true rfl] at e2
  have BX : Hid (Below w3.heap.size w3 w3.drew) := (Below.refl _ _).drew
  have sF' : (Tryd.prog.info? 27).map (·.size) = some (FI.map (Value.int .u32)).length := by rw [List.length_map]; exact sF
  have sK' : (Tryd.prog.info? 48).map (·.size) = some (KI.map (Value.int .u32)).length := by rw [List.length_map]; exact sK
  have HW3 : Hid (Below W.heap.size W w3) := hW3
  clear hW3
  refine wp_region_held_drew (S := fun w => Below w3.heap.size w3 w) (by kernel_rfl) BX.out (fun hHeld => ?_)
  refine wpAnyH_ready (rs := [0]) (by kernel_rfl) (by simp) (AllReadyH.cons (o := { dst := some 7, op := Op.call { callee := Callee.value (Operand.func 10), args := #[], argTypes := #[] }, type := 4, pos := "law.go:59", after := #[], guard := none }) rfl (fun K hK => ?_) AllReadyH.nil)
  go_simp
  refine (R10.out _ BX.out).mono ?_
  rintro en wa ⟨rfl, hwa⟩
  go_wp2_with fail
  refine hK.out _ _ hwa (fun hHeld => ?_)
  clear hK K
  try simp only [Act.put, List.setIfInBounds_toArray, List.set_cons_zero, List.set_cons_succ]
  refine wpAnyH_take (i := 1) (oi := { dst := some 8, op := Op.move (Operand.tmp 7), type := 4, pos := "law.go:59", after := #[{ on := 0, ground := Ground.data }, { on := 0, ground := Ground.chain }], guard := none }) (v := .bool true) rfl (by kernel_rfl) (by kernel_rfl) (by kernel_rfl) (fun _ _ _ h => h) (Or.inl ⟨by rfl, by intro w hSw; go_simp⟩) (by assumption) ?_
  simp only [Act.put, List.setIfInBounds_toArray, List.set_cons_zero, List.set_cons_succ]
  refine wpAnyH_take (i := 3) (oi := { dst := some 10, op := Op.load 27 (Operand.tmp 1), type := 27, pos := "law.go:59", after := #[{ on := 1, ground := Ground.guard }], guard := some (1, true) }) (v := .agg (FI.map (Value.int .u32)).toArray) rfl (by kernel_rfl) (by kernel_rfl) (by kernel_rfl) (fun _ _ _ h => h) (yieldsIf_load_mid (by rfl) _ _ rfl _ _ rfl _ _ (fun w hSw => (bF3.on hSw).row.range) Tryd.underlying27 rfl sF') (by assumption) ?_
  simp only [Act.put, List.setIfInBounds_toArray, List.set_cons_zero, List.set_cons_succ]
  refine wpAnyH_ready (rs := [2]) (by kernel_rfl) (by simp) (AllReadyH.cons (o := { dst := some 9, op := Op.call { callee := Callee.value (Operand.func 26), args := #[], argTypes := #[] }, type := 27, pos := "law.go:59", after := #[{ on := 1, ground := Ground.chain }, { on := 1, ground := Ground.guard }], guard := some (1, true) }) rfl (fun K hK => ?_) AllReadyH.nil)
  go_simp
  refine (R26.out _ hwa).mono ?_
  rintro en wb ⟨rfl, hwb⟩
  go_wp2_with fail
  refine hK.out _ _ hwb (fun hHeld => ?_)
  clear hK K
  try simp only [Act.put, List.setIfInBounds_toArray, List.set_cons_zero, List.set_cons_succ]
  refine wpAnyH_take (i := 4) (oi := { dst := some 11, op := Op.binOp BinOp.eql 27 (Operand.tmp 9) (Operand.tmp 10) 27, type := 4, pos := "law.go:59", after := #[{ on := 2, ground := Ground.data }, { on := 3, ground := Ground.data }, { on := 1, ground := Ground.guard }], guard := some (1, true) }) (v := .bool true) rfl (by kernel_rfl) (by kernel_rfl) (by kernel_rfl) (fun _ _ _ h => h) (Or.inl ⟨by rfl, by intro w hSw; go_simp⟩) (by assumption) ?_
  simp only [Act.put, List.setIfInBounds_toArray, List.set_cons_zero, List.set_cons_succ]
  refine wpAnyH_take (i := 5) (oi := { dst := some 12, op := Op.pick (Operand.tmp 8) (Operand.tmp 11) (Operand.const (Value.bool false)), type := 4, pos := "law.go:59", after := #[{ on := 1, ground := Ground.data }, { on := 4, ground := Ground.data }], guard := none }) (v := .bool true) rfl (by kernel_rfl) (by kernel_rfl) (by kernel_rfl) (fun _ _ _ h => h) (Or.inl ⟨by rfl, by intro w hSw; go_simp⟩) (by assumption) ?_
  simp only [Act.put, List.setIfInBounds_toArray, List.set_cons_zero, List.set_cons_succ]
  refine wpAnyH_take (i := 6) (oi := { dst := some 13, op := Op.move (Operand.tmp 12), type := 4, pos := "law.go:59", after := #[{ on := 5, ground := Ground.data }, { on := 2, ground := Ground.chain }], guard := none }) (v := .bool true) rfl (by kernel_rfl) (by kernel_rfl) (by kernel_rfl) (fun _ _ _ h => h) (Or.inl ⟨by rfl, by intro w hSw; go_simp⟩) (by assumption) ?_
  simp only [Act.put, List.setIfInBounds_toArray, List.set_cons_zero, List.set_cons_succ]
  refine wpAnyH_take (i := 8) (oi := { dst := some 15, op := Op.load 27 (Operand.tmp 1), type := 27, pos := "law.go:59", after := #[{ on := 6, ground := Ground.guard }], guard := some (6, true) }) (v := .agg (FI.map (Value.int .u32)).toArray) rfl (by kernel_rfl) (by kernel_rfl) (by kernel_rfl) (fun _ _ _ h => h) (yieldsIf_load_mid (by rfl) _ _ rfl _ _ rfl _ _ (fun w hSw => (bF3.on hSw).row.range) Tryd.underlying27 rfl sF') (by assumption) ?_
  simp only [Act.put, List.setIfInBounds_toArray, List.set_cons_zero, List.set_cons_succ]
  refine wpAnyH_ready (rs := [7]) (by kernel_rfl) (by simp) (AllReadyH.cons (o := { dst := some 14, op := Op.call { callee := Callee.value (Operand.func 27), args := #[], argTypes := #[] }, type := 27, pos := "law.go:59", after := #[{ on := 6, ground := Ground.chain }, { on := 6, ground := Ground.guard }], guard := some (6, true) }) rfl (fun K hK => ?_) AllReadyH.nil)
  go_simp
  refine (R27.out _ hwb).mono ?_
  rintro en wc ⟨rfl, hwc⟩
  go_wp2_with fail
  refine hK.out _ _ hwc (fun hHeld => ?_)
  clear hK K
  try simp only [Act.put, List.setIfInBounds_toArray, List.set_cons_zero, List.set_cons_succ]
  refine wpAnyH_take (i := 9) (oi := { dst := some 16, op := Op.binOp BinOp.eql 27 (Operand.tmp 14) (Operand.tmp 15) 27, type := 4, pos := "law.go:59", after := #[{ on := 7, ground := Ground.data }, { on := 8, ground := Ground.data }, { on := 6, ground := Ground.guard }], guard := some (6, true) }) (v := .bool true) rfl (by kernel_rfl) (by kernel_rfl) (by kernel_rfl) (fun _ _ _ h => h) (Or.inl ⟨by rfl, by intro w hSw; go_simp⟩) (by assumption) ?_
  simp only [Act.put, List.setIfInBounds_toArray, List.set_cons_zero, List.set_cons_succ]
  refine wpAnyH_take (i := 10) (oi := { dst := some 17, op := Op.pick (Operand.tmp 13) (Operand.tmp 16) (Operand.const (Value.bool false)), type := 4, pos := "law.go:59", after := #[{ on := 6, ground := Ground.data }, { on := 9, ground := Ground.data }], guard := none }) (v := .bool true) rfl (by kernel_rfl) (by kernel_rfl) (by kernel_rfl) (fun _ _ _ h => h) (Or.inl ⟨by rfl, by intro w hSw; go_simp⟩) (by assumption) ?_
  simp only [Act.put, List.setIfInBounds_toArray, List.set_cons_zero, List.set_cons_succ]
  refine wpAnyH_take (i := 11) (oi := { dst := some 18, op := Op.move (Operand.tmp 17), type := 4, pos := "law.go:59", after := #[{ on := 10, ground := Ground.data }, { on := 7, ground := Ground.chain }], guard := none }) (v := .bool true) rfl (by kernel_rfl) (by kernel_rfl) (by kernel_rfl) (fun _ _ _ h => h) (Or.inl ⟨by rfl, by intro w hSw; go_simp⟩) (by assumption) ?_
  simp only [Act.put, List.setIfInBounds_toArray, List.set_cons_zero, List.set_cons_succ]
  refine wpAnyH_take (i := 12) (oi := { dst := some 19, op := Op.load 48 (Operand.global 0), type := 48, pos := "law.go:59", after := #[{ on := 11, ground := Ground.guard }], guard := some (11, true) }) (v := .agg (KI.map (Value.int .u32)).toArray) rfl (by kernel_rfl) (by kernel_rfl) (by kernel_rfl) (fun _ _ _ h => h) (yieldsIf_load_mid (by rfl) _ _ rfl _ _ rfl _ _ (fun w hSw => (RK.out w hSw)) Tryd.underlying48 rfl sK') (by assumption) ?_
  simp only [Act.put, List.setIfInBounds_toArray, List.set_cons_zero, List.set_cons_succ]
  refine wpAnyH_take (i := 13) (oi := { dst := some 20, op := Op.load 48 (Operand.tmp 2), type := 48, pos := "law.go:59", after := #[{ on := 11, ground := Ground.guard }], guard := some (11, true) }) (v := .agg (KI.map (Value.int .u32)).toArray) rfl (by kernel_rfl) (by kernel_rfl) (by kernel_rfl) (fun _ _ _ h => h) (yieldsIf_load_mid (by rfl) _ _ rfl _ _ rfl _ _ (fun w hSw => (bK.on hSw).row.range) Tryd.underlying48 rfl sK') (by assumption) ?_
  simp only [Act.put, List.setIfInBounds_toArray, List.set_cons_zero, List.set_cons_succ]
  refine wpAnyH_take (i := 14) (oi := { dst := some 21, op := Op.binOp BinOp.eql 48 (Operand.tmp 19) (Operand.tmp 20) 48, type := 4, pos := "law.go:59", after := #[{ on := 12, ground := Ground.data }, { on := 13, ground := Ground.data }, { on := 11, ground := Ground.guard }], guard := some (11, true) }) (v := .bool true) rfl (by kernel_rfl) (by kernel_rfl) (by kernel_rfl) (fun _ _ _ h => h) (Or.inl ⟨by rfl, by intro w hSw; go_simp⟩) (by assumption) ?_
  simp only [Act.put, List.setIfInBounds_toArray, List.set_cons_zero, List.set_cons_succ]
  refine wpAnyH_take (i := 15) (oi := { dst := some 22, op := Op.pick (Operand.tmp 18) (Operand.tmp 21) (Operand.const (Value.bool false)), type := 4, pos := "law.go:59", after := #[{ on := 11, ground := Ground.data }, { on := 14, ground := Ground.data }], guard := none }) (v := .bool true) rfl (by kernel_rfl) (by kernel_rfl) (by kernel_rfl) (fun _ _ _ h => h) (Or.inl ⟨by rfl, by intro w hSw; go_simp⟩) (by assumption) ?_
  simp only [Act.put, List.setIfInBounds_toArray, List.set_cons_zero, List.set_cons_succ]
  refine wpAnyH_take (i := 16) (oi := { dst := some 23, op := Op.move (Operand.tmp 22), type := 4, pos := "law.go:59", after := #[{ on := 15, ground := Ground.data }, { on := 11, ground := Ground.chain }], guard := none }) (v := .bool true) rfl (by kernel_rfl) (by kernel_rfl) (by kernel_rfl) (fun _ _ _ h => h) (Or.inl ⟨by rfl, by intro w hSw; go_simp⟩) (by assumption) ?_
  simp only [Act.put, List.setIfInBounds_toArray, List.set_cons_zero, List.set_cons_succ]
  refine wpAnyH_take (i := 17) (oi := { dst := some 24, op := Op.pick (Operand.tmp 23) (Operand.const (Value.bool true)) (Operand.const (Value.bool false)), type := 4, pos := "law.go:59", after := #[{ on := 16, ground := Ground.data }], guard := none }) (v := .bool true) rfl (by kernel_rfl) (by kernel_rfl) (by kernel_rfl) (fun _ _ _ h => h) (Or.inl ⟨by rfl, by intro w hSw; go_simp⟩) (by assumption) ?_
  simp only [Act.put, List.setIfInBounds_toArray, List.set_cons_zero, List.set_cons_succ]
  refine wpAnyH_take (i := 18) (oi := { dst := some 25, op := Op.move (Operand.tmp 24), type := 4, pos := "law.go:59", after := #[{ on := 17, ground := Ground.data }, { on := 16, ground := Ground.chain }], guard := none }) (v := .bool true) rfl (by kernel_rfl) (by kernel_rfl) (by kernel_rfl) (fun _ _ _ h => h) (Or.inl ⟨by rfl, by intro w hSw; go_simp⟩) (by assumption) ?_
  simp only [Act.put, List.setIfInBounds_toArray, List.set_cons_zero, List.set_cons_succ]
  refine wpAnyH_take (i := 19) (oi := { dst := some 26, op := Op.pick (Operand.tmp 25) (Operand.const (Value.bool true)) (Operand.const (Value.bool false)), type := 4, pos := "law.go:59", after := #[{ on := 18, ground := Ground.data }], guard := none }) (v := .bool true) rfl (by kernel_rfl) (by kernel_rfl) (by kernel_rfl) (fun _ _ _ h => h) (Or.inl ⟨by rfl, by intro w hSw; go_simp⟩) (by assumption) ?_
  simp only [Act.put, List.setIfInBounds_toArray, List.set_cons_zero, List.set_cons_succ]
  refine wpAnyH_ready (rs := [20]) (by kernel_rfl) (by simp) (AllReadyH.cons (o := { dst := some 0, op := Op.assign (Operand.tmp 26), type := 4, pos := "law.go:59", after := #[{ on := 19, ground := Ground.data }, { on := 18, ground := Ground.chain }, { on := 0, ground := Ground.phase }, { on := 1, ground := Ground.phase }, { on := 2, ground := Ground.phase }, { on := 3, ground := Ground.phase }, { on := 4, ground := Ground.phase }, { on := 5, ground := Ground.phase }, { on := 6, ground := Ground.phase }, { on := 7, ground := Ground.phase }, { on := 8, ground := Ground.phase }, { on := 9, ground := Ground.phase }, { on := 10, ground := Ground.phase }, { on := 11, ground := Ground.phase }, { on := 12, ground := Ground.phase }, { on := 13, ground := Ground.phase }, { on := 14, ground := Ground.phase }, { on := 15, ground := Ground.phase }, { on := 16, ground := Ground.phase }, { on := 17, ground := Ground.phase }, { on := 18, ground := Ground.phase }, { on := 19, ground := Ground.phase }], guard := none }) rfl (fun K hK => ?_) AllReadyH.nil)
  go_simp
  refine hK.out _ _ hwc (fun hHeld => ?_)
  clear hK K
  try simp only [Act.put, List.setIfInBounds_toArray, List.set_cons_zero, List.set_cons_succ]
  refine wpAnyH_done (by kernel_rfl) ?_ _
  have HB : Hid (Below W.heap.size W wc) := HW3.out.trans (hwc.mono HW3.out.size)
  clear hwa hwb hwc hHeld bF3 bK
  go_wp2
  go_ret
  exact ⟨rfl, HB.out⟩
end Go.Proofs.YtjkkelkblccolaaDoor
