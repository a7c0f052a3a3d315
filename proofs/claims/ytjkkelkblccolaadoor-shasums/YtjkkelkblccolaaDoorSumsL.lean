import Derived.Test.YtjkkelkblccolaaDoorSumsM
namespace Go.Proofs.YtjkkelkblccolaaDoor
open Go.RowKit
attribute [-simp] Tryd.isAgg27 Tryd.sizeOf27 Tryd.zeroValue27 Tryd.isAgg51 Tryd.sizeOf51
set_option maxRecDepth 100000 in
set_option maxHeartbeats 8000000 in
theorem sums_any (W : World) (hT : Tab W) (hR : TabR W) (h2 : 2 < W.heap.size) (A B : List Int) (hA : A.length = 8) (hB : B.length = 16)
    (aw : Option Addr) (n cw : Nat) (xs : List Int) (hx1 : xs.length = n) (hx2 : Wds xs) (hx3 : At W .u32 aw xs) (hx5 : 4 * n ≤ 140737488351232)
    (ab : Option Addr) (m cb : Nat) (bs : List Int) (hy1 : bs.length = m) (hy2 : Bts bs) (hy3 : At W .u8 ab bs) (hy4 : m ≤ cb) (hy5 : m ≤ 140737488351232) :
    Calls Tryd.prog 7 #[Ag A, Ag B, .slice aw n cw, .slice ab m cb] W fun e W' => e = .returned (.bool true) ∧ Below W.heap.size W W' := by
  obtain ⟨Z, hZ⟩ : ∃ Z : List Int, Z = List.replicate 8 0 := ⟨_, rfl⟩
  have hZl : Z.length = 8 := by rw [hZ]; simp
  have hz : ∀ w, (zeroValue 27).run Tryd.prog w = .ok (.agg (Z.map (Value.int .u32)).toArray) w := fun w => by rw [Tryd.zeroValue27, hZ]; rfl
  clear hZ
  have HX3 : Hid (At W .u32 aw xs) := hx3
  have HY3 : Hid (At W .u8 ab bs) := hy3
  have HX2 : Hid (Wds xs) := hx2
  have HY2 : Hid (Bts bs) := hy2
  clear hx3 hy3 hx2 hy2
  unfold Ag
  have i1 : (n : Int) ≤ 35184372087808 := by omega
  have i2 : (m : Int) ≤ 140737488351232 := by omega
  go_enter Tryd.func7, Tryd.ntmps7
  go_wp2_with fail
  have bA : Blk ((W.alloc (Obj.cells (List.map (Value.int IntKind.u32) A).toArray 27)).alloc (Obj.cells (List.map (Value.int IntKind.u32) B).toArray 51)) W.heap.size .u32 27 A := (Blk.new W .u32 27 A).alloc _
  have bB : Blk ((W.alloc (Obj.cells (List.map (Value.int IntKind.u32) A).toArray 27)).alloc (Obj.cells (List.map (Value.int IntKind.u32) B).toArray 51)) (W.heap.size + 1) .u32 51 B := Blk.newAt (by simp) .u32 51 B
  have hW0 : Below W.heap.size W ((W.alloc (Obj.cells (List.map (Value.int IntKind.u32) A).toArray 27)).alloc (Obj.cells (List.map (Value.int IntKind.u32) B).toArray 51)) := (below_one W _).alloc (by simp) _
  generalize (W.alloc _).alloc _ = w0 at *
  refine (lent_mine w0 aw n cw xs hx1 (HX3.out.below hW0) hx5).mono ?_
  rintro e w1 ⟨gl, cl, rfl, hcl, hgl, M1, hb1⟩
  have bA1 := bA.on hb1
  have bB1 := bB.on hb1
  have hW1 := hW0.trans (hb1.mono hW0.size)
  have hgW : W.heap.size + 1 < gl := by have := bB.lt; omega
  clear bA bB hb1 hW0 hgl
  go_wp2_with fail
  refine (lentBytes_mine w1 ab m cb bs hy1 (HY3.out.below hW1) hy5).mono ?_
  rintro e w2 ⟨gp, cp, rfl, hcp, hgp, P2, hb2⟩
  have bA2 := bA1.on hb2
  have bB2 := bB1.on hb2
  have M2 := M1.on hb2
  have hW2 := hW1.trans (hb2.mono hW1.size)
  have hlp : gl < gp := by have := M1.lt; omega
  clear bA1 bB1 M1 hb2 hW1 hgp
  have c1 : (n : Int) ≤ (cl : Int) := by omega
  have c2 : (m : Int) ≤ (cp : Int) := by omega
  go_wp2_with fail
  refine (words14 W w2 hT h2 hW2 (some ⟨gl, 0, none⟩) n cl xs hx1 HX2.out M2.head hx5).mono ?_
  rintro e w3 ⟨rfl, hb3⟩
  have bA3 := bA2.on hb3
  have bB3 := bB2.on hb3
  have M3 := M2.on hb3
  have P3 := P2.on hb3
  have hW3 := hW2.trans (hb3.mono hW2.size)
  clear bA2 bB2 M2 P2 hb3 hW2
  obtain ⟨X, hX⟩ : ∃ X, X = sumB (bytesD xs) := ⟨_, rfl⟩
  have hXl : X.length = 8 := by rw [hX]; exact sumB_len _
  have HX : Hid (X = sumB (bytesD xs)) := hX
  rw [← hX]
  clear hX
  have zX : (Tryd.prog.info? 27).map (·.size) = some X.length := by rw [hXl]; exact size27
  have BN : Hid (Blk (w3.alloc (Obj.cells (List.map (Value.int IntKind.u32) Z).toArray 27)) w3.heap.size .u32 27 Z) := Blk.new w3 .u32 27 Z
  go_wp2_with (first | (refine wpList_store_but rfl 27 _ _ rfl w3.heap.size X rfl rfl BN.out zX (by rw [hZl, hXl]) ?_; intro w4 bX hw4 hs4))
  have hal4 : Below w3.heap.size w3 (w3.alloc (Obj.cells (List.map (Value.int IntKind.u32) Z).toArray 27)) := below_one _ _
  have hb4 : Below w3.heap.size w3 w4 := hal4.trans (hw4.below (Nat.le_refl _) (by simp))
  have bA4 := bA3.on hb4
  have bB4 := bB3.on hb4
  have M4 := M3.on hb4
  have P4 := P3.on hb4
  have hW4 := hW3.trans (hb4.mono hW3.size)
  have hpx : gp < w3.heap.size := P3.lt
  clear bA3 bB3 M3 P3 hal4 hw4 hs4 hb4 hW3 BN
  generalize w3.heap.size = gx at *
  refine (bytes11 W w4 hT h2 hW4 (some ⟨gp, 0, none⟩) m cp bs hy1 HY2.out P4.head (by omega) hy5).mono ?_
  rintro e w5 ⟨rfl, hb5⟩
  have bA5 := bA4.on hb5
  have bB5 := bB4.on hb5
  have M5 := M4.on hb5
  have P5 := P4.on hb5
  have bX5 := bX.on hb5
  have hW5 := hW4.trans (hb5.mono hW4.size)
  clear bA4 bB4 M4 P4 hb5 hW4 bX
  obtain ⟨Y, hY⟩ : ∃ Y, Y = sumB bs := ⟨_, rfl⟩
  have hYl : Y.length = 8 := by rw [hY]; exact sumB_len _
  have HY : Hid (Y = sumB bs) := hY
  rw [← hY]
  clear hY
  have zY : (Tryd.prog.info? 27).map (·.size) = some Y.length := by rw [hYl]; exact size27
  have BN : Hid (Blk (w5.alloc (Obj.cells (List.map (Value.int IntKind.u32) Z).toArray 27)) w5.heap.size .u32 27 Z) := Blk.new w5 .u32 27 Z
  go_upto_region 5 with (first | (refine wpList_store_but rfl 27 _ _ rfl w5.heap.size Y rfl rfl BN.out zY (by rw [hZl, hYl]) ?_; intro w6 bY hw6 hs6))
  simp only [Act.put]
  have hal6 : Below w5.heap.size w5 (w5.alloc (Obj.cells (List.map (Value.int IntKind.u32) Z).toArray 27)) := below_one _ _
  have hb6 : Below w5.heap.size w5 w6 := hal6.trans (hw6.below (Nat.le_refl _) (by simp))
  have bA6 := bA5.on hb6
  have bB6 := bB5.on hb6
  have M6 := M5.on hb6
  have P6 := P5.on hb6
  have bX6 := bX5.on hb6
  have hW6 := hW5.trans (hb6.mono hW5.size)
  clear bA5 bB5 M5 P5 bX5 hal6 hw6 hs6 hb6 hW5 BN
  generalize w5.heap.size = gy at *
  have lenM : (xs ++ markW 120).length = n + 120 := by rw [List.length_append, hx1, markW_length]
  have lenP : (bs ++ markB 200).length = m + 200 := by rw [List.length_append, hy1, markB_length]
  have R30 : Hid (∀ w, Below w6.heap.size w6 w → Calls Tryd.prog 30 #[.slice aw n cw] w fun e w' => e = .returned (.agg (X.map (Value.int .u32)).toArray) ∧ Below w6.heap.size w6 w') := fun w hw => by
    have hW := hW6.trans (hw.mono hW6.size)
    refine (words30 W w hR h2 hW aw n cw xs hx1 (HX3.out.below hW) hx5).mono ?_
    rintro e w' ⟨rfl, hb⟩
    rw [HX.out]
    exact ⟨rfl, hw.trans (hb.mono hw.size)⟩
  have R31 : Hid (∀ w, Below w6.heap.size w6 w → Calls Tryd.prog 31 #[.slice ab m cb] w fun e w' => e = .returned (.agg (Y.map (Value.int .u32)).toArray) ∧ Below w6.heap.size w6 w') := fun w hw => by
    have hW := hW6.trans (hw.mono hW6.size)
    refine (bytes31 W w hR h2 hW ab m cb bs hy1 HY2.out (HY3.out.below hW) hy4 hy5).mono ?_
    rintro e w' ⟨rfl, hb⟩
    rw [HY.out]
    exact ⟨rfl, hw.trans (hb.mono hw.size)⟩
  have R32 : Hid (∀ w, Below w6.heap.size w6 w → Calls Tryd.prog 32 #[.slice (some ⟨gl, 0, none⟩) (n + 120) cl, .slice aw n cw] w fun e w' => e = .returned (.bool true) ∧ Below w6.heap.size w6 w') := fun w hw => by
    have hW := hW6.trans (hw.mono hW6.size)
    refine (whole_yes w (some ⟨gl, 0, none⟩) cl aw n cw xs hx1 (M6.on hw).at (HX3.out.below hW) hx5).mono ?_
    rintro e w' ⟨rfl, hb⟩
    exact ⟨rfl, hw.trans (hb.mono hw.size)⟩
  obtain ⟨ST, hST⟩ : ∃ ST, ST = strOfNums (bs ++ markB 200) := ⟨_, rfl⟩
  have R29 : Hid (∀ w, Below w6.heap.size w6 w → Calls Tryd.prog 29 #[.slice ab m cb] w fun e w' => ∃ g' c', e = .returned (.slice (some ⟨g', 0, none⟩) (m + 200) c') ∧ Below w6.heap.size w6 w' ∧ (convert 22 9 (.slice (some ⟨g', 0, none⟩) (m + 200) c')).run Tryd.prog w' = .ok (.string ST) w') := fun w hw => by
    have hW := hW6.trans (hw.mono hW6.size)
    refine (lentBytes_mine w ab m cb bs hy1 (HY3.out.below hW) hy5).mono ?_
    rintro e w' ⟨g', c', rfl, _, _, P', hb⟩
    rw [hST]
    exact ⟨g', c', rfl, hw.trans (hb.mono hw.size), P'.str lenP⟩
  have cv : ∀ w, Below w6.heap.size w6 w → (convert 22 9 (.slice (some ⟨gp, 0, none⟩) (m + 200) cp)).run Tryd.prog w = .ok (.string ST) w := fun w hw => by rw [hST]; exact (P6.on hw).str lenP
  obtain ⟨N, hN⟩ : ∃ N : Nat, N = 8 := ⟨_, rfl⟩
  have a27 := Tryd.isAgg27
  have z27 := Tryd.sizeOf27
  rw [← hN] at z27
  have ld1 : ∀ w, Below w6.heap.size w6 w → (loadCellsFrom ⟨gx, 0, none⟩ 0 N #[]).run Tryd.prog w = .ok (X.map (Value.int .u32)).toArray w := fun w hw => cells_blk (bX6.on hw) N (by rw [hXl, hN])
  have ld2 : ∀ w, Below w6.heap.size w6 w → (loadCellsFrom ⟨gy, 0, none⟩ 0 N #[]).run Tryd.prog w = .ok (Y.map (Value.int .u32)).toArray w := fun w hw => cells_blk (bY.on hw) N (by rw [hYl, hN])
  have e1 := eq27 X X hXl hXl
  rw [decide_eq_true rfl] at e1
  have e2 := eq27 Y Y hYl hYl
  rw [decide_eq_true rfl] at e2
  have BX : Hid (Below w6.heap.size w6 w6.drew) := (Below.refl _ _).drew
  have F6 : Hid (Blk w6 W.heap.size .u32 27 A ∧ Blk w6 (W.heap.size + 1) .u32 51 B ∧ Mine w6 gl .u32 26 (xs ++ markW 120) ∧ Mine w6 gp .u8 5 (bs ++ markB 200) ∧ Below W.heap.size W w6) := ⟨bA6, bB6, M6, P6, hW6⟩
  clear bA6 bB6 M6 P6 bX6 hW6 bY hST hN
  go_cut [50] (fun c w => c = .bool false ∧ Below w6.heap.size w6 w)
  case first =>
    refine wp_region_held_drew (S := fun w => Below w6.heap.size w6 w) (by kernel_rfl) BX.out (fun hHeld => ?_)
    refine wpAnyH_take (i := 0) (oi := { dst := some 27, op := Op.load 27 (Operand.tmp 11), type := 27, pos := "law.go:68", after := #[], guard := none }) (v := .agg (X.map (Value.int .u32)).toArray) rfl (by kernel_rfl) (by kernel_rfl) (by kernel_rfl) (fun _ _ _ h => h) (Or.inl ⟨by rfl, by intro w hSw; go_simp⟩) (by assumption) ?_
    simp only [Act.put, List.setIfInBounds_toArray, List.set_cons_zero, List.set_cons_succ]
    refine wpAnyH_take (i := 1) (oi := { dst := some 28, op := Op.move (Operand.tmp 2), type := 23, pos := "law.go:68", after := #[], guard := none }) (v := .slice aw n cw) rfl (by kernel_rfl) (by kernel_rfl) (by kernel_rfl) (fun _ _ _ h => h) (Or.inl ⟨by rfl, by intro w hSw; go_simp⟩) (by assumption) ?_
    simp only [Act.put, List.setIfInBounds_toArray, List.set_cons_zero, List.set_cons_succ]
    refine wpAnyH_ready (rs := [2]) (by kernel_rfl) (by simp) (AllReadyH.cons (o := { dst := some 29, op := Op.call { callee := Callee.value (Operand.func 30), args := #[Operand.tmp 28], argTypes := #[23] }, type := 27, pos := "law.go:68", after := #[{ on := 1, ground := Ground.data }], guard := none }) rfl (fun K hK => ?_) AllReadyH.nil)
    go_simp
    refine (R30.out _ BX.out).mono ?_
    rintro en wa ⟨rfl, hwa⟩
    go_wp2_with fail
    refine hK.out _ _ hwa (fun hHeld => ?_)
    clear hK K
    try simp only [Act.put, List.setIfInBounds_toArray, List.set_cons_zero, List.set_cons_succ]
    refine wpAnyH_take (i := 3) (oi := { dst := some 30, op := Op.binOp BinOp.neq 27 (Operand.tmp 27) (Operand.tmp 29) 27, type := 4, pos := "law.go:68", after := #[{ on := 0, ground := Ground.data }, { on := 2, ground := Ground.data }], guard := none }) (v := .bool false) rfl (by kernel_rfl) (by kernel_rfl) (by kernel_rfl) (fun _ _ _ h => h) (Or.inl ⟨by rfl, by intro w hSw; go_simp⟩) (by assumption) ?_
    simp only [Act.put, List.setIfInBounds_toArray, List.set_cons_zero, List.set_cons_succ]
    refine wpAnyH_take (i := 4) (oi := { dst := some 31, op := Op.move (Operand.tmp 30), type := 4, pos := "law.go:68", after := #[{ on := 3, ground := Ground.data }, { on := 2, ground := Ground.chain }], guard := none }) (v := .bool false) rfl (by kernel_rfl) (by kernel_rfl) (by kernel_rfl) (fun _ _ _ h => h) (Or.inl ⟨by rfl, by intro w hSw; go_simp⟩) (by assumption) ?_
    simp only [Act.put, List.setIfInBounds_toArray, List.set_cons_zero, List.set_cons_succ]
    refine wpAnyH_take (i := 5) (oi := { dst := some 32, op := Op.load 27 (Operand.tmp 12), type := 27, pos := "law.go:68", after := #[{ on := 4, ground := Ground.guard }], guard := some (4, false) }) (v := .agg (Y.map (Value.int .u32)).toArray) rfl (by kernel_rfl) (by kernel_rfl) (by kernel_rfl) (fun _ _ _ h => h) (Or.inl ⟨by rfl, by intro w hSw; go_simp⟩) (by assumption) ?_
    simp only [Act.put, List.setIfInBounds_toArray, List.set_cons_zero, List.set_cons_succ]
    refine wpAnyH_take (i := 6) (oi := { dst := some 33, op := Op.move (Operand.tmp 3), type := 22, pos := "law.go:68", after := #[{ on := 4, ground := Ground.guard }], guard := some (4, false) }) (v := .slice ab m cb) rfl (by kernel_rfl) (by kernel_rfl) (by kernel_rfl) (fun _ _ _ h => h) (Or.inl ⟨by rfl, by intro w hSw; go_simp⟩) (by assumption) ?_
    simp only [Act.put, List.setIfInBounds_toArray, List.set_cons_zero, List.set_cons_succ]
    refine wpAnyH_ready (rs := [7]) (by kernel_rfl) (by simp) (AllReadyH.cons (o := { dst := some 34, op := Op.call { callee := Callee.value (Operand.func 31), args := #[Operand.tmp 33], argTypes := #[22] }, type := 27, pos := "law.go:68", after := #[{ on := 6, ground := Ground.data }, { on := 4, ground := Ground.chain }, { on := 4, ground := Ground.guard }], guard := some (4, false) }) rfl (fun K hK => ?_) AllReadyH.nil)
    go_simp
    refine (R31.out _ hwa).mono ?_
    rintro en wb ⟨rfl, hwb⟩
    go_wp2_with fail
    refine hK.out _ _ hwb (fun hHeld => ?_)
    clear hK K
    try simp only [Act.put, List.setIfInBounds_toArray, List.set_cons_zero, List.set_cons_succ]
    refine wpAnyH_take (i := 8) (oi := { dst := some 35, op := Op.binOp BinOp.neq 27 (Operand.tmp 32) (Operand.tmp 34) 27, type := 4, pos := "law.go:68", after := #[{ on := 5, ground := Ground.data }, { on := 7, ground := Ground.data }, { on := 4, ground := Ground.guard }], guard := some (4, false) }) (v := .bool false) rfl (by kernel_rfl) (by kernel_rfl) (by kernel_rfl) (fun _ _ _ h => h) (Or.inl ⟨by rfl, by intro w hSw; go_simp⟩) (by assumption) ?_
    simp only [Act.put, List.setIfInBounds_toArray, List.set_cons_zero, List.set_cons_succ]
    refine wpAnyH_take (i := 9) (oi := { dst := some 36, op := Op.pick (Operand.tmp 31) (Operand.const (Value.bool true)) (Operand.tmp 35), type := 4, pos := "law.go:68", after := #[{ on := 4, ground := Ground.data }, { on := 8, ground := Ground.data }], guard := none }) (v := .bool false) rfl (by kernel_rfl) (by kernel_rfl) (by kernel_rfl) (fun _ _ _ h => h) (Or.inl ⟨by rfl, by intro w hSw; go_simp⟩) (by assumption) ?_
    simp only [Act.put, List.setIfInBounds_toArray, List.set_cons_zero, List.set_cons_succ]
    refine wpAnyH_take (i := 10) (oi := { dst := some 37, op := Op.move (Operand.tmp 36), type := 4, pos := "law.go:68", after := #[{ on := 9, ground := Ground.data }, { on := 7, ground := Ground.chain }], guard := none }) (v := .bool false) rfl (by kernel_rfl) (by kernel_rfl) (by kernel_rfl) (fun _ _ _ h => h) (Or.inl ⟨by rfl, by intro w hSw; go_simp⟩) (by assumption) ?_
    simp only [Act.put, List.setIfInBounds_toArray, List.set_cons_zero, List.set_cons_succ]
    refine wpAnyH_take (i := 11) (oi := { dst := some 38, op := Op.move (Operand.tmp 9), type := 23, pos := "law.go:68", after := #[{ on := 10, ground := Ground.guard }], guard := some (10, false) }) (v := .slice (some ⟨gl, 0, none⟩) (n + 120) cl) rfl (by kernel_rfl) (by kernel_rfl) (by kernel_rfl) (fun _ _ _ h => h) (Or.inl ⟨by rfl, by intro w hSw; go_simp⟩) (by assumption) ?_
    simp only [Act.put, List.setIfInBounds_toArray, List.set_cons_zero, List.set_cons_succ]
    refine wpAnyH_take (i := 12) (oi := { dst := some 39, op := Op.move (Operand.tmp 2), type := 23, pos := "law.go:68", after := #[{ on := 10, ground := Ground.guard }], guard := some (10, false) }) (v := .slice aw n cw) rfl (by kernel_rfl) (by kernel_rfl) (by kernel_rfl) (fun _ _ _ h => h) (Or.inl ⟨by rfl, by intro w hSw; go_simp⟩) (by assumption) ?_
    simp only [Act.put, List.setIfInBounds_toArray, List.set_cons_zero, List.set_cons_succ]
    refine wpAnyH_ready (rs := [13]) (by kernel_rfl) (by simp) (AllReadyH.cons (o := { dst := some 40, op := Op.call { callee := Callee.value (Operand.func 32), args := #[Operand.tmp 38, Operand.tmp 39], argTypes := #[23, 23] }, type := 4, pos := "law.go:68", after := #[{ on := 11, ground := Ground.data }, { on := 12, ground := Ground.data }, { on := 10, ground := Ground.chain }, { on := 10, ground := Ground.guard }], guard := some (10, false) }) rfl (fun K hK => ?_) AllReadyH.nil)
    go_simp
    refine (R32.out _ hwb).mono ?_
    rintro en wc ⟨rfl, hwc⟩
    go_wp2_with fail
    refine hK.out _ _ hwc (fun hHeld => ?_)
    clear hK K
    try simp only [Act.put, List.setIfInBounds_toArray, List.set_cons_zero, List.set_cons_succ]
    refine wpAnyH_take (i := 14) (oi := { dst := some 41, op := Op.unOp UnOp.not 4 (Operand.tmp 40), type := 4, pos := "law.go:68", after := #[{ on := 13, ground := Ground.data }, { on := 10, ground := Ground.guard }], guard := some (10, false) }) (v := .bool false) rfl (by kernel_rfl) (by kernel_rfl) (by kernel_rfl) (fun _ _ _ h => h) (Or.inl ⟨by rfl, by intro w hSw; go_simp⟩) (by assumption) ?_
    simp only [Act.put, List.setIfInBounds_toArray, List.set_cons_zero, List.set_cons_succ]
    refine wpAnyH_take (i := 15) (oi := { dst := some 42, op := Op.pick (Operand.tmp 37) (Operand.const (Value.bool true)) (Operand.tmp 41), type := 4, pos := "law.go:68", after := #[{ on := 10, ground := Ground.data }, { on := 14, ground := Ground.data }], guard := none }) (v := .bool false) rfl (by kernel_rfl) (by kernel_rfl) (by kernel_rfl) (fun _ _ _ h => h) (Or.inl ⟨by rfl, by intro w hSw; go_simp⟩) (by assumption) ?_
    simp only [Act.put, List.setIfInBounds_toArray, List.set_cons_zero, List.set_cons_succ]
    refine wpAnyH_take (i := 16) (oi := { dst := some 43, op := Op.move (Operand.tmp 42), type := 4, pos := "law.go:68", after := #[{ on := 15, ground := Ground.data }, { on := 13, ground := Ground.chain }], guard := none }) (v := .bool false) rfl (by kernel_rfl) (by kernel_rfl) (by kernel_rfl) (fun _ _ _ h => h) (Or.inl ⟨by rfl, by intro w hSw; go_simp⟩) (by assumption) ?_
    simp only [Act.put, List.setIfInBounds_toArray, List.set_cons_zero, List.set_cons_succ]
    refine wpAnyH_take (i := 17) (oi := { dst := some 44, op := Op.move (Operand.tmp 10), type := 22, pos := "law.go:68", after := #[{ on := 16, ground := Ground.guard }], guard := some (16, false) }) (v := .slice (some ⟨gp, 0, none⟩) (m + 200) cp) rfl (by kernel_rfl) (by kernel_rfl) (by kernel_rfl) (fun _ _ _ h => h) (Or.inl ⟨by rfl, by intro w hSw; go_simp⟩) (by assumption) ?_
    simp only [Act.put, List.setIfInBounds_toArray, List.set_cons_zero, List.set_cons_succ]
    refine wpAnyH_take (i := 18) (oi := { dst := some 45, op := Op.convert 22 9 (Operand.tmp 44), type := 9, pos := "law.go:68", after := #[{ on := 17, ground := Ground.data }, { on := 16, ground := Ground.guard }], guard := some (16, false) }) (v := .string ST) rfl (by kernel_rfl) (by kernel_rfl) (by kernel_rfl) (fun _ _ _ h => h) (Or.inl ⟨by rfl, by intro w hSw; go_simp⟩) (by assumption) ?_
    simp only [Act.put, List.setIfInBounds_toArray, List.set_cons_zero, List.set_cons_succ]
    refine wpAnyH_take (i := 19) (oi := { dst := some 46, op := Op.move (Operand.tmp 3), type := 22, pos := "law.go:68", after := #[{ on := 16, ground := Ground.guard }], guard := some (16, false) }) (v := .slice ab m cb) rfl (by kernel_rfl) (by kernel_rfl) (by kernel_rfl) (fun _ _ _ h => h) (Or.inl ⟨by rfl, by intro w hSw; go_simp⟩) (by assumption) ?_
    simp only [Act.put, List.setIfInBounds_toArray, List.set_cons_zero, List.set_cons_succ]
    refine wpAnyH_ready (rs := [20]) (by kernel_rfl) (by simp) (AllReadyH.cons (o := { dst := some 47, op := Op.call { callee := Callee.value (Operand.func 29), args := #[Operand.tmp 46], argTypes := #[22] }, type := 22, pos := "law.go:68", after := #[{ on := 19, ground := Ground.data }, { on := 16, ground := Ground.chain }, { on := 16, ground := Ground.guard }], guard := some (16, false) }) rfl (fun K hK => ?_) AllReadyH.nil)
    go_simp
    refine (R29.out _ hwc).mono ?_
    rintro en wd ⟨g', c', rfl, hwd, cv2⟩
    go_wp2_with fail
    refine hK.out _ _ hwd (fun hHeld => ?_)
    clear hK K
    try simp only [Act.put, List.setIfInBounds_toArray, List.set_cons_zero, List.set_cons_succ]
    refine wpAnyH_ready (rs := [21]) (by kernel_rfl) (by simp) (AllReadyH.cons (o := { dst := some 48, op := Op.convert 22 9 (Operand.tmp 47), type := 9, pos := "law.go:68", after := #[{ on := 20, ground := Ground.data }, { on := 16, ground := Ground.guard }], guard := some (16, false) }) rfl (fun K hK => ?_) AllReadyH.nil)
    go_simp
    refine hK.out _ _ hwd (fun hHeld => ?_)
    clear hK K
    try simp only [Act.put, List.setIfInBounds_toArray, List.set_cons_zero, List.set_cons_succ]
    refine wpAnyH_take (i := 22) (oi := { dst := some 49, op := Op.binOp BinOp.neq 9 (Operand.tmp 45) (Operand.tmp 48) 9, type := 4, pos := "law.go:68", after := #[{ on := 18, ground := Ground.data }, { on := 21, ground := Ground.data }, { on := 16, ground := Ground.guard }], guard := some (16, false) }) (v := .bool false) rfl (by kernel_rfl) (by kernel_rfl) (by kernel_rfl) (fun _ _ _ h => h) (Or.inl ⟨by rfl, by intro w hSw; go_simp⟩) (by assumption) ?_
    simp only [Act.put, List.setIfInBounds_toArray, List.set_cons_zero, List.set_cons_succ]
    refine wpAnyH_take (i := 23) (oi := { dst := some 50, op := Op.pick (Operand.tmp 43) (Operand.const (Value.bool true)) (Operand.tmp 49), type := 4, pos := "law.go:68", after := #[{ on := 16, ground := Ground.data }, { on := 22, ground := Ground.data }], guard := none }) (v := .bool false) rfl (by kernel_rfl) (by kernel_rfl) (by kernel_rfl) (fun _ _ _ h => h) (Or.inl ⟨by rfl, by intro w hSw; go_simp⟩) (by assumption) ?_
    simp only [Act.put, List.setIfInBounds_toArray, List.set_cons_zero, List.set_cons_succ]
    refine wpAnyH_done (by kernel_rfl) ?_ _
    all_goals (go_wp2_with fail; go_meet; exact ⟨rfl, hwd⟩)
  case rest =>
    obtain ⟨rfl, hb7⟩ := hcut
    obtain ⟨bA6, bB6, M6, P6, hW6⟩ := F6.out
    have F7 : Hid (Blk wc W.heap.size .u32 27 A ∧ Blk wc (W.heap.size + 1) .u32 51 B ∧ Mine wc gl .u32 26 (xs ++ markW 120) ∧ Mine wc gp .u8 5 (bs ++ markB 200) ∧ Below W.heap.size W wc) := ⟨bA6.on hb7, bB6.on hb7, M6.on hb7, P6.on hb7, hW6.trans (hb7.mono hW6.size)⟩
    clear bA6 bB6 M6 P6 hW6 hb7 F6 BX e1 e2 ld1 ld2 cv R29 R30 R31 R32 a27 z27 zX zY hXl hYl HX HY hpx hz hZl
    go_upto_if 53 with fail
    go_cut [] (fun w => ∃ ys : List Int, ys.length = n ∧ Wds ys ∧ Blk w W.heap.size .u32 27 A ∧ Blk w (W.heap.size + 1) .u32 51 B ∧ Mine w gl .u32 26 (ys ++ markW 120) ∧ Mine w gp .u8 5 (bs ++ markB 200) ∧ Below W.heap.size W w)
    case first =>
      by_cases hn0 : 0 < n
      · have q0 : (0 : Int) < (n : Int) := by omega
        obtain ⟨bA7, bB7, M7, P7, hW7⟩ := F7.out
        have cx := M7.cell (n / 2) (by rw [lenM]; omega)
        rw [List.getD_eq_getElem?_getD, List.getElem?_append_left (by omega), ← List.getD_eq_getElem?_getD] at cx
        have fx := M7.free (n / 2)
        have bx := HX2.out (n / 2)
        generalize xs.getD (n / 2) 0 = x at *
        have bx' := xor1_word x bx.1 bx.2
        have WS : Hid (Wds (xs.set (n / 2) (bits .xor .u32 x 1))) := wds_set' HX2.out _ _ bx'.1 bx'.2
        have LS : Hid ((xs.set (n / 2) (bits .xor .u32 x 1)).length = n) := by unfold Hid; rw [List.length_set]; exact hx1
        have FS : Hid (Blk (wc.setCell ⟨gl, n / 2, none⟩ (.int .u32 (bits .xor .u32 x 1))) W.heap.size .u32 27 A ∧ Blk (wc.setCell ⟨gl, n / 2, none⟩ (.int .u32 (bits .xor .u32 x 1))) (W.heap.size + 1) .u32 51 B ∧ Mine (wc.setCell ⟨gl, n / 2, none⟩ (.int .u32 (bits .xor .u32 x 1))) gl .u32 26 (xs.set (n / 2) (bits .xor .u32 x 1) ++ markW 120) ∧ Mine (wc.setCell ⟨gl, n / 2, none⟩ (.int .u32 (bits .xor .u32 x 1))) gp .u8 5 (bs ++ markB 200) ∧ Below W.heap.size W (wc.setCell ⟨gl, n / 2, none⟩ (.int .u32 (bits .xor .u32 x 1)))) := by
          refine ⟨bA7.other _ (by omega), bB7.other _ (by omega), ?_, P7.but (but_setCell _ _ _ _) (by omega), hW7.setCell (show W.heap.size ≤ gl by omega) _⟩
          have := M7.set (n / 2) (bits .xor .u32 x 1)
          rwa [List.set_append_left _ _ (by omega)] at this
        clear bA7 bB7 M7 P7 hW7 bx bx'
        go_wp2_with fail
        go_meet
        exact ⟨_, LS.out, WS.out, FS.out⟩
      · obtain rfl : n = 0 := by omega
        go_wp2_with fail
        go_meet
        exact ⟨xs, hx1, HX2.out, F7.out⟩
    case rest =>
      obtain ⟨ys, hys1, hys2, F8⟩ := hcut
      have F8' : Hid (Blk wc W.heap.size .u32 27 A ∧ Blk wc (W.heap.size + 1) .u32 51 B ∧ Mine wc gl .u32 26 (ys ++ markW 120) ∧ Mine wc gp .u8 5 (bs ++ markB 200) ∧ Below W.heap.size W wc) := F8
      have YS2 : Hid (Wds ys) := hys2
      clear F8 hys2 F7 lenM
      go_upto_if 68 with fail
      go_cut [] (fun w => ∃ zs : List Int, zs.length = m ∧ Bts zs ∧ Blk w W.heap.size .u32 27 A ∧ Blk w (W.heap.size + 1) .u32 51 B ∧ Mine w gl .u32 26 (ys ++ markW 120) ∧ Mine w gp .u8 5 (zs ++ markB 200) ∧ Below W.heap.size W w)
      case first =>
        by_cases hn0 : 0 < m
        · have q0 : (0 : Int) < (m : Int) := by omega
          obtain ⟨bA7, bB7, M7, P7, hW7⟩ := F8'.out
          have cx := P7.cell (m / 2) (by rw [lenP]; omega)
          rw [List.getD_eq_getElem?_getD, List.getElem?_append_left (by omega), ← List.getD_eq_getElem?_getD] at cx
          have fx := P7.free (m / 2)
          have bx := HY2.out (m / 2)
          generalize bs.getD (m / 2) 0 = x at *
          have bx' := xor1_byte x bx.1 bx.2
          have WS : Hid (Bts (bs.set (m / 2) (bits .xor .u8 x 1))) := bts_set HY2.out _ _ bx'.1 bx'.2
          have LS : Hid ((bs.set (m / 2) (bits .xor .u8 x 1)).length = m) := by unfold Hid; rw [List.length_set]; exact hy1
          have FS : Hid (Blk (wc.setCell ⟨gp, m / 2, none⟩ (.int .u8 (bits .xor .u8 x 1))) W.heap.size .u32 27 A ∧ Blk (wc.setCell ⟨gp, m / 2, none⟩ (.int .u8 (bits .xor .u8 x 1))) (W.heap.size + 1) .u32 51 B ∧ Mine (wc.setCell ⟨gp, m / 2, none⟩ (.int .u8 (bits .xor .u8 x 1))) gl .u32 26 (ys ++ markW 120) ∧ Mine (wc.setCell ⟨gp, m / 2, none⟩ (.int .u8 (bits .xor .u8 x 1))) gp .u8 5 (bs.set (m / 2) (bits .xor .u8 x 1) ++ markB 200) ∧ Below W.heap.size W (wc.setCell ⟨gp, m / 2, none⟩ (.int .u8 (bits .xor .u8 x 1)))) := by
            refine ⟨bA7.other _ (by omega), bB7.other _ (by omega), M7.but (but_setCell _ _ _ _) (by omega), ?_, hW7.setCell (show W.heap.size ≤ gp by omega) _⟩
            have := P7.set (m / 2) (bits .xor .u8 x 1)
            rwa [List.set_append_left _ _ (by omega)] at this
          clear bA7 bB7 M7 P7 hW7 bx bx'
          go_wp2_with fail
          go_meet
          exact ⟨_, LS.out, WS.out, FS.out⟩
        · obtain rfl : m = 0 := by omega
          go_wp2_with fail
          go_meet
          exact ⟨bs, hy1, HY2.out, F8'.out⟩
      case rest =>
        obtain ⟨zs, hzs1, hzs2, F9⟩ := hcut
        have F9' : Hid (Blk wc W.heap.size .u32 27 A ∧ Blk wc (W.heap.size + 1) .u32 51 B ∧ Below W.heap.size W wc) := ⟨F9.1, F9.2.1, F9.2.2.2.2⟩
        obtain ⟨_, _, M9, P9, hW9⟩ := F9
        obtain ⟨X, hX⟩ : ∃ X, X = sumB (bytesD ys) := ⟨_, rfl⟩
        have hXl : X.length = 8 := by rw [hX]; exact sumB_len _
        obtain ⟨Y, hY⟩ : ∃ Y, Y = sumB zs := ⟨_, rfl⟩
        have hYl : Y.length = 8 := by rw [hY]; exact sumB_len _
        have R14 : Hid (∀ w, Below wc.heap.size wc w → Calls Tryd.prog 14 #[.slice (some ⟨gl, 0, none⟩) n cl] w fun e w' => e = .returned (.agg (X.map (Value.int .u32)).toArray) ∧ Below wc.heap.size wc w') := fun w hw => by
          have hW := hW9.trans (hw.mono hW9.size)
          refine (words14 W w hT h2 hW _ n cl ys hys1 YS2.out (M9.on hw).head hx5).mono ?_
          rintro e w' ⟨rfl, hb⟩
          rw [hX]
          exact ⟨rfl, hw.trans (hb.mono hw.size)⟩
        have R30 : Hid (∀ w, Below wc.heap.size wc w → Calls Tryd.prog 30 #[.slice (some ⟨gl, 0, none⟩) n cl] w fun e w' => e = .returned (.agg (X.map (Value.int .u32)).toArray) ∧ Below wc.heap.size wc w') := fun w hw => by
          have hW := hW9.trans (hw.mono hW9.size)
          refine (words30 W w hR h2 hW _ n cl ys hys1 (M9.on hw).head hx5).mono ?_
          rintro e w' ⟨rfl, hb⟩
          rw [hX]
          exact ⟨rfl, hw.trans (hb.mono hw.size)⟩
        have R11 : Hid (∀ w, Below wc.heap.size wc w → Calls Tryd.prog 11 #[.slice (some ⟨gp, 0, none⟩) m cp] w fun e w' => e = .returned (.agg (Y.map (Value.int .u32)).toArray) ∧ Below wc.heap.size wc w') := fun w hw => by
          have hW := hW9.trans (hw.mono hW9.size)
          refine (bytes11 W w hT h2 hW _ m cp zs hzs1 hzs2 (P9.on hw).head (by omega) hy5).mono ?_
          rintro e w' ⟨rfl, hb⟩
          rw [hY]
          exact ⟨rfl, hw.trans (hb.mono hw.size)⟩
        have R31 : Hid (∀ w, Below wc.heap.size wc w → Calls Tryd.prog 31 #[.slice (some ⟨gp, 0, none⟩) m cp] w fun e w' => e = .returned (.agg (Y.map (Value.int .u32)).toArray) ∧ Below wc.heap.size wc w') := fun w hw => by
          have hW := hW9.trans (hw.mono hW9.size)
          refine (bytes31 W w hR h2 hW _ m cp zs hzs1 hzs2 (P9.on hw).head (by omega) hy5).mono ?_
          rintro e w' ⟨rfl, hb⟩
          rw [hY]
          exact ⟨rfl, hw.trans (hb.mono hw.size)⟩
        have e1 := eq27 X X hXl hXl
        rw [decide_eq_true rfl] at e1
        have e2 := eq27 Y Y hYl hYl
        rw [decide_eq_true rfl] at e2
        have BX : Hid (Below wc.heap.size wc wc.drew) := (Below.refl _ _).drew
        clear M9 P9 hW9 hX hY hXl hYl hzs2 F8' YS2
        go_upto_region 11 with fail
        go_cut [104] (fun c w => c = .bool false ∧ Below wc.heap.size wc w)
        case first =>
          go_region_held3 (fun w => Below wc.heap.size wc w) (first | (exact BX.out) | (exact hwa) | (exact hwb) | (exact hwc) | (exact hwd)) (first | (go_at_call 14; refine (R14.out _ BX.out).mono ?_; rintro en wa ⟨rfl, hwa⟩) | (go_at_call 30; refine (R30.out _ hwa).mono ?_; rintro en wb ⟨rfl, hwb⟩) | (go_at_call 11; refine (R11.out _ hwb).mono ?_; rintro en wc' ⟨rfl, hwc⟩) | (go_at_call 31; refine (R31.out _ hwc).mono ?_; rintro en wd ⟨rfl, hwd⟩))
          all_goals (go_wp2_with fail; go_meet; exact ⟨rfl, hwd⟩)
        case rest =>
          obtain ⟨rfl, hb10⟩ := hcut
          obtain ⟨bA9, bB9, hW9⟩ := F9'.out
          have bA := bA9.on hb10
          have bB := bB9.on hb10
          have hW10 := hW9.trans (hb10.mono hW9.size)
          clear bA9 bB9 hW9 hb10 F9' R14 R30 R11 R31 BX e1 e2 c1 c2 hcl hcp hlp
          obtain ⟨N, hN⟩ : ∃ N : Nat, N = 8 := ⟨_, rfl⟩
          obtain ⟨N', hN'⟩ : ∃ N : Nat, N = 16 := ⟨_, rfl⟩
          have a27 := Tryd.isAgg27
          have z27 := Tryd.sizeOf27
          have a51 := Tryd.isAgg51
          have z51 := Tryd.sizeOf51
          rw [← hN] at z27
          rw [← hN'] at z51
          obtain ⟨X2, hX2⟩ : ∃ X2, X2 = S.block A B := ⟨_, rfl⟩
          have hX2l : X2.length = 8 := by rw [hX2]; exact block_length _ _
          have R33 : Hid (∀ w, Below wc.heap.size wc w → Calls Tryd.prog 33 #[.agg (A.map (Value.int .u32)).toArray, .agg (B.map (Value.int .u32)).toArray] w fun e w' => e = .returned (.agg (X2.map (Value.int .u32)).toArray) ∧ Below wc.heap.size wc w') := fun w hw => by
            have hW := hW10.trans (hw.mono hW10.size)
            refine (block_any w (hT.below hW h2) (by have := hW.size; omega) A B hA hB).mono ?_
            rintro e w' ⟨rfl, hb⟩
            rw [hX2]
            exact ⟨rfl, hw.trans (hb.mono hw.size)⟩
          have R34 : Hid (∀ w, Below wc.heap.size wc w → Calls Tryd.prog 34 #[.agg (A.map (Value.int .u32)).toArray, .agg (B.map (Value.int .u32)).toArray] w fun e w' => e = .returned (.agg (X2.map (Value.int .u32)).toArray) ∧ Below wc.heap.size wc w') := fun w hw => by
            have hW := hW10.trans (hw.mono hW10.size)
            refine (rblock_any w (hR.below hW (by omega)) (by have := hW.size; omega) A B hA hB).mono ?_
            rintro e w' ⟨rfl, hb⟩
            rw [hX2]
            exact ⟨rfl, hw.trans (hb.mono hw.size)⟩
          have e1 := eq27 X2 X2 hX2l hX2l
          rw [decide_eq_true rfl] at e1
          have ld1 : ∀ w, Below wc.heap.size wc w → (loadCellsFrom ⟨W.heap.size, 0, none⟩ 0 N #[]).run Tryd.prog w = .ok (A.map (Value.int .u32)).toArray w := fun w hw => cells_blk (bA.on hw) N (by rw [hA, hN])
          have ld2 : ∀ w, Below wc.heap.size wc w → (loadCellsFrom ⟨W.heap.size + 1, 0, none⟩ 0 N' #[]).run Tryd.prog w = .ok (B.map (Value.int .u32)).toArray w := fun w hw => cells_blk (bB.on hw) N' (by rw [hB, hN'])
          have BX : Hid (Below wc.heap.size wc wc.drew) := (Below.refl _ _).drew
          have HW10 : Hid (Below W.heap.size W wc) := hW10
          clear bA bB hW10 hX2 hN hN'
          go_wp2_with fail
          refine wp_region_held_drew (S := fun w => Below wc.heap.size wc w) (by kernel_rfl) BX.out (fun hHeld => ?_)
          refine wpAnyH_take (i := 0) (oi := { dst := some 105, op := Op.load 27 (Operand.tmp 4), type := 27, pos := "law.go:80", after := #[], guard := none }) (v := .agg (A.map (Value.int .u32)).toArray) rfl (by kernel_rfl) (by kernel_rfl) (by kernel_rfl) (fun _ _ _ h => h) (Or.inl ⟨by rfl, by intro w hSw; go_simp⟩) (by assumption) ?_
          simp only [Act.put, List.setIfInBounds_toArray, List.set_cons_zero, List.set_cons_succ]
          refine wpAnyH_take (i := 1) (oi := { dst := some 106, op := Op.load 51 (Operand.tmp 5), type := 51, pos := "law.go:80", after := #[], guard := none }) (v := .agg (B.map (Value.int .u32)).toArray) rfl (by kernel_rfl) (by kernel_rfl) (by kernel_rfl) (fun _ _ _ h => h) (Or.inl ⟨by rfl, by intro w hSw; go_simp⟩) (by assumption) ?_
          simp only [Act.put, List.setIfInBounds_toArray, List.set_cons_zero, List.set_cons_succ]
          refine wpAnyH_take (i := 3) (oi := { dst := some 108, op := Op.load 27 (Operand.tmp 4), type := 27, pos := "law.go:80", after := #[], guard := none }) (v := .agg (A.map (Value.int .u32)).toArray) rfl (by kernel_rfl) (by kernel_rfl) (by kernel_rfl) (fun _ _ _ h => h) (Or.inl ⟨by rfl, by intro w hSw; go_simp⟩) (by assumption) ?_
          simp only [Act.put, List.setIfInBounds_toArray, List.set_cons_zero, List.set_cons_succ]
          refine wpAnyH_take (i := 4) (oi := { dst := some 109, op := Op.load 51 (Operand.tmp 5), type := 51, pos := "law.go:80", after := #[], guard := none }) (v := .agg (B.map (Value.int .u32)).toArray) rfl (by kernel_rfl) (by kernel_rfl) (by kernel_rfl) (fun _ _ _ h => h) (Or.inl ⟨by rfl, by intro w hSw; go_simp⟩) (by assumption) ?_
          simp only [Act.put, List.setIfInBounds_toArray, List.set_cons_zero, List.set_cons_succ]
          refine wpAnyH_ready (rs := [2]) (by kernel_rfl) (by simp) (AllReadyH.cons (o := { dst := some 107, op := Op.call { callee := Callee.value (Operand.func 33), args := #[Operand.tmp 105, Operand.tmp 106], argTypes := #[27, 51] }, type := 27, pos := "law.go:80", after := #[{ on := 0, ground := Ground.data }, { on := 1, ground := Ground.data }], guard := none }) rfl (fun K hK => ?_) AllReadyH.nil)
          go_simp
          refine (R33.out _ BX.out).mono ?_
          rintro en wa ⟨rfl, hwa⟩
          go_wp2_with fail
          refine hK.out _ _ hwa (fun hHeld => ?_)
          clear hK K
          try simp only [Act.put, List.setIfInBounds_toArray, List.set_cons_zero, List.set_cons_succ]
          refine wpAnyH_ready (rs := [5]) (by kernel_rfl) (by simp) (AllReadyH.cons (o := { dst := some 110, op := Op.call { callee := Callee.value (Operand.func 34), args := #[Operand.tmp 108, Operand.tmp 109], argTypes := #[27, 51] }, type := 27, pos := "law.go:80", after := #[{ on := 3, ground := Ground.data }, { on := 4, ground := Ground.data }, { on := 2, ground := Ground.chain }], guard := none }) rfl (fun K hK => ?_) AllReadyH.nil)
          go_simp
          refine (R34.out _ hwa).mono ?_
          rintro en wb ⟨rfl, hwb⟩
          go_wp2_with fail
          refine hK.out _ _ hwb (fun hHeld => ?_)
          clear hK K
          try simp only [Act.put, List.setIfInBounds_toArray, List.set_cons_zero, List.set_cons_succ]
          refine wpAnyH_ready (rs := [6]) (by kernel_rfl) (by simp) (AllReadyH.cons rfl (fun K hK => ?_) AllReadyH.nil)
          go_simp
          refine hK.out _ _ hwb (fun hHeld => ?_)
          clear hK K
          try simp only [Act.put, List.setIfInBounds_toArray, List.set_cons_zero, List.set_cons_succ]
          refine wpAnyH_ready (rs := [7]) (by kernel_rfl) (by simp) (AllReadyH.cons rfl (fun K hK => ?_) AllReadyH.nil)
          go_simp
          refine hK.out _ _ hwb (fun hHeld => ?_)
          clear hK K
          try simp only [Act.put, List.setIfInBounds_toArray, List.set_cons_zero, List.set_cons_succ]
          refine wpAnyH_done (by kernel_rfl) ?_ _
          have HB : Hid (Below W.heap.size W wb) := HW10.out.trans (hwb.mono HW10.out.size)
          clear hwb hwa hHeld
          go_wp2
          go_ret
          exact ⟨rfl, HB.out⟩
end Go.Proofs.YtjkkelkblccolaaDoor
