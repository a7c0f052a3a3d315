/- The law AttestBack 5: a byte less. -/
import Derived.Test.YtbpdmkohihgnjaaDoorFf
namespace Go.Proofs.YtbpdmkohihgnjaaDoor
open Go.RowKit
set_option maxHeartbeats 8000000
set_option maxRecDepth 100000
attribute [-simp] Tryd.isAgg23 Tryd.zeroValue23 Tryd.isAgg38 Tryd.zeroValue38
theorem back_8 (W w : World) (hT : TabW W) (E : Nat → Addr) (hE : ErrS W E) (hb : Below W.heap.size W w) (s : ByteArray) (hs : s.size ≤ 140737488355328) (T : ByteArray) (hTs : T.size = 224) (k : Nat) (hk : k < 224) (b : Int) (b0 : 0 ≤ b) (b1 : b < 256) (K' : Act → World → Prop)
    (hK : ∀ a w, Code.wp Tryd.prog (sfx 9 (Tryd.f5.body.getD .skip)) (bodyPost Tryd.prog Tryd.f5 fun x w' => x = .returned (.bool true) ∧ Below W.heap.size W w') a w → K' a w) (z0 z2 z4 z5 z6 z7 z10 z11 z13 z14 z15 z16 z17 z18 z19 z20 z21 z22 z23 z24 z25 z26 z27 z28 z29 z30 z31 z32 z33 z34 z35 z36 z37 z38 z39 z40 z41 z42 z43 z44 z45 z46 z47 z48 z49 z50 z51 z52 z53 z54 z55 z56 z57 z58 z59 z60 z61 z62 z63 z64 z65 z66 z67 z68 z69 z70 z71 z72 z73 z74 z75 z76 z77 z78 z79 z80 z81 z82 z83 z84 z85 z86 z87 z88 z89 z90 z91 z92 z93 z94 z95 z96 z97 z98 z99 z100 z101 z102 z103 z104 z105 z106 z107 z108 z109 z110 z111 z112 z113 z114 z115 z116 z117 z118 z119 z120 z121 z122 z123 z124 z125 z126 z127 z128 z129 z130 z131 z132 z133 z134 z135 z136 z137 z138 z139 z140 z141 : Value) :
    Code.wp Tryd.prog (hdx 8 (Tryd.f5.body.getD .skip)) (Exit.then K' (bodyPost Tryd.prog Tryd.f5 fun x w' => x = .returned (.bool true) ∧ Below W.heap.size W w')) { tmps := #[z0, .string s, z2, .int .u8 b, z4, z5, z6, z7, .bool false, .string T, z10, z11, .int .i64 (k : Int), z13, z14, z15, z16, z17, z18, z19, z20, z21, z22, z23, z24, z25, z26, z27, z28, z29, z30, z31, z32, z33, z34, z35, z36, z37, z38, z39, z40, z41, z42, z43, z44, z45, z46, z47, z48, z49, z50, z51, z52, z53, z54, z55, z56, z57, z58, z59, z60, z61, z62, z63, z64, z65, z66, z67, z68, z69, z70, z71, z72, z73, z74, z75, z76, z77, z78, z79, z80, z81, z82, z83, z84, z85, z86, z87, z88, z89, z90, z91, z92, z93, z94, z95, z96, z97, z98, z99, z100, z101, z102, z103, z104, z105, z106, z107, z108, z109, z110, z111, z112, z113, z114, z115, z116, z117, z118, z119, z120, z121, z122, z123, z124, z125, z126, z127, z128, z129, z130, z131, z132, z133, z134, z135, z136, z137, z138, z139, z140, z141], defers := [] } w := by
  have hy : ∀ w, (zeroValue 38).run Tryd.prog w = .ok (.agg (zer24.map (Value.int .u32)).toArray) w := fun w => by rw [Tryd.zeroValue38]; rfl
  have hYl : zer24.length = 24 := rfl
  have h13 := hE.sz
  have hvs : ((T.extract 0 k) ++ (T.extract (k + 1) T.size)).size ≠ 224 := by simp only [ByteArray.size_append, ByteArray.size_extract, hTs]; omega
  have hvl : ((T.extract 0 k) ++ (T.extract (k + 1) T.size)).size ≤ 140737488355328 := by simp only [ByteArray.size_append, ByteArray.size_extract, hTs]; omega
  have HP : Hid (∀ w, Below W.heap.size W w → Calls Tryd.prog 18 #[.string ((T.extract 0 k) ++ (T.extract (k + 1) T.size))] w fun e W' => e = .returned (.tuple #[.agg (zer24.map (Value.int .u32)).toArray, .int .i64 160]) ∧ Below w.heap.size w W') := hid (by
    intro w hw
    have := parse_any w (hT.below hw (by omega)) E (hE.on hw) _ hvl
    have hq : ¬ qok ((T.extract 0 k) ++ (T.extract (k + 1) T.size)) := fun h => hvs h.1
    rw [show pq ((T.extract 0 k) ++ (T.extract (k + 1) T.size)) = zer24 from if_neg hq, show pN ((T.extract 0 k) ++ (T.extract (k + 1) T.size)) = 160 from if_neg hq] at this
    exact this)
  have HT := hid hT
  have HE := hid hE
  have HS := hid hs
  have Y0 : Hid (Below W.heap.size W w.drew) := hid hb.drew
  have i1 : (k : Int) < 224 := by omega
  have i2 : (0 : Int) ≤ (k : Int) := by omega
  have HTS := hid hTs
  have HKL := hid hk
  have HBB := hid (And.intro b0 b1)
  have hTi : (T.size : Int) = 224 := by omega
  have HWK := hid (show IntKind.wrap .i64 ((k : Int) + 1) = (k : Int) + 1 by rw [IntKind.wrap_i64]; omega)
  generalize zer24 = Z24 at *
  obtain ⟨p1, h1⟩ : ∃ p, T.extract 0 k = p := ⟨_, rfl⟩
  obtain ⟨p2, h2⟩ : ∃ p, T.extract (k + 1) T.size = p := ⟨_, rfl⟩
  obtain ⟨cc, h3⟩ : ∃ p, strOfNums [b] = p := ⟨_, rfl⟩
  rw [h1, h2] at HP
  have u1 : p1.size ≤ 1000 := by rw [← h1, ByteArray.size_extract]; omega
  have u2 : p2.size ≤ 1000 := by rw [← h2, ByteArray.size_extract]; omega
  have u3 : cc.size ≤ 1000 := by rw [← h3, strOfNums_size]; show 1 ≤ 1000; decide
  have HP1 := hid h1
  have HP2 := hid h2
  have HP3 := hid h3
  clear hT hE hb h13 hvs hvl b0 b1 h1 h2 h3 hTs hk hs
  refine hd_walk 8 rfl (by simp only [hdx, sfx]; rfl) (by simp only [sfx]; rfl) hK ?_
  clear hK
  intro hK
  refine wp_region_held_drew (S := fun w => Below W.heap.size W w) (by kernel_rfl) Y0.out (fun hHeld => ?_)
  generalize World.drew _ = w0 at *
  refine wpAnyH_take (i := 0) (oi := { dst := some 76, op := Op.move (Operand.tmp 9), type := 9, pos := "outright.go:41", after := #[], guard := none }) (v := .string T) rfl (by kernel_rfl) (by kernel_rfl) (by kernel_rfl) (fun _ _ _ h => h) (Or.inl ⟨by rfl, by intro w hSw; go_simp⟩) (by assumption) ?_
  simp only [Act.put, List.setIfInBounds_toArray, List.set_cons_zero, List.set_cons_succ]
  refine wpAnyH_take (i := 1) (oi := { dst := some 77, op := Op.move (Operand.tmp 12), type := 3, pos := "outright.go:41", after := #[], guard := none }) (v := .int .i64 (k : Int)) rfl (by kernel_rfl) (by kernel_rfl) (by kernel_rfl) (fun _ _ _ h => h) (Or.inl ⟨by rfl, by intro w hSw; go_simp⟩) (by assumption) ?_
  simp only [Act.put, List.setIfInBounds_toArray, List.set_cons_zero, List.set_cons_succ]
  refine wpAnyH_take (i := 2) (oi := { dst := some 78, op := Op.slice 9 (Operand.tmp 76) none (some (Operand.tmp 77)) none, type := 9, pos := "outright.go:41", after := #[{ on := 0, ground := Ground.data }, { on := 1, ground := Ground.data }], guard := none }) (v := .string p1) rfl (by kernel_rfl) (by kernel_rfl) (by kernel_rfl) (fun _ _ _ h => h) (Or.inl ⟨by rfl, by intro w hSw; have hp := HP1.out; go_simp <;> (try omega)⟩) (by assumption) ?_
  simp only [Act.put, List.setIfInBounds_toArray, List.set_cons_zero, List.set_cons_succ]
  refine wpAnyH_take (i := 3) (oi := { dst := some 79, op := Op.move (Operand.tmp 9), type := 9, pos := "outright.go:41", after := #[], guard := none }) (v := .string T) rfl (by kernel_rfl) (by kernel_rfl) (by kernel_rfl) (fun _ _ _ h => h) (Or.inl ⟨by rfl, by intro w hSw; go_simp⟩) (by assumption) ?_
  simp only [Act.put, List.setIfInBounds_toArray, List.set_cons_zero, List.set_cons_succ]
  refine wpAnyH_take (i := 4) (oi := { dst := some 80, op := Op.move (Operand.tmp 12), type := 3, pos := "outright.go:41", after := #[], guard := none }) (v := .int .i64 (k : Int)) rfl (by kernel_rfl) (by kernel_rfl) (by kernel_rfl) (fun _ _ _ h => h) (Or.inl ⟨by rfl, by intro w hSw; go_simp⟩) (by assumption) ?_
  simp only [Act.put, List.setIfInBounds_toArray, List.set_cons_zero, List.set_cons_succ]
  refine wpAnyH_take (i := 5) (oi := { dst := some 81, op := Op.binOp BinOp.add 3 (Operand.tmp 80) (Operand.const (Value.int IntKind.i64 1)) 3, type := 3, pos := "outright.go:41", after := #[{ on := 4, ground := Ground.data }], guard := none }) (v := .int .i64 ((k : Int) + 1)) rfl (by kernel_rfl) (by kernel_rfl) (by kernel_rfl) (fun _ _ _ h => h) (Or.inl ⟨by rfl, by intro w hSw; have hw := HWK.out; go_simp <;> (try omega)⟩) (by assumption) ?_
  simp only [Act.put, List.setIfInBounds_toArray, List.set_cons_zero, List.set_cons_succ]
  refine wpAnyH_take (i := 6) (oi := { dst := some 82, op := Op.slice 9 (Operand.tmp 79) (some (Operand.tmp 81)) none none, type := 9, pos := "outright.go:41", after := #[{ on := 3, ground := Ground.data }, { on := 5, ground := Ground.data }], guard := none }) (v := .string p2) rfl (by kernel_rfl) (by kernel_rfl) (by kernel_rfl) (fun _ _ _ h => h) (Or.inl ⟨by rfl, by intro w hSw; have hp := HP2.out; go_simp <;> (try omega)⟩) (by assumption) ?_
  simp only [Act.put, List.setIfInBounds_toArray, List.set_cons_zero, List.set_cons_succ]
  refine wpAnyH_take (i := 7) (oi := { dst := some 83, op := Op.binOp BinOp.add 9 (Operand.tmp 78) (Operand.tmp 82) 9, type := 9, pos := "outright.go:41", after := #[{ on := 2, ground := Ground.data }, { on := 6, ground := Ground.data }], guard := none }) (v := .string (p1 ++ p2)) rfl (by kernel_rfl) (by kernel_rfl) (by kernel_rfl) (fun _ _ _ h => h) (Or.inl ⟨by rfl, by intro w hSw; go_simp <;> (try simp only [ByteArray.size_append]) <;> (try omega)⟩) (by assumption) ?_
  simp only [Act.put, List.setIfInBounds_toArray, List.set_cons_zero, List.set_cons_succ]
  refine wpAnyH_ready (rs := [8, 12]) (by kernel_rfl) (by simp) (AllReadyH.cons (o := { dst := some 84, op := Op.call { callee := Callee.value (Operand.func 18), args := #[Operand.tmp 83], argTypes := #[9] }, type := 51, pos := "outright.go:41", after := #[{ on := 7, ground := Ground.data }], guard := none }) rfl (fun KQ hK => ?_) (AllReadyH.cons (o := { dst := some 16, op := Op.alloc 38, type := 0, pos := "outright.go:41", after := #[], guard := none }) rfl (fun KQ hK => ?_) AllReadyH.nil))
  · go_simp
    refine (HP.out _ Y0.out).mono ?_
    rintro e w1 ⟨rfl, hb1⟩
    have Y1 := hid (below_on Y0.out hb1)
    clear hb1 Y0
    go_wp2_with fail
    refine hK.out _ _ Y1.out (fun hHeld => ?_)
    clear hK KQ
    try simp only [Act.put, List.setIfInBounds_toArray, List.set_cons_zero, List.set_cons_succ]
    refine wpAnyH_take (i := 9) (oi := { dst := some 75, op := Op.move (Operand.tmp 84), type := 51, pos := "outright.go:41", after := #[{ on := 8, ground := Ground.data }], guard := none }) (v := .tuple #[.agg (Z24.map (Value.int .u32)).toArray, .int .i64 160]) rfl (by kernel_rfl) (by kernel_rfl) (by kernel_rfl) (fun _ _ _ h => h) (Or.inl ⟨by rfl, by intro w hSw; go_simp⟩) (by assumption) ?_
    simp only [Act.put, List.setIfInBounds_toArray, List.set_cons_zero, List.set_cons_succ]
    refine wpAnyH_take (i := 10) (oi := { dst := some 85, op := Op.extract (Operand.tmp 75) 0, type := 38, pos := "outright.go:41", after := #[{ on := 9, ground := Ground.data }], guard := none }) (v := .agg (Z24.map (Value.int .u32)).toArray) rfl (by kernel_rfl) (by kernel_rfl) (by kernel_rfl) (fun _ _ _ h => h) (Or.inl ⟨by rfl, by intro w hSw; go_simp⟩) (by assumption) ?_
    simp only [Act.put, List.setIfInBounds_toArray, List.set_cons_zero, List.set_cons_succ]
    refine wpAnyH_take (i := 11) (oi := { dst := some 86, op := Op.extract (Operand.tmp 75) 1, type := 45, pos := "outright.go:41", after := #[{ on := 9, ground := Ground.data }, { on := 13, ground := Ground.gcOnly Departure.lateStores }], guard := none }) (v := .int .i64 160) rfl (by kernel_rfl) (by kernel_rfl) (by kernel_rfl) (fun _ _ _ h => h) (Or.inl ⟨by rfl, by intro w hSw; go_simp⟩) (by assumption) ?_
    simp only [Act.put, List.setIfInBounds_toArray, List.set_cons_zero, List.set_cons_succ]
    refine wpAnyH_ready (rs := [12]) (by kernel_rfl) (by simp) (AllReadyH.cons (o := { dst := some 16, op := Op.alloc 38, type := 0, pos := "outright.go:41", after := #[], guard := none }) rfl (fun KQ hK => ?_) AllReadyH.nil)
    go_simp
    have Y2 := hid (below_on Y1.out (below_one w1 (Obj.cells (List.map (Value.int IntKind.u32) Z24).toArray 38)))
    have BX2 : Hid (Blk (w1.alloc (Obj.cells (List.map (Value.int IntKind.u32) Z24).toArray 38)) w1.heap.size .u32 38 Z24) := hid (Blk.new _ _ _ _)
    have GX2 : Hid (W.heap.size ≤ w1.heap.size) := hid Y1.out.size
    clear Y1
    generalize World.alloc _ _ = w2 at *
    generalize w1.heap.size = gx2 at *
    refine hK.out _ _ Y2.out (fun hHeld => ?_)
    clear hK KQ
    try simp only [Act.put, List.setIfInBounds_toArray, List.set_cons_zero, List.set_cons_succ]
    refine wpAnyH_ready (rs := [13]) (by kernel_rfl) (by simp) (AllReadyH.cons (o := { dst := none, op := Op.store 38 (Operand.tmp 16) (Operand.tmp 85), type := 0, pos := "outright.go:41", after := #[{ on := 12, ground := Ground.data }, { on := 10, ground := Ground.data }, { on := 8, ground := Ground.chain }, { on := 0, ground := Ground.phase }, { on := 1, ground := Ground.phase }, { on := 2, ground := Ground.phase }, { on := 3, ground := Ground.phase }, { on := 4, ground := Ground.phase }, { on := 5, ground := Ground.phase }, { on := 6, ground := Ground.phase }, { on := 7, ground := Ground.phase }, { on := 8, ground := Ground.phase }, { on := 9, ground := Ground.phase }, { on := 10, ground := Ground.phase }, { on := 11, ground := Ground.textOnly Departure.lateStores }, { on := 12, ground := Ground.phase }], guard := none }) rfl (fun KQ hK => ?_) AllReadyH.nil)
    rw [if_pos (by rfl)]
    refine wp_store_st 38 _ _ rfl gx2 (Z24.map (Value.int .u32)) rfl rfl (blk_cel BX2.out) (by rw [List.length_map, hYl]; exact size38) rfl (List.all_eq_true.2 (ints_oneCell .u32 _)) ?_
    intro w3 hc3 hb3 hs3
    have Y3 : Hid (Below W.heap.size W w3) := hid (Y2.out.trans (hb3.below GX2.out Y2.out.size))
    clear hc3 hb3 hs3 Y2
    refine hK.out _ _ Y3.out (fun hHeld => ?_)
    clear hK KQ
    try simp only [Act.put]
    refine wpAnyH_ready (rs := [14]) (by kernel_rfl) (by simp) (AllReadyH.cons (o := { dst := some 17, op := Op.assign (Operand.tmp 86), type := 45, pos := "outright.go:41", after := #[{ on := 11, ground := Ground.data }, { on := 13, ground := Ground.chain }, { on := 0, ground := Ground.phase }, { on := 1, ground := Ground.phase }, { on := 2, ground := Ground.phase }, { on := 3, ground := Ground.phase }, { on := 4, ground := Ground.phase }, { on := 5, ground := Ground.phase }, { on := 6, ground := Ground.phase }, { on := 7, ground := Ground.phase }, { on := 8, ground := Ground.phase }, { on := 9, ground := Ground.phase }, { on := 10, ground := Ground.phase }, { on := 11, ground := Ground.phase }, { on := 12, ground := Ground.phase }, { on := 13, ground := Ground.phase }], guard := none }) rfl (fun KQ hK => ?_) AllReadyH.nil)
    go_simp
    refine hK.out _ _ Y3.out (fun hHeld => ?_)
    clear hK KQ
    try simp only [Act.put, List.setIfInBounds_toArray, List.set_cons_zero, List.set_cons_succ]
    refine wpAnyH_done (by kernel_rfl) ?_ _
    go_upto_region 11 with fail
    exact back_9 W w3 HT.out E HE.out Y3.out s HS.out T HTS.out k HKL.out b HBB.out.1 HBB.out.2 _ ‹∀ (a : Act) (w : World), Code.wp Tryd.prog _ _ a w → _› _ _ _ _ _ _ _ _ _ _ _ _ _ _ _ _ _ _ _ _ _ _ _ _ _ _ _ _ _ _ _ _ _ _ _ _ _ _ _ _ _ _ _ _ _ _ _ _ _ _ _ _ _ _ _ _ _ _ _ _ _ _ _ _ _ _ _ _ _ _ _ _ _ _ _ _ _ _ _ _ _ _ _ _ _ _ _ _ _ _ _ _ _ _ _ _ _ _ _ _ _ _ _ _ _ _ _ _ _ _ _ _ _ _ _ _ _ _ _ _ _ _ _ _ _ _ _ _ _ _ _ _ _ _ _ _
  · go_simp
    have Y1 := hid (below_on Y0.out (below_one w0 (Obj.cells (List.map (Value.int IntKind.u32) Z24).toArray 38)))
    have BX1 : Hid (Blk (w0.alloc (Obj.cells (List.map (Value.int IntKind.u32) Z24).toArray 38)) w0.heap.size .u32 38 Z24) := hid (Blk.new _ _ _ _)
    have GX1 : Hid (W.heap.size ≤ w0.heap.size) := hid Y0.out.size
    clear Y0
    generalize World.alloc _ _ = w1 at *
    generalize w0.heap.size = gx1 at *
    refine hK.out _ _ Y1.out (fun hHeld => ?_)
    clear hK KQ
    try simp only [Act.put, List.setIfInBounds_toArray, List.set_cons_zero, List.set_cons_succ]
    refine wpAnyH_ready (rs := [8]) (by kernel_rfl) (by simp) (AllReadyH.cons (o := { dst := some 84, op := Op.call { callee := Callee.value (Operand.func 18), args := #[Operand.tmp 83], argTypes := #[9] }, type := 51, pos := "outright.go:41", after := #[{ on := 7, ground := Ground.data }], guard := none }) rfl (fun KQ hK => ?_) AllReadyH.nil)
    go_simp
    refine (HP.out _ Y1.out).mono ?_
    rintro e w2 ⟨rfl, hb2⟩
    have BX2 := hid (BX1.out.on hb2)
    clear BX1
    have Y2 := hid (below_on Y1.out hb2)
    clear hb2 Y1
    go_wp2_with fail
    refine hK.out _ _ Y2.out (fun hHeld => ?_)
    clear hK KQ
    try simp only [Act.put, List.setIfInBounds_toArray, List.set_cons_zero, List.set_cons_succ]
    refine wpAnyH_take (i := 9) (oi := { dst := some 75, op := Op.move (Operand.tmp 84), type := 51, pos := "outright.go:41", after := #[{ on := 8, ground := Ground.data }], guard := none }) (v := .tuple #[.agg (Z24.map (Value.int .u32)).toArray, .int .i64 160]) rfl (by kernel_rfl) (by kernel_rfl) (by kernel_rfl) (fun _ _ _ h => h) (Or.inl ⟨by rfl, by intro w hSw; go_simp⟩) (by assumption) ?_
    simp only [Act.put, List.setIfInBounds_toArray, List.set_cons_zero, List.set_cons_succ]
    refine wpAnyH_take (i := 10) (oi := { dst := some 85, op := Op.extract (Operand.tmp 75) 0, type := 38, pos := "outright.go:41", after := #[{ on := 9, ground := Ground.data }], guard := none }) (v := .agg (Z24.map (Value.int .u32)).toArray) rfl (by kernel_rfl) (by kernel_rfl) (by kernel_rfl) (fun _ _ _ h => h) (Or.inl ⟨by rfl, by intro w hSw; go_simp⟩) (by assumption) ?_
    simp only [Act.put, List.setIfInBounds_toArray, List.set_cons_zero, List.set_cons_succ]
    refine wpAnyH_take (i := 11) (oi := { dst := some 86, op := Op.extract (Operand.tmp 75) 1, type := 45, pos := "outright.go:41", after := #[{ on := 9, ground := Ground.data }, { on := 13, ground := Ground.gcOnly Departure.lateStores }], guard := none }) (v := .int .i64 160) rfl (by kernel_rfl) (by kernel_rfl) (by kernel_rfl) (fun _ _ _ h => h) (Or.inl ⟨by rfl, by intro w hSw; go_simp⟩) (by assumption) ?_
    simp only [Act.put, List.setIfInBounds_toArray, List.set_cons_zero, List.set_cons_succ]
    refine wpAnyH_ready (rs := [13]) (by kernel_rfl) (by simp) (AllReadyH.cons (o := { dst := none, op := Op.store 38 (Operand.tmp 16) (Operand.tmp 85), type := 0, pos := "outright.go:41", after := #[{ on := 12, ground := Ground.data }, { on := 10, ground := Ground.data }, { on := 8, ground := Ground.chain }, { on := 0, ground := Ground.phase }, { on := 1, ground := Ground.phase }, { on := 2, ground := Ground.phase }, { on := 3, ground := Ground.phase }, { on := 4, ground := Ground.phase }, { on := 5, ground := Ground.phase }, { on := 6, ground := Ground.phase }, { on := 7, ground := Ground.phase }, { on := 8, ground := Ground.phase }, { on := 9, ground := Ground.phase }, { on := 10, ground := Ground.phase }, { on := 11, ground := Ground.textOnly Departure.lateStores }, { on := 12, ground := Ground.phase }], guard := none }) rfl (fun KQ hK => ?_) AllReadyH.nil)
    rw [if_pos (by rfl)]
    refine wp_store_st 38 _ _ rfl gx1 (Z24.map (Value.int .u32)) rfl rfl (blk_cel BX2.out) (by rw [List.length_map, hYl]; exact size38) rfl (List.all_eq_true.2 (ints_oneCell .u32 _)) ?_
    intro w3 hc3 hb3 hs3
    have Y3 : Hid (Below W.heap.size W w3) := hid (Y2.out.trans (hb3.below GX1.out Y2.out.size))
    clear hc3 hb3 hs3 Y2
    refine hK.out _ _ Y3.out (fun hHeld => ?_)
    clear hK KQ
    try simp only [Act.put]
    refine wpAnyH_ready (rs := [14]) (by kernel_rfl) (by simp) (AllReadyH.cons (o := { dst := some 17, op := Op.assign (Operand.tmp 86), type := 45, pos := "outright.go:41", after := #[{ on := 11, ground := Ground.data }, { on := 13, ground := Ground.chain }, { on := 0, ground := Ground.phase }, { on := 1, ground := Ground.phase }, { on := 2, ground := Ground.phase }, { on := 3, ground := Ground.phase }, { on := 4, ground := Ground.phase }, { on := 5, ground := Ground.phase }, { on := 6, ground := Ground.phase }, { on := 7, ground := Ground.phase }, { on := 8, ground := Ground.phase }, { on := 9, ground := Ground.phase }, { on := 10, ground := Ground.phase }, { on := 11, ground := Ground.phase }, { on := 12, ground := Ground.phase }, { on := 13, ground := Ground.phase }], guard := none }) rfl (fun KQ hK => ?_) AllReadyH.nil)
    go_simp
    refine hK.out _ _ Y3.out (fun hHeld => ?_)
    clear hK KQ
    try simp only [Act.put, List.setIfInBounds_toArray, List.set_cons_zero, List.set_cons_succ]
    refine wpAnyH_done (by kernel_rfl) ?_ _
    go_upto_region 11 with fail
    exact back_9 W w3 HT.out E HE.out Y3.out s HS.out T HTS.out k HKL.out b HBB.out.1 HBB.out.2 _ ‹∀ (a : Act) (w : World), Code.wp Tryd.prog _ _ a w → _› _ _ _ _ _ _ _ _ _ _ _ _ _ _ _ _ _ _ _ _ _ _ _ _ _ _ _ _ _ _ _ _ _ _ _ _ _ _ _ _ _ _ _ _ _ _ _ _ _ _ _ _ _ _ _ _ _ _ _ _ _ _ _ _ _ _ _ _ _ _ _ _ _ _ _ _ _ _ _ _ _ _ _ _ _ _ _ _ _ _ _ _ _ _ _ _ _ _ _ _ _ _ _ _ _ _ _ _ _ _ _ _ _ _ _ _ _ _ _ _ _ _ _ _ _ _ _ _ _ _ _ _ _ _ _ _
end Go.Proofs.YtbpdmkohihgnjaaDoor
