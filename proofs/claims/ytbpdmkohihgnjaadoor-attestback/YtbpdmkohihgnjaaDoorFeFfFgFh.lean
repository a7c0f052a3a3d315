/- The law AttestBack 5: its end. The law AttestBack 5: its last texts. The law AttestBack 5: a byte less. The law AttestBack 5. -/
import Derived.Test.YtbpdmkohihgnjaaDoorFd
import Derived.Test.YtbpdmkohihgnjaaDoorJl
namespace Go.Proofs.YtbpdmkohihgnjaaDoor
open Go.RowKit
set_option maxHeartbeats 8000000
set_option maxRecDepth 100000
attribute [-simp] Tryd.isAgg23 Tryd.zeroValue23 Tryd.isAgg38 Tryd.zeroValue38
theorem back_10 (W w : World) (hT : TabW W) (E : Nat → Addr) (hE : ErrS W E) (hb : Below W.heap.size W w) (s : ByteArray) (hs : s.size ≤ 140737488355328) (K' : Act → World → Prop)
    (hK : ∀ a w, Code.wp Tryd.prog (sfx 11 (Tryd.f5.body.getD .skip)) (bodyPost Tryd.prog Tryd.f5 fun x w' => x = .returned (.bool true) ∧ Below W.heap.size W w') a w → K' a w) (z0 z2 z3 z4 z5 z6 z7 z9 z10 z11 z12 z13 z14 z15 z16 z18 z20 z21 z22 z23 z24 z25 z26 z27 z28 z29 z30 z31 z32 z33 z34 z35 z36 z37 z38 z39 z40 z41 z42 z43 z44 z45 z46 z47 z48 z49 z50 z51 z52 z53 z54 z55 z56 z57 z58 z59 z60 z61 z62 z63 z64 z65 z66 z67 z68 z69 z70 z71 z72 z73 z74 z75 z76 z77 z78 z79 z80 z81 z82 z83 z84 z85 z86 z87 z88 z89 z90 z91 z92 z93 z94 z95 z96 z97 z98 z99 z100 z101 z102 z103 z104 z105 z106 z107 z108 z109 z110 z111 z112 z113 z114 z115 z116 z117 z118 z119 z120 z121 z122 z123 z124 z125 z126 z127 z128 z129 z130 z131 z132 z133 z134 z135 z136 z137 z138 z139 z140 z141 : Value) :
    Code.wp Tryd.prog (hdx 10 (Tryd.f5.body.getD .skip)) (Exit.then K' (bodyPost Tryd.prog Tryd.f5 fun x w' => x = .returned (.bool true) ∧ Below W.heap.size W w')) { tmps := #[z0, .string s, z2, z3, z4, z5, z6, z7, .bool false, z9, z10, z11, z12, z13, z14, z15, z16, .int .i64 160, z18, .int .i64 160, z20, z21, z22, z23, z24, z25, z26, z27, z28, z29, z30, z31, z32, z33, z34, z35, z36, z37, z38, z39, z40, z41, z42, z43, z44, z45, z46, z47, z48, z49, z50, z51, z52, z53, z54, z55, z56, z57, z58, z59, z60, z61, z62, z63, z64, z65, z66, z67, z68, z69, z70, z71, z72, z73, z74, z75, z76, z77, z78, z79, z80, z81, z82, z83, z84, z85, z86, z87, z88, z89, z90, z91, z92, z93, z94, z95, z96, z97, z98, z99, z100, z101, z102, z103, z104, z105, z106, z107, z108, z109, z110, z111, z112, z113, z114, z115, z116, z117, z118, z119, z120, z121, z122, z123, z124, z125, z126, z127, z128, z129, z130, z131, z132, z133, z134, z135, z136, z137, z138, z139, z140, z141], defers := [] } w := by
  have hy : ∀ w, (zeroValue 38).run Tryd.prog w = .ok (.agg (zer24.map (Value.int .u32)).toArray) w := fun w => by rw [Tryd.zeroValue38]; rfl
  have hYl : zer24.length = 24 := rfl
  have h13 := hE.sz
  have HBu : ∀ w, (Instr.build 38 #[]).run Tryd.prog w = .ok (.agg (zer24.map (Value.int .u32)).toArray) w := fun w => run_build w 38 #[] _ built0
  have hEz : ∀ w, (Op.equalIn 10000 38 (.agg (zer24.map (Value.int .u32)).toArray) (.agg (zer24.map (Value.int .u32)).toArray)).run Tryd.prog w = .ok true w := fun w => eq38 w (List.replicate 8 0) (List.replicate 8 0) (List.replicate 8 0) (List.replicate 8 0) (List.replicate 8 0) (List.replicate 8 0) rfl rfl rfl rfl rfl rfl
  have HP : Hid (Calls Tryd.prog 18 #[.string s] w fun e W' => e = .returned (.tuple #[.agg ((pq s).map (Value.int .u32)).toArray, .int .i64 (pN s)]) ∧ Below w.heap.size w W') := hid (parse_any w (hT.below hb (by omega)) E (hE.on hb) s hs)
  have HTW := hid hT
  have HB := hid hb
  have HNu := hid (fun w x => num_any w x)
  have hMl := pq_length s
  have H13 := hid h13
  clear hT hE hb h13
  refine hd_walk 10 rfl (by simp only [hdx, sfx]; rfl) (by simp only [sfx]; rfl) hK ?_
  clear hK
  intro hK
  by_cases hq : qok s
  · obtain ⟨a, b, c, la, lb, lc, wa, wb, wc, hpq, hf⟩ := pq_parts hq
    have hpn : pN s = 0 := if_pos hq
    rw [hpq, hpn] at HP
    rw [hpq] at hMl
    have HFm : Hid (∀ w, TabW w → 0 < w.heap.size → Calls Tryd.prog 17 #[.agg ((quoL a b c).map (Value.int .u32)).toArray] w fun e W' => e = .returned (.string s) ∧ Below w.heap.size w W') := hid fun w h1 h2 => by have := format_any w h1 h2 a b c la lb lc wa wb wc; rw [hf] at this; exact this
    generalize quoL a b c = M at *
    generalize zer24 = Z24 at *
    clear hq hpq hpn hf wa wb wc la lb lc HBu hEz
    go_wp2_with fail
    refine HP.out.mono ?_
    rintro e w1 ⟨rfl, hb⟩
    have Y1 := hid (below_on HB.out hb)
    clear hb HP
    go_upto_region 13 with (first | (refine wpList_store_but rfl 38 _ _ rfl w1.heap.size M rfl rfl (Blk.new w1 .u32 38 Z24) (by rw [hMl]; exact size38) (by rw [hYl, hMl]) ?_; intro w2 bM hbt hsz; have Y2 : Hid (Below W.heap.size W w2 ∧ Blk w2 w1.heap.size .u32 38 M) := hid ⟨below_on Y1.out (but_box hbt), bM⟩; clear bM hbt hsz))
    generalize w1.heap.size = g20 at *
    clear Y1
    have b3 : (s.toList == s.toList) = true := by simp
    go_upto_region 14 with (first | (go_at_call 16; refine (HNu.out _ _).mono ?_; rintro e w5 ⟨rfl, rfl⟩))
    go_wp2_with (first | (revert Y2; intro Y2; refine wpList_load_mid rfl 38 _ rfl g20 0 rfl _ _ (cel_range (blk_cel Y2.out.2)) Tryd.underlying38 rfl (by rw [List.length_map, hMl]; exact size38) ?_) | (go_at_call 17; refine (HFm.out _ (HTW.out.below Y2.out.1 (by have := H13.out; omega)) (by have := Y2.out.2.lt; omega)).mono ?_; rintro e w3 ⟨rfl, hb⟩; have Y3 := hid (below_on Y2.out.1 hb); clear hb Y2) | (go_at_call 16; refine (HNu.out _ _).mono ?_; rintro e w5 ⟨rfl, rfl⟩))
    go_ret
    exact ⟨rfl, Y3.out⟩
  · have hpq : pq s = zer24 := if_neg hq
    have hpn : pN s = 160 := if_neg hq
    rw [hpq, hpn] at HP
    generalize zer24 = Z24 at *
    clear hq hpq hpn hMl
    go_wp2_with fail
    refine HP.out.mono ?_
    rintro e w1 ⟨rfl, hb⟩
    have Y1 := hid (below_on HB.out hb)
    clear hb HP
    go_upto_region 13 with (first | (refine wpList_store_but rfl 38 _ _ rfl w1.heap.size Z24 rfl rfl (Blk.new w1 .u32 38 Z24) (by rw [hYl]; exact size38) rfl ?_; intro w2 bM hbt hsz; have Y2 : Hid (Below W.heap.size W w2 ∧ Blk w2 w1.heap.size .u32 38 Z24) := hid ⟨below_on Y1.out (but_box hbt), bM⟩; clear bM hbt hsz))
    generalize w1.heap.size = g20 at *
    clear Y1
    go_upto_region 15 with (first | (go_at_call 16; refine (HNu.out _ _).mono ?_; rintro e w5 ⟨rfl, rfl⟩))
    go_wp2_with (first | (refine wpList_load_mg (by rfl) 38 _ rfl g20 0 rfl _ _ (cel_range (blk_cel Y2.out.2)) Tryd.underlying38 rfl (by rw [List.length_map, hYl]; exact size38) ?_) | (go_at_call 16; refine (HNu.out _ _).mono ?_; rintro e w5 ⟨rfl, rfl⟩))
    go_ret
    exact ⟨rfl, Y2.out.1⟩
end Go.Proofs.YtbpdmkohihgnjaaDoor
namespace Go.Proofs.YtbpdmkohihgnjaaDoor
open Go.RowKit
set_option maxHeartbeats 8000000
set_option maxRecDepth 100000
attribute [-simp] Tryd.isAgg23 Tryd.zeroValue23 Tryd.isAgg38 Tryd.zeroValue38
theorem back_9 (W w : World) (hT : TabW W) (E : Nat → Addr) (hE : ErrS W E) (hb : Below W.heap.size W w) (s : ByteArray) (hs : s.size ≤ 140737488355328) (T : ByteArray) (hTs : T.size = 224) (k : Nat) (hk : k < 224) (b : Int) (b0 : 0 ≤ b) (b1 : b < 256) (K' : Act → World → Prop)
    (hK : ∀ a w, Code.wp Tryd.prog (sfx 10 (Tryd.f5.body.getD .skip)) (bodyPost Tryd.prog Tryd.f5 fun x w' => x = .returned (.bool true) ∧ Below W.heap.size W w') a w → K' a w) (z0 z2 z4 z5 z6 z7 z10 z11 z13 z14 z15 z16 z18 z19 z20 z21 z22 z23 z24 z25 z26 z27 z28 z29 z30 z31 z32 z33 z34 z35 z36 z37 z38 z39 z40 z41 z42 z43 z44 z45 z46 z47 z48 z49 z50 z51 z52 z53 z54 z55 z56 z57 z58 z59 z60 z61 z62 z63 z64 z65 z66 z67 z68 z69 z70 z71 z72 z73 z74 z75 z76 z77 z78 z79 z80 z81 z82 z83 z84 z85 z86 z87 z88 z89 z90 z91 z92 z93 z94 z95 z96 z97 z98 z99 z100 z101 z102 z103 z104 z105 z106 z107 z108 z109 z110 z111 z112 z113 z114 z115 z116 z117 z118 z119 z120 z121 z122 z123 z124 z125 z126 z127 z128 z129 z130 z131 z132 z133 z134 z135 z136 z137 z138 z139 z140 z141 : Value) :
    Code.wp Tryd.prog (hdx 9 (Tryd.f5.body.getD .skip)) (Exit.then K' (bodyPost Tryd.prog Tryd.f5 fun x w' => x = .returned (.bool true) ∧ Below W.heap.size W w')) { tmps := #[z0, .string s, z2, .int .u8 b, z4, z5, z6, z7, .bool false, .string T, z10, z11, .int .i64 (k : Int), z13, z14, z15, z16, .int .i64 160, z18, z19, z20, z21, z22, z23, z24, z25, z26, z27, z28, z29, z30, z31, z32, z33, z34, z35, z36, z37, z38, z39, z40, z41, z42, z43, z44, z45, z46, z47, z48, z49, z50, z51, z52, z53, z54, z55, z56, z57, z58, z59, z60, z61, z62, z63, z64, z65, z66, z67, z68, z69, z70, z71, z72, z73, z74, z75, z76, z77, z78, z79, z80, z81, z82, z83, z84, z85, z86, z87, z88, z89, z90, z91, z92, z93, z94, z95, z96, z97, z98, z99, z100, z101, z102, z103, z104, z105, z106, z107, z108, z109, z110, z111, z112, z113, z114, z115, z116, z117, z118, z119, z120, z121, z122, z123, z124, z125, z126, z127, z128, z129, z130, z131, z132, z133, z134, z135, z136, z137, z138, z139, z140, z141], defers := [] } w := by
  have hy : ∀ w, (zeroValue 38).run Tryd.prog w = .ok (.agg (zer24.map (Value.int .u32)).toArray) w := fun w => by rw [Tryd.zeroValue38]; rfl
  have hYl : zer24.length = 24 := rfl
  have h13 := hE.sz
  have hvs : (((T.extract 0 k) ++ strOfNums [b]) ++ (T.extract k T.size)).size ≠ 224 := by simp only [ByteArray.size_append, ByteArray.size_extract, strOfNums_size, List.length_singleton, hTs]; omega
  have hvl : (((T.extract 0 k) ++ strOfNums [b]) ++ (T.extract k T.size)).size ≤ 140737488355328 := by simp only [ByteArray.size_append, ByteArray.size_extract, strOfNums_size, List.length_singleton, hTs]; omega
  have HP : Hid (∀ w, Below W.heap.size W w → Calls Tryd.prog 18 #[.string (((T.extract 0 k) ++ strOfNums [b]) ++ (T.extract k T.size))] w fun e W' => e = .returned (.tuple #[.agg (zer24.map (Value.int .u32)).toArray, .int .i64 160]) ∧ Below w.heap.size w W') := hid (by
    intro w hw
    have := parse_any w (hT.below hw (by omega)) E (hE.on hw) _ hvl
    have hq : ¬ qok (((T.extract 0 k) ++ strOfNums [b]) ++ (T.extract k T.size)) := fun h => hvs h.1
    rw [show pq (((T.extract 0 k) ++ strOfNums [b]) ++ (T.extract k T.size)) = zer24 from if_neg hq, show pN (((T.extract 0 k) ++ strOfNums [b]) ++ (T.extract k T.size)) = 160 from if_neg hq] at this
    exact this)
  have HT := hid hT
  have HE := hid hE
  have HS := hid hs
  have Y0 : Hid (Below W.heap.size W w.drew) := hid hb.drew
  have i1 : (k : Int) < 224 := by omega
  have i2 : (0 : Int) ≤ (k : Int) := by omega
  have HTS := hid hTs
  have HKL := hid hk
  have HBB := hid (And.intro b0 b1)
  have hTi : (T.size : Int) = 224 := by omega
  have HWK := hid (show IntKind.wrap .i64 ((k : Int) + 1) = (k : Int) + 1 by rw [IntKind.wrap_i64]; omega)
  generalize zer24 = Z24 at *
  obtain ⟨p1, h1⟩ : ∃ p, T.extract 0 k = p := ⟨_, rfl⟩
  obtain ⟨p2, h2⟩ : ∃ p, T.extract k T.size = p := ⟨_, rfl⟩
  obtain ⟨cc, h3⟩ : ∃ p, strOfNums [b] = p := ⟨_, rfl⟩
  rw [h1, h2, h3] at HP
  have u1 : p1.size ≤ 1000 := by rw [← h1, ByteArray.size_extract]; omega
  have u2 : p2.size ≤ 1000 := by rw [← h2, ByteArray.size_extract]; omega
  have u3 : cc.size ≤ 1000 := by rw [← h3, strOfNums_size]; show 1 ≤ 1000; decide
  have HP1 := hid h1
  have HP2 := hid h2
  have HP3 := hid h3
  clear hT hE hb h13 hvs hvl b0 b1 h1 h2 h3 hTs hk hs
  refine hd_walk 9 rfl (by simp only [hdx, sfx]; rfl) (by simp only [sfx]; rfl) hK ?_
  clear hK
  intro hK
  refine wp_region_held_drew (S := fun w => Below W.heap.size W w) (by kernel_rfl) Y0.out (fun hHeld => ?_)
  generalize World.drew _ = w0 at *
  refine wpAnyH_take (i := 0) (oi := { dst := some 88, op := Op.move (Operand.tmp 9), type := 9, pos := "outright.go:42", after := #[], guard := none }) (v := .string T) rfl (by kernel_rfl) (by kernel_rfl) (by kernel_rfl) (fun _ _ _ h => h) (Or.inl ⟨by rfl, by intro w hSw; go_simp⟩) (by assumption) ?_
  simp only [Act.put, List.setIfInBounds_toArray, List.set_cons_zero, List.set_cons_succ]
  refine wpAnyH_take (i := 1) (oi := { dst := some 89, op := Op.move (Operand.tmp 12), type := 3, pos := "outright.go:42", after := #[], guard := none }) (v := .int .i64 (k : Int)) rfl (by kernel_rfl) (by kernel_rfl) (by kernel_rfl) (fun _ _ _ h => h) (Or.inl ⟨by rfl, by intro w hSw; go_simp⟩) (by assumption) ?_
  simp only [Act.put, List.setIfInBounds_toArray, List.set_cons_zero, List.set_cons_succ]
  refine wpAnyH_take (i := 2) (oi := { dst := some 90, op := Op.slice 9 (Operand.tmp 88) none (some (Operand.tmp 89)) none, type := 9, pos := "outright.go:42", after := #[{ on := 0, ground := Ground.data }, { on := 1, ground := Ground.data }], guard := none }) (v := .string p1) rfl (by kernel_rfl) (by kernel_rfl) (by kernel_rfl) (fun _ _ _ h => h) (Or.inl ⟨by rfl, by intro w hSw; have hp := HP1.out; go_simp <;> (try omega)⟩) (by assumption) ?_
  simp only [Act.put, List.setIfInBounds_toArray, List.set_cons_zero, List.set_cons_succ]
  refine wpAnyH_take (i := 3) (oi := { dst := some 91, op := Op.move (Operand.tmp 3), type := 5, pos := "outright.go:42", after := #[], guard := none }) (v := .int .u8 b) rfl (by kernel_rfl) (by kernel_rfl) (by kernel_rfl) (fun _ _ _ h => h) (Or.inl ⟨by rfl, by intro w hSw; go_simp⟩) (by assumption) ?_
  simp only [Act.put, List.setIfInBounds_toArray, List.set_cons_zero, List.set_cons_succ]
  refine wpAnyH_take (i := 7) (oi := { dst := some 95, op := Op.move (Operand.tmp 9), type := 9, pos := "outright.go:42", after := #[], guard := none }) (v := .string T) rfl (by kernel_rfl) (by kernel_rfl) (by kernel_rfl) (fun _ _ _ h => h) (Or.inl ⟨by rfl, by intro w hSw; go_simp⟩) (by assumption) ?_
  simp only [Act.put, List.setIfInBounds_toArray, List.set_cons_zero, List.set_cons_succ]
  refine wpAnyH_take (i := 8) (oi := { dst := some 96, op := Op.move (Operand.tmp 12), type := 3, pos := "outright.go:42", after := #[], guard := none }) (v := .int .i64 (k : Int)) rfl (by kernel_rfl) (by kernel_rfl) (by kernel_rfl) (fun _ _ _ h => h) (Or.inl ⟨by rfl, by intro w hSw; go_simp⟩) (by assumption) ?_
  simp only [Act.put, List.setIfInBounds_toArray, List.set_cons_zero, List.set_cons_succ]
  refine wpAnyH_take (i := 9) (oi := { dst := some 97, op := Op.slice 9 (Operand.tmp 95) (some (Operand.tmp 96)) none none, type := 9, pos := "outright.go:42", after := #[{ on := 7, ground := Ground.data }, { on := 8, ground := Ground.data }], guard := none }) (v := .string p2) rfl (by kernel_rfl) (by kernel_rfl) (by kernel_rfl) (fun _ _ _ h => h) (Or.inl ⟨by rfl, by intro w hSw; have hp := HP2.out; go_simp <;> (try omega)⟩) (by assumption) ?_
  simp only [Act.put, List.setIfInBounds_toArray, List.set_cons_zero, List.set_cons_succ]
  refine wpAnyH_ready (rs := [4, 15]) (by kernel_rfl) (by simp) (AllReadyH.cons (o := { dst := some 92, op := Op.buildSlice 30 1 #[(0, Operand.tmp 91)], type := 30, pos := "outright.go:42", after := #[{ on := 3, ground := Ground.data }], guard := none }) rfl (fun KQ hK => ?_) (AllReadyH.cons (o := { dst := some 18, op := Op.alloc 38, type := 0, pos := "outright.go:42", after := #[], guard := none }) rfl (fun KQ hK => ?_) AllReadyH.nil))
  · go_simp
    have Y1 := hid (below_on Y0.out (below_one w0 (.cells #[.int .u8 b] 5)))
    have RW1 : Hid (Cel (w0.alloc (.cells #[.int .u8 b] 5)) w0.heap.size 5 [.int .u8 b]) := hid (heap_alloc_new _ _)
    clear Y0
    generalize World.alloc _ _ = w1 at *
    generalize w0.heap.size = gb1 at *
    refine hK.out _ _ Y1.out (fun hHeld => ?_)
    clear hK KQ
    try simp only [Act.put, List.setIfInBounds_toArray, List.set_cons_zero, List.set_cons_succ]
    refine wpAnyH_ready (rs := [5, 15]) (by kernel_rfl) (by simp) (AllReadyH.cons (o := { dst := some 93, op := Op.convert 30 9 (Operand.tmp 92), type := 9, pos := "outright.go:42", after := #[{ on := 4, ground := Ground.data }], guard := none }) rfl (fun KQ hK => ?_) (AllReadyH.cons (o := { dst := some 18, op := Op.alloc 38, type := 0, pos := "outright.go:42", after := #[], guard := none }) rfl (fun KQ hK => ?_) AllReadyH.nil))
    · have hcv := run_convert_bytes_arg (P := Tryd.prog) w1 30 5 Tryd.underlying30 Tryd.underlying5 gb1 0 1 1 [b] rfl (fun j hj => by rw [show j = 0 by omega]; exact RW1.out.cell 0) 9 Tryd.underlying9
      have hp := HP3.out
      rw [hp] at hcv
      go_simp
      clear hcv hp
      refine hK.out _ _ Y1.out (fun hHeld => ?_)
      clear hK KQ
      try simp only [Act.put, List.setIfInBounds_toArray, List.set_cons_zero, List.set_cons_succ]
      refine wpAnyH_take (i := 6) (oi := { dst := some 94, op := Op.binOp BinOp.add 9 (Operand.tmp 90) (Operand.tmp 93) 9, type := 9, pos := "outright.go:42", after := #[{ on := 2, ground := Ground.data }, { on := 5, ground := Ground.data }], guard := none }) (v := .string (p1 ++ cc)) rfl (by kernel_rfl) (by kernel_rfl) (by kernel_rfl) (fun _ _ _ h => h) (Or.inl ⟨by rfl, by intro w hSw; go_simp <;> (try simp only [ByteArray.size_append]) <;> (try omega)⟩) (by assumption) ?_
      simp only [Act.put, List.setIfInBounds_toArray, List.set_cons_zero, List.set_cons_succ]
      refine wpAnyH_take (i := 10) (oi := { dst := some 98, op := Op.binOp BinOp.add 9 (Operand.tmp 94) (Operand.tmp 97) 9, type := 9, pos := "outright.go:42", after := #[{ on := 6, ground := Ground.data }, { on := 9, ground := Ground.data }], guard := none }) (v := .string ((p1 ++ cc) ++ p2)) rfl (by kernel_rfl) (by kernel_rfl) (by kernel_rfl) (fun _ _ _ h => h) (Or.inl ⟨by rfl, by intro w hSw; go_simp <;> (try simp only [ByteArray.size_append]) <;> (try omega)⟩) (by assumption) ?_
      simp only [Act.put, List.setIfInBounds_toArray, List.set_cons_zero, List.set_cons_succ]
      refine wpAnyH_ready (rs := [11, 15]) (by kernel_rfl) (by simp) (AllReadyH.cons (o := { dst := some 99, op := Op.call { callee := Callee.value (Operand.func 18), args := #[Operand.tmp 98], argTypes := #[9] }, type := 51, pos := "outright.go:42", after := #[{ on := 10, ground := Ground.data }], guard := none }) rfl (fun KQ hK => ?_) (AllReadyH.cons (o := { dst := some 18, op := Op.alloc 38, type := 0, pos := "outright.go:42", after := #[], guard := none }) rfl (fun KQ hK => ?_) AllReadyH.nil))
      · go_simp
        refine (HP.out _ Y1.out).mono ?_
        rintro e w2 ⟨rfl, hb2⟩
        have Y2 := hid (below_on Y1.out hb2)
        clear hb2 Y1
        go_wp2_with fail
        refine hK.out _ _ Y2.out (fun hHeld => ?_)
        clear hK KQ
        try simp only [Act.put, List.setIfInBounds_toArray, List.set_cons_zero, List.set_cons_succ]
        refine wpAnyH_take (i := 12) (oi := { dst := some 87, op := Op.move (Operand.tmp 99), type := 51, pos := "outright.go:42", after := #[{ on := 11, ground := Ground.data }], guard := none }) (v := .tuple #[.agg (Z24.map (Value.int .u32)).toArray, .int .i64 160]) rfl (by kernel_rfl) (by kernel_rfl) (by kernel_rfl) (fun _ _ _ h => h) (Or.inl ⟨by rfl, by intro w hSw; go_simp⟩) (by assumption) ?_
        simp only [Act.put, List.setIfInBounds_toArray, List.set_cons_zero, List.set_cons_succ]
        refine wpAnyH_take (i := 13) (oi := { dst := some 100, op := Op.extract (Operand.tmp 87) 0, type := 38, pos := "outright.go:42", after := #[{ on := 12, ground := Ground.data }], guard := none }) (v := .agg (Z24.map (Value.int .u32)).toArray) rfl (by kernel_rfl) (by kernel_rfl) (by kernel_rfl) (fun _ _ _ h => h) (Or.inl ⟨by rfl, by intro w hSw; go_simp⟩) (by assumption) ?_
        simp only [Act.put, List.setIfInBounds_toArray, List.set_cons_zero, List.set_cons_succ]
        refine wpAnyH_take (i := 14) (oi := { dst := some 101, op := Op.extract (Operand.tmp 87) 1, type := 45, pos := "outright.go:42", after := #[{ on := 12, ground := Ground.data }, { on := 16, ground := Ground.gcOnly Departure.lateStores }], guard := none }) (v := .int .i64 160) rfl (by kernel_rfl) (by kernel_rfl) (by kernel_rfl) (fun _ _ _ h => h) (Or.inl ⟨by rfl, by intro w hSw; go_simp⟩) (by assumption) ?_
        simp only [Act.put, List.setIfInBounds_toArray, List.set_cons_zero, List.set_cons_succ]
        refine wpAnyH_ready (rs := [15]) (by kernel_rfl) (by simp) (AllReadyH.cons (o := { dst := some 18, op := Op.alloc 38, type := 0, pos := "outright.go:42", after := #[], guard := none }) rfl (fun KQ hK => ?_) AllReadyH.nil)
        go_simp
        have Y3 := hid (below_on Y2.out (below_one w2 (Obj.cells (List.map (Value.int IntKind.u32) Z24).toArray 38)))
        have BX3 : Hid (Blk (w2.alloc (Obj.cells (List.map (Value.int IntKind.u32) Z24).toArray 38)) w2.heap.size .u32 38 Z24) := hid (Blk.new _ _ _ _)
        have GX3 : Hid (W.heap.size ≤ w2.heap.size) := hid Y2.out.size
        clear Y2
        generalize World.alloc _ _ = w3 at *
        generalize w2.heap.size = gx3 at *
        refine hK.out _ _ Y3.out (fun hHeld => ?_)
        clear hK KQ
        try simp only [Act.put, List.setIfInBounds_toArray, List.set_cons_zero, List.set_cons_succ]
        refine wpAnyH_ready (rs := [16]) (by kernel_rfl) (by simp) (AllReadyH.cons (o := { dst := none, op := Op.store 38 (Operand.tmp 18) (Operand.tmp 100), type := 0, pos := "outright.go:42", after := #[{ on := 15, ground := Ground.data }, { on := 13, ground := Ground.data }, { on := 11, ground := Ground.chain }, { on := 0, ground := Ground.phase }, { on := 1, ground := Ground.phase }, { on := 2, ground := Ground.phase }, { on := 3, ground := Ground.phase }, { on := 4, ground := Ground.phase }, { on := 5, ground := Ground.phase }, { on := 6, ground := Ground.phase }, { on := 7, ground := Ground.phase }, { on := 8, ground := Ground.phase }, { on := 9, ground := Ground.phase }, { on := 10, ground := Ground.phase }, { on := 11, ground := Ground.phase }, { on := 12, ground := Ground.phase }, { on := 13, ground := Ground.phase }, { on := 14, ground := Ground.textOnly Departure.lateStores }, { on := 15, ground := Ground.phase }], guard := none }) rfl (fun KQ hK => ?_) AllReadyH.nil)
        rw [if_pos (by rfl)]
        refine wp_store_st 38 _ _ rfl gx3 (Z24.map (Value.int .u32)) rfl rfl (blk_cel BX3.out) (by rw [List.length_map, hYl]; exact size38) rfl (List.all_eq_true.2 (ints_oneCell .u32 _)) ?_
        intro w4 hc4 hb4 hs4
        have Y4 : Hid (Below W.heap.size W w4) := hid (Y3.out.trans (hb4.below GX3.out Y3.out.size))
        clear hc4 hb4 hs4 Y3
        refine hK.out _ _ Y4.out (fun hHeld => ?_)
        clear hK KQ
        try simp only [Act.put]
        refine wpAnyH_ready (rs := [17]) (by kernel_rfl) (by simp) (AllReadyH.cons (o := { dst := some 19, op := Op.assign (Operand.tmp 101), type := 45, pos := "outright.go:42", after := #[{ on := 14, ground := Ground.data }, { on := 16, ground := Ground.chain }, { on := 0, ground := Ground.phase }, { on := 1, ground := Ground.phase }, { on := 2, ground := Ground.phase }, { on := 3, ground := Ground.phase }, { on := 4, ground := Ground.phase }, { on := 5, ground := Ground.phase }, { on := 6, ground := Ground.phase }, { on := 7, ground := Ground.phase }, { on := 8, ground := Ground.phase }, { on := 9, ground := Ground.phase }, { on := 10, ground := Ground.phase }, { on := 11, ground := Ground.phase }, { on := 12, ground := Ground.phase }, { on := 13, ground := Ground.phase }, { on := 14, ground := Ground.phase }, { on := 15, ground := Ground.phase }, { on := 16, ground := Ground.phase }], guard := none }) rfl (fun KQ hK => ?_) AllReadyH.nil)
        go_simp
        refine hK.out _ _ Y4.out (fun hHeld => ?_)
        clear hK KQ
        try simp only [Act.put, List.setIfInBounds_toArray, List.set_cons_zero, List.set_cons_succ]
        refine wpAnyH_done (by kernel_rfl) ?_ _
        go_upto_region 12 with fail
        exact back_10 W w4 HT.out E HE.out Y4.out s HS.out _ ‹∀ (a : Act) (w : World), Code.wp Tryd.prog _ _ a w → _› _ _ _ _ _ _ _ _ _ _ _ _ _ _ _ _ _ _ _ _ _ _ _ _ _ _ _ _ _ _ _ _ _ _ _ _ _ _ _ _ _ _ _ _ _ _ _ _ _ _ _ _ _ _ _ _ _ _ _ _ _ _ _ _ _ _ _ _ _ _ _ _ _ _ _ _ _ _ _ _ _ _ _ _ _ _ _ _ _ _ _ _ _ _ _ _ _ _ _ _ _ _ _ _ _ _ _ _ _ _ _ _ _ _ _ _ _ _ _ _ _ _ _ _ _ _ _ _ _ _ _ _ _ _ _ _ _ _
      · go_simp
        have RW2 := hid (RW1.out.on (below_one w1 (Obj.cells (List.map (Value.int IntKind.u32) Z24).toArray 38)))
        clear RW1
        have Y2 := hid (below_on Y1.out (below_one w1 (Obj.cells (List.map (Value.int IntKind.u32) Z24).toArray 38)))
        have BX2 : Hid (Blk (w1.alloc (Obj.cells (List.map (Value.int IntKind.u32) Z24).toArray 38)) w1.heap.size .u32 38 Z24) := hid (Blk.new _ _ _ _)
        have GX2 : Hid (W.heap.size ≤ w1.heap.size) := hid Y1.out.size
        clear Y1
        generalize World.alloc _ _ = w2 at *
        generalize w1.heap.size = gx2 at *
        refine hK.out _ _ Y2.out (fun hHeld => ?_)
        clear hK KQ
        try simp only [Act.put, List.setIfInBounds_toArray, List.set_cons_zero, List.set_cons_succ]
        refine wpAnyH_ready (rs := [11]) (by kernel_rfl) (by simp) (AllReadyH.cons (o := { dst := some 99, op := Op.call { callee := Callee.value (Operand.func 18), args := #[Operand.tmp 98], argTypes := #[9] }, type := 51, pos := "outright.go:42", after := #[{ on := 10, ground := Ground.data }], guard := none }) rfl (fun KQ hK => ?_) AllReadyH.nil)
        go_simp
        refine (HP.out _ Y2.out).mono ?_
        rintro e w3 ⟨rfl, hb3⟩
        have BX3 := hid (BX2.out.on hb3)
        clear BX2
        have Y3 := hid (below_on Y2.out hb3)
        clear hb3 Y2
        go_wp2_with fail
        refine hK.out _ _ Y3.out (fun hHeld => ?_)
        clear hK KQ
        try simp only [Act.put, List.setIfInBounds_toArray, List.set_cons_zero, List.set_cons_succ]
        refine wpAnyH_take (i := 12) (oi := { dst := some 87, op := Op.move (Operand.tmp 99), type := 51, pos := "outright.go:42", after := #[{ on := 11, ground := Ground.data }], guard := none }) (v := .tuple #[.agg (Z24.map (Value.int .u32)).toArray, .int .i64 160]) rfl (by kernel_rfl) (by kernel_rfl) (by kernel_rfl) (fun _ _ _ h => h) (Or.inl ⟨by rfl, by intro w hSw; go_simp⟩) (by assumption) ?_
        simp only [Act.put, List.setIfInBounds_toArray, List.set_cons_zero, List.set_cons_succ]
        refine wpAnyH_take (i := 13) (oi := { dst := some 100, op := Op.extract (Operand.tmp 87) 0, type := 38, pos := "outright.go:42", after := #[{ on := 12, ground := Ground.data }], guard := none }) (v := .agg (Z24.map (Value.int .u32)).toArray) rfl (by kernel_rfl) (by kernel_rfl) (by kernel_rfl) (fun _ _ _ h => h) (Or.inl ⟨by rfl, by intro w hSw; go_simp⟩) (by assumption) ?_
        simp only [Act.put, List.setIfInBounds_toArray, List.set_cons_zero, List.set_cons_succ]
        refine wpAnyH_take (i := 14) (oi := { dst := some 101, op := Op.extract (Operand.tmp 87) 1, type := 45, pos := "outright.go:42", after := #[{ on := 12, ground := Ground.data }, { on := 16, ground := Ground.gcOnly Departure.lateStores }], guard := none }) (v := .int .i64 160) rfl (by kernel_rfl) (by kernel_rfl) (by kernel_rfl) (fun _ _ _ h => h) (Or.inl ⟨by rfl, by intro w hSw; go_simp⟩) (by assumption) ?_
        simp only [Act.put, List.setIfInBounds_toArray, List.set_cons_zero, List.set_cons_succ]
        refine wpAnyH_ready (rs := [16]) (by kernel_rfl) (by simp) (AllReadyH.cons (o := { dst := none, op := Op.store 38 (Operand.tmp 18) (Operand.tmp 100), type := 0, pos := "outright.go:42", after := #[{ on := 15, ground := Ground.data }, { on := 13, ground := Ground.data }, { on := 11, ground := Ground.chain }, { on := 0, ground := Ground.phase }, { on := 1, ground := Ground.phase }, { on := 2, ground := Ground.phase }, { on := 3, ground := Ground.phase }, { on := 4, ground := Ground.phase }, { on := 5, ground := Ground.phase }, { on := 6, ground := Ground.phase }, { on := 7, ground := Ground.phase }, { on := 8, ground := Ground.phase }, { on := 9, ground := Ground.phase }, { on := 10, ground := Ground.phase }, { on := 11, ground := Ground.phase }, { on := 12, ground := Ground.phase }, { on := 13, ground := Ground.phase }, { on := 14, ground := Ground.textOnly Departure.lateStores }, { on := 15, ground := Ground.phase }], guard := none }) rfl (fun KQ hK => ?_) AllReadyH.nil)
        rw [if_pos (by rfl)]
        refine wp_store_st 38 _ _ rfl gx2 (Z24.map (Value.int .u32)) rfl rfl (blk_cel BX3.out) (by rw [List.length_map, hYl]; exact size38) rfl (List.all_eq_true.2 (ints_oneCell .u32 _)) ?_
        intro w4 hc4 hb4 hs4
        have Y4 : Hid (Below W.heap.size W w4) := hid (Y3.out.trans (hb4.below GX2.out Y3.out.size))
        clear hc4 hb4 hs4 Y3
        refine hK.out _ _ Y4.out (fun hHeld => ?_)
        clear hK KQ
        try simp only [Act.put]
        refine wpAnyH_ready (rs := [17]) (by kernel_rfl) (by simp) (AllReadyH.cons (o := { dst := some 19, op := Op.assign (Operand.tmp 101), type := 45, pos := "outright.go:42", after := #[{ on := 14, ground := Ground.data }, { on := 16, ground := Ground.chain }, { on := 0, ground := Ground.phase }, { on := 1, ground := Ground.phase }, { on := 2, ground := Ground.phase }, { on := 3, ground := Ground.phase }, { on := 4, ground := Ground.phase }, { on := 5, ground := Ground.phase }, { on := 6, ground := Ground.phase }, { on := 7, ground := Ground.phase }, { on := 8, ground := Ground.phase }, { on := 9, ground := Ground.phase }, { on := 10, ground := Ground.phase }, { on := 11, ground := Ground.phase }, { on := 12, ground := Ground.phase }, { on := 13, ground := Ground.phase }, { on := 14, ground := Ground.phase }, { on := 15, ground := Ground.phase }, { on := 16, ground := Ground.phase }], guard := none }) rfl (fun KQ hK => ?_) AllReadyH.nil)
        go_simp
        refine hK.out _ _ Y4.out (fun hHeld => ?_)
        clear hK KQ
        try simp only [Act.put, List.setIfInBounds_toArray, List.set_cons_zero, List.set_cons_succ]
        refine wpAnyH_done (by kernel_rfl) ?_ _
        go_upto_region 12 with fail
        exact back_10 W w4 HT.out E HE.out Y4.out s HS.out _ ‹∀ (a : Act) (w : World), Code.wp Tryd.prog _ _ a w → _› _ _ _ _ _ _ _ _ _ _ _ _ _ _ _ _ _ _ _ _ _ _ _ _ _ _ _ _ _ _ _ _ _ _ _ _ _ _ _ _ _ _ _ _ _ _ _ _ _ _ _ _ _ _ _ _ _ _ _ _ _ _ _ _ _ _ _ _ _ _ _ _ _ _ _ _ _ _ _ _ _ _ _ _ _ _ _ _ _ _ _ _ _ _ _ _ _ _ _ _ _ _ _ _ _ _ _ _ _ _ _ _ _ _ _ _ _ _ _ _ _ _ _ _ _ _ _ _ _ _ _ _ _ _ _ _ _ _
    · go_simp
      have RW2 := hid (RW1.out.on (below_one w1 (Obj.cells (List.map (Value.int IntKind.u32) Z24).toArray 38)))
      clear RW1
      have Y2 := hid (below_on Y1.out (below_one w1 (Obj.cells (List.map (Value.int IntKind.u32) Z24).toArray 38)))
      have BX2 : Hid (Blk (w1.alloc (Obj.cells (List.map (Value.int IntKind.u32) Z24).toArray 38)) w1.heap.size .u32 38 Z24) := hid (Blk.new _ _ _ _)
      have GX2 : Hid (W.heap.size ≤ w1.heap.size) := hid Y1.out.size
      clear Y1
      generalize World.alloc _ _ = w2 at *
      generalize w1.heap.size = gx2 at *
      refine hK.out _ _ Y2.out (fun hHeld => ?_)
      clear hK KQ
      try simp only [Act.put, List.setIfInBounds_toArray, List.set_cons_zero, List.set_cons_succ]
      refine wpAnyH_ready (rs := [5]) (by kernel_rfl) (by simp) (AllReadyH.cons (o := { dst := some 93, op := Op.convert 30 9 (Operand.tmp 92), type := 9, pos := "outright.go:42", after := #[{ on := 4, ground := Ground.data }], guard := none }) rfl (fun KQ hK => ?_) AllReadyH.nil)
      have hcv := run_convert_bytes_arg (P := Tryd.prog) w2 30 5 Tryd.underlying30 Tryd.underlying5 gb1 0 1 1 [b] rfl (fun j hj => by rw [show j = 0 by omega]; exact RW2.out.cell 0) 9 Tryd.underlying9
      have hp := HP3.out
      rw [hp] at hcv
      go_simp
      clear hcv hp
      refine hK.out _ _ Y2.out (fun hHeld => ?_)
      clear hK KQ
      try simp only [Act.put, List.setIfInBounds_toArray, List.set_cons_zero, List.set_cons_succ]
      refine wpAnyH_take (i := 6) (oi := { dst := some 94, op := Op.binOp BinOp.add 9 (Operand.tmp 90) (Operand.tmp 93) 9, type := 9, pos := "outright.go:42", after := #[{ on := 2, ground := Ground.data }, { on := 5, ground := Ground.data }], guard := none }) (v := .string (p1 ++ cc)) rfl (by kernel_rfl) (by kernel_rfl) (by kernel_rfl) (fun _ _ _ h => h) (Or.inl ⟨by rfl, by intro w hSw; go_simp <;> (try simp only [ByteArray.size_append]) <;> (try omega)⟩) (by assumption) ?_
      simp only [Act.put, List.setIfInBounds_toArray, List.set_cons_zero, List.set_cons_succ]
      refine wpAnyH_take (i := 10) (oi := { dst := some 98, op := Op.binOp BinOp.add 9 (Operand.tmp 94) (Operand.tmp 97) 9, type := 9, pos := "outright.go:42", after := #[{ on := 6, ground := Ground.data }, { on := 9, ground := Ground.data }], guard := none }) (v := .string ((p1 ++ cc) ++ p2)) rfl (by kernel_rfl) (by kernel_rfl) (by kernel_rfl) (fun _ _ _ h => h) (Or.inl ⟨by rfl, by intro w hSw; go_simp <;> (try simp only [ByteArray.size_append]) <;> (try omega)⟩) (by assumption) ?_
      simp only [Act.put, List.setIfInBounds_toArray, List.set_cons_zero, List.set_cons_succ]
      refine wpAnyH_ready (rs := [11]) (by kernel_rfl) (by simp) (AllReadyH.cons (o := { dst := some 99, op := Op.call { callee := Callee.value (Operand.func 18), args := #[Operand.tmp 98], argTypes := #[9] }, type := 51, pos := "outright.go:42", after := #[{ on := 10, ground := Ground.data }], guard := none }) rfl (fun KQ hK => ?_) AllReadyH.nil)
      go_simp
      refine (HP.out _ Y2.out).mono ?_
      rintro e w3 ⟨rfl, hb3⟩
      have BX3 := hid (BX2.out.on hb3)
      clear BX2
      have Y3 := hid (below_on Y2.out hb3)
      clear hb3 Y2
      go_wp2_with fail
      refine hK.out _ _ Y3.out (fun hHeld => ?_)
      clear hK KQ
      try simp only [Act.put, List.setIfInBounds_toArray, List.set_cons_zero, List.set_cons_succ]
      refine wpAnyH_take (i := 12) (oi := { dst := some 87, op := Op.move (Operand.tmp 99), type := 51, pos := "outright.go:42", after := #[{ on := 11, ground := Ground.data }], guard := none }) (v := .tuple #[.agg (Z24.map (Value.int .u32)).toArray, .int .i64 160]) rfl (by kernel_rfl) (by kernel_rfl) (by kernel_rfl) (fun _ _ _ h => h) (Or.inl ⟨by rfl, by intro w hSw; go_simp⟩) (by assumption) ?_
      simp only [Act.put, List.setIfInBounds_toArray, List.set_cons_zero, List.set_cons_succ]
      refine wpAnyH_take (i := 13) (oi := { dst := some 100, op := Op.extract (Operand.tmp 87) 0, type := 38, pos := "outright.go:42", after := #[{ on := 12, ground := Ground.data }], guard := none }) (v := .agg (Z24.map (Value.int .u32)).toArray) rfl (by kernel_rfl) (by kernel_rfl) (by kernel_rfl) (fun _ _ _ h => h) (Or.inl ⟨by rfl, by intro w hSw; go_simp⟩) (by assumption) ?_
      simp only [Act.put, List.setIfInBounds_toArray, List.set_cons_zero, List.set_cons_succ]
      refine wpAnyH_take (i := 14) (oi := { dst := some 101, op := Op.extract (Operand.tmp 87) 1, type := 45, pos := "outright.go:42", after := #[{ on := 12, ground := Ground.data }, { on := 16, ground := Ground.gcOnly Departure.lateStores }], guard := none }) (v := .int .i64 160) rfl (by kernel_rfl) (by kernel_rfl) (by kernel_rfl) (fun _ _ _ h => h) (Or.inl ⟨by rfl, by intro w hSw; go_simp⟩) (by assumption) ?_
      simp only [Act.put, List.setIfInBounds_toArray, List.set_cons_zero, List.set_cons_succ]
      refine wpAnyH_ready (rs := [16]) (by kernel_rfl) (by simp) (AllReadyH.cons (o := { dst := none, op := Op.store 38 (Operand.tmp 18) (Operand.tmp 100), type := 0, pos := "outright.go:42", after := #[{ on := 15, ground := Ground.data }, { on := 13, ground := Ground.data }, { on := 11, ground := Ground.chain }, { on := 0, ground := Ground.phase }, { on := 1, ground := Ground.phase }, { on := 2, ground := Ground.phase }, { on := 3, ground := Ground.phase }, { on := 4, ground := Ground.phase }, { on := 5, ground := Ground.phase }, { on := 6, ground := Ground.phase }, { on := 7, ground := Ground.phase }, { on := 8, ground := Ground.phase }, { on := 9, ground := Ground.phase }, { on := 10, ground := Ground.phase }, { on := 11, ground := Ground.phase }, { on := 12, ground := Ground.phase }, { on := 13, ground := Ground.phase }, { on := 14, ground := Ground.textOnly Departure.lateStores }, { on := 15, ground := Ground.phase }], guard := none }) rfl (fun KQ hK => ?_) AllReadyH.nil)
      rw [if_pos (by rfl)]
      refine wp_store_st 38 _ _ rfl gx2 (Z24.map (Value.int .u32)) rfl rfl (blk_cel BX3.out) (by rw [List.length_map, hYl]; exact size38) rfl (List.all_eq_true.2 (ints_oneCell .u32 _)) ?_
      intro w4 hc4 hb4 hs4
      have Y4 : Hid (Below W.heap.size W w4) := hid (Y3.out.trans (hb4.below GX2.out Y3.out.size))
      clear hc4 hb4 hs4 Y3
      refine hK.out _ _ Y4.out (fun hHeld => ?_)
      clear hK KQ
      try simp only [Act.put]
      refine wpAnyH_ready (rs := [17]) (by kernel_rfl) (by simp) (AllReadyH.cons (o := { dst := some 19, op := Op.assign (Operand.tmp 101), type := 45, pos := "outright.go:42", after := #[{ on := 14, ground := Ground.data }, { on := 16, ground := Ground.chain }, { on := 0, ground := Ground.phase }, { on := 1, ground := Ground.phase }, { on := 2, ground := Ground.phase }, { on := 3, ground := Ground.phase }, { on := 4, ground := Ground.phase }, { on := 5, ground := Ground.phase }, { on := 6, ground := Ground.phase }, { on := 7, ground := Ground.phase }, { on := 8, ground := Ground.phase }, { on := 9, ground := Ground.phase }, { on := 10, ground := Ground.phase }, { on := 11, ground := Ground.phase }, { on := 12, ground := Ground.phase }, { on := 13, ground := Ground.phase }, { on := 14, ground := Ground.phase }, { on := 15, ground := Ground.phase }, { on := 16, ground := Ground.phase }], guard := none }) rfl (fun KQ hK => ?_) AllReadyH.nil)
      go_simp
      refine hK.out _ _ Y4.out (fun hHeld => ?_)
      clear hK KQ
      try simp only [Act.put, List.setIfInBounds_toArray, List.set_cons_zero, List.set_cons_succ]
      refine wpAnyH_done (by kernel_rfl) ?_ _
      go_upto_region 12 with fail
      exact back_10 W w4 HT.out E HE.out Y4.out s HS.out _ ‹∀ (a : Act) (w : World), Code.wp Tryd.prog _ _ a w → _› _ _ _ _ _ _ _ _ _ _ _ _ _ _ _ _ _ _ _ _ _ _ _ _ _ _ _ _ _ _ _ _ _ _ _ _ _ _ _ _ _ _ _ _ _ _ _ _ _ _ _ _ _ _ _ _ _ _ _ _ _ _ _ _ _ _ _ _ _ _ _ _ _ _ _ _ _ _ _ _ _ _ _ _ _ _ _ _ _ _ _ _ _ _ _ _ _ _ _ _ _ _ _ _ _ _ _ _ _ _ _ _ _ _ _ _ _ _ _ _ _ _ _ _ _ _ _ _ _ _ _ _ _ _ _ _ _ _
  · go_simp
    have Y1 := hid (below_on Y0.out (below_one w0 (Obj.cells (List.map (Value.int IntKind.u32) Z24).toArray 38)))
    have BX1 : Hid (Blk (w0.alloc (Obj.cells (List.map (Value.int IntKind.u32) Z24).toArray 38)) w0.heap.size .u32 38 Z24) := hid (Blk.new _ _ _ _)
    have GX1 : Hid (W.heap.size ≤ w0.heap.size) := hid Y0.out.size
    clear Y0
    generalize World.alloc _ _ = w1 at *
    generalize w0.heap.size = gx1 at *
    refine hK.out _ _ Y1.out (fun hHeld => ?_)
    clear hK KQ
    try simp only [Act.put, List.setIfInBounds_toArray, List.set_cons_zero, List.set_cons_succ]
    refine wpAnyH_ready (rs := [4]) (by kernel_rfl) (by simp) (AllReadyH.cons (o := { dst := some 92, op := Op.buildSlice 30 1 #[(0, Operand.tmp 91)], type := 30, pos := "outright.go:42", after := #[{ on := 3, ground := Ground.data }], guard := none }) rfl (fun KQ hK => ?_) AllReadyH.nil)
    go_simp
    have BX2 := hid (BX1.out.on (below_one w1 (.cells #[.int .u8 b] 5)))
    clear BX1
    have Y2 := hid (below_on Y1.out (below_one w1 (.cells #[.int .u8 b] 5)))
    have RW2 : Hid (Cel (w1.alloc (.cells #[.int .u8 b] 5)) w1.heap.size 5 [.int .u8 b]) := hid (heap_alloc_new _ _)
    clear Y1
    generalize World.alloc _ _ = w2 at *
    generalize w1.heap.size = gb2 at *
    refine hK.out _ _ Y2.out (fun hHeld => ?_)
    clear hK KQ
    try simp only [Act.put, List.setIfInBounds_toArray, List.set_cons_zero, List.set_cons_succ]
    refine wpAnyH_ready (rs := [5]) (by kernel_rfl) (by simp) (AllReadyH.cons (o := { dst := some 93, op := Op.convert 30 9 (Operand.tmp 92), type := 9, pos := "outright.go:42", after := #[{ on := 4, ground := Ground.data }], guard := none }) rfl (fun KQ hK => ?_) AllReadyH.nil)
    have hcv := run_convert_bytes_arg (P := Tryd.prog) w2 30 5 Tryd.underlying30 Tryd.underlying5 gb2 0 1 1 [b] rfl (fun j hj => by rw [show j = 0 by omega]; exact RW2.out.cell 0) 9 Tryd.underlying9
    have hp := HP3.out
    rw [hp] at hcv
    go_simp
    clear hcv hp
    refine hK.out _ _ Y2.out (fun hHeld => ?_)
    clear hK KQ
    try simp only [Act.put, List.setIfInBounds_toArray, List.set_cons_zero, List.set_cons_succ]
    refine wpAnyH_take (i := 6) (oi := { dst := some 94, op := Op.binOp BinOp.add 9 (Operand.tmp 90) (Operand.tmp 93) 9, type := 9, pos := "outright.go:42", after := #[{ on := 2, ground := Ground.data }, { on := 5, ground := Ground.data }], guard := none }) (v := .string (p1 ++ cc)) rfl (by kernel_rfl) (by kernel_rfl) (by kernel_rfl) (fun _ _ _ h => h) (Or.inl ⟨by rfl, by intro w hSw; go_simp <;> (try simp only [ByteArray.size_append]) <;> (try omega)⟩) (by assumption) ?_
    simp only [Act.put, List.setIfInBounds_toArray, List.set_cons_zero, List.set_cons_succ]
    refine wpAnyH_take (i := 10) (oi := { dst := some 98, op := Op.binOp BinOp.add 9 (Operand.tmp 94) (Operand.tmp 97) 9, type := 9, pos := "outright.go:42", after := #[{ on := 6, ground := Ground.data }, { on := 9, ground := Ground.data }], guard := none }) (v := .string ((p1 ++ cc) ++ p2)) rfl (by kernel_rfl) (by kernel_rfl) (by kernel_rfl) (fun _ _ _ h => h) (Or.inl ⟨by rfl, by intro w hSw; go_simp <;> (try simp only [ByteArray.size_append]) <;> (try omega)⟩) (by assumption) ?_
    simp only [Act.put, List.setIfInBounds_toArray, List.set_cons_zero, List.set_cons_succ]
    refine wpAnyH_ready (rs := [11]) (by kernel_rfl) (by simp) (AllReadyH.cons (o := { dst := some 99, op := Op.call { callee := Callee.value (Operand.func 18), args := #[Operand.tmp 98], argTypes := #[9] }, type := 51, pos := "outright.go:42", after := #[{ on := 10, ground := Ground.data }], guard := none }) rfl (fun KQ hK => ?_) AllReadyH.nil)
    go_simp
    refine (HP.out _ Y2.out).mono ?_
    rintro e w3 ⟨rfl, hb3⟩
    have BX3 := hid (BX2.out.on hb3)
    clear BX2
    have Y3 := hid (below_on Y2.out hb3)
    clear hb3 Y2
    go_wp2_with fail
    refine hK.out _ _ Y3.out (fun hHeld => ?_)
    clear hK KQ
    try simp only [Act.put, List.setIfInBounds_toArray, List.set_cons_zero, List.set_cons_succ]
    refine wpAnyH_take (i := 12) (oi := { dst := some 87, op := Op.move (Operand.tmp 99), type := 51, pos := "outright.go:42", after := #[{ on := 11, ground := Ground.data }], guard := none }) (v := .tuple #[.agg (Z24.map (Value.int .u32)).toArray, .int .i64 160]) rfl (by kernel_rfl) (by kernel_rfl) (by kernel_rfl) (fun _ _ _ h => h) (Or.inl ⟨by rfl, by intro w hSw; go_simp⟩) (by assumption) ?_
    simp only [Act.put, List.setIfInBounds_toArray, List.set_cons_zero, List.set_cons_succ]
    refine wpAnyH_take (i := 13) (oi := { dst := some 100, op := Op.extract (Operand.tmp 87) 0, type := 38, pos := "outright.go:42", after := #[{ on := 12, ground := Ground.data }], guard := none }) (v := .agg (Z24.map (Value.int .u32)).toArray) rfl (by kernel_rfl) (by kernel_rfl) (by kernel_rfl) (fun _ _ _ h => h) (Or.inl ⟨by rfl, by intro w hSw; go_simp⟩) (by assumption) ?_
    simp only [Act.put, List.setIfInBounds_toArray, List.set_cons_zero, List.set_cons_succ]
    refine wpAnyH_take (i := 14) (oi := { dst := some 101, op := Op.extract (Operand.tmp 87) 1, type := 45, pos := "outright.go:42", after := #[{ on := 12, ground := Ground.data }, { on := 16, ground := Ground.gcOnly Departure.lateStores }], guard := none }) (v := .int .i64 160) rfl (by kernel_rfl) (by kernel_rfl) (by kernel_rfl) (fun _ _ _ h => h) (Or.inl ⟨by rfl, by intro w hSw; go_simp⟩) (by assumption) ?_
    simp only [Act.put, List.setIfInBounds_toArray, List.set_cons_zero, List.set_cons_succ]
    refine wpAnyH_ready (rs := [16]) (by kernel_rfl) (by simp) (AllReadyH.cons (o := { dst := none, op := Op.store 38 (Operand.tmp 18) (Operand.tmp 100), type := 0, pos := "outright.go:42", after := #[{ on := 15, ground := Ground.data }, { on := 13, ground := Ground.data }, { on := 11, ground := Ground.chain }, { on := 0, ground := Ground.phase }, { on := 1, ground := Ground.phase }, { on := 2, ground := Ground.phase }, { on := 3, ground := Ground.phase }, { on := 4, ground := Ground.phase }, { on := 5, ground := Ground.phase }, { on := 6, ground := Ground.phase }, { on := 7, ground := Ground.phase }, { on := 8, ground := Ground.phase }, { on := 9, ground := Ground.phase }, { on := 10, ground := Ground.phase }, { on := 11, ground := Ground.phase }, { on := 12, ground := Ground.phase }, { on := 13, ground := Ground.phase }, { on := 14, ground := Ground.textOnly Departure.lateStores }, { on := 15, ground := Ground.phase }], guard := none }) rfl (fun KQ hK => ?_) AllReadyH.nil)
    rw [if_pos (by rfl)]
    refine wp_store_st 38 _ _ rfl gx1 (Z24.map (Value.int .u32)) rfl rfl (blk_cel BX3.out) (by rw [List.length_map, hYl]; exact size38) rfl (List.all_eq_true.2 (ints_oneCell .u32 _)) ?_
    intro w4 hc4 hb4 hs4
    have Y4 : Hid (Below W.heap.size W w4) := hid (Y3.out.trans (hb4.below GX1.out Y3.out.size))
    clear hc4 hb4 hs4 Y3
    refine hK.out _ _ Y4.out (fun hHeld => ?_)
    clear hK KQ
    try simp only [Act.put]
    refine wpAnyH_ready (rs := [17]) (by kernel_rfl) (by simp) (AllReadyH.cons (o := { dst := some 19, op := Op.assign (Operand.tmp 101), type := 45, pos := "outright.go:42", after := #[{ on := 14, ground := Ground.data }, { on := 16, ground := Ground.chain }, { on := 0, ground := Ground.phase }, { on := 1, ground := Ground.phase }, { on := 2, ground := Ground.phase }, { on := 3, ground := Ground.phase }, { on := 4, ground := Ground.phase }, { on := 5, ground := Ground.phase }, { on := 6, ground := Ground.phase }, { on := 7, ground := Ground.phase }, { on := 8, ground := Ground.phase }, { on := 9, ground := Ground.phase }, { on := 10, ground := Ground.phase }, { on := 11, ground := Ground.phase }, { on := 12, ground := Ground.phase }, { on := 13, ground := Ground.phase }, { on := 14, ground := Ground.phase }, { on := 15, ground := Ground.phase }, { on := 16, ground := Ground.phase }], guard := none }) rfl (fun KQ hK => ?_) AllReadyH.nil)
    go_simp
    refine hK.out _ _ Y4.out (fun hHeld => ?_)
    clear hK KQ
    try simp only [Act.put, List.setIfInBounds_toArray, List.set_cons_zero, List.set_cons_succ]
    refine wpAnyH_done (by kernel_rfl) ?_ _
    go_upto_region 12 with fail
    exact back_10 W w4 HT.out E HE.out Y4.out s HS.out _ ‹∀ (a : Act) (w : World), Code.wp Tryd.prog _ _ a w → _› _ _ _ _ _ _ _ _ _ _ _ _ _ _ _ _ _ _ _ _ _ _ _ _ _ _ _ _ _ _ _ _ _ _ _ _ _ _ _ _ _ _ _ _ _ _ _ _ _ _ _ _ _ _ _ _ _ _ _ _ _ _ _ _ _ _ _ _ _ _ _ _ _ _ _ _ _ _ _ _ _ _ _ _ _ _ _ _ _ _ _ _ _ _ _ _ _ _ _ _ _ _ _ _ _ _ _ _ _ _ _ _ _ _ _ _ _ _ _ _ _ _ _ _ _ _ _ _ _ _ _ _ _ _ _ _ _ _
end Go.Proofs.YtbpdmkohihgnjaaDoor
namespace Go.Proofs.YtbpdmkohihgnjaaDoor
open Go.RowKit
set_option maxHeartbeats 8000000
set_option maxRecDepth 100000
attribute [-simp] Tryd.isAgg23 Tryd.zeroValue23 Tryd.isAgg38 Tryd.zeroValue38
theorem back_8 (W w : World) (hT : TabW W) (E : Nat → Addr) (hE : ErrS W E) (hb : Below W.heap.size W w) (s : ByteArray) (hs : s.size ≤ 140737488355328) (T : ByteArray) (hTs : T.size = 224) (k : Nat) (hk : k < 224) (b : Int) (b0 : 0 ≤ b) (b1 : b < 256) (K' : Act → World → Prop)
    (hK : ∀ a w, Code.wp Tryd.prog (sfx 9 (Tryd.f5.body.getD .skip)) (bodyPost Tryd.prog Tryd.f5 fun x w' => x = .returned (.bool true) ∧ Below W.heap.size W w') a w → K' a w) (z0 z2 z4 z5 z6 z7 z10 z11 z13 z14 z15 z16 z17 z18 z19 z20 z21 z22 z23 z24 z25 z26 z27 z28 z29 z30 z31 z32 z33 z34 z35 z36 z37 z38 z39 z40 z41 z42 z43 z44 z45 z46 z47 z48 z49 z50 z51 z52 z53 z54 z55 z56 z57 z58 z59 z60 z61 z62 z63 z64 z65 z66 z67 z68 z69 z70 z71 z72 z73 z74 z75 z76 z77 z78 z79 z80 z81 z82 z83 z84 z85 z86 z87 z88 z89 z90 z91 z92 z93 z94 z95 z96 z97 z98 z99 z100 z101 z102 z103 z104 z105 z106 z107 z108 z109 z110 z111 z112 z113 z114 z115 z116 z117 z118 z119 z120 z121 z122 z123 z124 z125 z126 z127 z128 z129 z130 z131 z132 z133 z134 z135 z136 z137 z138 z139 z140 z141 : Value) :
    Code.wp Tryd.prog (hdx 8 (Tryd.f5.body.getD .skip)) (Exit.then K' (bodyPost Tryd.prog Tryd.f5 fun x w' => x = .returned (.bool true) ∧ Below W.heap.size W w')) { tmps := #[z0, .string s, z2, .int .u8 b, z4, z5, z6, z7, .bool false, .string T, z10, z11, .int .i64 (k : Int), z13, z14, z15, z16, z17, z18, z19, z20, z21, z22, z23, z24, z25, z26, z27, z28, z29, z30, z31, z32, z33, z34, z35, z36, z37, z38, z39, z40, z41, z42, z43, z44, z45, z46, z47, z48, z49, z50, z51, z52, z53, z54, z55, z56, z57, z58, z59, z60, z61, z62, z63, z64, z65, z66, z67, z68, z69, z70, z71, z72, z73, z74, z75, z76, z77, z78, z79, z80, z81, z82, z83, z84, z85, z86, z87, z88, z89, z90, z91, z92, z93, z94, z95, z96, z97, z98, z99, z100, z101, z102, z103, z104, z105, z106, z107, z108, z109, z110, z111, z112, z113, z114, z115, z116, z117, z118, z119, z120, z121, z122, z123, z124, z125, z126, z127, z128, z129, z130, z131, z132, z133, z134, z135, z136, z137, z138, z139, z140, z141], defers := [] } w := by
  have hy : ∀ w, (zeroValue 38).run Tryd.prog w = .ok (.agg (zer24.map (Value.int .u32)).toArray) w := fun w => by rw [Tryd.zeroValue38]; rfl
  have hYl : zer24.length = 24 := rfl
  have h13 := hE.sz
  have hvs : ((T.extract 0 k) ++ (T.extract (k + 1) T.size)).size ≠ 224 := by simp only [ByteArray.size_append, ByteArray.size_extract, hTs]; omega
  have hvl : ((T.extract 0 k) ++ (T.extract (k + 1) T.size)).size ≤ 140737488355328 := by simp only [ByteArray.size_append, ByteArray.size_extract, hTs]; omega
  have HP : Hid (∀ w, Below W.heap.size W w → Calls Tryd.prog 18 #[.string ((T.extract 0 k) ++ (T.extract (k + 1) T.size))] w fun e W' => e = .returned (.tuple #[.agg (zer24.map (Value.int .u32)).toArray, .int .i64 160]) ∧ Below w.heap.size w W') := hid (by
    intro w hw
    have := parse_any w (hT.below hw (by omega)) E (hE.on hw) _ hvl
    have hq : ¬ qok ((T.extract 0 k) ++ (T.extract (k + 1) T.size)) := fun h => hvs h.1
    rw [show pq ((T.extract 0 k) ++ (T.extract (k + 1) T.size)) = zer24 from if_neg hq, show pN ((T.extract 0 k) ++ (T.extract (k + 1) T.size)) = 160 from if_neg hq] at this
    exact this)
  have HT := hid hT
  have HE := hid hE
  have HS := hid hs
  have Y0 : Hid (Below W.heap.size W w.drew) := hid hb.drew
  have i1 : (k : Int) < 224 := by omega
  have i2 : (0 : Int) ≤ (k : Int) := by omega
  have HTS := hid hTs
  have HKL := hid hk
  have HBB := hid (And.intro b0 b1)
  have hTi : (T.size : Int) = 224 := by omega
  have HWK := hid (show IntKind.wrap .i64 ((k : Int) + 1) = (k : Int) + 1 by rw [IntKind.wrap_i64]; omega)
  generalize zer24 = Z24 at *
  obtain ⟨p1, h1⟩ : ∃ p, T.extract 0 k = p := ⟨_, rfl⟩
  obtain ⟨p2, h2⟩ : ∃ p, T.extract (k + 1) T.size = p := ⟨_, rfl⟩
  obtain ⟨cc, h3⟩ : ∃ p, strOfNums [b] = p := ⟨_, rfl⟩
  rw [h1, h2] at HP
  have u1 : p1.size ≤ 1000 := by rw [← h1, ByteArray.size_extract]; omega
  have u2 : p2.size ≤ 1000 := by rw [← h2, ByteArray.size_extract]; omega
  have u3 : cc.size ≤ 1000 := by rw [← h3, strOfNums_size]; show 1 ≤ 1000; decide
  have HP1 := hid h1
  have HP2 := hid h2
  have HP3 := hid h3
  clear hT hE hb h13 hvs hvl b0 b1 h1 h2 h3 hTs hk hs
  refine hd_walk 8 rfl (by simp only [hdx, sfx]; rfl) (by simp only [sfx]; rfl) hK ?_
  clear hK
  intro hK
  refine wp_region_held_drew (S := fun w => Below W.heap.size W w) (by kernel_rfl) Y0.out (fun hHeld => ?_)
  generalize World.drew _ = w0 at *
  refine wpAnyH_take (i := 0) (oi := { dst := some 76, op := Op.move (Operand.tmp 9), type := 9, pos := "outright.go:41", after := #[], guard := none }) (v := .string T) rfl (by kernel_rfl) (by kernel_rfl) (by kernel_rfl) (fun _ _ _ h => h) (Or.inl ⟨by rfl, by intro w hSw; go_simp⟩) (by assumption) ?_
  simp only [Act.put, List.setIfInBounds_toArray, List.set_cons_zero, List.set_cons_succ]
  refine wpAnyH_take (i := 1) (oi := { dst := some 77, op := Op.move (Operand.tmp 12), type := 3, pos := "outright.go:41", after := #[], guard := none }) (v := .int .i64 (k : Int)) rfl (by kernel_rfl) (by kernel_rfl) (by kernel_rfl) (fun _ _ _ h => h) (Or.inl ⟨by rfl, by intro w hSw; go_simp⟩) (by assumption) ?_
  simp only [Act.put, List.setIfInBounds_toArray, List.set_cons_zero, List.set_cons_succ]
  refine wpAnyH_take (i := 2) (oi := { dst := some 78, op := Op.slice 9 (Operand.tmp 76) none (some (Operand.tmp 77)) none, type := 9, pos := "outright.go:41", after := #[{ on := 0, ground := Ground.data }, { on := 1, ground := Ground.data }], guard := none }) (v := .string p1) rfl (by kernel_rfl) (by kernel_rfl) (by kernel_rfl) (fun _ _ _ h => h) (Or.inl ⟨by rfl, by intro w hSw; have hp := HP1.out; go_simp <;> (try omega)⟩) (by assumption) ?_
  simp only [Act.put, List.setIfInBounds_toArray, List.set_cons_zero, List.set_cons_succ]
  refine wpAnyH_take (i := 3) (oi := { dst := some 79, op := Op.move (Operand.tmp 9), type := 9, pos := "outright.go:41", after := #[], guard := none }) (v := .string T) rfl (by kernel_rfl) (by kernel_rfl) (by kernel_rfl) (fun _ _ _ h => h) (Or.inl ⟨by rfl, by intro w hSw; go_simp⟩) (by assumption) ?_
  simp only [Act.put, List.setIfInBounds_toArray, List.set_cons_zero, List.set_cons_succ]
  refine wpAnyH_take (i := 4) (oi := { dst := some 80, op := Op.move (Operand.tmp 12), type := 3, pos := "outright.go:41", after := #[], guard := none }) (v := .int .i64 (k : Int)) rfl (by kernel_rfl) (by kernel_rfl) (by kernel_rfl) (fun _ _ _ h => h) (Or.inl ⟨by rfl, by intro w hSw; go_simp⟩) (by assumption) ?_
  simp only [Act.put, List.setIfInBounds_toArray, List.set_cons_zero, List.set_cons_succ]
  refine wpAnyH_take (i := 5) (oi := { dst := some 81, op := Op.binOp BinOp.add 3 (Operand.tmp 80) (Operand.const (Value.int IntKind.i64 1)) 3, type := 3, pos := "outright.go:41", after := #[{ on := 4, ground := Ground.data }], guard := none }) (v := .int .i64 ((k : Int) + 1)) rfl (by kernel_rfl) (by kernel_rfl) (by kernel_rfl) (fun _ _ _ h => h) (Or.inl ⟨by rfl, by intro w hSw; have hw := HWK.out; go_simp <;> (try omega)⟩) (by assumption) ?_
  simp only [Act.put, List.setIfInBounds_toArray, List.set_cons_zero, List.set_cons_succ]
  refine wpAnyH_take (i := 6) (oi := { dst := some 82, op := Op.slice 9 (Operand.tmp 79) (some (Operand.tmp 81)) none none, type := 9, pos := "outright.go:41", after := #[{ on := 3, ground := Ground.data }, { on := 5, ground := Ground.data }], guard := none }) (v := .string p2) rfl (by kernel_rfl) (by kernel_rfl) (by kernel_rfl) (fun _ _ _ h => h) (Or.inl ⟨by rfl, by intro w hSw; have hp := HP2.out; go_simp <;> (try omega)⟩) (by assumption) ?_
  simp only [Act.put, List.setIfInBounds_toArray, List.set_cons_zero, List.set_cons_succ]
  refine wpAnyH_take (i := 7) (oi := { dst := some 83, op := Op.binOp BinOp.add 9 (Operand.tmp 78) (Operand.tmp 82) 9, type := 9, pos := "outright.go:41", after := #[{ on := 2, ground := Ground.data }, { on := 6, ground := Ground.data }], guard := none }) (v := .string (p1 ++ p2)) rfl (by kernel_rfl) (by kernel_rfl) (by kernel_rfl) (fun _ _ _ h => h) (Or.inl ⟨by rfl, by intro w hSw; go_simp <;> (try simp only [ByteArray.size_append]) <;> (try omega)⟩) (by assumption) ?_
  simp only [Act.put, List.setIfInBounds_toArray, List.set_cons_zero, List.set_cons_succ]
  refine wpAnyH_ready (rs := [8, 12]) (by kernel_rfl) (by simp) (AllReadyH.cons (o := { dst := some 84, op := Op.call { callee := Callee.value (Operand.func 18), args := #[Operand.tmp 83], argTypes := #[9] }, type := 51, pos := "outright.go:41", after := #[{ on := 7, ground := Ground.data }], guard := none }) rfl (fun KQ hK => ?_) (AllReadyH.cons (o := { dst := some 16, op := Op.alloc 38, type := 0, pos := "outright.go:41", after := #[], guard := none }) rfl (fun KQ hK => ?_) AllReadyH.nil))
  · go_simp
    refine (HP.out _ Y0.out).mono ?_
    rintro e w1 ⟨rfl, hb1⟩
    have Y1 := hid (below_on Y0.out hb1)
    clear hb1 Y0
    go_wp2_with fail
    refine hK.out _ _ Y1.out (fun hHeld => ?_)
    clear hK KQ
    try simp only [Act.put, List.setIfInBounds_toArray, List.set_cons_zero, List.set_cons_succ]
    refine wpAnyH_take (i := 9) (oi := { dst := some 75, op := Op.move (Operand.tmp 84), type := 51, pos := "outright.go:41", after := #[{ on := 8, ground := Ground.data }], guard := none }) (v := .tuple #[.agg (Z24.map (Value.int .u32)).toArray, .int .i64 160]) rfl (by kernel_rfl) (by kernel_rfl) (by kernel_rfl) (fun _ _ _ h => h) (Or.inl ⟨by rfl, by intro w hSw; go_simp⟩) (by assumption) ?_
    simp only [Act.put, List.setIfInBounds_toArray, List.set_cons_zero, List.set_cons_succ]
    refine wpAnyH_take (i := 10) (oi := { dst := some 85, op := Op.extract (Operand.tmp 75) 0, type := 38, pos := "outright.go:41", after := #[{ on := 9, ground := Ground.data }], guard := none }) (v := .agg (Z24.map (Value.int .u32)).toArray) rfl (by kernel_rfl) (by kernel_rfl) (by kernel_rfl) (fun _ _ _ h => h) (Or.inl ⟨by rfl, by intro w hSw; go_simp⟩) (by assumption) ?_
    simp only [Act.put, List.setIfInBounds_toArray, List.set_cons_zero, List.set_cons_succ]
    refine wpAnyH_take (i := 11) (oi := { dst := some 86, op := Op.extract (Operand.tmp 75) 1, type := 45, pos := "outright.go:41", after := #[{ on := 9, ground := Ground.data }, { on := 13, ground := Ground.gcOnly Departure.lateStores }], guard := none }) (v := .int .i64 160) rfl (by kernel_rfl) (by kernel_rfl) (by kernel_rfl) (fun _ _ _ h => h) (Or.inl ⟨by rfl, by intro w hSw; go_simp⟩) (by assumption) ?_
    simp only [Act.put, List.setIfInBounds_toArray, List.set_cons_zero, List.set_cons_succ]
    refine wpAnyH_ready (rs := [12]) (by kernel_rfl) (by simp) (AllReadyH.cons (o := { dst := some 16, op := Op.alloc 38, type := 0, pos := "outright.go:41", after := #[], guard := none }) rfl (fun KQ hK => ?_) AllReadyH.nil)
    go_simp
    have Y2 := hid (below_on Y1.out (below_one w1 (Obj.cells (List.map (Value.int IntKind.u32) Z24).toArray 38)))
    have BX2 : Hid (Blk (w1.alloc (Obj.cells (List.map (Value.int IntKind.u32) Z24).toArray 38)) w1.heap.size .u32 38 Z24) := hid (Blk.new _ _ _ _)
    have GX2 : Hid (W.heap.size ≤ w1.heap.size) := hid Y1.out.size
    clear Y1
    generalize World.alloc _ _ = w2 at *
    generalize w1.heap.size = gx2 at *
    refine hK.out _ _ Y2.out (fun hHeld => ?_)
    clear hK KQ
    try simp only [Act.put, List.setIfInBounds_toArray, List.set_cons_zero, List.set_cons_succ]
    refine wpAnyH_ready (rs := [13]) (by kernel_rfl) (by simp) (AllReadyH.cons (o := { dst := none, op := Op.store 38 (Operand.tmp 16) (Operand.tmp 85), type := 0, pos := "outright.go:41", after := #[{ on := 12, ground := Ground.data }, { on := 10, ground := Ground.data }, { on := 8, ground := Ground.chain }, { on := 0, ground := Ground.phase }, { on := 1, ground := Ground.phase }, { on := 2, ground := Ground.phase }, { on := 3, ground := Ground.phase }, { on := 4, ground := Ground.phase }, { on := 5, ground := Ground.phase }, { on := 6, ground := Ground.phase }, { on := 7, ground := Ground.phase }, { on := 8, ground := Ground.phase }, { on := 9, ground := Ground.phase }, { on := 10, ground := Ground.phase }, { on := 11, ground := Ground.textOnly Departure.lateStores }, { on := 12, ground := Ground.phase }], guard := none }) rfl (fun KQ hK => ?_) AllReadyH.nil)
    rw [if_pos (by rfl)]
    refine wp_store_st 38 _ _ rfl gx2 (Z24.map (Value.int .u32)) rfl rfl (blk_cel BX2.out) (by rw [List.length_map, hYl]; exact size38) rfl (List.all_eq_true.2 (ints_oneCell .u32 _)) ?_
    intro w3 hc3 hb3 hs3
    have Y3 : Hid (Below W.heap.size W w3) := hid (Y2.out.trans (hb3.below GX2.out Y2.out.size))
    clear hc3 hb3 hs3 Y2
    refine hK.out _ _ Y3.out (fun hHeld => ?_)
    clear hK KQ
    try simp only [Act.put]
    refine wpAnyH_ready (rs := [14]) (by kernel_rfl) (by simp) (AllReadyH.cons (o := { dst := some 17, op := Op.assign (Operand.tmp 86), type := 45, pos := "outright.go:41", after := #[{ on := 11, ground := Ground.data }, { on := 13, ground := Ground.chain }, { on := 0, ground := Ground.phase }, { on := 1, ground := Ground.phase }, { on := 2, ground := Ground.phase }, { on := 3, ground := Ground.phase }, { on := 4, ground := Ground.phase }, { on := 5, ground := Ground.phase }, { on := 6, ground := Ground.phase }, { on := 7, ground := Ground.phase }, { on := 8, ground := Ground.phase }, { on := 9, ground := Ground.phase }, { on := 10, ground := Ground.phase }, { on := 11, ground := Ground.phase }, { on := 12, ground := Ground.phase }, { on := 13, ground := Ground.phase }], guard := none }) rfl (fun KQ hK => ?_) AllReadyH.nil)
    go_simp
    refine hK.out _ _ Y3.out (fun hHeld => ?_)
    clear hK KQ
    try simp only [Act.put, List.setIfInBounds_toArray, List.set_cons_zero, List.set_cons_succ]
    refine wpAnyH_done (by kernel_rfl) ?_ _
    go_upto_region 11 with fail
    exact back_9 W w3 HT.out E HE.out Y3.out s HS.out T HTS.out k HKL.out b HBB.out.1 HBB.out.2 _ ‹∀ (a : Act) (w : World), Code.wp Tryd.prog _ _ a w → _› _ _ _ _ _ _ _ _ _ _ _ _ _ _ _ _ _ _ _ _ _ _ _ _ _ _ _ _ _ _ _ _ _ _ _ _ _ _ _ _ _ _ _ _ _ _ _ _ _ _ _ _ _ _ _ _ _ _ _ _ _ _ _ _ _ _ _ _ _ _ _ _ _ _ _ _ _ _ _ _ _ _ _ _ _ _ _ _ _ _ _ _ _ _ _ _ _ _ _ _ _ _ _ _ _ _ _ _ _ _ _ _ _ _ _ _ _ _ _ _ _ _ _ _ _ _ _ _ _ _ _ _ _ _ _ _
  · go_simp
    have Y1 := hid (below_on Y0.out (below_one w0 (Obj.cells (List.map (Value.int IntKind.u32) Z24).toArray 38)))
    have BX1 : Hid (Blk (w0.alloc (Obj.cells (List.map (Value.int IntKind.u32) Z24).toArray 38)) w0.heap.size .u32 38 Z24) := hid (Blk.new _ _ _ _)
    have GX1 : Hid (W.heap.size ≤ w0.heap.size) := hid Y0.out.size
    clear Y0
    generalize World.alloc _ _ = w1 at *
    generalize w0.heap.size = gx1 at *
    refine hK.out _ _ Y1.out (fun hHeld => ?_)
    clear hK KQ
    try simp only [Act.put, List.setIfInBounds_toArray, List.set_cons_zero, List.set_cons_succ]
    refine wpAnyH_ready (rs := [8]) (by kernel_rfl) (by simp) (AllReadyH.cons (o := { dst := some 84, op := Op.call { callee := Callee.value (Operand.func 18), args := #[Operand.tmp 83], argTypes := #[9] }, type := 51, pos := "outright.go:41", after := #[{ on := 7, ground := Ground.data }], guard := none }) rfl (fun KQ hK => ?_) AllReadyH.nil)
    go_simp
    refine (HP.out _ Y1.out).mono ?_
    rintro e w2 ⟨rfl, hb2⟩
    have BX2 := hid (BX1.out.on hb2)
    clear BX1
    have Y2 := hid (below_on Y1.out hb2)
    clear hb2 Y1
    go_wp2_with fail
    refine hK.out _ _ Y2.out (fun hHeld => ?_)
    clear hK KQ
    try simp only [Act.put, List.setIfInBounds_toArray, List.set_cons_zero, List.set_cons_succ]
    refine wpAnyH_take (i := 9) (oi := { dst := some 75, op := Op.move (Operand.tmp 84), type := 51, pos := "outright.go:41", after := #[{ on := 8, ground := Ground.data }], guard := none }) (v := .tuple #[.agg (Z24.map (Value.int .u32)).toArray, .int .i64 160]) rfl (by kernel_rfl) (by kernel_rfl) (by kernel_rfl) (fun _ _ _ h => h) (Or.inl ⟨by rfl, by intro w hSw; go_simp⟩) (by assumption) ?_
    simp only [Act.put, List.setIfInBounds_toArray, List.set_cons_zero, List.set_cons_succ]
    refine wpAnyH_take (i := 10) (oi := { dst := some 85, op := Op.extract (Operand.tmp 75) 0, type := 38, pos := "outright.go:41", after := #[{ on := 9, ground := Ground.data }], guard := none }) (v := .agg (Z24.map (Value.int .u32)).toArray) rfl (by kernel_rfl) (by kernel_rfl) (by kernel_rfl) (fun _ _ _ h => h) (Or.inl ⟨by rfl, by intro w hSw; go_simp⟩) (by assumption) ?_
    simp only [Act.put, List.setIfInBounds_toArray, List.set_cons_zero, List.set_cons_succ]
    refine wpAnyH_take (i := 11) (oi := { dst := some 86, op := Op.extract (Operand.tmp 75) 1, type := 45, pos := "outright.go:41", after := #[{ on := 9, ground := Ground.data }, { on := 13, ground := Ground.gcOnly Departure.lateStores }], guard := none }) (v := .int .i64 160) rfl (by kernel_rfl) (by kernel_rfl) (by kernel_rfl) (fun _ _ _ h => h) (Or.inl ⟨by rfl, by intro w hSw; go_simp⟩) (by assumption) ?_
    simp only [Act.put, List.setIfInBounds_toArray, List.set_cons_zero, List.set_cons_succ]
    refine wpAnyH_ready (rs := [13]) (by kernel_rfl) (by simp) (AllReadyH.cons (o := { dst := none, op := Op.store 38 (Operand.tmp 16) (Operand.tmp 85), type := 0, pos := "outright.go:41", after := #[{ on := 12, ground := Ground.data }, { on := 10, ground := Ground.data }, { on := 8, ground := Ground.chain }, { on := 0, ground := Ground.phase }, { on := 1, ground := Ground.phase }, { on := 2, ground := Ground.phase }, { on := 3, ground := Ground.phase }, { on := 4, ground := Ground.phase }, { on := 5, ground := Ground.phase }, { on := 6, ground := Ground.phase }, { on := 7, ground := Ground.phase }, { on := 8, ground := Ground.phase }, { on := 9, ground := Ground.phase }, { on := 10, ground := Ground.phase }, { on := 11, ground := Ground.textOnly Departure.lateStores }, { on := 12, ground := Ground.phase }], guard := none }) rfl (fun KQ hK => ?_) AllReadyH.nil)
    rw [if_pos (by rfl)]
    refine wp_store_st 38 _ _ rfl gx1 (Z24.map (Value.int .u32)) rfl rfl (blk_cel BX2.out) (by rw [List.length_map, hYl]; exact size38) rfl (List.all_eq_true.2 (ints_oneCell .u32 _)) ?_
    intro w3 hc3 hb3 hs3
    have Y3 : Hid (Below W.heap.size W w3) := hid (Y2.out.trans (hb3.below GX1.out Y2.out.size))
    clear hc3 hb3 hs3 Y2
    refine hK.out _ _ Y3.out (fun hHeld => ?_)
    clear hK KQ
    try simp only [Act.put]
    refine wpAnyH_ready (rs := [14]) (by kernel_rfl) (by simp) (AllReadyH.cons (o := { dst := some 17, op := Op.assign (Operand.tmp 86), type := 45, pos := "outright.go:41", after := #[{ on := 11, ground := Ground.data }, { on := 13, ground := Ground.chain }, { on := 0, ground := Ground.phase }, { on := 1, ground := Ground.phase }, { on := 2, ground := Ground.phase }, { on := 3, ground := Ground.phase }, { on := 4, ground := Ground.phase }, { on := 5, ground := Ground.phase }, { on := 6, ground := Ground.phase }, { on := 7, ground := Ground.phase }, { on := 8, ground := Ground.phase }, { on := 9, ground := Ground.phase }, { on := 10, ground := Ground.phase }, { on := 11, ground := Ground.phase }, { on := 12, ground := Ground.phase }, { on := 13, ground := Ground.phase }], guard := none }) rfl (fun KQ hK => ?_) AllReadyH.nil)
    go_simp
    refine hK.out _ _ Y3.out (fun hHeld => ?_)
    clear hK KQ
    try simp only [Act.put, List.setIfInBounds_toArray, List.set_cons_zero, List.set_cons_succ]
    refine wpAnyH_done (by kernel_rfl) ?_ _
    go_upto_region 11 with fail
    exact back_9 W w3 HT.out E HE.out Y3.out s HS.out T HTS.out k HKL.out b HBB.out.1 HBB.out.2 _ ‹∀ (a : Act) (w : World), Code.wp Tryd.prog _ _ a w → _› _ _ _ _ _ _ _ _ _ _ _ _ _ _ _ _ _ _ _ _ _ _ _ _ _ _ _ _ _ _ _ _ _ _ _ _ _ _ _ _ _ _ _ _ _ _ _ _ _ _ _ _ _ _ _ _ _ _ _ _ _ _ _ _ _ _ _ _ _ _ _ _ _ _ _ _ _ _ _ _ _ _ _ _ _ _ _ _ _ _ _ _ _ _ _ _ _ _ _ _ _ _ _ _ _ _ _ _ _ _ _ _ _ _ _ _ _ _ _ _ _ _ _ _ _ _ _ _ _ _ _ _ _ _ _ _
end Go.Proofs.YtbpdmkohihgnjaaDoor
namespace Go.Proofs.YtbpdmkohihgnjaaDoor
open Go.RowKit
set_option maxHeartbeats 8000000
set_option maxRecDepth 100000
theorem mod224 (x : Int) : ∃ q : Nat, (wrap64 (x.tmod 224 + 224)).tmod 224 = (q : Int) ∧ q < 224 := by
  have h2 : -224 < x.tmod 224 := by have := Int.tmod_lt_of_pos (-x) (show (0:Int) < 224 by decide); rw [Int.neg_tmod] at this; omega
  have h3 : x.tmod 224 < 224 := Int.tmod_lt_of_pos _ (by decide)
  have h4 : wrap64 (x.tmod 224 + 224) = x.tmod 224 + 224 := by unfold wrap64; omega
  rw [h4, Int.tmod_eq_emod_of_nonneg (by omega)]
  exact ⟨((x.tmod 224 + 224) % 224).toNat, by omega, by omega⟩
attribute [-simp] Tryd.isAgg23 Tryd.zeroValue23 Tryd.isAgg38 Tryd.zeroValue38
theorem back_l (W : World) (hT : TabW W) (E : Nat → Addr) (hE : ErrS W E) (m d t : List Int) (hm : m.length = 8) (hd : d.length = 8) (ht : t.length = 8) (wm : Wds m) (wd : Wds d) (wt : Wds t) (s : ByteArray) (hs : s.size ≤ 140737488355328) (x b : Int) (b0 : 0 ≤ b) (b1 : b < 256) :
    Calls Tryd.prog 5 #[Ag (quoL m d t), .string s, .int .i64 x, .int .u8 b] W fun e W' => e = .returned (.bool true) ∧ Below W.heap.size W W' := by
  have hy : ∀ w, (zeroValue 38).run Tryd.prog w = .ok (.agg (zer24.map (Value.int .u32)).toArray) w := fun w => by rw [Tryd.zeroValue38]; rfl
  have hYl : zer24.length = 24 := rfl
  have h13 := hE.sz
  have hTs := fmtQ_size hm hd ht
  obtain ⟨k, hk, hk8⟩ := mod224 x
  obtain ⟨X, hX⟩ : ∃ X, X = W.alloc (Obj.cells (List.map (Value.int IntKind.u32) (quoL m d t)).toArray 38) := ⟨_, rfl⟩
  have Y0 : Hid (Below W.heap.size W X ∧ Blk X W.heap.size .u32 38 (quoL m d t)) := hid (by rw [hX]; exact ⟨below_one W _, Blk.new W .u32 38 (quoL m d t)⟩)
  have HFm : Hid (∀ w, Below W.heap.size W w → Calls Tryd.prog 17 #[.agg ((quoL m d t).map (Value.int .u32)).toArray] w fun e W' => e = .returned (.string (fmtQ m d t)) ∧ Below w.heap.size w W') := hid fun w h => format_any w (hT.below h (by omega)) (by have := h.size; omega) m d t hm hd ht wm wd wt
  have HP1 : Hid (∀ w, Below W.heap.size W w → Calls Tryd.prog 18 #[.string (fmtQ m d t)] w fun e W' => e = .returned (.tuple #[.agg ((quoL m d t).map (Value.int .u32)).toArray, .int .i64 0]) ∧ Below w.heap.size w W') := hid (by
    intro w h
    have := parse_any w (hT.below h (by omega)) E (hE.on h) (fmtQ m d t) (by rw [hTs]; decide)
    rw [pq_fmt hm hd ht wm wd wt, show pN (fmtQ m d t) = 0 from if_pos (qok_fmt hm hd ht wm wd wt)] at this
    exact this)
  have hEQ : ∀ w, (Op.equalIn 10000 38 (.agg ((quoL m d t).map (Value.int .u32)).toArray) (.agg ((quoL m d t).map (Value.int .u32)).toArray)).run Tryd.prog w = .ok true w := fun w => by rw [eq38 w m d t m d t hm hd ht hm hd ht]; simp
  obtain ⟨u, hu⟩ : ∃ u, ((fmtQ m d t).extract 0 k ++ strOfNums [b]) ++ (fmtQ m d t).extract (k + 1) (fmtQ m d t).size = u := ⟨_, rfl⟩
  have hus : u.size ≤ 1000 := by rw [← hu, ByteArray.size_append, ByteArray.size_append, ByteArray.size_extract, ByteArray.size_extract, strOfNums_size, hTs, List.length_singleton]; omega
  have HP2 : Hid (∀ w, Below W.heap.size W w → Calls Tryd.prog 18 #[.string u] w fun e W' => e = .returned (.tuple #[.agg ((pq u).map (Value.int .u32)).toArray, .int .i64 (pN u)]) ∧ Below w.heap.size w W') := hid fun w h => parse_any w (hT.below h (by omega)) E (hE.on h) u (by omega)
  have HU : Hid ((pN u = 160) ∨ (pN u = 0 ∧ ∀ w, (Op.equalIn 10000 38 (.agg ((pq u).map (Value.int .u32)).toArray) (.agg ((quoL m d t).map (Value.int .u32)).toArray)).run Tryd.prog w = .ok (u.toList == (fmtQ m d t).toList) w)) := hid (by
    by_cases hq : qok u
    · obtain ⟨a, b', c, la, lb, lc, wa, wb, wc, hpq, hf⟩ := pq_parts hq
      refine .inr ⟨if_pos hq, fun w => ?_⟩
      rw [hpq, eq38 w a b' c m d t la lb lc hm hd ht]
      by_cases he : u = fmtQ m d t
      · obtain ⟨e1, e2, e3⟩ := same_quote hm hd ht wm wd wt la lb lc wa wb wc (hf.trans he)
        rw [he]
        simp [e1, e2, e3]
      · rw [toList_ne he]
        have : ¬ (a = m ∧ b' = d ∧ c = t) := fun ⟨e1, e2, e3⟩ => he (by rw [← hf, e1, e2, e3])
        by_cases e1 : a = m <;> by_cases e2 : b' = d <;> by_cases e3 : c = t <;> simp_all
    · exact .inl (if_neg hq))
  have hul := pq_length u
  have hQl := quoL_length hm hd ht
  have HNu := hid (fun w x => num_any w x)
  have HT := hid hT
  have HE := hid hE
  have HS := hid hs
  have HBB := hid (And.intro b0 b1)
  have HK8 := hid hk8
  have i1 : (k : Int) < 224 := by omega
  have i2 : (0 : Int) ≤ (k : Int) := by omega
  generalize fmtQ m d t = T at *
  generalize quoL m d t = Q at *
  generalize pq u = M at *
  have HTS := hid hTs
  have hTi : (T.size : Int) = 224 := by omega
  have HWK := hid (show IntKind.wrap .i64 ((k : Int) + 1) = (k : Int) + 1 by rw [IntKind.wrap_i64]; omega)
  obtain ⟨p1, h1⟩ : ∃ p, T.extract 0 k = p := ⟨_, rfl⟩
  obtain ⟨p2, h2⟩ : ∃ p, T.extract (k + 1) T.size = p := ⟨_, rfl⟩
  obtain ⟨cc, h3⟩ : ∃ p, strOfNums [b] = p := ⟨_, rfl⟩
  rw [h1, h2, h3] at hu
  have u1 : p1.size ≤ 1000 := by rw [← h1, ByteArray.size_extract]; omega
  have u2 : p2.size ≤ 1000 := by rw [← h2, ByteArray.size_extract]; omega
  have u3 : cc.size ≤ 1000 := by rw [← h3, strOfNums_size]; show 1 ≤ 1000; decide
  have HPa := hid h1
  have HPb := hid h2
  have HPc := hid h3
  have HUU := hid hu
  have HKK := hid hk
  generalize zer24 = Z24 at *
  clear hT hE hs h13 hm hd ht wm wd wt b0 b1 h1 h2 h3 hu hk hk8 hTs hus
  unfold Ag
  go_enter Tryd.func5, Tryd.ntmps5
  go_upto_region 1 with fail
  rw [← hX]
  clear hX
  go_wp2_with (first | (refine wpList_load_mid rfl 38 _ rfl W.heap.size 0 rfl _ _ (cel_range (blk_cel Y0.out.2)) Tryd.underlying38 rfl (by rw [List.length_map, hQl]; exact size38) ?_))
  refine (HFm.out _ Y0.out.1).mono ?_
  rintro e w1 ⟨rfl, hb⟩
  have Y1 : Hid (Below W.heap.size W w1 ∧ Blk w1 W.heap.size .u32 38 Q) := hid ⟨below_on Y0.out.1 hb, Y0.out.2.on hb⟩
  clear hb Y0 HFm
  go_upto_region 2 with fail
  go_wp2_with fail
  refine (HP1.out _ Y1.out.1).mono ?_
  rintro e w2 ⟨rfl, hb⟩
  have Y2 : Hid (Below W.heap.size W w2 ∧ Blk w2 W.heap.size .u32 38 Q) := hid ⟨below_on Y1.out.1 hb, Y1.out.2.on hb⟩
  clear hb Y1 HP1
  go_upto_region 3 with (first | (refine wpList_store_but rfl 38 _ _ rfl w2.heap.size Q rfl rfl (Blk.new w2 .u32 38 Z24) (by rw [hQl]; exact size38) (by rw [hYl, hQl]) ?_; intro w3 bM hbt hsz; have Y3 : Hid (Below W.heap.size W w3 ∧ Blk w3 W.heap.size .u32 38 Q ∧ Blk w3 w2.heap.size .u32 38 Q) := hid ⟨below_on Y2.out.1 (but_box hbt), Y2.out.2.on (but_box hbt), bM⟩; clear bM hbt hsz))
  generalize w2.heap.size = g10 at *
  clear Y2
  go_upto_region 5 with (first | (refine wpList_load_mid rfl 38 _ rfl g10 0 rfl _ _ (cel_range (blk_cel Y3.out.2.2)) Tryd.underlying38 rfl (by rw [List.length_map, hQl]; exact size38) ?_) | (refine wpList_load_mid rfl 38 _ rfl W.heap.size 0 rfl _ _ (cel_range (blk_cel Y3.out.2.1)) Tryd.underlying38 rfl (by rw [List.length_map, hQl]; exact size38) ?_) | (go_at_call 16; refine (HNu.out _ _).mono ?_; rintro e w5 ⟨rfl, rfl⟩))
  clear hEQ
  go_upto_region 6 with fail
  rw [HKK.out]
  have Y4 := hid (And.intro Y3.out.1.drew (Y3.out.2.1.on (Below.refl _ _).drew))
  clear Y3
  refine wp_region_held_drew (S := fun w => Below W.heap.size W w) (by kernel_rfl) Y4.out.1 (fun hHeld => ?_)
  generalize World.drew _ = w4 at *
  refine wpAnyH_take (i := 0) (oi := { dst := some 46, op := Op.move (Operand.tmp 9), type := 9, pos := "outright.go:36", after := #[], guard := none }) (v := .string T) rfl (by kernel_rfl) (by kernel_rfl) (by kernel_rfl) (fun _ _ _ h => h) (Or.inl ⟨by rfl, by intro w hSw; go_simp⟩) (by assumption) ?_
  simp only [Act.put, List.setIfInBounds_toArray, List.set_cons_zero, List.set_cons_succ]
  refine wpAnyH_take (i := 1) (oi := { dst := some 47, op := Op.move (Operand.tmp 12), type := 3, pos := "outright.go:36", after := #[], guard := none }) (v := .int .i64 (k : Int)) rfl (by kernel_rfl) (by kernel_rfl) (by kernel_rfl) (fun _ _ _ h => h) (Or.inl ⟨by rfl, by intro w hSw; go_simp⟩) (by assumption) ?_
  simp only [Act.put, List.setIfInBounds_toArray, List.set_cons_zero, List.set_cons_succ]
  refine wpAnyH_take (i := 2) (oi := { dst := some 48, op := Op.slice 9 (Operand.tmp 46) none (some (Operand.tmp 47)) none, type := 9, pos := "outright.go:36", after := #[{ on := 0, ground := Ground.data }, { on := 1, ground := Ground.data }], guard := none }) (v := .string p1) rfl (by kernel_rfl) (by kernel_rfl) (by kernel_rfl) (fun _ _ _ h => h) (Or.inl ⟨by rfl, by intro w hSw; have hp := HPa.out; go_simp <;> (try omega)⟩) (by assumption) ?_
  simp only [Act.put, List.setIfInBounds_toArray, List.set_cons_zero, List.set_cons_succ]
  refine wpAnyH_take (i := 3) (oi := { dst := some 49, op := Op.move (Operand.tmp 3), type := 5, pos := "outright.go:36", after := #[], guard := none }) (v := .int .u8 b) rfl (by kernel_rfl) (by kernel_rfl) (by kernel_rfl) (fun _ _ _ h => h) (Or.inl ⟨by rfl, by intro w hSw; go_simp⟩) (by assumption) ?_
  simp only [Act.put, List.setIfInBounds_toArray, List.set_cons_zero, List.set_cons_succ]
  refine wpAnyH_take (i := 7) (oi := { dst := some 53, op := Op.move (Operand.tmp 9), type := 9, pos := "outright.go:36", after := #[], guard := none }) (v := .string T) rfl (by kernel_rfl) (by kernel_rfl) (by kernel_rfl) (fun _ _ _ h => h) (Or.inl ⟨by rfl, by intro w hSw; go_simp⟩) (by assumption) ?_
  simp only [Act.put, List.setIfInBounds_toArray, List.set_cons_zero, List.set_cons_succ]
  refine wpAnyH_take (i := 8) (oi := { dst := some 54, op := Op.move (Operand.tmp 12), type := 3, pos := "outright.go:36", after := #[], guard := none }) (v := .int .i64 (k : Int)) rfl (by kernel_rfl) (by kernel_rfl) (by kernel_rfl) (fun _ _ _ h => h) (Or.inl ⟨by rfl, by intro w hSw; go_simp⟩) (by assumption) ?_
  simp only [Act.put, List.setIfInBounds_toArray, List.set_cons_zero, List.set_cons_succ]
  refine wpAnyH_take (i := 9) (oi := { dst := some 55, op := Op.binOp BinOp.add 3 (Operand.tmp 54) (Operand.const (Value.int IntKind.i64 1)) 3, type := 3, pos := "outright.go:36", after := #[{ on := 8, ground := Ground.data }], guard := none }) (v := .int .i64 ((k : Int) + 1)) rfl (by kernel_rfl) (by kernel_rfl) (by kernel_rfl) (fun _ _ _ h => h) (Or.inl ⟨by rfl, by intro w hSw; have hw := HWK.out; go_simp <;> (try omega)⟩) (by assumption) ?_
  simp only [Act.put, List.setIfInBounds_toArray, List.set_cons_zero, List.set_cons_succ]
  refine wpAnyH_take (i := 10) (oi := { dst := some 56, op := Op.slice 9 (Operand.tmp 53) (some (Operand.tmp 55)) none none, type := 9, pos := "outright.go:36", after := #[{ on := 7, ground := Ground.data }, { on := 9, ground := Ground.data }], guard := none }) (v := .string p2) rfl (by kernel_rfl) (by kernel_rfl) (by kernel_rfl) (fun _ _ _ h => h) (Or.inl ⟨by rfl, by intro w hSw; have hp := HPb.out; go_simp <;> (try omega)⟩) (by assumption) ?_
  simp only [Act.put, List.setIfInBounds_toArray, List.set_cons_zero, List.set_cons_succ]
  refine wpAnyH_ready (rs := [4]) (by kernel_rfl) (by simp) (AllReadyH.cons (o := { dst := some 50, op := Op.buildSlice 30 1 #[(0, Operand.tmp 49)], type := 30, pos := "outright.go:36", after := #[{ on := 3, ground := Ground.data }], guard := none }) rfl (fun KQ hK => ?_) AllReadyH.nil)
  go_simp
  have Y5 : Hid (Below W.heap.size W (w4.alloc (.cells #[.int .u8 b] 5)) ∧ Blk (w4.alloc (.cells #[.int .u8 b] 5)) W.heap.size .u32 38 Q) := hid ⟨below_on Y4.out.1 (below_one w4 _), Y4.out.2.on (below_one w4 _)⟩
  have RW : Hid (Cel (w4.alloc (.cells #[.int .u8 b] 5)) w4.heap.size 5 [.int .u8 b]) := hid (heap_alloc_new _ _)
  clear Y4
  generalize World.alloc _ _ = w5 at *
  generalize w4.heap.size = gb at *
  refine hK.out _ _ Y5.out.1 (fun hHeld => ?_)
  clear hK KQ
  try simp only [Act.put, List.setIfInBounds_toArray, List.set_cons_zero, List.set_cons_succ]
  refine wpAnyH_ready (rs := [5]) (by kernel_rfl) (by simp) (AllReadyH.cons (o := { dst := some 51, op := Op.convert 30 9 (Operand.tmp 50), type := 9, pos := "outright.go:36", after := #[{ on := 4, ground := Ground.data }], guard := none }) rfl (fun KQ hK => ?_) AllReadyH.nil)
  have hcv := run_convert_bytes_arg (P := Tryd.prog) w5 30 5 Tryd.underlying30 Tryd.underlying5 gb 0 1 1 [b] rfl (fun j hj => by rw [show j = 0 by omega]; exact RW.out.cell 0) 9 Tryd.underlying9
  have hp := HPc.out
  rw [hp] at hcv
  go_simp
  clear hcv hp
  refine hK.out _ _ Y5.out.1 (fun hHeld => ?_)
  clear hK KQ
  try simp only [Act.put, List.setIfInBounds_toArray, List.set_cons_zero, List.set_cons_succ]
  refine wpAnyH_take (i := 6) (oi := { dst := some 52, op := Op.binOp BinOp.add 9 (Operand.tmp 48) (Operand.tmp 51) 9, type := 9, pos := "outright.go:36", after := #[{ on := 2, ground := Ground.data }, { on := 5, ground := Ground.data }], guard := none }) (v := .string (p1 ++ cc)) rfl (by kernel_rfl) (by kernel_rfl) (by kernel_rfl) (fun _ _ _ h => h) (Or.inl ⟨by rfl, by intro w hSw; go_simp <;> (try simp only [ByteArray.size_append]) <;> (try omega)⟩) (by assumption) ?_
  simp only [Act.put, List.setIfInBounds_toArray, List.set_cons_zero, List.set_cons_succ]
  refine wpAnyH_take (i := 11) (oi := { dst := some 57, op := Op.binOp BinOp.add 9 (Operand.tmp 52) (Operand.tmp 56) 9, type := 9, pos := "outright.go:36", after := #[{ on := 6, ground := Ground.data }, { on := 10, ground := Ground.data }], guard := none }) (v := .string ((p1 ++ cc) ++ p2)) rfl (by kernel_rfl) (by kernel_rfl) (by kernel_rfl) (fun _ _ _ h => h) (Or.inl ⟨by rfl, by intro w hSw; go_simp <;> (try simp only [ByteArray.size_append]) <;> (try omega)⟩) (by assumption) ?_
  simp only [Act.put, List.setIfInBounds_toArray, List.set_cons_zero, List.set_cons_succ]
  refine wpAnyH_ready (rs := [12]) (by kernel_rfl) (by simp) (AllReadyH.cons (o := { dst := some 13, op := Op.assign (Operand.tmp 57), type := 9, pos := "outright.go:36", after := #[{ on := 11, ground := Ground.data }, { on := 0, ground := Ground.phase }, { on := 1, ground := Ground.phase }, { on := 2, ground := Ground.phase }, { on := 3, ground := Ground.phase }, { on := 4, ground := Ground.phase }, { on := 5, ground := Ground.phase }, { on := 6, ground := Ground.phase }, { on := 7, ground := Ground.phase }, { on := 8, ground := Ground.phase }, { on := 9, ground := Ground.phase }, { on := 10, ground := Ground.phase }, { on := 11, ground := Ground.phase }], guard := none }) rfl (fun KQ hK => ?_) AllReadyH.nil)
  go_simp
  refine hK.out _ _ Y5.out.1 (fun hHeld => ?_)
  clear hK KQ
  try simp only [Act.put, List.setIfInBounds_toArray, List.set_cons_zero, List.set_cons_succ]
  refine wpAnyH_done (by kernel_rfl) ?_ _
  go_upto_region 7 with fail
  rw [HUU.out]
  clear RW u1 u2 u3
  go_wp2_with fail
  refine (HP2.out _ Y5.out.1).mono ?_
  rintro e w6 ⟨rfl, hb⟩
  have Y6 : Hid (Below W.heap.size W w6 ∧ Blk w6 W.heap.size .u32 38 Q) := hid ⟨below_on Y5.out.1 hb, Y5.out.2.on hb⟩
  clear hb Y5 HP2
  go_upto_region 8 with (first | (refine wpList_store_but rfl 38 _ _ rfl w6.heap.size M rfl rfl (Blk.new w6 .u32 38 Z24) (by rw [hul]; exact size38) (by rw [hYl, hul]) ?_; intro w7 bM hbt hsz; have Y7 : Hid (Below W.heap.size W w7 ∧ Blk w7 W.heap.size .u32 38 Q ∧ Blk w7 w6.heap.size .u32 38 M) := hid ⟨below_on Y6.out.1 (but_box hbt), Y6.out.2.on (but_box hbt), bM⟩; clear bM hbt hsz))
  generalize w6.heap.size = g14 at *
  clear Y6
  rcases HU.out with hpn | ⟨hpn, hEU⟩
  · rw [hpn]
    clear HU hpn
    go_upto_region 10 with (first | (go_at_call 16; refine (HNu.out _ _).mono ?_; rintro e w8 ⟨rfl, rfl⟩))
    exact back_8 W _ HT.out E HE.out Y7.out.1 s HS.out T HTS.out k HK8.out b HBB.out.1 HBB.out.2 _ ‹∀ (a : Act) (w : World), Code.wp Tryd.prog _ _ a w → _› _ _ _ _ _ _ _ _ _ _ _ _ _ _ _ _ _ _ _ _ _ _ _ _ _ _ _ _ _ _ _ _ _ _ _ _ _ _ _ _ _ _ _ _ _ _ _ _ _ _ _ _ _ _ _ _ _ _ _ _ _ _ _ _ _ _ _ _ _ _ _ _ _ _ _ _ _ _ _ _ _ _ _ _ _ _ _ _ _ _ _ _ _ _ _ _ _ _ _ _ _ _ _ _ _ _ _ _ _ _ _ _ _ _ _ _ _ _ _ _ _ _ _ _ _ _ _ _ _ _ _ _ _ _ _ _ _
  · rw [hpn]
    clear HU hpn
    go_upto_region 10 with (first | (refine wpList_load_mg (by rfl) 38 _ rfl g14 0 rfl _ _ (cel_range (blk_cel Y7.out.2.2)) Tryd.underlying38 rfl (by rw [List.length_map, hul]; exact size38) ?_) | (refine wpList_load_mg (by rfl) 38 _ rfl W.heap.size 0 rfl _ _ (cel_range (blk_cel Y7.out.2.1)) Tryd.underlying38 rfl (by rw [List.length_map, hQl]; exact size38) ?_) | (go_at_call 16; refine (HNu.out _ _).mono ?_; rintro e w8 ⟨rfl, rfl⟩))
    exact back_8 W _ HT.out E HE.out Y7.out.1 s HS.out T HTS.out k HK8.out b HBB.out.1 HBB.out.2 _ ‹∀ (a : Act) (w : World), Code.wp Tryd.prog _ _ a w → _› _ _ _ _ _ _ _ _ _ _ _ _ _ _ _ _ _ _ _ _ _ _ _ _ _ _ _ _ _ _ _ _ _ _ _ _ _ _ _ _ _ _ _ _ _ _ _ _ _ _ _ _ _ _ _ _ _ _ _ _ _ _ _ _ _ _ _ _ _ _ _ _ _ _ _ _ _ _ _ _ _ _ _ _ _ _ _ _ _ _ _ _ _ _ _ _ _ _ _ _ _ _ _ _ _ _ _ _ _ _ _ _ _ _ _ _ _ _ _ _ _ _ _ _ _ _ _ _ _ _ _ _ _ _ _ _ _
end Go.Proofs.YtbpdmkohihgnjaaDoor
