/- TextBack (5): what Number says of a text in hex. -/
import Derived.Test.YtbjinmlelchmgaaDoorBackB
namespace Go.Proofs.YtbjinmlelchmgaaDoor
open Go.RowKit
set_option maxRecDepth 40000 in
set_option maxHeartbeats 4000000 in
theorem backH {z0 z1 z3 z4 z5 z6 z7 z8 z9 z10 z11 z12 z13 z14 z15 z16 z19 z20 z21 z22 z23 z24 z25 z26 z27 z28 z29 z30 z31 z32 z33 z34 z35 z36 z37 z38 z39 z40 z41 z42 z43 z44 z45 z46 z47 z48 z49 z50 z51 z52 z53 z54 z55 z56 z57 z58 z59 z60 z61 z62 z63 z64 z65 z66 z67 z68 z69 z70 z71 z72 z73 z74 z75 z76 z77 z78 z79 z80 z81 z82 z83 z84 z85 z86 z87 z88 z89 z90 z91 z92 z93 z94 z95 z96 z97 z98 z99 z100 z101 z102 z103 z104 z105 z106 z107 z108 z109 z110 z111 z112 z113 z114 z115 z116 z117 z118 z119 z120 z121 z122 z123 z124 z125 z126 z127 z128 z129 z130 z131 z132 z133 z134 z135 z136 z137 z138 z139 z140 z141 z142 z143 z144 z145 z146 z147 z148 z149 z150 z151 z152 z153 z154 z155 z156 z157 z158 z159 z160 z161 z162 z163 z164 z165 z166 z167 z168 z169 z170 z171 z172 z173 z174 z175 z176 z177 z178 z179 z180 z181 z182 z183 z184 z185 z186 z187 z188 z189 z190 z191 z192 z193 z194 z195 z196 z197 z198 z199 z200 z201 z202 z203 z204 z205 z206 z207 z208 z209 z210 z211 z212 z213 z214 z215 z216 z217 z218 z219 z220 z221 z222 z223 z224 z225 z226 z227 z228 z229 z230 z231 z232 z233 z234 z235 z236 z237 : Value} (W w8 : World) (hb : Below W.heap.size W w8) (htab : PowTab W) (s : ByteArray) (hs : s.size ≤ 1048576) (x : Int) (A2 H : ByteArray) (h : HexC x s A2 H) :
    Code.wp Tryd.prog (sfx 11 (Tryd.f5.body.getD .skip)) (bodyPost Tryd.prog Tryd.f5 fun e W' => e = .returned (.bool true) ∧ Below W.heap.size W W') { tmps := #[z0, z1, .string s, z3, z4, z5, z6, z7, z8, z9, z10, z11, z12, z13, z14, z15, z16, .int .u32 x, .int .i64 0, z19, z20, z21, z22, z23, z24, z25, z26, z27, z28, z29, z30, z31, z32, z33, z34, z35, z36, z37, z38, z39, z40, z41, z42, z43, z44, z45, z46, z47, z48, z49, z50, z51, z52, z53, z54, z55, z56, z57, z58, z59, z60, z61, z62, z63, z64, z65, z66, z67, z68, z69, z70, z71, z72, z73, z74, z75, z76, z77, z78, z79, z80, z81, z82, z83, z84, z85, z86, z87, z88, z89, z90, z91, z92, z93, z94, z95, z96, z97, z98, z99, z100, z101, z102, z103, z104, z105, z106, z107, z108, z109, z110, z111, z112, z113, z114, z115, z116, z117, z118, z119, z120, z121, z122, z123, z124, z125, z126, z127, z128, z129, z130, z131, z132, z133, z134, z135, z136, z137, z138, z139, z140, z141, z142, z143, z144, z145, z146, z147, z148, z149, z150, z151, z152, z153, z154, z155, z156, z157, z158, z159, z160, z161, z162, z163, z164, z165, z166, z167, z168, z169, z170, z171, z172, z173, z174, z175, z176, z177, z178, z179, z180, z181, z182, z183, z184, z185, z186, z187, z188, z189, z190, z191, z192, z193, z194, z195, z196, z197, z198, z199, z200, z201, z202, z203, z204, z205, z206, z207, z208, z209, z210, z211, z212, z213, z214, z215, z216, z217, z218, z219, z220, z221, z222, z223, z224, z225, z226, z227, z228, z229, z230, z231, z232, z233, z234, z235, z236, z237], defers := [] } w8 := by
  have B0 : Hid (Below w8.heap.size w8 w8.drew) := hid (Below.refl _ _).drew
  have HB8 : Hid (Below W.heap.size W w8) := hb
  have HP : Hid (PowTab W) := htab
  have HPT : Hid (∀ w, Below w8.heap.size w8 w → PowTab w) := hid (fun w h => HP.out.on (HB8.out.trans (h.mono HB8.out.size)))
  obtain ⟨y, j, S1, S2⟩ := sgn_case s hs
  obtain ⟨m, k, U1, U2⟩ := unq_case s hs
  have HS1 : Hid _ := S1
  have HS2 : Hid _ := S2
  have HU1 : Hid _ := U1
  have HU2 : Hid _ := U2
  clear hb htab S1 S2 U1 U2
  have TN : Hid (HexC x s A2 H) := h
  have e1 : (3 : Int) ≤ (s.size : Int) := by have := h.lo; omega
  have e2 : (s.size : Int) ≤ 10 := by have := h.hi; omega
  have e3 := h.pre
  have e4 := h.cat
  have e5 : ¬ A2.toList = s.toList := by rw [ByteArray.toList_eq, ByteArray.toList_eq]; exact h.ne
  have e7 : ¬ ((s.size : Int) < 2) := by omega
  have e8 : IntKind.i64.wrap (10 - (s.size : Int)) = 10 - (s.size : Int) := by rw [IntKind.wrap_i64]; omega
  have e9 : ¬ (8 < 10 - (s.size : Int)) := by omega
  have e10 : 2 + min (10 - s.size) 8 ≤ 9223372036854775807 := by omega
  have e11 : 2 + min (10 - s.size) 8 + (s.size - 2) ≤ 9223372036854775807 := by omega
  have e6 : (10 - (s.size : Int)).toNat = 10 - s.size := by omega
  clear h
  refine sfx_walk 11 rfl (by simp only [sfx]; rfl) ?_
  go_wp2_with fail
  refine wp_region_held_drew (S := fun w => Below w8.heap.size w8 w) (by kernel_rfl) B0.out (fun hHeld => ?_)
  refine wpAnyH_take (i := 0) (oi := { dst := some 145, op := Op.move (Operand.tmp 18), type := 32, pos := "outright.go:44", after := #[], guard := none }) (v := .int .i64 0) rfl (by kernel_rfl) (by kernel_rfl) (by kernel_rfl) (fun _ _ _ h => h) (Or.inl ⟨by rfl, by intro w hSw; go_simp⟩) (by assumption) ?_
  simp only [Act.put, List.setIfInBounds_toArray, List.set_cons_zero, List.set_cons_succ]
  refine wpAnyH_take (i := 1) (oi := { dst := some 146, op := Op.binOp BinOp.eql 3 (Operand.tmp 145) (Operand.const (Value.int IntKind.i64 0)) 3, type := 4, pos := "outright.go:44", after := #[{ on := 0, ground := Ground.data }], guard := none }) (v := .bool true) rfl (by kernel_rfl) (by kernel_rfl) (by kernel_rfl) (fun _ _ _ h => h) (Or.inl ⟨by rfl, by intro w hSw; go_simp⟩) (by assumption) ?_
  simp only [Act.put, List.setIfInBounds_toArray, List.set_cons_zero, List.set_cons_succ]
  refine wpAnyH_take (i := 2) (oi := { dst := some 147, op := Op.move (Operand.tmp 146), type := 4, pos := "outright.go:44", after := #[{ on := 1, ground := Ground.data }], guard := none }) (v := .bool true) rfl (by kernel_rfl) (by kernel_rfl) (by kernel_rfl) (fun _ _ _ h => h) (Or.inl ⟨by rfl, by intro w hSw; go_simp⟩) (by assumption) ?_
  simp only [Act.put, List.setIfInBounds_toArray, List.set_cons_zero, List.set_cons_succ]
  refine wpAnyH_take (i := 3) (oi := { dst := some 148, op := Op.move (Operand.tmp 17), type := 42, pos := "outright.go:44", after := #[{ on := 2, ground := Ground.guard }], guard := some (2, true) }) (v := .int .u32 x) rfl (by kernel_rfl) (by kernel_rfl) (by kernel_rfl) (fun _ _ _ h => h) (Or.inl ⟨by rfl, by intro w hSw; go_simp⟩) (by assumption) ?_
  simp only [Act.put, List.setIfInBounds_toArray, List.set_cons_zero, List.set_cons_succ]
  refine wpAnyH_take (i := 5) (oi := { dst := some 150, op := Op.move (Operand.tmp 2), type := 9, pos := "outright.go:44", after := #[{ on := 2, ground := Ground.guard }], guard := some (2, true) }) (v := .string s) rfl (by kernel_rfl) (by kernel_rfl) (by kernel_rfl) (fun _ _ _ h => h) (Or.inl ⟨by rfl, by intro w hSw; go_simp⟩) (by assumption) ?_
  simp only [Act.put, List.setIfInBounds_toArray, List.set_cons_zero, List.set_cons_succ]
  refine wpAnyH_ready (rs := [4]) (by kernel_rfl) (by simp) (AllReadyH.cons (o := { dst := some 149, op := Op.call { callee := Callee.value (Operand.func 10), args := #[Operand.tmp 148], argTypes := #[42] }, type := 9, pos := "outright.go:44", after := #[{ on := 3, ground := Ground.data }, { on := 2, ground := Ground.chain }, { on := 2, ground := Ground.guard }], guard := some (2, true) }) rfl (fun KQ hK => ?_) AllReadyH.nil)
  go_simp
  refine (TN.out.tens _ (HPT.out _ B0.out)).mono ?_
  rintro en wa ⟨rfl, hwa⟩
  go_wp2_with fail
  refine hK.out _ _ (B0.out.trans (hwa.mono B0.out.size)) (fun hHeld => ?_)
  clear hK KQ
  try simp only [Act.put, List.setIfInBounds_toArray, List.set_cons_zero, List.set_cons_succ]
  refine wpAnyH_take (i := 6) (oi := { dst := some 151, op := Op.binOp BinOp.neq 9 (Operand.tmp 149) (Operand.tmp 150) 9, type := 4, pos := "outright.go:44", after := #[{ on := 4, ground := Ground.data }, { on := 5, ground := Ground.data }, { on := 2, ground := Ground.guard }], guard := some (2, true) }) (v := .bool true) rfl (by kernel_rfl) (by kernel_rfl) (by kernel_rfl) (fun _ _ _ h => h) (Or.inl ⟨by rfl, by intro w hSw; go_simp⟩) (by assumption) ?_
  simp only [Act.put, List.setIfInBounds_toArray, List.set_cons_zero, List.set_cons_succ]
  refine wpAnyH_take (i := 7) (oi := { dst := some 152, op := Op.pick (Operand.tmp 147) (Operand.tmp 151) (Operand.const (Value.bool false)), type := 4, pos := "outright.go:44", after := #[{ on := 2, ground := Ground.data }, { on := 6, ground := Ground.data }], guard := none }) (v := .bool true) rfl (by kernel_rfl) (by kernel_rfl) (by kernel_rfl) (fun _ _ _ h => h) (Or.inl ⟨by rfl, by intro w hSw; go_simp⟩) (by assumption) ?_
  simp only [Act.put, List.setIfInBounds_toArray, List.set_cons_zero, List.set_cons_succ]
  refine wpAnyH_take (i := 8) (oi := { dst := some 153, op := Op.move (Operand.tmp 152), type := 4, pos := "outright.go:44", after := #[{ on := 7, ground := Ground.data }, { on := 4, ground := Ground.chain }], guard := none }) (v := .bool true) rfl (by kernel_rfl) (by kernel_rfl) (by kernel_rfl) (fun _ _ _ h => h) (Or.inl ⟨by rfl, by intro w hSw; go_simp⟩) (by assumption) ?_
  simp only [Act.put, List.setIfInBounds_toArray, List.set_cons_zero, List.set_cons_succ]
  refine wpAnyH_take (i := 9) (oi := { dst := some 154, op := Op.move (Operand.tmp 2), type := 9, pos := "outright.go:44", after := #[{ on := 8, ground := Ground.guard }], guard := some (8, true) }) (v := .string s) rfl (by kernel_rfl) (by kernel_rfl) (by kernel_rfl) (fun _ _ _ h => h) (Or.inl ⟨by rfl, by intro w hSw; go_simp⟩) (by assumption) ?_
  simp only [Act.put, List.setIfInBounds_toArray, List.set_cons_zero, List.set_cons_succ]
  refine wpAnyH_take (i := 10) (oi := { dst := some 155, op := Op.call { callee := Callee.builtin Builtin.len, args := #[Operand.tmp 154], argTypes := #[9] }, type := 3, pos := "outright.go:44", after := #[{ on := 9, ground := Ground.data }, { on := 8, ground := Ground.guard }], guard := some (8, true) }) (v := .int .i64 (s.size : Int)) rfl (by kernel_rfl) (by kernel_rfl) (by kernel_rfl) (fun _ _ _ h => h) (Or.inl ⟨by rfl, by intro w hSw; go_simp⟩) (by assumption) ?_
  simp only [Act.put, List.setIfInBounds_toArray, List.set_cons_zero, List.set_cons_succ]
  refine wpAnyH_take (i := 11) (oi := { dst := some 156, op := Op.binOp BinOp.lss 3 (Operand.tmp 155) (Operand.const (Value.int IntKind.i64 3)) 3, type := 4, pos := "outright.go:44", after := #[{ on := 10, ground := Ground.data }, { on := 8, ground := Ground.guard }], guard := some (8, true) }) (v := .bool false) rfl (by kernel_rfl) (by kernel_rfl) (by kernel_rfl) (fun _ _ _ h => h) (Or.inl ⟨by rfl, by intro w hSw; go_simp⟩) (by assumption) ?_
  simp only [Act.put, List.setIfInBounds_toArray, List.set_cons_zero, List.set_cons_succ]
  refine wpAnyH_take (i := 12) (oi := { dst := some 157, op := Op.move (Operand.tmp 156), type := 4, pos := "outright.go:44", after := #[{ on := 11, ground := Ground.data }, { on := 8, ground := Ground.chain }, { on := 8, ground := Ground.guard }], guard := some (8, true) }) (v := .bool false) rfl (by kernel_rfl) (by kernel_rfl) (by kernel_rfl) (fun _ _ _ h => h) (Or.inl ⟨by rfl, by intro w hSw; go_simp⟩) (by assumption) ?_
  simp only [Act.put, List.setIfInBounds_toArray, List.set_cons_zero, List.set_cons_succ]
  refine wpAnyH_take (i := 13) (oi := { dst := some 158, op := Op.move (Operand.tmp 2), type := 9, pos := "outright.go:44", after := #[{ on := 12, ground := Ground.guard }], guard := some (12, false) }) (v := .string s) rfl (by kernel_rfl) (by kernel_rfl) (by kernel_rfl) (fun _ _ _ h => h) (Or.inl ⟨by rfl, by intro w hSw; go_simp⟩) (by assumption) ?_
  simp only [Act.put, List.setIfInBounds_toArray, List.set_cons_zero, List.set_cons_succ]
  refine wpAnyH_take (i := 14) (oi := { dst := some 159, op := Op.call { callee := Callee.builtin Builtin.len, args := #[Operand.tmp 158], argTypes := #[9] }, type := 3, pos := "outright.go:44", after := #[{ on := 13, ground := Ground.data }, { on := 12, ground := Ground.guard }], guard := some (12, false) }) (v := .int .i64 (s.size : Int)) rfl (by kernel_rfl) (by kernel_rfl) (by kernel_rfl) (fun _ _ _ h => h) (Or.inl ⟨by rfl, by intro w hSw; go_simp⟩) (by assumption) ?_
  simp only [Act.put, List.setIfInBounds_toArray, List.set_cons_zero, List.set_cons_succ]
  refine wpAnyH_take (i := 15) (oi := { dst := some 160, op := Op.binOp BinOp.gtr 3 (Operand.tmp 159) (Operand.const (Value.int IntKind.i64 10)) 3, type := 4, pos := "outright.go:44", after := #[{ on := 14, ground := Ground.data }, { on := 12, ground := Ground.guard }], guard := some (12, false) }) (v := .bool false) rfl (by kernel_rfl) (by kernel_rfl) (by kernel_rfl) (fun _ _ _ h => h) (Or.inl ⟨by rfl, by intro w hSw; go_simp⟩) (by assumption) ?_
  simp only [Act.put, List.setIfInBounds_toArray, List.set_cons_zero, List.set_cons_succ]
  refine wpAnyH_take (i := 16) (oi := { dst := some 161, op := Op.pick (Operand.tmp 157) (Operand.const (Value.bool true)) (Operand.tmp 160), type := 4, pos := "outright.go:44", after := #[{ on := 12, ground := Ground.data }, { on := 15, ground := Ground.data }, { on := 8, ground := Ground.guard }], guard := some (8, true) }) (v := .bool false) rfl (by kernel_rfl) (by kernel_rfl) (by kernel_rfl) (fun _ _ _ h => h) (Or.inl ⟨by rfl, by intro w hSw; go_simp⟩) (by assumption) ?_
  simp only [Act.put, List.setIfInBounds_toArray, List.set_cons_zero, List.set_cons_succ]
  refine wpAnyH_take (i := 17) (oi := { dst := some 162, op := Op.move (Operand.tmp 161), type := 4, pos := "outright.go:44", after := #[{ on := 16, ground := Ground.data }, { on := 12, ground := Ground.chain }, { on := 8, ground := Ground.guard }], guard := some (8, true) }) (v := .bool false) rfl (by kernel_rfl) (by kernel_rfl) (by kernel_rfl) (fun _ _ _ h => h) (Or.inl ⟨by rfl, by intro w hSw; go_simp⟩) (by assumption) ?_
  simp only [Act.put, List.setIfInBounds_toArray, List.set_cons_zero, List.set_cons_succ]
  refine wpAnyH_take (i := 18) (oi := { dst := some 163, op := Op.move (Operand.tmp 2), type := 9, pos := "outright.go:44", after := #[{ on := 17, ground := Ground.guard }], guard := some (17, false) }) (v := .string s) rfl (by kernel_rfl) (by kernel_rfl) (by kernel_rfl) (fun _ _ _ h => h) (Or.inl ⟨by rfl, by intro w hSw; go_simp⟩) (by assumption) ?_
  simp only [Act.put, List.setIfInBounds_toArray, List.set_cons_zero, List.set_cons_succ]
  refine wpAnyH_take (i := 19) (oi := { dst := some 164, op := Op.slice 9 (Operand.tmp 163) none (some (Operand.const (Value.int IntKind.i64 2))) none, type := 9, pos := "outright.go:44", after := #[{ on := 18, ground := Ground.data }, { on := 17, ground := Ground.guard }], guard := some (17, false) }) (v := .string ⟨#[48, 120]⟩) rfl (by kernel_rfl) (by kernel_rfl) (by kernel_rfl) (fun _ _ _ h => h) (Or.inl ⟨by rfl, by intro w hSw; go_simp⟩) (by assumption) ?_
  simp only [Act.put, List.setIfInBounds_toArray, List.set_cons_zero, List.set_cons_succ]
  refine wpAnyH_take (i := 20) (oi := { dst := some 165, op := Op.binOp BinOp.neq 9 (Operand.tmp 164) (Operand.const (Value.string { data := #[48, 120] })) 9, type := 4, pos := "outright.go:44", after := #[{ on := 19, ground := Ground.data }, { on := 17, ground := Ground.guard }], guard := some (17, false) }) (v := .bool false) rfl (by kernel_rfl) (by kernel_rfl) (by kernel_rfl) (fun _ _ _ h => h) (Or.inl ⟨by rfl, by intro w hSw; go_simp⟩) (by assumption) ?_
  simp only [Act.put, List.setIfInBounds_toArray, List.set_cons_zero, List.set_cons_succ]
  refine wpAnyH_take (i := 21) (oi := { dst := some 166, op := Op.pick (Operand.tmp 162) (Operand.const (Value.bool true)) (Operand.tmp 165), type := 4, pos := "outright.go:44", after := #[{ on := 17, ground := Ground.data }, { on := 20, ground := Ground.data }, { on := 8, ground := Ground.guard }], guard := some (8, true) }) (v := .bool false) rfl (by kernel_rfl) (by kernel_rfl) (by kernel_rfl) (fun _ _ _ h => h) (Or.inl ⟨by rfl, by intro w hSw; go_simp⟩) (by assumption) ?_
  simp only [Act.put, List.setIfInBounds_toArray, List.set_cons_zero, List.set_cons_succ]
  refine wpAnyH_take (i := 22) (oi := { dst := some 167, op := Op.move (Operand.tmp 166), type := 4, pos := "outright.go:44", after := #[{ on := 21, ground := Ground.data }, { on := 17, ground := Ground.chain }, { on := 8, ground := Ground.guard }], guard := some (8, true) }) (v := .bool false) rfl (by kernel_rfl) (by kernel_rfl) (by kernel_rfl) (fun _ _ _ h => h) (Or.inl ⟨by rfl, by intro w hSw; go_simp⟩) (by assumption) ?_
  simp only [Act.put, List.setIfInBounds_toArray, List.set_cons_zero, List.set_cons_succ]
  refine wpAnyH_take (i := 23) (oi := { dst := some 168, op := Op.move (Operand.tmp 17), type := 42, pos := "outright.go:44", after := #[{ on := 22, ground := Ground.guard }], guard := some (22, false) }) (v := .int .u32 x) rfl (by kernel_rfl) (by kernel_rfl) (by kernel_rfl) (fun _ _ _ h => h) (Or.inl ⟨by rfl, by intro w hSw; go_simp⟩) (by assumption) ?_
  simp only [Act.put, List.setIfInBounds_toArray, List.set_cons_zero, List.set_cons_succ]
  refine wpAnyH_take (i := 25) (oi := { dst := some 170, op := Op.move (Operand.tmp 2), type := 9, pos := "outright.go:44", after := #[{ on := 22, ground := Ground.guard }], guard := some (22, false) }) (v := .string s) rfl (by kernel_rfl) (by kernel_rfl) (by kernel_rfl) (fun _ _ _ h => h) (Or.inl ⟨by rfl, by intro w hSw; go_simp⟩) (by assumption) ?_
  simp only [Act.put, List.setIfInBounds_toArray, List.set_cons_zero, List.set_cons_succ]
  refine wpAnyH_take (i := 26) (oi := { dst := some 171, op := Op.call { callee := Callee.builtin Builtin.len, args := #[Operand.tmp 170], argTypes := #[9] }, type := 3, pos := "outright.go:44", after := #[{ on := 25, ground := Ground.data }, { on := 22, ground := Ground.guard }], guard := some (22, false) }) (v := .int .i64 (s.size : Int)) rfl (by kernel_rfl) (by kernel_rfl) (by kernel_rfl) (fun _ _ _ h => h) (Or.inl ⟨by rfl, by intro w hSw; go_simp⟩) (by assumption) ?_
  simp only [Act.put, List.setIfInBounds_toArray, List.set_cons_zero, List.set_cons_succ]
  refine wpAnyH_take (i := 27) (oi := { dst := some 172, op := Op.binOp BinOp.sub 3 (Operand.const (Value.int IntKind.i64 10)) (Operand.tmp 171) 3, type := 3, pos := "outright.go:44", after := #[{ on := 26, ground := Ground.data }, { on := 22, ground := Ground.guard }], guard := some (22, false) }) (v := .int .i64 (10 - (s.size : Int))) rfl (by kernel_rfl) (by kernel_rfl) (by kernel_rfl) (fun _ _ _ h => h) (Or.inl ⟨by rfl, by intro w hSw; go_simp⟩) (by assumption) ?_
  simp only [Act.put, List.setIfInBounds_toArray, List.set_cons_zero, List.set_cons_succ]
  refine wpAnyH_take (i := 28) (oi := { dst := some 173, op := Op.slice 9 (Operand.const (Value.string { data := #[48, 48, 48, 48, 48, 48, 48, 48] })) none (some (Operand.tmp 172)) none, type := 9, pos := "outright.go:44", after := #[{ on := 27, ground := Ground.data }, { on := 22, ground := Ground.guard }], guard := some (22, false) }) (v := .string ((⟨#[48, 48, 48, 48, 48, 48, 48, 48]⟩ : ByteArray).extract 0 (10 - s.size))) rfl (by kernel_rfl) (by kernel_rfl) (by kernel_rfl) (fun _ _ _ h => h) (Or.inl ⟨by rfl, by intro w hSw; go_simp⟩) (by assumption) ?_
  simp only [Act.put, List.setIfInBounds_toArray, List.set_cons_zero, List.set_cons_succ]
  refine wpAnyH_take (i := 29) (oi := { dst := some 174, op := Op.binOp BinOp.add 9 (Operand.const (Value.string { data := #[48, 120] })) (Operand.tmp 173) 9, type := 9, pos := "outright.go:44", after := #[{ on := 28, ground := Ground.data }, { on := 22, ground := Ground.guard }], guard := some (22, false) }) (v := .string ((⟨#[48, 120]⟩ : ByteArray) ++ (⟨#[48, 48, 48, 48, 48, 48, 48, 48]⟩ : ByteArray).extract 0 (10 - s.size))) rfl (by kernel_rfl) (by kernel_rfl) (by kernel_rfl) (fun _ _ _ h => h) (Or.inl ⟨by rfl, by intro w hSw; go_simp⟩) (by assumption) ?_
  simp only [Act.put, List.setIfInBounds_toArray, List.set_cons_zero, List.set_cons_succ]
  refine wpAnyH_take (i := 30) (oi := { dst := some 175, op := Op.move (Operand.tmp 2), type := 9, pos := "outright.go:44", after := #[{ on := 22, ground := Ground.guard }], guard := some (22, false) }) (v := .string s) rfl (by kernel_rfl) (by kernel_rfl) (by kernel_rfl) (fun _ _ _ h => h) (Or.inl ⟨by rfl, by intro w hSw; go_simp⟩) (by assumption) ?_
  simp only [Act.put, List.setIfInBounds_toArray, List.set_cons_zero, List.set_cons_succ]
  refine wpAnyH_take (i := 31) (oi := { dst := some 176, op := Op.slice 9 (Operand.tmp 175) (some (Operand.const (Value.int IntKind.i64 2))) none none, type := 9, pos := "outright.go:44", after := #[{ on := 30, ground := Ground.data }, { on := 22, ground := Ground.guard }], guard := some (22, false) }) (v := .string (s.extract 2 s.size)) rfl (by kernel_rfl) (by kernel_rfl) (by kernel_rfl) (fun _ _ _ h => h) (Or.inl ⟨by rfl, by intro w hSw; go_simp⟩) (by assumption) ?_
  simp only [Act.put, List.setIfInBounds_toArray, List.set_cons_zero, List.set_cons_succ]
  refine wpAnyH_take (i := 32) (oi := { dst := some 177, op := Op.binOp BinOp.add 9 (Operand.tmp 174) (Operand.tmp 176) 9, type := 9, pos := "outright.go:44", after := #[{ on := 29, ground := Ground.data }, { on := 31, ground := Ground.data }, { on := 22, ground := Ground.guard }], guard := some (22, false) }) (v := .string H) rfl (by kernel_rfl) (by kernel_rfl) (by kernel_rfl) (fun _ _ _ h => h) (Or.inl ⟨by rfl, by intro w hSw; go_simp⟩) (by assumption) ?_
  simp only [Act.put, List.setIfInBounds_toArray, List.set_cons_zero, List.set_cons_succ]
  refine wpAnyH_ready (rs := [24]) (by kernel_rfl) (by simp) (AllReadyH.cons (o := { dst := some 169, op := Op.call { callee := Callee.value (Operand.func 14), args := #[Operand.tmp 168], argTypes := #[42] }, type := 9, pos := "outright.go:44", after := #[{ on := 23, ground := Ground.data }, { on := 22, ground := Ground.chain }, { on := 22, ground := Ground.guard }], guard := some (22, false) }) rfl (fun KQ hK => ?_) AllReadyH.nil)
  go_simp
  refine (TN.out.hexd _).mono ?_
  rintro en wb ⟨rfl, hwb⟩
  go_wp2_with fail
  refine hK.out _ _ ((B0.out.trans (hwa.mono B0.out.size)).trans (hwb.mono (B0.out.trans (hwa.mono B0.out.size)).size)) (fun hHeld => ?_)
  clear hK KQ
  try simp only [Act.put, List.setIfInBounds_toArray, List.set_cons_zero, List.set_cons_succ]
  refine wpAnyH_take (i := 33) (oi := { dst := some 178, op := Op.binOp BinOp.neq 9 (Operand.tmp 169) (Operand.tmp 177) 9, type := 4, pos := "outright.go:44", after := #[{ on := 24, ground := Ground.data }, { on := 32, ground := Ground.data }, { on := 22, ground := Ground.guard }], guard := some (22, false) }) (v := .bool false) rfl (by kernel_rfl) (by kernel_rfl) (by kernel_rfl) (fun _ _ _ h => h) (Or.inl ⟨by rfl, by intro w hSw; go_simp⟩) (by assumption) ?_
  simp only [Act.put, List.setIfInBounds_toArray, List.set_cons_zero, List.set_cons_succ]
  refine wpAnyH_take (i := 34) (oi := { dst := some 179, op := Op.pick (Operand.tmp 167) (Operand.const (Value.bool true)) (Operand.tmp 178), type := 4, pos := "outright.go:44", after := #[{ on := 22, ground := Ground.data }, { on := 33, ground := Ground.data }, { on := 8, ground := Ground.guard }], guard := some (8, true) }) (v := .bool false) rfl (by kernel_rfl) (by kernel_rfl) (by kernel_rfl) (fun _ _ _ h => h) (Or.inl ⟨by rfl, by intro w hSw; go_simp⟩) (by assumption) ?_
  simp only [Act.put, List.setIfInBounds_toArray, List.set_cons_zero, List.set_cons_succ]
  refine wpAnyH_take (i := 35) (oi := { dst := some 180, op := Op.pick (Operand.tmp 153) (Operand.tmp 179) (Operand.const (Value.bool false)), type := 4, pos := "outright.go:44", after := #[{ on := 8, ground := Ground.data }, { on := 34, ground := Ground.data }], guard := none }) (v := .bool false) rfl (by kernel_rfl) (by kernel_rfl) (by kernel_rfl) (fun _ _ _ h => h) (Or.inl ⟨by rfl, by intro w hSw; go_simp⟩) (by assumption) ?_
  simp only [Act.put, List.setIfInBounds_toArray, List.set_cons_zero, List.set_cons_succ]
  refine wpAnyH_done (by kernel_rfl) ?_ _
  have HB9 : Hid (Below W.heap.size W _) := hid (HB8.out.trans (((B0.out.trans (hwa.mono B0.out.size)).trans (hwb.mono (B0.out.trans (hwa.mono B0.out.size)).size)).mono HB8.out.size))
  go_wp2_with fail
  refine (HS1.out _).mono ?_
  rintro e w' ⟨rfl, rfl⟩
  clear HS1
  go_upto_region 21 with fail
  go_cut [21, 22] (fun p q w => ∃ ao c, p = .slice ao m c ∧ q = .int .i64 k ∧ Below W.heap.size W w ∧ (k = 0 → ∀ X, Below w.heap.size w X → Calls Tryd.prog 8 #[.slice ao m c] X fun e w' => e = .returned (.string s) ∧ Below X.heap.size X w'))
  case first =>
    go_wp2_with fail
    refine (HU1.out _).mono ?_
    rintro e w10 ⟨ao2, c2, rfl, hb10, hQ⟩
    have HQ : Hid _ := hQ
    have HB10 : Hid (Below W.heap.size W w10) := hid (HB9.out.trans (hb10.mono HB9.out.size))
    clear hQ hb10
    go_wp2_with fail
    go_meet
    exact ⟨_, _, rfl, rfl, HB10.out, HQ.out⟩
  case rest =>
    obtain ⟨ao2, c2, rfl, rfl, hbw, hQ⟩ := hcut
    rcases HS2.out with hy | hy
    · rcases HU2.out with hm | hm
      · exact (‹∀ (a : Act) (w : World), Code.wp Tryd.prog _ _ a w → _› _ _ (backB1 W _ hbw HP.out s hs _ _ _ _ _ _ _ _ (fun h => by cases h) hy hQ hm))
      · exact (‹∀ (a : Act) (w : World), Code.wp Tryd.prog _ _ a w → _› _ _ (backB2 W _ hbw HP.out s hs _ _ _ _ _ _ _ _ (fun h => by cases h) hy hQ hm))
    · rcases HU2.out with hm | hm
      · exact (‹∀ (a : Act) (w : World), Code.wp Tryd.prog _ _ a w → _› _ _ (backB3 W _ hbw HP.out s hs _ _ _ _ _ _ _ _ (fun h => by cases h) hy hQ hm))
      · exact (‹∀ (a : Act) (w : World), Code.wp Tryd.prog _ _ a w → _› _ _ (backB4 W _ hbw HP.out s hs _ _ _ _ _ _ _ _ (fun h => by cases h) hy hQ hm))
end Go.Proofs.YtbjinmlelchmgaaDoor
