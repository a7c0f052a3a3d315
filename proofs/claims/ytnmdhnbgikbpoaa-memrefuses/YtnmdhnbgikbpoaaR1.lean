/- MemRefuses (3): from the question whether the page is there on: not there. -/
import Derived.Test.YtnmdhnbgikbpoaaR0
namespace Go.Proofs.Ytnmdhnbgikbpoaa
open Go.RowKit
set_option maxRecDepth 40000 in
set_option maxHeartbeats 8000000 in
theorem tailA {w wr : World} {g5 : Nat} {s : Bool} {p oo : Int} {ao : Option Addr} {n c : Nat} {f : Fp} {m : MS} {z2 z3 z6 z7 z8 z9 z10 z11 z12 z13 z15 z17 z18 z19 z20 z21 z22 z23 z24 z25 z26 z27 z28 z29 z30 z31 z32 z33 z34 z35 z36 z37 z38 z39 z40 z41 z42 z43 z44 z45 z46 z47 z48 z49 z50 z51 z52 z53 z54 z55 z56 z57 z58 z59 z60 z61 z62 z63 z64 z65 z66 z67 z68 z69 z70 z71 z72 z73 z74 z75 z76 z77 z78 z79 z80 z81 z82 z83 z84 z85 z86 z87 z88 z89 z90 z91 z92 z93 z94 z95 z96 z97 z98 z99 z100 z101 z102 z103 z104 z105 z106 z107 z108 z109 z110 z111 z112 z113 z114 z115 z116 z117 z118 z119 z120 z121 z122 z123 z124 z125 z126 z127 z128 z129 z130 z131 z132 z133 z134 z135 z136 z137 z138 z139 z140 z141 z142 z143 z144 z145 z146 z147 z148 z149 z150 z151 z152 z153 z154 z155 z156 z157 z158 z159 z160 z161 z162 z163 z164 z165 z166 z167 z168 z169 z170 z171 z172 z173 z174 z175 z176 z177 z178 z179 z180 z181 z182 z183 z184 z185 z186 z187 z188 z189 z190 z191 z192 z193 z194 z195 z196 z197 z198 z199 z200 z201 z202 z203 z204 z205 z206 z207 z208 z209 z210 z211 z212 z213 z214 z215 z216 z217 z218 z219 z220 z221 z222 z223 z224 z225 z226 z227 z228 z229 z230 z231 z232 z233 z234 z235 z236 z237 z238 z239 z240 z241 z242 z243 z244 z245 z246 : Value} (hq : RI w wr g5 s p f m) (hmc : m.c = 1) (hmw : m.word true 0 3 = 9) (ha : m.at s p = none) (hn : n ≤ 9223372036854775807) :
    Code.wp Try.prog (sfx 7 (Try.f3.body.getD .skip)) (bodyPost Try.prog Try.f3 fun x w' => x = .returned (.bool true) ∧ Below w.heap.size w w') { tmps := #[.agg #[.bool s, .int .i64 p], .int .i64 oo, z2, z3, .slice ao n c, .pointer (some ⟨g5, 0, none⟩), z6, z7, z8, z9, z10, z11, z12, z13, .pointer (some ⟨f.gm, 0, none⟩), z15, .bool false, z17, z18, z19, z20, z21, z22, z23, z24, z25, z26, z27, z28, z29, z30, z31, z32, z33, z34, z35, z36, z37, z38, z39, z40, z41, z42, z43, z44, z45, z46, z47, z48, z49, z50, z51, z52, z53, z54, z55, z56, z57, z58, z59, z60, z61, z62, z63, z64, z65, z66, z67, z68, z69, z70, z71, z72, z73, z74, z75, z76, z77, z78, z79, z80, z81, z82, z83, z84, z85, z86, z87, z88, z89, z90, z91, z92, z93, z94, z95, z96, z97, z98, z99, z100, z101, z102, z103, z104, z105, z106, z107, z108, z109, z110, z111, z112, z113, z114, z115, z116, z117, z118, z119, z120, z121, z122, z123, z124, z125, z126, z127, z128, z129, z130, z131, z132, z133, z134, z135, z136, z137, z138, z139, z140, z141, z142, z143, z144, z145, z146, z147, z148, z149, z150, z151, z152, z153, z154, z155, z156, z157, z158, z159, z160, z161, z162, z163, z164, z165, z166, z167, z168, z169, z170, z171, z172, z173, z174, z175, z176, z177, z178, z179, z180, z181, z182, z183, z184, z185, z186, z187, z188, z189, z190, z191, z192, z193, z194, z195, z196, z197, z198, z199, z200, z201, z202, z203, z204, z205, z206, z207, z208, z209, z210, z211, z212, z213, z214, z215, z216, z217, z218, z219, z220, z221, z222, z223, z224, z225, z226, z227, z228, z229, z230, z231, z232, z233, z234, z235, z236, z237, z238, z239, z240, z241, z242, z243, z244, z245, z246], defers := [] } wr := by
  have n1 : (n : Int) ≤ 9223372036854775807 := by omega
  have HQ := hid hq
  have HMc := hid hmc
  have HMw := hid hmw
  have z0 := HQ.out.z0
  have z1 := HQ.out.z1
  clear hq hmc hmw
  have HA := hid ha
  clear ha
  have HE : Hid (m.err s p oo = 5) := hid (by unfold MS.err; rw [HA.out])
  have HJ : Hid (m.word s p oo = 0) := hid (by unfold MS.word; rw [HA.out])
  refine sfx_walk 7 rfl (by simp only [sfx]; rfl) ?_
  go_wp2_with fail
  refine (ri_has HQ.out false (by rw [HA.out]; rfl)).mono ?_
  clear HQ z0 z1
  rintro x wk ⟨rfl, hq⟩
  have HQ := hid hq
  have z0 := HQ.out.z0
  have z1 := HQ.out.z1
  clear hq
  go_wp2_with fail
  refine (ri_read HQ.out oo 5 HE.out (by decide)).mono ?_
  clear HQ z0 z1
  rintro x wk ⟨rfl, hq⟩
  have HQ := hid hq
  have z0 := HQ.out.z0
  have z1 := HQ.out.z1
  clear hq
  go_wp2_with fail
  refine (ri_write HQ.out oo 1 5 HE.out (by decide)).mono ?_
  clear HQ z0 z1
  rintro x wk ⟨rfl, hq⟩
  have HQ := hid hq
  have z0 := HQ.out.z0
  have z1 := HQ.out.z1
  clear hq
  go_wp2_with fail
  refine (ri_zero HQ.out HA.out).mono ?_
  clear HQ z0 z1
  rintro x wk ⟨rfl, hq⟩
  have HQ := hid hq
  have z0 := HQ.out.z0
  have z1 := HQ.out.z1
  clear hq
  go_wp2_with fail
  refine wp_region_held_drew (S := fun x => RI w x g5 s p f m) (by kernel_rfl) (HQ.out.on (Below.refl _ _).drew) (fun hHeld => ?_)
  refine wpAnyH_take (i := 0) (oi := { dst := some 115, op := Op.move (Operand.tmp 14), type := 25, pos := "outright.go:201", after := #[], guard := none }) (v := .pointer (some ⟨f.gm, 0, none⟩)) rfl (by kernel_rfl) (by kernel_rfl) (by kernel_rfl) (fun _ _ _ h => h) (Or.inl ⟨by rfl, by intro w hSw; go_simp⟩) (by assumption) ?_
  simp only [Act.put, List.setIfInBounds_toArray, List.set_cons_zero, List.set_cons_succ]
  refine wpAnyH_take (i := 1) (oi := { dst := some 116, op := Op.load 23 (Operand.tmp 5), type := 23, pos := "outright.go:201", after := #[], guard := none }) (v := .agg #[.bool s, .int .i64 p]) rfl (by kernel_rfl) (by kernel_rfl) (by kernel_rfl) (fun _ _ _ h => h) (yieldsIf_load_mid (by rfl) _ _ rfl _ _ rfl _ _ (fun w hSw => hSw.c5.range) under23 rfl size23) (by assumption) ?_
  simp only [Act.put, List.setIfInBounds_toArray, List.set_cons_zero, List.set_cons_succ]
  refine wpAnyH_ready (rs := [2]) (by kernel_rfl) (by simp) (AllReadyH.cons (o := { dst := some 117, op := Op.call { callee := Callee.value (Operand.func 10), args := #[Operand.const (Value.int IntKind.i64 0)], argTypes := #[3] }, type := 23, pos := "outright.go:201", after := #[], guard := none }) rfl (fun KQ hK => ?_) AllReadyH.nil)
  go_simp
  refine (ri_in (HQ.out.on (Below.refl _ _).drew)).mono ?_
  rintro x wa ⟨rfl, hq1⟩
  go_wp2_with fail
  refine hK.out _ _ hq1 (fun hHeld => ?_)
  clear hK KQ
  try simp only [Act.put, List.setIfInBounds_toArray, List.set_cons_zero, List.set_cons_succ]
  refine wpAnyH_ready (rs := [3]) (by kernel_rfl) (by simp) (AllReadyH.cons (o := { dst := some 118, op := Op.call { callee := Callee.value (Operand.func 14), args := #[Operand.tmp 115, Operand.tmp 116, Operand.tmp 117], argTypes := #[25, 23, 23] }, type := 26, pos := "outright.go:201", after := #[{ on := 0, ground := Ground.data }, { on := 1, ground := Ground.data }, { on := 2, ground := Ground.data }, { on := 2, ground := Ground.chain }], guard := none }) rfl (fun KQ hK => ?_) AllReadyH.nil)
  go_simp
  refine (ri_copy hq1 true 0 HA.out).mono ?_
  rintro x wb ⟨rfl, hq2⟩
  go_wp2_with fail
  refine hK.out _ _ hq2 (fun hHeld => ?_)
  clear hK KQ
  try simp only [Act.put, List.setIfInBounds_toArray, List.set_cons_zero, List.set_cons_succ]
  refine wpAnyH_ready (rs := [4]) (by kernel_rfl) (by simp) (AllReadyH.cons (o := { dst := some 21, op := Op.assign (Operand.tmp 118), type := 26, pos := "outright.go:201", after := #[{ on := 3, ground := Ground.data }, { on := 3, ground := Ground.chain }, { on := 0, ground := Ground.phase }, { on := 1, ground := Ground.phase }, { on := 2, ground := Ground.phase }, { on := 3, ground := Ground.phase }], guard := none }) rfl (fun KQ hK => ?_) AllReadyH.nil)
  go_simp
  refine hK.out _ _ hq2 (fun hHeld => ?_)
  clear hK KQ
  try simp only [Act.put, List.setIfInBounds_toArray, List.set_cons_zero, List.set_cons_succ]
  refine wpAnyH_done (by kernel_rfl) ?_ _
  clear hHeld
  clear HQ z0 z1
  have HQ := hid hq2
  have z0 := HQ.out.z0
  have z1 := HQ.out.z1
  clear hq1 hq2
  go_wp2_with fail
  refine wp_region_held_drew (S := fun x => RI w x g5 s p f m) (by kernel_rfl) (HQ.out.on (Below.refl _ _).drew) (fun hHeld => ?_)
  refine wpAnyH_take (i := 0) (oi := { dst := some 119, op := Op.move (Operand.tmp 14), type := 25, pos := "outright.go:202", after := #[], guard := none }) (v := .pointer (some ⟨f.gm, 0, none⟩)) rfl (by kernel_rfl) (by kernel_rfl) (by kernel_rfl) (fun _ _ _ h => h) (Or.inl ⟨by rfl, by intro w hSw; go_simp⟩) (by assumption) ?_
  simp only [Act.put, List.setIfInBounds_toArray, List.set_cons_zero, List.set_cons_succ]
  refine wpAnyH_take (i := 2) (oi := { dst := some 121, op := Op.load 23 (Operand.tmp 5), type := 23, pos := "outright.go:202", after := #[], guard := none }) (v := .agg #[.bool s, .int .i64 p]) rfl (by kernel_rfl) (by kernel_rfl) (by kernel_rfl) (fun _ _ _ h => h) (yieldsIf_load_mid (by rfl) _ _ rfl _ _ rfl _ _ (fun w hSw => hSw.c5.range) under23 rfl size23) (by assumption) ?_
  simp only [Act.put, List.setIfInBounds_toArray, List.set_cons_zero, List.set_cons_succ]
  refine wpAnyH_ready (rs := [1]) (by kernel_rfl) (by simp) (AllReadyH.cons (o := { dst := some 120, op := Op.call { callee := Callee.value (Operand.func 10), args := #[Operand.const (Value.int IntKind.i64 0)], argTypes := #[3] }, type := 23, pos := "outright.go:202", after := #[], guard := none }) rfl (fun KQ hK => ?_) AllReadyH.nil)
  go_simp
  refine (ri_in (HQ.out.on (Below.refl _ _).drew)).mono ?_
  rintro x wa ⟨rfl, hq1⟩
  go_wp2_with fail
  refine hK.out _ _ hq1 (fun hHeld => ?_)
  clear hK KQ
  try simp only [Act.put, List.setIfInBounds_toArray, List.set_cons_zero, List.set_cons_succ]
  refine wpAnyH_ready (rs := [3]) (by kernel_rfl) (by simp) (AllReadyH.cons (o := { dst := some 122, op := Op.call { callee := Callee.value (Operand.func 14), args := #[Operand.tmp 119, Operand.tmp 120, Operand.tmp 121], argTypes := #[25, 23, 23] }, type := 26, pos := "outright.go:202", after := #[{ on := 0, ground := Ground.data }, { on := 1, ground := Ground.data }, { on := 2, ground := Ground.data }, { on := 1, ground := Ground.chain }], guard := none }) rfl (fun KQ hK => ?_) AllReadyH.nil)
  go_simp
  refine (ri_copy2 hq1 true 0 HA.out).mono ?_
  rintro x wb ⟨rfl, hq2⟩
  go_wp2_with fail
  refine hK.out _ _ hq2 (fun hHeld => ?_)
  clear hK KQ
  try simp only [Act.put, List.setIfInBounds_toArray, List.set_cons_zero, List.set_cons_succ]
  refine wpAnyH_ready (rs := [4]) (by kernel_rfl) (by simp) (AllReadyH.cons (o := { dst := some 22, op := Op.assign (Operand.tmp 122), type := 26, pos := "outright.go:202", after := #[{ on := 3, ground := Ground.data }, { on := 3, ground := Ground.chain }, { on := 0, ground := Ground.phase }, { on := 1, ground := Ground.phase }, { on := 2, ground := Ground.phase }, { on := 3, ground := Ground.phase }], guard := none }) rfl (fun KQ hK => ?_) AllReadyH.nil)
  go_simp
  refine hK.out _ _ hq2 (fun hHeld => ?_)
  clear hK KQ
  try simp only [Act.put, List.setIfInBounds_toArray, List.set_cons_zero, List.set_cons_succ]
  refine wpAnyH_done (by kernel_rfl) ?_ _
  clear hHeld
  clear HQ z0 z1
  have HQ := hid hq2
  have z0 := HQ.out.z0
  have z1 := HQ.out.z1
  clear hq1 hq2
  go_wp2_with fail
  refine (ri_page HQ.out HA.out).mono ?_
  clear HQ z0 z1
  rintro x wk ⟨rfl, hq⟩
  have HQ := hid hq
  have z0 := HQ.out.z0
  have z1 := HQ.out.z1
  clear hq
  go_wp2_with fail
  refine (ri_lay HQ.out ao n c 5 hn (.inl ⟨HA.out, rfl⟩)).mono ?_
  clear HQ z0 z1
  rintro x wk ⟨rfl, hq⟩
  have HQ := hid hq
  have z0 := HQ.out.z0
  have z1 := HQ.out.z1
  clear hq
  go_wp2_with fail
  refine (ri_blank HQ.out HA.out).mono ?_
  clear HQ z0 z1
  rintro x wk ⟨rfl, hq⟩
  have HQ := hid hq
  have z0 := HQ.out.z0
  have z1 := HQ.out.z1
  clear hq
  go_wp2_with fail
  refine (num_any _ _).mono ?_
  rintro x wk ⟨rfl, rfl⟩
  go_wp2_with fail
  refine (num_any _ _).mono ?_
  rintro x wk ⟨rfl, rfl⟩
  go_wp2_with fail
  refine (num_any _ _).mono ?_
  rintro x wk ⟨rfl, rfl⟩
  go_wp2_with fail
  refine (num_any _ _).mono ?_
  rintro x wk ⟨rfl, rfl⟩
  go_wp2_with fail
  refine (num_any _ _).mono ?_
  rintro x wk ⟨rfl, rfl⟩
  go_wp2_with fail
  refine (num_any _ _).mono ?_
  rintro x wk ⟨rfl, rfl⟩
  go_wp2_with fail
  refine (num_any _ _).mono ?_
  rintro x wk ⟨rfl, rfl⟩
  go_wp2_with fail
  refine (num_any _ _).mono ?_
  rintro x wk ⟨rfl, rfl⟩
  go_wp2_with fail
  refine (ri_peek HQ.out s p oo 0 HJ.out).mono ?_
  clear HQ z0 z1
  rintro x wk ⟨rfl, hq⟩
  have HQ := hid hq
  have z0 := HQ.out.z0
  have z1 := HQ.out.z1
  clear hq
  go_wp2_with fail
  refine (ri_meter HQ.out).mono ?_
  clear HQ z0 z1
  rintro x wk ⟨rfl, hq⟩
  have HQ := hid hq
  have z0 := HQ.out.z0
  have z1 := HQ.out.z1
  clear hq
  rw [HMc.out]
  go_wp2_with fail
  refine (ri_in HQ.out).mono ?_
  clear HQ z0 z1
  rintro x wk ⟨rfl, hq⟩
  have HQ := hid hq
  have z0 := HQ.out.z0
  have z1 := HQ.out.z1
  clear hq
  go_wp2_with fail
  refine (ri_peek HQ.out true 0 3 9 HMw.out).mono ?_
  clear HQ z0 z1
  rintro x wk ⟨rfl, hq⟩
  have HQ := hid hq
  have z0 := HQ.out.z0
  have z1 := HQ.out.z1
  clear hq
  go_wp2_with fail
  go_ret
  exact ⟨rfl, HQ.out.below⟩
end Go.Proofs.Ytnmdhnbgikbpoaa
