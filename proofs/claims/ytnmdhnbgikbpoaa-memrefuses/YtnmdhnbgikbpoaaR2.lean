/- MemRefuses (3): from the question whether the page is there on: there. -/
import Derived.Test.YtnmdhnbgikbpoaaR0
namespace Go.Proofs.Ytnmdhnbgikbpoaa
open Go.RowKit
set_option maxRecDepth 40000 in
set_option maxHeartbeats 8000000 in
theorem tailC {w wr : World} {g5 : Nat} {s : Bool} {p oo : Int} {ao : Option Addr} {n c : Nat} {f : Fp} {m : MS} {z2 z3 z6 z7 z8 z9 z10 z11 z12 z13 z15 z17 z18 z19 z20 z21 z22 z23 z24 z25 z26 z27 z28 z29 z30 z31 z32 z33 z34 z35 z36 z37 z38 z39 z40 z41 z42 z43 z44 z45 z46 z47 z48 z49 z50 z51 z52 z53 z54 z55 z56 z57 z58 z59 z60 z61 z62 z63 z64 z65 z66 z67 z68 z69 z70 z71 z72 z73 z74 z75 z76 z77 z78 z79 z80 z81 z82 z83 z84 z85 z86 z87 z88 z89 z90 z91 z92 z93 z94 z95 z96 z97 z98 z99 z100 z101 z102 z103 z104 z105 z106 z107 z108 z109 z110 z111 z112 z113 z114 z115 z116 z117 z118 z119 z120 z121 z122 z123 z124 z125 z126 z127 z128 z129 z130 z131 z132 z133 z134 z135 z136 z137 z138 z139 z140 z141 z142 z143 z144 z145 z146 z147 z148 z149 z150 z151 z152 z153 z154 z155 z156 z157 z158 z159 z160 z161 z162 z163 z164 z165 z166 z167 z168 z169 z170 z171 z172 z173 z174 z175 z176 z177 z178 z179 z180 z181 z182 z183 z184 z185 z186 z187 z188 z189 z190 z191 z192 z193 z194 z195 z196 z197 z198 z199 z200 z201 z202 z203 z204 z205 z206 z207 z208 z209 z210 z211 z212 z213 z214 z215 z216 z217 z218 z219 z220 z221 z222 z223 z224 z225 z226 z227 z228 z229 z230 z231 z232 z233 z234 z235 z236 z237 z238 z239 z240 z241 z242 z243 z244 z245 z246 : Value} (hq : RI w wr g5 s p f m) (hmc : m.c = 1) (hmw : m.word true 0 3 = 9) (ha : (m.at s p).isSome = true) (hn : n ≤ 9223372036854775807) (ho : 0 ≤ oo) (ho2 : oo < 1024) :
    Code.wp Try.prog (sfx 7 (Try.f3.body.getD .skip)) (bodyPost Try.prog Try.f3 fun x w' => x = .returned (.bool true) ∧ Below w.heap.size w w') { tmps := #[.agg #[.bool s, .int .i64 p], .int .i64 oo, z2, z3, .slice ao n c, .pointer (some ⟨g5, 0, none⟩), z6, z7, z8, z9, z10, z11, z12, z13, .pointer (some ⟨f.gm, 0, none⟩), z15, .bool true, z17, z18, z19, z20, z21, z22, z23, z24, z25, z26, z27, z28, z29, z30, z31, z32, z33, z34, z35, z36, z37, z38, z39, z40, z41, z42, z43, z44, z45, z46, z47, z48, z49, z50, z51, z52, z53, z54, z55, z56, z57, z58, z59, z60, z61, z62, z63, z64, z65, z66, z67, z68, z69, z70, z71, z72, z73, z74, z75, z76, z77, z78, z79, z80, z81, z82, z83, z84, z85, z86, z87, z88, z89, z90, z91, z92, z93, z94, z95, z96, z97, z98, z99, z100, z101, z102, z103, z104, z105, z106, z107, z108, z109, z110, z111, z112, z113, z114, z115, z116, z117, z118, z119, z120, z121, z122, z123, z124, z125, z126, z127, z128, z129, z130, z131, z132, z133, z134, z135, z136, z137, z138, z139, z140, z141, z142, z143, z144, z145, z146, z147, z148, z149, z150, z151, z152, z153, z154, z155, z156, z157, z158, z159, z160, z161, z162, z163, z164, z165, z166, z167, z168, z169, z170, z171, z172, z173, z174, z175, z176, z177, z178, z179, z180, z181, z182, z183, z184, z185, z186, z187, z188, z189, z190, z191, z192, z193, z194, z195, z196, z197, z198, z199, z200, z201, z202, z203, z204, z205, z206, z207, z208, z209, z210, z211, z212, z213, z214, z215, z216, z217, z218, z219, z220, z221, z222, z223, z224, z225, z226, z227, z228, z229, z230, z231, z232, z233, z234, z235, z236, z237, z238, z239, z240, z241, z242, z243, z244, z245, z246], defers := [] } wr := by
  have n1 : (n : Int) ≤ 9223372036854775807 := by omega
  have HQ := hid hq
  have HMc := hid hmc
  have HMw := hid hmw
  have z0 := HQ.out.z0
  have z1 := HQ.out.z1
  clear hq hmc hmw
  have HA := hid ha
  clear ha
  refine sfx_walk 7 rfl (by simp only [sfx]; rfl) ?_
  by_cases hl : n = 1024
  · subst hl
    go_wp2_with fail
    refine (ri_has HQ.out true HA.out).mono ?_
    clear HQ z0 z1
    rintro x wk ⟨rfl, hq⟩
    have HQ := hid hq
    have z0 := HQ.out.z0
    have z1 := HQ.out.z1
    clear hq
    go_wp2_with fail
    refine (ri_meter HQ.out).mono ?_
    clear HQ z0 z1
    rintro x wk ⟨rfl, hq⟩
    have HQ := hid hq
    have z0 := HQ.out.z0
    have z1 := HQ.out.z1
    clear hq
    rw [HMc.out]
    go_wp2_with fail
    refine (ri_in HQ.out).mono ?_
    clear HQ z0 z1
    rintro x wk ⟨rfl, hq⟩
    have HQ := hid hq
    have z0 := HQ.out.z0
    have z1 := HQ.out.z1
    clear hq
    go_wp2_with fail
    refine (ri_peek HQ.out true 0 3 9 HMw.out).mono ?_
    clear HQ z0 z1
    rintro x wk ⟨rfl, hq⟩
    have HQ := hid hq
    have z0 := HQ.out.z0
    have z1 := HQ.out.z1
    clear hq
    go_wp2_with fail
    go_ret
    exact ⟨rfl, HQ.out.below⟩
  · have hl2 : ((n : Int) = 1024) = False := by simp; omega
    go_wp2_with fail
    refine (ri_has HQ.out true HA.out).mono ?_
    clear HQ z0 z1
    rintro x wk ⟨rfl, hq⟩
    have HQ := hid hq
    have z0 := HQ.out.z0
    have z1 := HQ.out.z1
    clear hq
    go_wp2_with fail
    refine (ri_lay HQ.out ao n c 2 hn (.inr ⟨hl, HA.out, rfl⟩)).mono ?_
    clear HQ z0 z1
    rintro x wk ⟨rfl, hq⟩
    have HQ := hid hq
    have z0 := HQ.out.z0
    have z1 := HQ.out.z1
    clear hq
    go_wp2_with fail
    refine (num_any _ _).mono ?_
    rintro x wk ⟨rfl, rfl⟩
    go_wp2_with fail
    refine (ri_meter HQ.out).mono ?_
    clear HQ z0 z1
    rintro x wk ⟨rfl, hq⟩
    have HQ := hid hq
    have z0 := HQ.out.z0
    have z1 := HQ.out.z1
    clear hq
    rw [HMc.out]
    go_wp2_with fail
    refine (ri_in HQ.out).mono ?_
    clear HQ z0 z1
    rintro x wk ⟨rfl, hq⟩
    have HQ := hid hq
    have z0 := HQ.out.z0
    have z1 := HQ.out.z1
    clear hq
    go_wp2_with fail
    refine (ri_peek HQ.out true 0 3 9 HMw.out).mono ?_
    clear HQ z0 z1
    rintro x wk ⟨rfl, hq⟩
    have HQ := hid hq
    have z0 := HQ.out.z0
    have z1 := HQ.out.z1
    clear hq
    go_wp2_with fail
    go_ret
    exact ⟨rfl, HQ.out.below⟩
set_option maxRecDepth 40000 in
set_option maxHeartbeats 8000000 in
theorem tailB {w wr : World} {g5 : Nat} {s : Bool} {p oo : Int} {ao : Option Addr} {n c : Nat} {f : Fp} {m : MS} {z2 z3 z6 z7 z8 z9 z10 z11 z12 z13 z15 z17 z18 z19 z20 z21 z22 z23 z24 z25 z26 z27 z28 z29 z30 z31 z32 z33 z34 z35 z36 z37 z38 z39 z40 z41 z42 z43 z44 z45 z46 z47 z48 z49 z50 z51 z52 z53 z54 z55 z56 z57 z58 z59 z60 z61 z62 z63 z64 z65 z66 z67 z68 z69 z70 z71 z72 z73 z74 z75 z76 z77 z78 z79 z80 z81 z82 z83 z84 z85 z86 z87 z88 z89 z90 z91 z92 z93 z94 z95 z96 z97 z98 z99 z100 z101 z102 z103 z104 z105 z106 z107 z108 z109 z110 z111 z112 z113 z114 z115 z116 z117 z118 z119 z120 z121 z122 z123 z124 z125 z126 z127 z128 z129 z130 z131 z132 z133 z134 z135 z136 z137 z138 z139 z140 z141 z142 z143 z144 z145 z146 z147 z148 z149 z150 z151 z152 z153 z154 z155 z156 z157 z158 z159 z160 z161 z162 z163 z164 z165 z166 z167 z168 z169 z170 z171 z172 z173 z174 z175 z176 z177 z178 z179 z180 z181 z182 z183 z184 z185 z186 z187 z188 z189 z190 z191 z192 z193 z194 z195 z196 z197 z198 z199 z200 z201 z202 z203 z204 z205 z206 z207 z208 z209 z210 z211 z212 z213 z214 z215 z216 z217 z218 z219 z220 z221 z222 z223 z224 z225 z226 z227 z228 z229 z230 z231 z232 z233 z234 z235 z236 z237 z238 z239 z240 z241 z242 z243 z244 z245 z246 : Value} (hq : RI w wr g5 s p f m) (hmc : m.c = 1) (hmw : m.word true 0 3 = 9) (ha : (m.at s p).isSome = true) (hn : n ≤ 9223372036854775807) (ho : oo < 0) :
    Code.wp Try.prog (sfx 7 (Try.f3.body.getD .skip)) (bodyPost Try.prog Try.f3 fun x w' => x = .returned (.bool true) ∧ Below w.heap.size w w') { tmps := #[.agg #[.bool s, .int .i64 p], .int .i64 oo, z2, z3, .slice ao n c, .pointer (some ⟨g5, 0, none⟩), z6, z7, z8, z9, z10, z11, z12, z13, .pointer (some ⟨f.gm, 0, none⟩), z15, .bool true, z17, z18, z19, z20, z21, z22, z23, z24, z25, z26, z27, z28, z29, z30, z31, z32, z33, z34, z35, z36, z37, z38, z39, z40, z41, z42, z43, z44, z45, z46, z47, z48, z49, z50, z51, z52, z53, z54, z55, z56, z57, z58, z59, z60, z61, z62, z63, z64, z65, z66, z67, z68, z69, z70, z71, z72, z73, z74, z75, z76, z77, z78, z79, z80, z81, z82, z83, z84, z85, z86, z87, z88, z89, z90, z91, z92, z93, z94, z95, z96, z97, z98, z99, z100, z101, z102, z103, z104, z105, z106, z107, z108, z109, z110, z111, z112, z113, z114, z115, z116, z117, z118, z119, z120, z121, z122, z123, z124, z125, z126, z127, z128, z129, z130, z131, z132, z133, z134, z135, z136, z137, z138, z139, z140, z141, z142, z143, z144, z145, z146, z147, z148, z149, z150, z151, z152, z153, z154, z155, z156, z157, z158, z159, z160, z161, z162, z163, z164, z165, z166, z167, z168, z169, z170, z171, z172, z173, z174, z175, z176, z177, z178, z179, z180, z181, z182, z183, z184, z185, z186, z187, z188, z189, z190, z191, z192, z193, z194, z195, z196, z197, z198, z199, z200, z201, z202, z203, z204, z205, z206, z207, z208, z209, z210, z211, z212, z213, z214, z215, z216, z217, z218, z219, z220, z221, z222, z223, z224, z225, z226, z227, z228, z229, z230, z231, z232, z233, z234, z235, z236, z237, z238, z239, z240, z241, z242, z243, z244, z245, z246], defers := [] } wr := by
  have n1 : (n : Int) ≤ 9223372036854775807 := by omega
  have HQ := hid hq
  have HMc := hid hmc
  have HMw := hid hmw
  have z0 := HQ.out.z0
  have z1 := HQ.out.z1
  clear hq hmc hmw
  have HA := hid ha
  clear ha
  have hin : ¬ In oo := by unfold In; omega
  have HE : Hid (m.err s p oo = 70) := hid (by unfold MS.err; obtain ⟨k, hk⟩ := Option.isSome_iff_exists.1 HA.out; rw [hk]; exact if_neg hin)
  have HJ : Hid (m.word s p oo = 0) := hid (by unfold MS.word; obtain ⟨k, hk⟩ := Option.isSome_iff_exists.1 HA.out; rw [hk]; exact if_neg hin)
  clear hin
  refine sfx_walk 7 rfl (by simp only [sfx]; rfl) ?_
  by_cases hl : n = 1024
  · subst hl
    go_wp2_with fail
    refine (ri_has HQ.out true HA.out).mono ?_
    clear HQ z0 z1
    rintro x wk ⟨rfl, hq⟩
    have HQ := hid hq
    have z0 := HQ.out.z0
    have z1 := HQ.out.z1
    clear hq
    go_wp2_with fail
    refine (ri_read HQ.out oo 70 HE.out (by decide)).mono ?_
    clear HQ z0 z1
    rintro x wk ⟨rfl, hq⟩
    have HQ := hid hq
    have z0 := HQ.out.z0
    have z1 := HQ.out.z1
    clear hq
    go_wp2_with fail
    refine (ri_write HQ.out oo 1 70 HE.out (by decide)).mono ?_
    clear HQ z0 z1
    rintro x wk ⟨rfl, hq⟩
    have HQ := hid hq
    have z0 := HQ.out.z0
    have z1 := HQ.out.z1
    clear hq
    go_wp2_with fail
    refine (num_any _ _).mono ?_
    rintro x wk ⟨rfl, rfl⟩
    go_wp2_with fail
    refine (num_any _ _).mono ?_
    rintro x wk ⟨rfl, rfl⟩
    go_wp2_with fail
    refine (ri_peek HQ.out s p oo 0 HJ.out).mono ?_
    clear HQ z0 z1
    rintro x wk ⟨rfl, hq⟩
    have HQ := hid hq
    have z0 := HQ.out.z0
    have z1 := HQ.out.z1
    clear hq
    go_wp2_with fail
    refine (ri_meter HQ.out).mono ?_
    clear HQ z0 z1
    rintro x wk ⟨rfl, hq⟩
    have HQ := hid hq
    have z0 := HQ.out.z0
    have z1 := HQ.out.z1
    clear hq
    rw [HMc.out]
    go_wp2_with fail
    refine (ri_in HQ.out).mono ?_
    clear HQ z0 z1
    rintro x wk ⟨rfl, hq⟩
    have HQ := hid hq
    have z0 := HQ.out.z0
    have z1 := HQ.out.z1
    clear hq
    go_wp2_with fail
    refine (ri_peek HQ.out true 0 3 9 HMw.out).mono ?_
    clear HQ z0 z1
    rintro x wk ⟨rfl, hq⟩
    have HQ := hid hq
    have z0 := HQ.out.z0
    have z1 := HQ.out.z1
    clear hq
    go_wp2_with fail
    go_ret
    exact ⟨rfl, HQ.out.below⟩
  · have hl2 : ((n : Int) = 1024) = False := by simp; omega
    go_wp2_with fail
    refine (ri_has HQ.out true HA.out).mono ?_
    clear HQ z0 z1
    rintro x wk ⟨rfl, hq⟩
    have HQ := hid hq
    have z0 := HQ.out.z0
    have z1 := HQ.out.z1
    clear hq
    go_wp2_with fail
    refine (ri_read HQ.out oo 70 HE.out (by decide)).mono ?_
    clear HQ z0 z1
    rintro x wk ⟨rfl, hq⟩
    have HQ := hid hq
    have z0 := HQ.out.z0
    have z1 := HQ.out.z1
    clear hq
    go_wp2_with fail
    refine (ri_write HQ.out oo 1 70 HE.out (by decide)).mono ?_
    clear HQ z0 z1
    rintro x wk ⟨rfl, hq⟩
    have HQ := hid hq
    have z0 := HQ.out.z0
    have z1 := HQ.out.z1
    clear hq
    go_wp2_with fail
    refine (num_any _ _).mono ?_
    rintro x wk ⟨rfl, rfl⟩
    go_wp2_with fail
    refine (num_any _ _).mono ?_
    rintro x wk ⟨rfl, rfl⟩
    go_wp2_with fail
    refine (ri_lay HQ.out ao n c 2 hn (.inr ⟨hl, HA.out, rfl⟩)).mono ?_
    clear HQ z0 z1
    rintro x wk ⟨rfl, hq⟩
    have HQ := hid hq
    have z0 := HQ.out.z0
    have z1 := HQ.out.z1
    clear hq
    go_wp2_with fail
    refine (num_any _ _).mono ?_
    rintro x wk ⟨rfl, rfl⟩
    go_wp2_with fail
    refine (ri_peek HQ.out s p oo 0 HJ.out).mono ?_
    clear HQ z0 z1
    rintro x wk ⟨rfl, hq⟩
    have HQ := hid hq
    have z0 := HQ.out.z0
    have z1 := HQ.out.z1
    clear hq
    go_wp2_with fail
    refine (ri_meter HQ.out).mono ?_
    clear HQ z0 z1
    rintro x wk ⟨rfl, hq⟩
    have HQ := hid hq
    have z0 := HQ.out.z0
    have z1 := HQ.out.z1
    clear hq
    rw [HMc.out]
    go_wp2_with fail
    refine (ri_in HQ.out).mono ?_
    clear HQ z0 z1
    rintro x wk ⟨rfl, hq⟩
    have HQ := hid hq
    have z0 := HQ.out.z0
    have z1 := HQ.out.z1
    clear hq
    go_wp2_with fail
    refine (ri_peek HQ.out true 0 3 9 HMw.out).mono ?_
    clear HQ z0 z1
    rintro x wk ⟨rfl, hq⟩
    have HQ := hid hq
    have z0 := HQ.out.z0
    have z1 := HQ.out.z1
    clear hq
    go_wp2_with fail
    go_ret
    exact ⟨rfl, HQ.out.below⟩
set_option maxRecDepth 40000 in
set_option maxHeartbeats 8000000 in
theorem tailD {w wr : World} {g5 : Nat} {s : Bool} {p oo : Int} {ao : Option Addr} {n c : Nat} {f : Fp} {m : MS} {z2 z3 z6 z7 z8 z9 z10 z11 z12 z13 z15 z17 z18 z19 z20 z21 z22 z23 z24 z25 z26 z27 z28 z29 z30 z31 z32 z33 z34 z35 z36 z37 z38 z39 z40 z41 z42 z43 z44 z45 z46 z47 z48 z49 z50 z51 z52 z53 z54 z55 z56 z57 z58 z59 z60 z61 z62 z63 z64 z65 z66 z67 z68 z69 z70 z71 z72 z73 z74 z75 z76 z77 z78 z79 z80 z81 z82 z83 z84 z85 z86 z87 z88 z89 z90 z91 z92 z93 z94 z95 z96 z97 z98 z99 z100 z101 z102 z103 z104 z105 z106 z107 z108 z109 z110 z111 z112 z113 z114 z115 z116 z117 z118 z119 z120 z121 z122 z123 z124 z125 z126 z127 z128 z129 z130 z131 z132 z133 z134 z135 z136 z137 z138 z139 z140 z141 z142 z143 z144 z145 z146 z147 z148 z149 z150 z151 z152 z153 z154 z155 z156 z157 z158 z159 z160 z161 z162 z163 z164 z165 z166 z167 z168 z169 z170 z171 z172 z173 z174 z175 z176 z177 z178 z179 z180 z181 z182 z183 z184 z185 z186 z187 z188 z189 z190 z191 z192 z193 z194 z195 z196 z197 z198 z199 z200 z201 z202 z203 z204 z205 z206 z207 z208 z209 z210 z211 z212 z213 z214 z215 z216 z217 z218 z219 z220 z221 z222 z223 z224 z225 z226 z227 z228 z229 z230 z231 z232 z233 z234 z235 z236 z237 z238 z239 z240 z241 z242 z243 z244 z245 z246 : Value} (hq : RI w wr g5 s p f m) (hmc : m.c = 1) (hmw : m.word true 0 3 = 9) (ha : (m.at s p).isSome = true) (hn : n ≤ 9223372036854775807) (ho : 0 ≤ oo) (ho2 : 1024 ≤ oo) :
    Code.wp Try.prog (sfx 7 (Try.f3.body.getD .skip)) (bodyPost Try.prog Try.f3 fun x w' => x = .returned (.bool true) ∧ Below w.heap.size w w') { tmps := #[.agg #[.bool s, .int .i64 p], .int .i64 oo, z2, z3, .slice ao n c, .pointer (some ⟨g5, 0, none⟩), z6, z7, z8, z9, z10, z11, z12, z13, .pointer (some ⟨f.gm, 0, none⟩), z15, .bool true, z17, z18, z19, z20, z21, z22, z23, z24, z25, z26, z27, z28, z29, z30, z31, z32, z33, z34, z35, z36, z37, z38, z39, z40, z41, z42, z43, z44, z45, z46, z47, z48, z49, z50, z51, z52, z53, z54, z55, z56, z57, z58, z59, z60, z61, z62, z63, z64, z65, z66, z67, z68, z69, z70, z71, z72, z73, z74, z75, z76, z77, z78, z79, z80, z81, z82, z83, z84, z85, z86, z87, z88, z89, z90, z91, z92, z93, z94, z95, z96, z97, z98, z99, z100, z101, z102, z103, z104, z105, z106, z107, z108, z109, z110, z111, z112, z113, z114, z115, z116, z117, z118, z119, z120, z121, z122, z123, z124, z125, z126, z127, z128, z129, z130, z131, z132, z133, z134, z135, z136, z137, z138, z139, z140, z141, z142, z143, z144, z145, z146, z147, z148, z149, z150, z151, z152, z153, z154, z155, z156, z157, z158, z159, z160, z161, z162, z163, z164, z165, z166, z167, z168, z169, z170, z171, z172, z173, z174, z175, z176, z177, z178, z179, z180, z181, z182, z183, z184, z185, z186, z187, z188, z189, z190, z191, z192, z193, z194, z195, z196, z197, z198, z199, z200, z201, z202, z203, z204, z205, z206, z207, z208, z209, z210, z211, z212, z213, z214, z215, z216, z217, z218, z219, z220, z221, z222, z223, z224, z225, z226, z227, z228, z229, z230, z231, z232, z233, z234, z235, z236, z237, z238, z239, z240, z241, z242, z243, z244, z245, z246], defers := [] } wr := by
  have n1 : (n : Int) ≤ 9223372036854775807 := by omega
  have HQ := hid hq
  have HMc := hid hmc
  have HMw := hid hmw
  have z0 := HQ.out.z0
  have z1 := HQ.out.z1
  clear hq hmc hmw
  have HA := hid ha
  clear ha
  have hin : ¬ In oo := by unfold In; omega
  have HE : Hid (m.err s p oo = 70) := hid (by unfold MS.err; obtain ⟨k, hk⟩ := Option.isSome_iff_exists.1 HA.out; rw [hk]; exact if_neg hin)
  have HJ : Hid (m.word s p oo = 0) := hid (by unfold MS.word; obtain ⟨k, hk⟩ := Option.isSome_iff_exists.1 HA.out; rw [hk]; exact if_neg hin)
  clear hin
  refine sfx_walk 7 rfl (by simp only [sfx]; rfl) ?_
  by_cases hl : n = 1024
  · subst hl
    go_wp2_with fail
    refine (ri_has HQ.out true HA.out).mono ?_
    clear HQ z0 z1
    rintro x wk ⟨rfl, hq⟩
    have HQ := hid hq
    have z0 := HQ.out.z0
    have z1 := HQ.out.z1
    clear hq
    go_wp2_with fail
    refine (ri_read HQ.out oo 70 HE.out (by decide)).mono ?_
    clear HQ z0 z1
    rintro x wk ⟨rfl, hq⟩
    have HQ := hid hq
    have z0 := HQ.out.z0
    have z1 := HQ.out.z1
    clear hq
    go_wp2_with fail
    refine (ri_write HQ.out oo 1 70 HE.out (by decide)).mono ?_
    clear HQ z0 z1
    rintro x wk ⟨rfl, hq⟩
    have HQ := hid hq
    have z0 := HQ.out.z0
    have z1 := HQ.out.z1
    clear hq
    go_wp2_with fail
    refine (num_any _ _).mono ?_
    rintro x wk ⟨rfl, rfl⟩
    go_wp2_with fail
    refine (num_any _ _).mono ?_
    rintro x wk ⟨rfl, rfl⟩
    go_wp2_with fail
    refine (ri_peek HQ.out s p oo 0 HJ.out).mono ?_
    clear HQ z0 z1
    rintro x wk ⟨rfl, hq⟩
    have HQ := hid hq
    have z0 := HQ.out.z0
    have z1 := HQ.out.z1
    clear hq
    go_wp2_with fail
    refine (ri_meter HQ.out).mono ?_
    clear HQ z0 z1
    rintro x wk ⟨rfl, hq⟩
    have HQ := hid hq
    have z0 := HQ.out.z0
    have z1 := HQ.out.z1
    clear hq
    rw [HMc.out]
    go_wp2_with fail
    refine (ri_in HQ.out).mono ?_
    clear HQ z0 z1
    rintro x wk ⟨rfl, hq⟩
    have HQ := hid hq
    have z0 := HQ.out.z0
    have z1 := HQ.out.z1
    clear hq
    go_wp2_with fail
    refine (ri_peek HQ.out true 0 3 9 HMw.out).mono ?_
    clear HQ z0 z1
    rintro x wk ⟨rfl, hq⟩
    have HQ := hid hq
    have z0 := HQ.out.z0
    have z1 := HQ.out.z1
    clear hq
    go_wp2_with fail
    go_ret
    exact ⟨rfl, HQ.out.below⟩
  · have hl2 : ((n : Int) = 1024) = False := by simp; omega
    go_wp2_with fail
    refine (ri_has HQ.out true HA.out).mono ?_
    clear HQ z0 z1
    rintro x wk ⟨rfl, hq⟩
    have HQ := hid hq
    have z0 := HQ.out.z0
    have z1 := HQ.out.z1
    clear hq
    go_wp2_with fail
    refine (ri_read HQ.out oo 70 HE.out (by decide)).mono ?_
    clear HQ z0 z1
    rintro x wk ⟨rfl, hq⟩
    have HQ := hid hq
    have z0 := HQ.out.z0
    have z1 := HQ.out.z1
    clear hq
    go_wp2_with fail
    refine (ri_write HQ.out oo 1 70 HE.out (by decide)).mono ?_
    clear HQ z0 z1
    rintro x wk ⟨rfl, hq⟩
    have HQ := hid hq
    have z0 := HQ.out.z0
    have z1 := HQ.out.z1
    clear hq
    go_wp2_with fail
    refine (num_any _ _).mono ?_
    rintro x wk ⟨rfl, rfl⟩
    go_wp2_with fail
    refine (num_any _ _).mono ?_
    rintro x wk ⟨rfl, rfl⟩
    go_wp2_with fail
    refine (ri_lay HQ.out ao n c 2 hn (.inr ⟨hl, HA.out, rfl⟩)).mono ?_
    clear HQ z0 z1
    rintro x wk ⟨rfl, hq⟩
    have HQ := hid hq
    have z0 := HQ.out.z0
    have z1 := HQ.out.z1
    clear hq
    go_wp2_with fail
    refine (num_any _ _).mono ?_
    rintro x wk ⟨rfl, rfl⟩
    go_wp2_with fail
    refine (ri_peek HQ.out s p oo 0 HJ.out).mono ?_
    clear HQ z0 z1
    rintro x wk ⟨rfl, hq⟩
    have HQ := hid hq
    have z0 := HQ.out.z0
    have z1 := HQ.out.z1
    clear hq
    go_wp2_with fail
    refine (ri_meter HQ.out).mono ?_
    clear HQ z0 z1
    rintro x wk ⟨rfl, hq⟩
    have HQ := hid hq
    have z0 := HQ.out.z0
    have z1 := HQ.out.z1
    clear hq
    rw [HMc.out]
    go_wp2_with fail
    refine (ri_in HQ.out).mono ?_
    clear HQ z0 z1
    rintro x wk ⟨rfl, hq⟩
    have HQ := hid hq
    have z0 := HQ.out.z0
    have z1 := HQ.out.z1
    clear hq
    go_wp2_with fail
    refine (ri_peek HQ.out true 0 3 9 HMw.out).mono ?_
    clear HQ z0 z1
    rintro x wk ⟨rfl, hq⟩
    have HQ := hid hq
    have z0 := HQ.out.z0
    have z1 := HQ.out.z1
    clear hq
    go_wp2_with fail
    go_ret
    exact ⟨rfl, HQ.out.below⟩
end Go.Proofs.Ytnmdhnbgikbpoaa
