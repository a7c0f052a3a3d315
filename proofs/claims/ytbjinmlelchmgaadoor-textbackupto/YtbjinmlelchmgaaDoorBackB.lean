/- TextBack (5): its end. -/
import Derived.Test.YtbjinmlelchmgaaDoorBack3
import Derived.Test.YtbjinmlelchmgaaDoorSfx
import Derived.Deep.DeepCutAuto
namespace Go.Proofs.YtbjinmlelchmgaaDoor
open Go.RowKit
set_option maxRecDepth 40000 in
set_option maxHeartbeats 4000000 in
theorem backB1 {z0 z1 z3 z4 z5 z6 z7 z8 z9 z10 z11 z12 z13 z14 z15 z16 z23 z24 z25 z26 z27 z28 z29 z30 z31 z32 z33 z34 z35 z36 z37 z38 z39 z40 z41 z42 z43 z44 z45 z46 z47 z48 z49 z50 z51 z52 z53 z54 z55 z56 z57 z58 z59 z60 z61 z62 z63 z64 z65 z66 z67 z68 z69 z70 z71 z72 z73 z74 z75 z76 z77 z78 z79 z80 z81 z82 z83 z84 z85 z86 z87 z88 z89 z90 z91 z92 z93 z94 z95 z96 z97 z98 z99 z100 z101 z102 z103 z104 z105 z106 z107 z108 z109 z110 z111 z112 z113 z114 z115 z116 z117 z118 z119 z120 z121 z122 z123 z124 z125 z126 z127 z128 z129 z130 z131 z132 z133 z134 z135 z136 z137 z138 z139 z140 z141 z142 z143 z144 z145 z146 z147 z148 z149 z150 z151 z152 z153 z154 z155 z156 z157 z158 z159 z160 z161 z162 z163 z164 z165 z166 z167 z168 z169 z170 z171 z172 z173 z174 z175 z176 z177 z178 z179 z180 z181 z182 z183 z184 z185 z186 z187 z188 z189 z190 z191 z192 z193 z194 z195 z196 z197 z198 z199 z200 z201 z202 z203 z204 z205 z206 z207 z208 z209 z210 z211 z212 z213 z214 z215 z216 z217 z218 z219 z220 z221 z222 z223 z224 z225 z226 z227 z228 z229 z230 z231 z232 z233 z234 z235 z236 z237 : Value} (W w : World) (hb : Below W.heap.size W w) (htab : PowTab W) (s : ByteArray) (hs : s.size ≤ 1048576) (x i y j : Int) (ao : Option Addr) (m c : Nat) (k : Int) (hx : (i != 0) = true → x = 0) (hy : j = 41 ∧ y = 0)
    (hQ : k = 0 → ∀ X, Below w.heap.size w X → Calls Tryd.prog 8 #[.slice ao m c] X fun e w' => e = .returned (.string s) ∧ Below X.heap.size X w') (hm : k = 40 ∧ m = 0) :
    Code.wp Tryd.prog (sfx 14 (Tryd.f5.body.getD .skip)) (bodyPost Tryd.prog Tryd.f5 fun e W' => e = .returned (.bool true) ∧ Below W.heap.size W W') { tmps := #[z0, z1, .string s, z3, z4, z5, z6, z7, z8, z9, z10, z11, z12, z13, z14, z15, z16, .int .u32 x, .int .i64 i, .int .i32 y, .int .i64 j, .slice ao m c, .int .i64 k, z23, z24, z25, z26, z27, z28, z29, z30, z31, z32, z33, z34, z35, z36, z37, z38, z39, z40, z41, z42, z43, z44, z45, z46, z47, z48, z49, z50, z51, z52, z53, z54, z55, z56, z57, z58, z59, z60, z61, z62, z63, z64, z65, z66, z67, z68, z69, z70, z71, z72, z73, z74, z75, z76, z77, z78, z79, z80, z81, z82, z83, z84, z85, z86, z87, z88, z89, z90, z91, z92, z93, z94, z95, z96, z97, z98, z99, z100, z101, z102, z103, z104, z105, z106, z107, z108, z109, z110, z111, z112, z113, z114, z115, z116, z117, z118, z119, z120, z121, z122, z123, z124, z125, z126, z127, z128, z129, z130, z131, z132, z133, z134, z135, z136, z137, z138, z139, z140, z141, z142, z143, z144, z145, z146, z147, z148, z149, z150, z151, z152, z153, z154, z155, z156, z157, z158, z159, z160, z161, z162, z163, z164, z165, z166, z167, z168, z169, z170, z171, z172, z173, z174, z175, z176, z177, z178, z179, z180, z181, z182, z183, z184, z185, z186, z187, z188, z189, z190, z191, z192, z193, z194, z195, z196, z197, z198, z199, z200, z201, z202, z203, z204, z205, z206, z207, z208, z209, z210, z211, z212, z213, z214, z215, z216, z217, z218, z219, z220, z221, z222, z223, z224, z225, z226, z227, z228, z229, z230, z231, z232, z233, z234, z235, z236, z237], defers := [] } w := by
  have NM : Hid (∃ b : Bool, (∀ w, Calls Tryd.prog 18 #[.string s] w fun e w' => e = .returned (.int .i64 (if b then 0 else 42)) ∧ w = w') ∧ (∀ w, Calls Tryd.prog 19 #[.string s] w fun e w' => e = .returned (.bool b) ∧ w = w')) := hid ⟨T.name s.data.toList, fun w => name_any w s (by omega), fun w => isName_any w s (by omega)⟩
  obtain ⟨nb, NM1, NM2⟩ := NM.out
  have HM1 : Hid _ := NM1
  have HM2 : Hid _ := NM2
  have HB : Hid (Below W.heap.size W w) := hb
  have HPT : Hid (PowTab w) := hid (htab.on hb)
  have HQ : Hid _ := hQ
  clear NM NM1 NM2 hb htab hQ
  refine sfx_walk 14 rfl (by simp only [sfx]; rfl) ?_
  obtain ⟨rfl, rfl⟩ := hy
  obtain ⟨rfl, rfl⟩ := hm
  cases hi : (i != 0)
  case' true =>
    have hx0 := hx hi
    subst hx0
  all_goals
    clear hx
    cases nb
    all_goals
      go_wp2_with fail
      refine (HM1.out _).mono ?_
      rintro e w' ⟨rfl, rfl⟩
      go_wp2_with fail
      refine (HM2.out _).mono ?_
      rintro e w' ⟨rfl, rfl⟩
      go_wp2_with fail
      go_ret
      exact ⟨rfl, HB.out⟩
set_option maxRecDepth 40000 in
set_option maxHeartbeats 4000000 in
theorem backB2 {z0 z1 z3 z4 z5 z6 z7 z8 z9 z10 z11 z12 z13 z14 z15 z16 z23 z24 z25 z26 z27 z28 z29 z30 z31 z32 z33 z34 z35 z36 z37 z38 z39 z40 z41 z42 z43 z44 z45 z46 z47 z48 z49 z50 z51 z52 z53 z54 z55 z56 z57 z58 z59 z60 z61 z62 z63 z64 z65 z66 z67 z68 z69 z70 z71 z72 z73 z74 z75 z76 z77 z78 z79 z80 z81 z82 z83 z84 z85 z86 z87 z88 z89 z90 z91 z92 z93 z94 z95 z96 z97 z98 z99 z100 z101 z102 z103 z104 z105 z106 z107 z108 z109 z110 z111 z112 z113 z114 z115 z116 z117 z118 z119 z120 z121 z122 z123 z124 z125 z126 z127 z128 z129 z130 z131 z132 z133 z134 z135 z136 z137 z138 z139 z140 z141 z142 z143 z144 z145 z146 z147 z148 z149 z150 z151 z152 z153 z154 z155 z156 z157 z158 z159 z160 z161 z162 z163 z164 z165 z166 z167 z168 z169 z170 z171 z172 z173 z174 z175 z176 z177 z178 z179 z180 z181 z182 z183 z184 z185 z186 z187 z188 z189 z190 z191 z192 z193 z194 z195 z196 z197 z198 z199 z200 z201 z202 z203 z204 z205 z206 z207 z208 z209 z210 z211 z212 z213 z214 z215 z216 z217 z218 z219 z220 z221 z222 z223 z224 z225 z226 z227 z228 z229 z230 z231 z232 z233 z234 z235 z236 z237 : Value} (W w : World) (hb : Below W.heap.size W w) (htab : PowTab W) (s : ByteArray) (hs : s.size ≤ 1048576) (x i y j : Int) (ao : Option Addr) (m c : Nat) (k : Int) (hx : (i != 0) = true → x = 0) (hy : j = 41 ∧ y = 0)
    (hQ : k = 0 → ∀ X, Below w.heap.size w X → Calls Tryd.prog 8 #[.slice ao m c] X fun e w' => e = .returned (.string s) ∧ Below X.heap.size X w') (hm : k = 0) :
    Code.wp Tryd.prog (sfx 14 (Tryd.f5.body.getD .skip)) (bodyPost Tryd.prog Tryd.f5 fun e W' => e = .returned (.bool true) ∧ Below W.heap.size W W') { tmps := #[z0, z1, .string s, z3, z4, z5, z6, z7, z8, z9, z10, z11, z12, z13, z14, z15, z16, .int .u32 x, .int .i64 i, .int .i32 y, .int .i64 j, .slice ao m c, .int .i64 k, z23, z24, z25, z26, z27, z28, z29, z30, z31, z32, z33, z34, z35, z36, z37, z38, z39, z40, z41, z42, z43, z44, z45, z46, z47, z48, z49, z50, z51, z52, z53, z54, z55, z56, z57, z58, z59, z60, z61, z62, z63, z64, z65, z66, z67, z68, z69, z70, z71, z72, z73, z74, z75, z76, z77, z78, z79, z80, z81, z82, z83, z84, z85, z86, z87, z88, z89, z90, z91, z92, z93, z94, z95, z96, z97, z98, z99, z100, z101, z102, z103, z104, z105, z106, z107, z108, z109, z110, z111, z112, z113, z114, z115, z116, z117, z118, z119, z120, z121, z122, z123, z124, z125, z126, z127, z128, z129, z130, z131, z132, z133, z134, z135, z136, z137, z138, z139, z140, z141, z142, z143, z144, z145, z146, z147, z148, z149, z150, z151, z152, z153, z154, z155, z156, z157, z158, z159, z160, z161, z162, z163, z164, z165, z166, z167, z168, z169, z170, z171, z172, z173, z174, z175, z176, z177, z178, z179, z180, z181, z182, z183, z184, z185, z186, z187, z188, z189, z190, z191, z192, z193, z194, z195, z196, z197, z198, z199, z200, z201, z202, z203, z204, z205, z206, z207, z208, z209, z210, z211, z212, z213, z214, z215, z216, z217, z218, z219, z220, z221, z222, z223, z224, z225, z226, z227, z228, z229, z230, z231, z232, z233, z234, z235, z236, z237], defers := [] } w := by
  have NM : Hid (∃ b : Bool, (∀ w, Calls Tryd.prog 18 #[.string s] w fun e w' => e = .returned (.int .i64 (if b then 0 else 42)) ∧ w = w') ∧ (∀ w, Calls Tryd.prog 19 #[.string s] w fun e w' => e = .returned (.bool b) ∧ w = w')) := hid ⟨T.name s.data.toList, fun w => name_any w s (by omega), fun w => isName_any w s (by omega)⟩
  obtain ⟨nb, NM1, NM2⟩ := NM.out
  have HM1 : Hid _ := NM1
  have HM2 : Hid _ := NM2
  have HB : Hid (Below W.heap.size W w) := hb
  have HPT : Hid (PowTab w) := hid (htab.on hb)
  have HQ : Hid _ := hQ
  clear NM NM1 NM2 hb htab hQ
  refine sfx_walk 14 rfl (by simp only [sfx]; rfl) ?_
  obtain ⟨rfl, rfl⟩ := hy
  obtain rfl := hm
  cases hi : (i != 0)
  case' true =>
    have hx0 := hx hi
    subst hx0
  all_goals
    clear hx
    cases nb
    all_goals
      go_wp2_with fail
      refine (HQ.out (by first | rfl | trivial) _ (Below.refl _ _)).mono ?_
      rintro e w12 ⟨rfl, hb12⟩
      go_wp2_with fail
      refine (HM1.out _).mono ?_
      rintro e w' ⟨rfl, rfl⟩
      go_wp2_with fail
      refine (HM2.out _).mono ?_
      rintro e w' ⟨rfl, rfl⟩
      go_wp2_with fail
      go_ret
      exact ⟨rfl, HB.out.trans (hb12.mono HB.out.size)⟩
set_option maxRecDepth 40000 in
set_option maxHeartbeats 4000000 in
theorem backB3 {z0 z1 z3 z4 z5 z6 z7 z8 z9 z10 z11 z12 z13 z14 z15 z16 z23 z24 z25 z26 z27 z28 z29 z30 z31 z32 z33 z34 z35 z36 z37 z38 z39 z40 z41 z42 z43 z44 z45 z46 z47 z48 z49 z50 z51 z52 z53 z54 z55 z56 z57 z58 z59 z60 z61 z62 z63 z64 z65 z66 z67 z68 z69 z70 z71 z72 z73 z74 z75 z76 z77 z78 z79 z80 z81 z82 z83 z84 z85 z86 z87 z88 z89 z90 z91 z92 z93 z94 z95 z96 z97 z98 z99 z100 z101 z102 z103 z104 z105 z106 z107 z108 z109 z110 z111 z112 z113 z114 z115 z116 z117 z118 z119 z120 z121 z122 z123 z124 z125 z126 z127 z128 z129 z130 z131 z132 z133 z134 z135 z136 z137 z138 z139 z140 z141 z142 z143 z144 z145 z146 z147 z148 z149 z150 z151 z152 z153 z154 z155 z156 z157 z158 z159 z160 z161 z162 z163 z164 z165 z166 z167 z168 z169 z170 z171 z172 z173 z174 z175 z176 z177 z178 z179 z180 z181 z182 z183 z184 z185 z186 z187 z188 z189 z190 z191 z192 z193 z194 z195 z196 z197 z198 z199 z200 z201 z202 z203 z204 z205 z206 z207 z208 z209 z210 z211 z212 z213 z214 z215 z216 z217 z218 z219 z220 z221 z222 z223 z224 z225 z226 z227 z228 z229 z230 z231 z232 z233 z234 z235 z236 z237 : Value} (W w : World) (hb : Below W.heap.size W w) (htab : PowTab W) (s : ByteArray) (hs : s.size ≤ 1048576) (x i y j : Int) (ao : Option Addr) (m c : Nat) (k : Int) (hx : (i != 0) = true → x = 0) (hy : j = 0 ∧ (∀ w, PowTab w → Calls Tryd.prog 16 #[.int .i32 y] w fun e w' => e = .returned (.string s) ∧ Below w.heap.size w w'))
    (hQ : k = 0 → ∀ X, Below w.heap.size w X → Calls Tryd.prog 8 #[.slice ao m c] X fun e w' => e = .returned (.string s) ∧ Below X.heap.size X w') (hm : k = 40 ∧ m = 0) :
    Code.wp Tryd.prog (sfx 14 (Tryd.f5.body.getD .skip)) (bodyPost Tryd.prog Tryd.f5 fun e W' => e = .returned (.bool true) ∧ Below W.heap.size W W') { tmps := #[z0, z1, .string s, z3, z4, z5, z6, z7, z8, z9, z10, z11, z12, z13, z14, z15, z16, .int .u32 x, .int .i64 i, .int .i32 y, .int .i64 j, .slice ao m c, .int .i64 k, z23, z24, z25, z26, z27, z28, z29, z30, z31, z32, z33, z34, z35, z36, z37, z38, z39, z40, z41, z42, z43, z44, z45, z46, z47, z48, z49, z50, z51, z52, z53, z54, z55, z56, z57, z58, z59, z60, z61, z62, z63, z64, z65, z66, z67, z68, z69, z70, z71, z72, z73, z74, z75, z76, z77, z78, z79, z80, z81, z82, z83, z84, z85, z86, z87, z88, z89, z90, z91, z92, z93, z94, z95, z96, z97, z98, z99, z100, z101, z102, z103, z104, z105, z106, z107, z108, z109, z110, z111, z112, z113, z114, z115, z116, z117, z118, z119, z120, z121, z122, z123, z124, z125, z126, z127, z128, z129, z130, z131, z132, z133, z134, z135, z136, z137, z138, z139, z140, z141, z142, z143, z144, z145, z146, z147, z148, z149, z150, z151, z152, z153, z154, z155, z156, z157, z158, z159, z160, z161, z162, z163, z164, z165, z166, z167, z168, z169, z170, z171, z172, z173, z174, z175, z176, z177, z178, z179, z180, z181, z182, z183, z184, z185, z186, z187, z188, z189, z190, z191, z192, z193, z194, z195, z196, z197, z198, z199, z200, z201, z202, z203, z204, z205, z206, z207, z208, z209, z210, z211, z212, z213, z214, z215, z216, z217, z218, z219, z220, z221, z222, z223, z224, z225, z226, z227, z228, z229, z230, z231, z232, z233, z234, z235, z236, z237], defers := [] } w := by
  have NM : Hid (∃ b : Bool, (∀ w, Calls Tryd.prog 18 #[.string s] w fun e w' => e = .returned (.int .i64 (if b then 0 else 42)) ∧ w = w') ∧ (∀ w, Calls Tryd.prog 19 #[.string s] w fun e w' => e = .returned (.bool b) ∧ w = w')) := hid ⟨T.name s.data.toList, fun w => name_any w s (by omega), fun w => isName_any w s (by omega)⟩
  obtain ⟨nb, NM1, NM2⟩ := NM.out
  have HM1 : Hid _ := NM1
  have HM2 : Hid _ := NM2
  have HB : Hid (Below W.heap.size W w) := hb
  have HPT : Hid (PowTab w) := hid (htab.on hb)
  have HQ : Hid _ := hQ
  clear NM NM1 NM2 hb htab hQ
  refine sfx_walk 14 rfl (by simp only [sfx]; rfl) ?_
  obtain ⟨rfl, hy⟩ := hy
  have HM : Hid _ := hy
  clear hy
  obtain ⟨rfl, rfl⟩ := hm
  cases hi : (i != 0)
  case' true =>
    have hx0 := hx hi
    subst hx0
  all_goals
    clear hx
    cases nb
    all_goals
      go_wp2_with fail
      refine (HM.out _ HPT.out).mono ?_
      rintro e w11 ⟨rfl, hb11⟩
      go_wp2_with fail
      refine (HM1.out _).mono ?_
      rintro e w' ⟨rfl, rfl⟩
      go_wp2_with fail
      refine (HM2.out _).mono ?_
      rintro e w' ⟨rfl, rfl⟩
      go_wp2_with fail
      go_ret
      exact ⟨rfl, HB.out.trans (hb11.mono HB.out.size)⟩
set_option maxRecDepth 40000 in
set_option maxHeartbeats 4000000 in
theorem backB4 {z0 z1 z3 z4 z5 z6 z7 z8 z9 z10 z11 z12 z13 z14 z15 z16 z23 z24 z25 z26 z27 z28 z29 z30 z31 z32 z33 z34 z35 z36 z37 z38 z39 z40 z41 z42 z43 z44 z45 z46 z47 z48 z49 z50 z51 z52 z53 z54 z55 z56 z57 z58 z59 z60 z61 z62 z63 z64 z65 z66 z67 z68 z69 z70 z71 z72 z73 z74 z75 z76 z77 z78 z79 z80 z81 z82 z83 z84 z85 z86 z87 z88 z89 z90 z91 z92 z93 z94 z95 z96 z97 z98 z99 z100 z101 z102 z103 z104 z105 z106 z107 z108 z109 z110 z111 z112 z113 z114 z115 z116 z117 z118 z119 z120 z121 z122 z123 z124 z125 z126 z127 z128 z129 z130 z131 z132 z133 z134 z135 z136 z137 z138 z139 z140 z141 z142 z143 z144 z145 z146 z147 z148 z149 z150 z151 z152 z153 z154 z155 z156 z157 z158 z159 z160 z161 z162 z163 z164 z165 z166 z167 z168 z169 z170 z171 z172 z173 z174 z175 z176 z177 z178 z179 z180 z181 z182 z183 z184 z185 z186 z187 z188 z189 z190 z191 z192 z193 z194 z195 z196 z197 z198 z199 z200 z201 z202 z203 z204 z205 z206 z207 z208 z209 z210 z211 z212 z213 z214 z215 z216 z217 z218 z219 z220 z221 z222 z223 z224 z225 z226 z227 z228 z229 z230 z231 z232 z233 z234 z235 z236 z237 : Value} (W w : World) (hb : Below W.heap.size W w) (htab : PowTab W) (s : ByteArray) (hs : s.size ≤ 1048576) (x i y j : Int) (ao : Option Addr) (m c : Nat) (k : Int) (hx : (i != 0) = true → x = 0) (hy : j = 0 ∧ (∀ w, PowTab w → Calls Tryd.prog 16 #[.int .i32 y] w fun e w' => e = .returned (.string s) ∧ Below w.heap.size w w'))
    (hQ : k = 0 → ∀ X, Below w.heap.size w X → Calls Tryd.prog 8 #[.slice ao m c] X fun e w' => e = .returned (.string s) ∧ Below X.heap.size X w') (hm : k = 0) :
    Code.wp Tryd.prog (sfx 14 (Tryd.f5.body.getD .skip)) (bodyPost Tryd.prog Tryd.f5 fun e W' => e = .returned (.bool true) ∧ Below W.heap.size W W') { tmps := #[z0, z1, .string s, z3, z4, z5, z6, z7, z8, z9, z10, z11, z12, z13, z14, z15, z16, .int .u32 x, .int .i64 i, .int .i32 y, .int .i64 j, .slice ao m c, .int .i64 k, z23, z24, z25, z26, z27, z28, z29, z30, z31, z32, z33, z34, z35, z36, z37, z38, z39, z40, z41, z42, z43, z44, z45, z46, z47, z48, z49, z50, z51, z52, z53, z54, z55, z56, z57, z58, z59, z60, z61, z62, z63, z64, z65, z66, z67, z68, z69, z70, z71, z72, z73, z74, z75, z76, z77, z78, z79, z80, z81, z82, z83, z84, z85, z86, z87, z88, z89, z90, z91, z92, z93, z94, z95, z96, z97, z98, z99, z100, z101, z102, z103, z104, z105, z106, z107, z108, z109, z110, z111, z112, z113, z114, z115, z116, z117, z118, z119, z120, z121, z122, z123, z124, z125, z126, z127, z128, z129, z130, z131, z132, z133, z134, z135, z136, z137, z138, z139, z140, z141, z142, z143, z144, z145, z146, z147, z148, z149, z150, z151, z152, z153, z154, z155, z156, z157, z158, z159, z160, z161, z162, z163, z164, z165, z166, z167, z168, z169, z170, z171, z172, z173, z174, z175, z176, z177, z178, z179, z180, z181, z182, z183, z184, z185, z186, z187, z188, z189, z190, z191, z192, z193, z194, z195, z196, z197, z198, z199, z200, z201, z202, z203, z204, z205, z206, z207, z208, z209, z210, z211, z212, z213, z214, z215, z216, z217, z218, z219, z220, z221, z222, z223, z224, z225, z226, z227, z228, z229, z230, z231, z232, z233, z234, z235, z236, z237], defers := [] } w := by
  have NM : Hid (∃ b : Bool, (∀ w, Calls Tryd.prog 18 #[.string s] w fun e w' => e = .returned (.int .i64 (if b then 0 else 42)) ∧ w = w') ∧ (∀ w, Calls Tryd.prog 19 #[.string s] w fun e w' => e = .returned (.bool b) ∧ w = w')) := hid ⟨T.name s.data.toList, fun w => name_any w s (by omega), fun w => isName_any w s (by omega)⟩
  obtain ⟨nb, NM1, NM2⟩ := NM.out
  have HM1 : Hid _ := NM1
  have HM2 : Hid _ := NM2
  have HB : Hid (Below W.heap.size W w) := hb
  have HPT : Hid (PowTab w) := hid (htab.on hb)
  have HQ : Hid _ := hQ
  clear NM NM1 NM2 hb htab hQ
  refine sfx_walk 14 rfl (by simp only [sfx]; rfl) ?_
  obtain ⟨rfl, hy⟩ := hy
  have HM : Hid _ := hy
  clear hy
  obtain rfl := hm
  cases hi : (i != 0)
  case' true =>
    have hx0 := hx hi
    subst hx0
  all_goals
    clear hx
    cases nb
    all_goals
      go_wp2_with fail
      refine (HM.out _ HPT.out).mono ?_
      rintro e w11 ⟨rfl, hb11⟩
      go_wp2_with fail
      refine (HQ.out (by first | rfl | trivial) _ hb11).mono ?_
      rintro e w12 ⟨rfl, hb12⟩
      go_wp2_with fail
      refine (HM1.out _).mono ?_
      rintro e w' ⟨rfl, rfl⟩
      go_wp2_with fail
      refine (HM2.out _).mono ?_
      rintro e w' ⟨rfl, rfl⟩
      go_wp2_with fail
      go_ret
      exact ⟨rfl, HB.out.trans ((hb11.trans (hb12.mono hb11.size)).mono HB.out.size)⟩
end Go.Proofs.YtbjinmlelchmgaaDoor
