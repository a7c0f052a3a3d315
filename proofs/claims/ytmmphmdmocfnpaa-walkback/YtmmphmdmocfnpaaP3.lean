/- WalkBack (3). -/
import Derived.Test.YtmmphmdmocfnpaaP3d
namespace Go.Proofs.Ytmmphmdmocfnpaa
open Go.RowKit
set_option maxHeartbeats 8000000
set_option maxRecDepth 100000
theorem back_b2 (W w : World) (va v : Int) (s : Bool) (p : Int) (v0 : 0 ≤ v) (v1 : v < 4294967296) (hb : Below W.heap.size W w) (K : Act → World → Prop) (hK : ∀ a w, Code.wp Try.prog (sfx 8 (Try.f3.body.getD .skip)) (bodyPost Try.prog Try.f3 fun x w' => x = .returned (.bool true) ∧ Below W.heap.size W w') a w → K a w) (z4 z5 z6 z7 z8 z9 z10 z11 z12 z13 z14 z15 z16 z17 z18 z19 z20 z21 z22 z23 z24 z25 z26 z27 z28 z29 z30 z31 z32 z33 z34 z35 z36 z37 z38 z39 z40 z41 z42 z43 z44 z45 z46 z47 z48 z49 z50 z51 z52 z53 z54 z55 z56 z57 z58 z59 z60 z61 z62 z63 z64 z65 z66 z67 z68 z69 z70 z71 z72 z73 z74 z75 z76 z77 z78 z79 z80 z81 z82 z83 z84 z85 z86 z87 z88 z89 z90 z91 z92 z93 z94 z95 z96 z97 z98 z99 z100 z101 z102 z103 z104 z105 z106 z107 z108 z109 z110 z111 z112 z113 z114 z115 z116 z117 z118 z119 z120 z121 z122 z123 z124 z125 z126 z127 z128 z129 z130 z131 z132 z133 z134 z135 z136 z137 z138 z139 z140 z141 z142 z143 z144 z145 z146 z147 z148 z149 z150 z151 z152 z153 z154 z155 z156 z157 z158 z159 z160 z161 z162 z163 z164 z165 z166 z167 z168 z169 z170 z171 z172 z173 z174 z175 z176 z177 z178 z179 z180 z181 z182 z183 z184 z185 z186 z187 z188 z189 z190 z191 z192 z193 z194 z195 z196 z197 z198 z199 z200 z201 z202 z203 z204 z205 z206 z207 z208 z209 z210 z211 z212 z213 z214 z215 z216 z217 z218 z219 z220 z221 z222 z223 z224 z225 z226 z227 z228 z229 z230 z231 z232 z233 z234 z235 z236 z237 z238 z239 z240 z241 z242 z243 z244 : Value) :
    Code.wp Try.prog (hdx 7 (Try.f3.body.getD .skip)) (Exit.then K (bodyPost Try.prog Try.f3 fun x w' => x = .returned (.bool true) ∧ Below W.heap.size W w')) { tmps := #[.int .u32 va, .int .u32 v, .bool s, .int .i64 p, z4, z5, z6, z7, z8, z9, z10, z11, z12, z13, z14, z15, z16, z17, z18, z19, z20, z21, z22, z23, z24, z25, z26, z27, z28, z29, z30, z31, z32, z33, z34, z35, z36, z37, z38, z39, z40, z41, z42, z43, z44, z45, z46, z47, z48, z49, z50, z51, z52, z53, z54, z55, z56, z57, z58, z59, z60, z61, z62, z63, z64, z65, z66, z67, z68, z69, z70, z71, z72, z73, z74, z75, z76, z77, z78, z79, z80, z81, z82, z83, z84, z85, z86, z87, z88, z89, z90, z91, z92, z93, z94, z95, z96, z97, z98, z99, z100, z101, z102, z103, z104, z105, z106, z107, z108, z109, z110, z111, z112, z113, z114, z115, z116, z117, z118, z119, z120, z121, z122, z123, z124, z125, z126, z127, z128, z129, z130, z131, z132, z133, z134, z135, z136, z137, z138, z139, z140, z141, z142, z143, z144, z145, z146, z147, z148, z149, z150, z151, z152, z153, z154, z155, z156, z157, z158, z159, z160, z161, z162, z163, z164, z165, z166, z167, z168, z169, z170, z171, z172, z173, z174, z175, z176, z177, z178, z179, z180, z181, z182, z183, z184, z185, z186, z187, z188, z189, z190, z191, z192, z193, z194, z195, z196, z197, z198, z199, z200, z201, z202, z203, z204, z205, z206, z207, z208, z209, z210, z211, z212, z213, z214, z215, z216, z217, z218, z219, z220, z221, z222, z223, z224, z225, z226, z227, z228, z229, z230, z231, z232, z233, z234, z235, z236, z237, z238, z239, z240, z241, z242, z243, z244], defers := [] } w := by
  have HB := hid hb
  clear hb
  have HPS := hid (fun W => ps_any W v v0 v1)
  have HSB := hid (ps_back v)
  have HSS := hid (fun W => second_any W (ps v))
  refine hd_walk 7 rfl (by simp only [hdx, sfx]; rfl) (by simp only [sfx]; rfl) hK ?_
  clear hK
  intro hK
  go_wp2_with fail
  refine (HPS.out _).mono ?_
  rintro x w3 ⟨rfl, hb3⟩
  have HB3 := hid (below_on (below_on HB.out hb3) (below_one _ (.cells #[.bool (ps v).s, .int .i64 (ps v).p, .bool (ps v).wr, .bool (ps v).ex] 35)))
  have HC3 := hid (Cel.new w3 35 [.bool (ps v).s, .int .i64 (ps v).p, .bool (ps v).wr, .bool (ps v).ex])
  have HB3s := hid (below_on HB.out hb3).size
  clear hb3 HB HPS
  unfold Mp.v
  go_wp2_with fail
  refine (HSS.out _).mono ?_
  rintro x w4 ⟨rfl, hb4⟩
  have HB4 := hid (below_on HB3.out hb4)
  have HC4 := hid (HC3.out.on hb4)
  clear hb4 HB3 HC3 HSS
  generalize w3.heap.size = g at *
  obtain ⟨c0, c1, c2, c3⟩ := cel4 HC4.out
  have h := HSB.out
  clear HSB
  generalize (ps v).enc = d2 at *
  generalize (ps v).err = f3 at *
  generalize psE v = e3 at *
  generalize ps v = m at *
  obtain ⟨ms, mp, mw, me⟩ := m
  simp only at *
  rcases h with ⟨rfl, rfl, rfl, hse, hv⟩ | ⟨rfl, hz, rfl⟩ | ⟨rfl, hz, hv⟩
  · have hvb : (d2 == 0) = false := by simp [hv]
    cases me
    · clear hse
      go_upto_region 13 with fail
      exact back_d W w4 va d2 s p g ⟨ms, mp, mw, false⟩ HC4.out HB4.out HB3s.out _ ‹∀ (a : Act) (w : World), Code.wp Try.prog _ _ a w → _› _ _ _ _ _ _ _ _ _ _ _ _ _ _ _ _ _ _ _ _ _ _ _ _ _ _ _ _ _ _ _ _ _ _ _ _ _ _ _ _ _ _ _ _ _ _ _ _ _ _ _ _ _ _ _ _ _ _ _ _ _ _ _ _ _ _ _ _ _ _ _ _ _ _ _ _ _ _ _ _ _ _ _ _ _ _ _ _ _ _ _ _ _ _ _ _ _ _ _ _ _ _ _ _ _ _ _ _ _ _ _ _ _ _ _ _ _ _ _ _ _ _ _ _ _ _ _ _ _ _ _ _ _ _ _ _ _ _ _ _ _ _ _ _ _ _ _ _ _ _ _ _ _ _ _ _ _ _ _ _ _ _ _ _ _ _ _ _ _ _ _ _ _ _ _ _ _ _ _ _ _ _ _ _ _ _ _ _ _ _ _ _ _ _ _ _ _ _ _ _ _ _ _ _ _ _ _ _ _ _ _ _ _ _ _ _ _ _ _ _ _ _ _ _ _ _ _ _ _ _ _ _ _ _ _ _ _ _ _ _
    · have hms : ms = true := by simpa using hse
      subst hms
      clear hse
      go_upto_region 13 with fail
      exact back_d W w4 va d2 s p g ⟨true, mp, mw, true⟩ HC4.out HB4.out HB3s.out _ ‹∀ (a : Act) (w : World), Code.wp Try.prog _ _ a w → _› _ _ _ _ _ _ _ _ _ _ _ _ _ _ _ _ _ _ _ _ _ _ _ _ _ _ _ _ _ _ _ _ _ _ _ _ _ _ _ _ _ _ _ _ _ _ _ _ _ _ _ _ _ _ _ _ _ _ _ _ _ _ _ _ _ _ _ _ _ _ _ _ _ _ _ _ _ _ _ _ _ _ _ _ _ _ _ _ _ _ _ _ _ _ _ _ _ _ _ _ _ _ _ _ _ _ _ _ _ _ _ _ _ _ _ _ _ _ _ _ _ _ _ _ _ _ _ _ _ _ _ _ _ _ _ _ _ _ _ _ _ _ _ _ _ _ _ _ _ _ _ _ _ _ _ _ _ _ _ _ _ _ _ _ _ _ _ _ _ _ _ _ _ _ _ _ _ _ _ _ _ _ _ _ _ _ _ _ _ _ _ _ _ _ _ _ _ _ _ _ _ _ _ _ _ _ _ _ _ _ _ _ _ _ _ _ _ _ _ _ _ _ _ _ _ _ _ _ _ _ _ _ _ _ _ _ _ _ _ _
  · unfold Mp.z at hz
    cases hz
    go_upto_region 13 with fail
    exact back_d W w4 va 0 s p g ⟨false, 0, false, false⟩ HC4.out HB4.out HB3s.out _ ‹∀ (a : Act) (w : World), Code.wp Try.prog _ _ a w → _› _ _ _ _ _ _ _ _ _ _ _ _ _ _ _ _ _ _ _ _ _ _ _ _ _ _ _ _ _ _ _ _ _ _ _ _ _ _ _ _ _ _ _ _ _ _ _ _ _ _ _ _ _ _ _ _ _ _ _ _ _ _ _ _ _ _ _ _ _ _ _ _ _ _ _ _ _ _ _ _ _ _ _ _ _ _ _ _ _ _ _ _ _ _ _ _ _ _ _ _ _ _ _ _ _ _ _ _ _ _ _ _ _ _ _ _ _ _ _ _ _ _ _ _ _ _ _ _ _ _ _ _ _ _ _ _ _ _ _ _ _ _ _ _ _ _ _ _ _ _ _ _ _ _ _ _ _ _ _ _ _ _ _ _ _ _ _ _ _ _ _ _ _ _ _ _ _ _ _ _ _ _ _ _ _ _ _ _ _ _ _ _ _ _ _ _ _ _ _ _ _ _ _ _ _ _ _ _ _ _ _ _ _ _ _ _ _ _ _ _ _ _ _ _ _ _ _ _ _ _ _ _ _ _ _ _ _ _ _ _
  · unfold Mp.z at hz
    cases hz
    have hvb : (v == 0) = false := by simp [hv]
    go_upto_region 13 with fail
    exact back_d W w4 va v s p g ⟨false, 0, false, false⟩ HC4.out HB4.out HB3s.out _ ‹∀ (a : Act) (w : World), Code.wp Try.prog _ _ a w → _› _ _ _ _ _ _ _ _ _ _ _ _ _ _ _ _ _ _ _ _ _ _ _ _ _ _ _ _ _ _ _ _ _ _ _ _ _ _ _ _ _ _ _ _ _ _ _ _ _ _ _ _ _ _ _ _ _ _ _ _ _ _ _ _ _ _ _ _ _ _ _ _ _ _ _ _ _ _ _ _ _ _ _ _ _ _ _ _ _ _ _ _ _ _ _ _ _ _ _ _ _ _ _ _ _ _ _ _ _ _ _ _ _ _ _ _ _ _ _ _ _ _ _ _ _ _ _ _ _ _ _ _ _ _ _ _ _ _ _ _ _ _ _ _ _ _ _ _ _ _ _ _ _ _ _ _ _ _ _ _ _ _ _ _ _ _ _ _ _ _ _ _ _ _ _ _ _ _ _ _ _ _ _ _ _ _ _ _ _ _ _ _ _ _ _ _ _ _ _ _ _ _ _ _ _ _ _ _ _ _ _ _ _ _ _ _ _ _ _ _ _ _ _ _ _ _ _ _ _ _ _ _ _ _ _ _ _ _ _ _
theorem back_a2 (W w : World) (va v : Int) (s : Bool) (p : Int) (v0 : 0 ≤ v) (v1 : v < 4294967296) (hb : Below W.heap.size W w) (K : Act → World → Prop) (hK : ∀ a w, Code.wp Try.prog (sfx 5 (Try.f3.body.getD .skip)) (bodyPost Try.prog Try.f3 fun x w' => x = .returned (.bool true) ∧ Below W.heap.size W w') a w → K a w) (z4 z5 z6 z7 z8 z9 z10 z11 z12 z13 z14 z15 z16 z17 z18 z19 z20 z21 z22 z23 z24 z25 z26 z27 z28 z29 z30 z31 z32 z33 z34 z35 z36 z37 z38 z39 z40 z41 z42 z43 z44 z45 z46 z47 z48 z49 z50 z51 z52 z53 z54 z55 z56 z57 z58 z59 z60 z61 z62 z63 z64 z65 z66 z67 z68 z69 z70 z71 z72 z73 z74 z75 z76 z77 z78 z79 z80 z81 z82 z83 z84 z85 z86 z87 z88 z89 z90 z91 z92 z93 z94 z95 z96 z97 z98 z99 z100 z101 z102 z103 z104 z105 z106 z107 z108 z109 z110 z111 z112 z113 z114 z115 z116 z117 z118 z119 z120 z121 z122 z123 z124 z125 z126 z127 z128 z129 z130 z131 z132 z133 z134 z135 z136 z137 z138 z139 z140 z141 z142 z143 z144 z145 z146 z147 z148 z149 z150 z151 z152 z153 z154 z155 z156 z157 z158 z159 z160 z161 z162 z163 z164 z165 z166 z167 z168 z169 z170 z171 z172 z173 z174 z175 z176 z177 z178 z179 z180 z181 z182 z183 z184 z185 z186 z187 z188 z189 z190 z191 z192 z193 z194 z195 z196 z197 z198 z199 z200 z201 z202 z203 z204 z205 z206 z207 z208 z209 z210 z211 z212 z213 z214 z215 z216 z217 z218 z219 z220 z221 z222 z223 z224 z225 z226 z227 z228 z229 z230 z231 z232 z233 z234 z235 z236 z237 z238 z239 z240 z241 z242 z243 z244 : Value) :
    Code.wp Try.prog (hdx 4 (Try.f3.body.getD .skip)) (Exit.then K (bodyPost Try.prog Try.f3 fun x w' => x = .returned (.bool true) ∧ Below W.heap.size W w')) { tmps := #[.int .u32 va, .int .u32 v, .bool s, .int .i64 p, z4, z5, z6, z7, z8, z9, z10, z11, z12, z13, z14, z15, z16, z17, z18, z19, z20, z21, z22, z23, z24, z25, z26, z27, z28, z29, z30, z31, z32, z33, z34, z35, z36, z37, z38, z39, z40, z41, z42, z43, z44, z45, z46, z47, z48, z49, z50, z51, z52, z53, z54, z55, z56, z57, z58, z59, z60, z61, z62, z63, z64, z65, z66, z67, z68, z69, z70, z71, z72, z73, z74, z75, z76, z77, z78, z79, z80, z81, z82, z83, z84, z85, z86, z87, z88, z89, z90, z91, z92, z93, z94, z95, z96, z97, z98, z99, z100, z101, z102, z103, z104, z105, z106, z107, z108, z109, z110, z111, z112, z113, z114, z115, z116, z117, z118, z119, z120, z121, z122, z123, z124, z125, z126, z127, z128, z129, z130, z131, z132, z133, z134, z135, z136, z137, z138, z139, z140, z141, z142, z143, z144, z145, z146, z147, z148, z149, z150, z151, z152, z153, z154, z155, z156, z157, z158, z159, z160, z161, z162, z163, z164, z165, z166, z167, z168, z169, z170, z171, z172, z173, z174, z175, z176, z177, z178, z179, z180, z181, z182, z183, z184, z185, z186, z187, z188, z189, z190, z191, z192, z193, z194, z195, z196, z197, z198, z199, z200, z201, z202, z203, z204, z205, z206, z207, z208, z209, z210, z211, z212, z213, z214, z215, z216, z217, z218, z219, z220, z221, z222, z223, z224, z225, z226, z227, z228, z229, z230, z231, z232, z233, z234, z235, z236, z237, z238, z239, z240, z241, z242, z243, z244], defers := [] } w := by
  have HB := hid hb
  clear hb
  have HPF := hid (fun W => pf_any W v v0 v1)
  have HPB := hid (pf_back v)
  have HFF := hid (fun W => first_any W (pf v))
  refine hd_walk 4 rfl (by simp only [hdx, sfx]; rfl) (by simp only [sfx]; rfl) hK ?_
  clear hK
  intro hK
  go_wp2_with fail
  refine (HPF.out _).mono ?_
  rintro x w2 ⟨rfl, rfl⟩
  go_wp2_with fail
  refine (HFF.out _).mono ?_
  rintro x w2 ⟨rfl, rfl⟩
  clear HPF HFF
  have h := HPB.out
  clear HPB
  generalize fW (pf v) = d at *
  generalize fE (pf v) = fe at *
  generalize pf v = q at *
  generalize pfE v = e2 at *
  rcases h with ⟨rfl, ⟨q0, q1⟩, rfl, rfl, hv⟩ | ⟨rfl, rfl, rfl⟩ | ⟨rfl, rfl, hv⟩
  · have h2 : (decide (q < 0) || decide (63 < q)) = false := by simp; omega
    have h3 : decide (q < 0) = false := by simp; omega
    have h4 : decide (63 < q) = false := by simp; omega
    go_upto_region 9 with fail
    exact back_b2 W w2 va d s p v0 v1 HB.out _ ‹∀ (a : Act) (w : World), Code.wp Try.prog _ _ a w → _› _ _ _ _ _ _ _ _ _ _ _ _ _ _ _ _ _ _ _ _ _ _ _ _ _ _ _ _ _ _ _ _ _ _ _ _ _ _ _ _ _ _ _ _ _ _ _ _ _ _ _ _ _ _ _ _ _ _ _ _ _ _ _ _ _ _ _ _ _ _ _ _ _ _ _ _ _ _ _ _ _ _ _ _ _ _ _ _ _ _ _ _ _ _ _ _ _ _ _ _ _ _ _ _ _ _ _ _ _ _ _ _ _ _ _ _ _ _ _ _ _ _ _ _ _ _ _ _ _ _ _ _ _ _ _ _ _ _ _ _ _ _ _ _ _ _ _ _ _ _ _ _ _ _ _ _ _ _ _ _ _ _ _ _ _ _ _ _ _ _ _ _ _ _ _ _ _ _ _ _ _ _ _ _ _ _ _ _ _ _ _ _ _ _ _ _ _ _ _ _ _ _ _ _ _ _ _ _ _ _ _ _ _ _ _ _ _ _ _ _ _ _ _ _ _ _ _ _ _ _ _ _ _ _ _ _ _ _ _ _ _
  · go_upto_region 9 with fail
    exact back_b2 W w2 va 0 s p v0 v1 HB.out _ ‹∀ (a : Act) (w : World), Code.wp Try.prog _ _ a w → _› _ _ _ _ _ _ _ _ _ _ _ _ _ _ _ _ _ _ _ _ _ _ _ _ _ _ _ _ _ _ _ _ _ _ _ _ _ _ _ _ _ _ _ _ _ _ _ _ _ _ _ _ _ _ _ _ _ _ _ _ _ _ _ _ _ _ _ _ _ _ _ _ _ _ _ _ _ _ _ _ _ _ _ _ _ _ _ _ _ _ _ _ _ _ _ _ _ _ _ _ _ _ _ _ _ _ _ _ _ _ _ _ _ _ _ _ _ _ _ _ _ _ _ _ _ _ _ _ _ _ _ _ _ _ _ _ _ _ _ _ _ _ _ _ _ _ _ _ _ _ _ _ _ _ _ _ _ _ _ _ _ _ _ _ _ _ _ _ _ _ _ _ _ _ _ _ _ _ _ _ _ _ _ _ _ _ _ _ _ _ _ _ _ _ _ _ _ _ _ _ _ _ _ _ _ _ _ _ _ _ _ _ _ _ _ _ _ _ _ _ _ _ _ _ _ _ _ _ _ _ _ _ _ _ _ _ _ _ _ _ _
  · have hvb : (v == 0) = false := by simp [hv]
    go_upto_region 9 with fail
    exact back_b2 W w2 va v s p v0 v1 HB.out _ ‹∀ (a : Act) (w : World), Code.wp Try.prog _ _ a w → _› _ _ _ _ _ _ _ _ _ _ _ _ _ _ _ _ _ _ _ _ _ _ _ _ _ _ _ _ _ _ _ _ _ _ _ _ _ _ _ _ _ _ _ _ _ _ _ _ _ _ _ _ _ _ _ _ _ _ _ _ _ _ _ _ _ _ _ _ _ _ _ _ _ _ _ _ _ _ _ _ _ _ _ _ _ _ _ _ _ _ _ _ _ _ _ _ _ _ _ _ _ _ _ _ _ _ _ _ _ _ _ _ _ _ _ _ _ _ _ _ _ _ _ _ _ _ _ _ _ _ _ _ _ _ _ _ _ _ _ _ _ _ _ _ _ _ _ _ _ _ _ _ _ _ _ _ _ _ _ _ _ _ _ _ _ _ _ _ _ _ _ _ _ _ _ _ _ _ _ _ _ _ _ _ _ _ _ _ _ _ _ _ _ _ _ _ _ _ _ _ _ _ _ _ _ _ _ _ _ _ _ _ _ _ _ _ _ _ _ _ _ _ _ _ _ _ _ _ _ _ _ _ _ _ _ _ _ _ _ _ _
theorem back_any (W : World) (va v : Int) (s : Bool) (p : Int) (a0 : 0 ≤ va) (a1 : va < 4294967296) (v0 : 0 ≤ v) (v1 : v < 4294967296) :
    Calls Try.prog 3 #[.int .u32 va, .int .u32 v, .bool s, .int .i64 p] W fun x W' => x = .returned (.bool true) ∧ Below W.heap.size W W' := by
  have H1 := hid (split_any W va a0 a1)
  have H2 := hid (join_any W (spI va) (spJ va) (spO va))
  have HJ := hid (join_split va a0)
  rw [HJ.out.1] at H2
  go_enter Try.func3, Try.ntmps3
  go_wp2_with fail
  refine H1.out.mono ?_
  rintro x w1 ⟨rfl, rfl⟩
  go_wp2_with fail
  refine H2.out.mono ?_
  rintro x w1 ⟨rfl, rfl⟩
  clear H1 H2
  have h := HJ.out.2
  clear HJ
  generalize jW (spI va) (spJ va) (spO va) = u at *
  generalize spI va = i at *
  generalize spJ va = j at *
  generalize spO va = o at *
  generalize spE va = e at *
  go_wp2_with fail
  refine (known_any _).mono ?_
  rintro x w2 ⟨rfl, hb⟩
  have HB2 := hid hb
  clear hb
  rcases h with ⟨rfl, ⟨h1, h2⟩, rfl⟩ | ⟨rfl, h3, rfl⟩
  · go_upto_region 5 with fail
    exact back_a2 w1 w2 u v s p v0 v1 HB2.out _ ‹∀ (a : Act) (w : World), Code.wp Try.prog _ _ a w → _› _ _ _ _ _ _ _ _ _ _ _ _ _ _ _ _ _ _ _ _ _ _ _ _ _ _ _ _ _ _ _ _ _ _ _ _ _ _ _ _ _ _ _ _ _ _ _ _ _ _ _ _ _ _ _ _ _ _ _ _ _ _ _ _ _ _ _ _ _ _ _ _ _ _ _ _ _ _ _ _ _ _ _ _ _ _ _ _ _ _ _ _ _ _ _ _ _ _ _ _ _ _ _ _ _ _ _ _ _ _ _ _ _ _ _ _ _ _ _ _ _ _ _ _ _ _ _ _ _ _ _ _ _ _ _ _ _ _ _ _ _ _ _ _ _ _ _ _ _ _ _ _ _ _ _ _ _ _ _ _ _ _ _ _ _ _ _ _ _ _ _ _ _ _ _ _ _ _ _ _ _ _ _ _ _ _ _ _ _ _ _ _ _ _ _ _ _ _ _ _ _ _ _ _ _ _ _ _ _ _ _ _ _ _ _ _ _ _ _ _ _ _ _ _ _ _ _ _ _ _ _ _ _ _ _ _ _ _ _ _ _
  · by_cases h1 : va < 1073741824
    · have h2 : ¬ va % 4 = 0 := fun h => h3 ⟨h1, h⟩
      have h4 : (va % 4 == 0) = false := by simp [h2]
      clear h3
      go_upto_region 5 with fail
      exact back_a2 w1 w2 va v s p v0 v1 HB2.out _ ‹∀ (a : Act) (w : World), Code.wp Try.prog _ _ a w → _› _ _ _ _ _ _ _ _ _ _ _ _ _ _ _ _ _ _ _ _ _ _ _ _ _ _ _ _ _ _ _ _ _ _ _ _ _ _ _ _ _ _ _ _ _ _ _ _ _ _ _ _ _ _ _ _ _ _ _ _ _ _ _ _ _ _ _ _ _ _ _ _ _ _ _ _ _ _ _ _ _ _ _ _ _ _ _ _ _ _ _ _ _ _ _ _ _ _ _ _ _ _ _ _ _ _ _ _ _ _ _ _ _ _ _ _ _ _ _ _ _ _ _ _ _ _ _ _ _ _ _ _ _ _ _ _ _ _ _ _ _ _ _ _ _ _ _ _ _ _ _ _ _ _ _ _ _ _ _ _ _ _ _ _ _ _ _ _ _ _ _ _ _ _ _ _ _ _ _ _ _ _ _ _ _ _ _ _ _ _ _ _ _ _ _ _ _ _ _ _ _ _ _ _ _ _ _ _ _ _ _ _ _ _ _ _ _ _ _ _ _ _ _ _ _ _ _ _ _ _ _ _ _ _ _ _ _ _ _ _ _
    · clear h3
      go_upto_region 5 with fail
      exact back_a2 w1 w2 va v s p v0 v1 HB2.out _ ‹∀ (a : Act) (w : World), Code.wp Try.prog _ _ a w → _› _ _ _ _ _ _ _ _ _ _ _ _ _ _ _ _ _ _ _ _ _ _ _ _ _ _ _ _ _ _ _ _ _ _ _ _ _ _ _ _ _ _ _ _ _ _ _ _ _ _ _ _ _ _ _ _ _ _ _ _ _ _ _ _ _ _ _ _ _ _ _ _ _ _ _ _ _ _ _ _ _ _ _ _ _ _ _ _ _ _ _ _ _ _ _ _ _ _ _ _ _ _ _ _ _ _ _ _ _ _ _ _ _ _ _ _ _ _ _ _ _ _ _ _ _ _ _ _ _ _ _ _ _ _ _ _ _ _ _ _ _ _ _ _ _ _ _ _ _ _ _ _ _ _ _ _ _ _ _ _ _ _ _ _ _ _ _ _ _ _ _ _ _ _ _ _ _ _ _ _ _ _ _ _ _ _ _ _ _ _ _ _ _ _ _ _ _ _ _ _ _ _ _ _ _ _ _ _ _ _ _ _ _ _ _ _ _ _ _ _ _ _ _ _ _ _ _ _ _ _ _ _ _ _ _ _ _ _ _ _ _
end Go.Proofs.Ytmmphmdmocfnpaa
