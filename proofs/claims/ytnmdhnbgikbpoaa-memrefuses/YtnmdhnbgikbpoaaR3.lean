/- MemRefuses (3). -/
import Derived.Test.YtnmdhnbgikbpoaaR1
import Derived.Test.YtnmdhnbgikbpoaaR2
import Derived.Deep.DeepCutAuto
namespace Go.Proofs.Ytnmdhnbgikbpoaa
open Go.RowKit
set_option maxRecDepth 40000 in
set_option maxHeartbeats 8000000 in
theorem tail3y {w wr : World} {g5 : Nat} {s : Bool} {p oo : Int} {ao : Option Addr} {n c : Nat} {gx : Nat} {z2 z3 z6 z7 z8 z9 z10 z14 z15 z16 z17 z18 z19 z20 z21 z22 z23 z24 z25 z26 z27 z28 z29 z30 z31 z32 z33 z34 z35 z36 z37 z38 z39 z40 z41 z42 z43 z44 z45 z46 z47 z48 z49 z50 z51 z52 z53 z54 z55 z56 z57 z58 z59 z60 z61 z62 z63 z64 z65 z66 z67 z68 z69 z70 z71 z72 z73 z74 z75 z76 z77 z78 z79 z80 z81 z82 z83 z84 z85 z86 z87 z88 z89 z90 z91 z92 z93 z94 z95 z96 z97 z98 z99 z100 z101 z102 z103 z104 z105 z106 z107 z108 z109 z110 z111 z112 z113 z114 z115 z116 z117 z118 z119 z120 z121 z122 z123 z124 z125 z126 z127 z128 z129 z130 z131 z132 z133 z134 z135 z136 z137 z138 z139 z140 z141 z142 z143 z144 z145 z146 z147 z148 z149 z150 z151 z152 z153 z154 z155 z156 z157 z158 z159 z160 z161 z162 z163 z164 z165 z166 z167 z168 z169 z170 z171 z172 z173 z174 z175 z176 z177 z178 z179 z180 z181 z182 z183 z184 z185 z186 z187 z188 z189 z190 z191 z192 z193 z194 z195 z196 z197 z198 z199 z200 z201 z202 z203 z204 z205 z206 z207 z208 z209 z210 z211 z212 z213 z214 z215 z216 z217 z218 z219 z220 z221 z222 z223 z224 z225 z226 z227 z228 z229 z230 z231 z232 z233 z234 z235 z236 z237 z238 z239 z240 z241 z242 z243 z244 z245 z246 : Value} (hB : Below w.heap.size w wr) (hC : Cel wr g5 23 [.bool s, .int .i64 p]) (hn : n ≤ 9223372036854775807) :
    Code.wp Try.prog (sfx 3 (Try.f3.body.getD .skip)) (bodyPost Try.prog Try.f3 fun x w' => x = .returned (.bool true) ∧ Below w.heap.size w w') { tmps := #[.agg #[.bool s, .int .i64 p], .int .i64 oo, z2, z3, .slice ao n c, .pointer (some ⟨g5, 0, none⟩), z6, z7, z8, z9, z10, .pointer (some ⟨gx, 0, none⟩), .int .i64 0, .bool true, z14, z15, z16, z17, z18, z19, z20, z21, z22, z23, z24, z25, z26, z27, z28, z29, z30, z31, z32, z33, z34, z35, z36, z37, z38, z39, z40, z41, z42, z43, z44, z45, z46, z47, z48, z49, z50, z51, z52, z53, z54, z55, z56, z57, z58, z59, z60, z61, z62, z63, z64, z65, z66, z67, z68, z69, z70, z71, z72, z73, z74, z75, z76, z77, z78, z79, z80, z81, z82, z83, z84, z85, z86, z87, z88, z89, z90, z91, z92, z93, z94, z95, z96, z97, z98, z99, z100, z101, z102, z103, z104, z105, z106, z107, z108, z109, z110, z111, z112, z113, z114, z115, z116, z117, z118, z119, z120, z121, z122, z123, z124, z125, z126, z127, z128, z129, z130, z131, z132, z133, z134, z135, z136, z137, z138, z139, z140, z141, z142, z143, z144, z145, z146, z147, z148, z149, z150, z151, z152, z153, z154, z155, z156, z157, z158, z159, z160, z161, z162, z163, z164, z165, z166, z167, z168, z169, z170, z171, z172, z173, z174, z175, z176, z177, z178, z179, z180, z181, z182, z183, z184, z185, z186, z187, z188, z189, z190, z191, z192, z193, z194, z195, z196, z197, z198, z199, z200, z201, z202, z203, z204, z205, z206, z207, z208, z209, z210, z211, z212, z213, z214, z215, z216, z217, z218, z219, z220, z221, z222, z223, z224, z225, z226, z227, z228, z229, z230, z231, z232, z233, z234, z235, z236, z237, z238, z239, z240, z241, z242, z243, z244, z245, z246], defers := [] } wr := by
  have HBc := hid hB
  have HCc := hid hC
  clear hB hC
  have HN2 : Hid (∀ x, Calls Try.prog 7 #[.int .i64 2, .int .i64 2] x fun y w' => ∃ f, y = .returned (.tuple #[ptr f.gm, .int .i64 0]) ∧ NewMem x w' f (MS.new 2 2)) := hid (fun x => new_any x 2 2 (by decide) (by decide) (by decide) (by decide))
  refine sfx_walk 3 rfl (by simp only [sfx]; rfl) ?_
  go_wp2_with fail
  refine (HN2.out _).mono ?_
  rintro x wk ⟨f, rfl, hm⟩
  have HQ : Hid (RI w wk g5 s p f (MS.new 2 2)) := hid ⟨below_on HBc.out hm.below, HCc.out.on hm.below, hm.mem, fun k hk => Nat.le_trans HBc.out.size (hm.new k hk), fun hm5 => by have := hm.new g5 (Fp.w_all g5 hm5); have := HCc.out.lt; omega⟩
  have z0 := HQ.out.z0
  have z1 := HQ.out.z1
  clear hm HBc HCc HN2
  simp only [ptr]
  go_wp2_with fail
  refine (ri_in HQ.out).mono ?_
  clear HQ z0 z1
  rintro x wk ⟨rfl, hq⟩
  have HQ := hid hq
  have z0 := HQ.out.z0
  have z1 := HQ.out.z1
  clear hq
  go_wp2_with fail
  refine (ri_w1 HQ.out).mono ?_
  clear HQ z0 z1
  rintro x wk ⟨rfl, hq⟩
  have HQ := hid hq
  have z0 := HQ.out.z0
  have z1 := HQ.out.z1
  clear hq
  go_upto_region 8 with fail
  have HMc := hid m1_c
  have HMw := hid m1_word
  have HMa := hid (m1_at s p)
  generalize M1 = m at *
  generalize hgm : f.gm = gm
  go_cut [16] from 86 to 93 (fun r w1 => w1 = wk ∧ r = .bool (decide (0 ≤ p ∧ p < 2)))
  case first =>
    by_cases h0 : 0 ≤ p
    · go_wp2_with fail
      go_meet
      exact ⟨rfl, by simp [h0]⟩
    · have h1 : p < 0 := by omega
      go_wp2_with fail
      go_meet
      exact ⟨rfl, by simp <;> omega⟩
  case rest =>
    obtain ⟨rfl, rfl⟩ := hcut
    subst hgm
    by_cases hp : 0 ≤ p ∧ p < 2
    · have HA : (m.at s p).isSome = true := by rw [HMa.out]; simpa using hp
      have HD : decide (0 ≤ p ∧ p < 2) = true := by simpa using hp
      rw [HD]
      by_cases hin : In oo
      · exact (‹∀ (a : Act) (w : World), Code.wp Try.prog _ _ a w → _› _ _ (tailC HQ.out HMc.out HMw.out HA hn hin.1 hin.2))
      · have ho : oo < 0 ∨ (0 ≤ oo ∧ 1024 ≤ oo) := by unfold In at hin; omega
        rcases ho with ho | ⟨ho, ho2⟩
        · exact (‹∀ (a : Act) (w : World), Code.wp Try.prog _ _ a w → _› _ _ (tailB HQ.out HMc.out HMw.out HA hn ho))
        · exact (‹∀ (a : Act) (w : World), Code.wp Try.prog _ _ a w → _› _ _ (tailD HQ.out HMc.out HMw.out HA hn ho ho2))
    · have HA : m.at s p = none := by
        have h1 := HMa.out
        cases hq : m.at s p with
        | none => rfl
        | some k => rw [hq] at h1; exact absurd (of_decide_eq_true h1.symm) hp
      have HD : decide (0 ≤ p ∧ p < 2) = false := by simpa using hp
      rw [HD]
      exact (‹∀ (a : Act) (w : World), Code.wp Try.prog _ _ a w → _› _ _ (tailA HQ.out HMc.out HMw.out HA hn))
set_option maxRecDepth 40000 in
set_option maxHeartbeats 8000000 in
theorem tail3n {w wr : World} {g5 : Nat} {s : Bool} {p oo : Int} {ao : Option Addr} {n c : Nat}  {z2 z3 z6 z7 z8 z9 z10 z14 z15 z16 z17 z18 z19 z20 z21 z22 z23 z24 z25 z26 z27 z28 z29 z30 z31 z32 z33 z34 z35 z36 z37 z38 z39 z40 z41 z42 z43 z44 z45 z46 z47 z48 z49 z50 z51 z52 z53 z54 z55 z56 z57 z58 z59 z60 z61 z62 z63 z64 z65 z66 z67 z68 z69 z70 z71 z72 z73 z74 z75 z76 z77 z78 z79 z80 z81 z82 z83 z84 z85 z86 z87 z88 z89 z90 z91 z92 z93 z94 z95 z96 z97 z98 z99 z100 z101 z102 z103 z104 z105 z106 z107 z108 z109 z110 z111 z112 z113 z114 z115 z116 z117 z118 z119 z120 z121 z122 z123 z124 z125 z126 z127 z128 z129 z130 z131 z132 z133 z134 z135 z136 z137 z138 z139 z140 z141 z142 z143 z144 z145 z146 z147 z148 z149 z150 z151 z152 z153 z154 z155 z156 z157 z158 z159 z160 z161 z162 z163 z164 z165 z166 z167 z168 z169 z170 z171 z172 z173 z174 z175 z176 z177 z178 z179 z180 z181 z182 z183 z184 z185 z186 z187 z188 z189 z190 z191 z192 z193 z194 z195 z196 z197 z198 z199 z200 z201 z202 z203 z204 z205 z206 z207 z208 z209 z210 z211 z212 z213 z214 z215 z216 z217 z218 z219 z220 z221 z222 z223 z224 z225 z226 z227 z228 z229 z230 z231 z232 z233 z234 z235 z236 z237 z238 z239 z240 z241 z242 z243 z244 z245 z246 : Value} (hB : Below w.heap.size w wr) (hC : Cel wr g5 23 [.bool s, .int .i64 p]) (hn : n ≤ 9223372036854775807) :
    Code.wp Try.prog (sfx 3 (Try.f3.body.getD .skip)) (bodyPost Try.prog Try.f3 fun x w' => x = .returned (.bool true) ∧ Below w.heap.size w w') { tmps := #[.agg #[.bool s, .int .i64 p], .int .i64 oo, z2, z3, .slice ao n c, .pointer (some ⟨g5, 0, none⟩), z6, z7, z8, z9, z10, .pointer none, .int .i64 1, .bool false, z14, z15, z16, z17, z18, z19, z20, z21, z22, z23, z24, z25, z26, z27, z28, z29, z30, z31, z32, z33, z34, z35, z36, z37, z38, z39, z40, z41, z42, z43, z44, z45, z46, z47, z48, z49, z50, z51, z52, z53, z54, z55, z56, z57, z58, z59, z60, z61, z62, z63, z64, z65, z66, z67, z68, z69, z70, z71, z72, z73, z74, z75, z76, z77, z78, z79, z80, z81, z82, z83, z84, z85, z86, z87, z88, z89, z90, z91, z92, z93, z94, z95, z96, z97, z98, z99, z100, z101, z102, z103, z104, z105, z106, z107, z108, z109, z110, z111, z112, z113, z114, z115, z116, z117, z118, z119, z120, z121, z122, z123, z124, z125, z126, z127, z128, z129, z130, z131, z132, z133, z134, z135, z136, z137, z138, z139, z140, z141, z142, z143, z144, z145, z146, z147, z148, z149, z150, z151, z152, z153, z154, z155, z156, z157, z158, z159, z160, z161, z162, z163, z164, z165, z166, z167, z168, z169, z170, z171, z172, z173, z174, z175, z176, z177, z178, z179, z180, z181, z182, z183, z184, z185, z186, z187, z188, z189, z190, z191, z192, z193, z194, z195, z196, z197, z198, z199, z200, z201, z202, z203, z204, z205, z206, z207, z208, z209, z210, z211, z212, z213, z214, z215, z216, z217, z218, z219, z220, z221, z222, z223, z224, z225, z226, z227, z228, z229, z230, z231, z232, z233, z234, z235, z236, z237, z238, z239, z240, z241, z242, z243, z244, z245, z246], defers := [] } wr := by
  have HBc := hid hB
  have HCc := hid hC
  clear hB hC
  have HN2 : Hid (∀ x, Calls Try.prog 7 #[.int .i64 2, .int .i64 2] x fun y w' => ∃ f, y = .returned (.tuple #[ptr f.gm, .int .i64 0]) ∧ NewMem x w' f (MS.new 2 2)) := hid (fun x => new_any x 2 2 (by decide) (by decide) (by decide) (by decide))
  refine sfx_walk 3 rfl (by simp only [sfx]; rfl) ?_
  go_wp2_with fail
  refine (num_any _ _).mono ?_
  rintro x wk ⟨rfl, rfl⟩
  go_wp2_with fail
  refine (HN2.out _).mono ?_
  rintro x wk ⟨f, rfl, hm⟩
  have HQ : Hid (RI w wk g5 s p f (MS.new 2 2)) := hid ⟨below_on HBc.out hm.below, HCc.out.on hm.below, hm.mem, fun k hk => Nat.le_trans HBc.out.size (hm.new k hk), fun hm5 => by have := hm.new g5 (Fp.w_all g5 hm5); have := HCc.out.lt; omega⟩
  have z0 := HQ.out.z0
  have z1 := HQ.out.z1
  clear hm HBc HCc HN2
  simp only [ptr]
  go_wp2_with fail
  refine (ri_in HQ.out).mono ?_
  clear HQ z0 z1
  rintro x wk ⟨rfl, hq⟩
  have HQ := hid hq
  have z0 := HQ.out.z0
  have z1 := HQ.out.z1
  clear hq
  go_wp2_with fail
  refine (ri_w1 HQ.out).mono ?_
  clear HQ z0 z1
  rintro x wk ⟨rfl, hq⟩
  have HQ := hid hq
  have z0 := HQ.out.z0
  have z1 := HQ.out.z1
  clear hq
  go_upto_region 8 with fail
  have HMc := hid m1_c
  have HMw := hid m1_word
  have HMa := hid (m1_at s p)
  generalize M1 = m at *
  generalize hgm : f.gm = gm
  go_cut [16] from 86 to 93 (fun r w1 => w1 = wk ∧ r = .bool (decide (0 ≤ p ∧ p < 2)))
  case first =>
    by_cases h0 : 0 ≤ p
    · go_wp2_with fail
      go_meet
      exact ⟨rfl, by simp [h0]⟩
    · have h1 : p < 0 := by omega
      go_wp2_with fail
      go_meet
      exact ⟨rfl, by simp <;> omega⟩
  case rest =>
    obtain ⟨rfl, rfl⟩ := hcut
    subst hgm
    by_cases hp : 0 ≤ p ∧ p < 2
    · have HA : (m.at s p).isSome = true := by rw [HMa.out]; simpa using hp
      have HD : decide (0 ≤ p ∧ p < 2) = true := by simpa using hp
      rw [HD]
      by_cases hin : In oo
      · exact (‹∀ (a : Act) (w : World), Code.wp Try.prog _ _ a w → _› _ _ (tailC HQ.out HMc.out HMw.out HA hn hin.1 hin.2))
      · have ho : oo < 0 ∨ (0 ≤ oo ∧ 1024 ≤ oo) := by unfold In at hin; omega
        rcases ho with ho | ⟨ho, ho2⟩
        · exact (‹∀ (a : Act) (w : World), Code.wp Try.prog _ _ a w → _› _ _ (tailB HQ.out HMc.out HMw.out HA hn ho))
        · exact (‹∀ (a : Act) (w : World), Code.wp Try.prog _ _ a w → _› _ _ (tailD HQ.out HMc.out HMw.out HA hn ho ho2))
    · have HA : m.at s p = none := by
        have h1 := HMa.out
        cases hq : m.at s p with
        | none => rfl
        | some k => rw [hq] at h1; exact absurd (of_decide_eq_true h1.symm) hp
      have HD : decide (0 ≤ p ∧ p < 2) = false := by simpa using hp
      rw [HD]
      exact (‹∀ (a : Act) (w : World), Code.wp Try.prog _ _ a w → _› _ _ (tailA HQ.out HMc.out HMw.out HA hn))
end Go.Proofs.Ytnmdhnbgikbpoaa
