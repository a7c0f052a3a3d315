import Derived.Test.YtgbpbfnpeeciaaaP43
import Derived.Deep.DeepCutAuto
import Derived.Deep.MidRow
namespace Go.Proofs.Ytgbpbfnpeeciaaa
open Go.RowKit
set_option maxRecDepth 100000
set_option maxHeartbeats 8000000
theorem flat_rows (A : List (Int × Mp)) : flat A = (A.map atC).flatten := by
  induction A with
  | nil => rfl
  | cons x A ih => rw [show flat (x :: A) = atC x ++ flat A from rfl, ih]; rfl
theorem partB (W w : World) (p : Dp) (d : DS) (v6 A0 A1 : Value) (H : List Hd) (k : Nat) (hk : k < 1048576) (hHl : H.length ≤ 4194302) (hHn : ∀ h ∈ H, h.n ≤ 262144) (aF aL : Option Addr) (n cF cL : Nat) (A : List (Int × Mp)) (hA : A.length = n) (hn : n ≤ 262144) (hT : T1 W w p d v6 H (.slice aF n cF) n (flat A) [(.slice aL n cL, n, flat A)]) (Q : Exit → Act → World → Prop)
    (z2 z3 z4 z8 z9 z10 z11 z12 z13 z14 z15 z17 z20 z21 z22 z23 z24 z25 z26 z27 z28 z29 z30 z31 z32 z33 z34 z35 z36 z37 z38 z39 z40 z41 z42 z43 z44 z45 z46 z47 z48 z49 z50 z51 z52 z53 z54 z55 z56 z57 z58 z59 z60 z61 z62 z63 z64 z65 z66 z67 z68 z69 z70 z71 z72 z73 z74 z75 z76 z77 z78 z79 z80 z81 z82 z83 z84 z85 z86 z87 z88 z89 z90 z91 z92 z93 z94 z95 z96 z97 z98 z99 z100 z101 z102 z103 z104 z105 z106 z107 z108 z109 z110 z111 z112 z113 z114 z115 z116 z117 z118 z119 z120 z121 z122 z123 z124 z125 z126 z127 z128 z129 z130 z131 z132 z133 z134 z135 z136 z137 z138 z139 z140 z141 z142 z143 z144 z145 z146 z147 z148 z149 z150 z151 z152 z153 z154 z155 z156 z157 z158 z159 z160 z161 z162 z163 z164 z165 z166 z167 z168 z169 z170 z171 z172 z173 z174 z175 z176 z177 z178 z179 z180 z181 z182 z183 z184 z185 z186 z187 z188 z189 z190 z191 z192 z193 z194 z195 z196 z197 z198 z199 z200 z201 z202 z203 z204 z205 z206 z207 z208 z209 z210 z211 z212 z213 z214 z215 z216 z217 z218 z219 z220 z221 z222 z223 z224 z225 z226 z227 z228 z229 z230 z231 z232 z233 z234 z235 z236 z237 z238 z239 z240 z241 z242 z243 z244 z245 z246 z247 z248 z249 z250 z251 z252 z253 z254 z255 z256 z257 z258 z259 z260 z261 z262 z263 z264 z265 z266 z267 z268 z269 z270 z271 z272 z273 z274 z275 z276 z277 z278 z279 z280 z281 z282 z283 z284 z285 z286 z287 z288 z289 z290 z291 z292 z293 z294 z295 z296 z297 z298 z299 z300 z301 z302 : Value)
    (hP : ∀ (x : List PanicEntry) (a : Act) (t : Option Tmp) (v : Value) (w : World), Q (.panic x) (a.put t v) w → Q (.panic x) a w)
    (hQ : ∀ (w' : World) (v' : Value) (H' : List Hd) (y4 y20 y21 y22 y23 y24 y25 y163 y164 y165 y166 y167 y168 y169 y170 y171 y172 y173 y174 y175 y176 y177 y178 y179 y180 y181 y182 y183 y184 y185 y186 y187 y188 y189 y190 y191 y192 y193 y194 y195 y196 y197 y198 y199 y200 y201 y202 y203 y204 y205 y206 y207 y208 y209 y210 y211 y212 y213 y214 y215 y216 y217 y218 y219 y220 y221 y222 y223 y224 y225 y226 y227 y228 y229 y230 y231 y232 y233 y234 y235 y236 y237 y238 y239 y240 y241 y242 y243 y244 y245 y246 y247 y248 y249 y250 y251 y252 y253 y254 y255 y256 y257 y258 y259 y260 y261 y262 y263 y264 y265 y266 y267 y268 y269 y270 y271 y272 y273 y274 y275 y276 y277 y278 y279 y280 y281 y282 y283 y284 y285 y286 y287 y288 y289 y290 y291 y292 y293 y294 y295 y296 y297 y298 y299 y300 y301 y302 : Value), TS W w' p d v' H' → H'.length = H.length + 2 → (∀ h ∈ H', h.n ≤ 262144) → Q .normal { tmps := #[A0, A1, z2, z3, y4, .pointer (some ⟨p.g, 0, none⟩), v', .int .i64 (k : Int), z8, z9, z10, z11, z12, z13, z14, z15, .slice aF n cF, z17, .slice aL n cL, .int .i64 0, y20, y21, y22, y23, y24, y25, z26, z27, z28, z29, z30, z31, z32, z33, z34, z35, z36, z37, z38, z39, z40, z41, z42, z43, z44, z45, z46, z47, z48, z49, z50, z51, z52, z53, z54, z55, z56, z57, z58, z59, z60, z61, z62, z63, z64, z65, z66, z67, z68, z69, z70, z71, z72, z73, z74, z75, z76, z77, z78, z79, z80, z81, z82, z83, z84, z85, z86, z87, z88, z89, z90, z91, z92, z93, z94, z95, z96, z97, z98, z99, z100, z101, z102, z103, z104, z105, z106, z107, z108, z109, z110, z111, z112, z113, z114, z115, z116, z117, z118, z119, z120, z121, z122, z123, z124, z125, z126, z127, z128, z129, z130, z131, z132, z133, z134, z135, z136, z137, z138, z139, z140, z141, z142, z143, z144, z145, z146, z147, z148, z149, z150, z151, z152, z153, z154, z155, z156, z157, z158, z159, z160, z161, z162, y163, y164, y165, y166, y167, y168, y169, y170, y171, y172, y173, y174, y175, y176, y177, y178, y179, y180, y181, y182, y183, y184, y185, y186, y187, y188, y189, y190, y191, y192, y193, y194, y195, y196, y197, y198, y199, y200, y201, y202, y203, y204, y205, y206, y207, y208, y209, y210, y211, y212, y213, y214, y215, y216, y217, y218, y219, y220, y221, y222, y223, y224, y225, y226, y227, y228, y229, y230, y231, y232, y233, y234, y235, y236, y237, y238, y239, y240, y241, y242, y243, y244, y245, y246, y247, y248, y249, y250, y251, y252, y253, y254, y255, y256, y257, y258, y259, y260, y261, y262, y263, y264, y265, y266, y267, y268, y269, y270, y271, y272, y273, y274, y275, y276, y277, y278, y279, y280, y281, y282, y283, y284, y285, y286, y287, y288, y289, y290, y291, y292, y293, y294, y295, y296, y297, y298, y299, y300, y301, y302], defers := [] } w') :
    Code.wp Try.prog (pth (inner ++ [1, 1, 1, 1, 1, 1, 1, 1, 1, 1]) (Try.f6.body.getD .skip)) Q { tmps := #[A0, A1, z2, z3, z4, .pointer (some ⟨p.g, 0, none⟩), v6, .int .i64 (k : Int), z8, z9, z10, z11, z12, z13, z14, z15, .slice aF n cF, z17, .slice aL n cL, .int .i64 0, z20, z21, z22, z23, z24, z25, z26, z27, z28, z29, z30, z31, z32, z33, z34, z35, z36, z37, z38, z39, z40, z41, z42, z43, z44, z45, z46, z47, z48, z49, z50, z51, z52, z53, z54, z55, z56, z57, z58, z59, z60, z61, z62, z63, z64, z65, z66, z67, z68, z69, z70, z71, z72, z73, z74, z75, z76, z77, z78, z79, z80, z81, z82, z83, z84, z85, z86, z87, z88, z89, z90, z91, z92, z93, z94, z95, z96, z97, z98, z99, z100, z101, z102, z103, z104, z105, z106, z107, z108, z109, z110, z111, z112, z113, z114, z115, z116, z117, z118, z119, z120, z121, z122, z123, z124, z125, z126, z127, z128, z129, z130, z131, z132, z133, z134, z135, z136, z137, z138, z139, z140, z141, z142, z143, z144, z145, z146, z147, z148, z149, z150, z151, z152, z153, z154, z155, z156, z157, z158, z159, z160, z161, z162, z163, z164, z165, z166, z167, z168, z169, z170, z171, z172, z173, z174, z175, z176, z177, z178, z179, z180, z181, z182, z183, z184, z185, z186, z187, z188, z189, z190, z191, z192, z193, z194, z195, z196, z197, z198, z199, z200, z201, z202, z203, z204, z205, z206, z207, z208, z209, z210, z211, z212, z213, z214, z215, z216, z217, z218, z219, z220, z221, z222, z223, z224, z225, z226, z227, z228, z229, z230, z231, z232, z233, z234, z235, z236, z237, z238, z239, z240, z241, z242, z243, z244, z245, z246, z247, z248, z249, z250, z251, z252, z253, z254, z255, z256, z257, z258, z259, z260, z261, z262, z263, z264, z265, z266, z267, z268, z269, z270, z271, z272, z273, z274, z275, z276, z277, z278, z279, z280, z281, z282, z283, z284, z285, z286, z287, z288, z289, z290, z291, z292, z293, z294, z295, z296, z297, z298, z299, z300, z301, z302], defers := [] } w := by
  have HT := hid hT
  have HQ := hid hQ
  have HP := hid hP
  have HL := hid (And.intro hHl hHn)
  have HXl := hid hT.R.1
  have HOs := hid (fun h => own_some hT.R h)
  have HRw := hid (fun (j : Nat) (x : Int × Mp) (hx : A[j]? = some x) (hj : j < n) => (by
    have e1 := hT.R
    have e2 := hT.ex _ (.head _)
    simp only at e2
    rw [flat_rows] at e1 e2
    obtain ⟨gF, _, h1, _, h2, h3⟩ := own_sub e1 (fun l hl => by obtain ⟨y, _, rfl⟩ := List.mem_map.1 hl; rfl) (by omega)
    obtain ⟨gL, _, m1, _, m2, m3⟩ := own_sub e2 (fun l hl => by obtain ⟨y, _, rfl⟩ := List.mem_map.1 hl; rfl) (by omega)
    cases h1
    cases m1
    exact ⟨gF, gL, rfl, rfl, fun w2 hb => rangeAt_on (h3 j (atC x) (by rw [List.getElem?_map, hx]; rfl)) h2 hb, fun w2 hb => rangeAt_on (m3 j (atC x) (by rw [List.getElem?_map, hx]; rfl)) m2 hb⟩ : ∃ gF gL, aF = some ⟨gF, 0, none⟩ ∧ aL = some ⟨gL, 0, none⟩ ∧ (∀ w2, Below w.heap.size w w2 → w2.rangeAt gF (j * 5) (atC x)) ∧ ∀ w2, Below w.heap.size w w2 → w2.rangeAt gL (j * 5) (atC x)))
  have k1 : (k : Int) < 1048576 := by omega
  have n1 : (n : Int) ≤ 262144 := by omega
  obtain ⟨b, hb⟩ : ∃ b, 4096 * (k : Int) + 2 = b := ⟨_, rfl⟩
  have b0 : 0 ≤ b := by omega
  have b1 : b < 4294967296 := by omega
  clear hT hQ hP hHl hHn
  refine pth_walk _ rfl (by simp only [pth, inner, List.cons_append, List.nil_append]; rfl) ?_
  go_wp2_with fail
  go_loopw [20] (fun i wr => ∃ j : Nat, j ≤ n ∧ i = .int .i64 (j : Int) ∧ Hid (Below w.heap.size w wr)) (fun i _ => n - (intOf i).toNat)
  case atStart => exact ⟨0, Nat.zero_le _, rfl, hid (Below.refl _ _)⟩
  case round =>
    obtain ⟨j, hj, rfl, HB⟩ := hrel
    by_cases hlt : j < n
    · have q1 : (j : Int) < (n : Int) := by omega
      obtain ⟨x, hx⟩ : ∃ x, A[j]? = some x := ⟨_, List.getElem?_eq_getElem (by omega)⟩
      obtain ⟨gF, gL, rfl, rfl, rF, rL⟩ := HRw.out j x hx hlt
      have RB := hid (below_on HB.out (Below.refl _ _).drew)
      have HS := hid (And.intro (rF _ RB.out) (rL _ RB.out))
      unfold atC at HS
      clear rF rL hx HRw
      go_upto_region 23 with fail
      refine wp_region_held_drew (S := fun w => w.rangeAt gF (j * 5) [.int .u32 x.1, .bool x.2.s, .int .i64 x.2.p, .bool x.2.wr, .bool x.2.ex] ∧ w.rangeAt gL (j * 5) [.int .u32 x.1, .bool x.2.s, .int .i64 x.2.p, .bool x.2.wr, .bool x.2.ex]) (by kernel_rfl) HS.out (fun hHeld => ?_)
      refine wpAnyH_take (i := 0) (oi := ⟨some 169, .move (.tmp 18), 43, "outright.go:266", #[], none⟩) (v := .slice (some ⟨gL, 0, none⟩) n cL) rfl (by kernel_rfl) (by kernel_rfl) (by kernel_rfl) (fun _ _ _ h => HP.out _ _ _ _ _ h) (Or.inl ⟨by rfl, by intro w hSw; go_simp⟩) (by assumption) ?_
      simp only [Act.put, List.setIfInBounds_toArray, List.set_cons_zero, List.set_cons_succ]
      refine wpAnyH_take (i := 1) (oi := ⟨some 170, .call { callee := .builtin .len, args := #[.tmp 169], argTypes := #[43] }, 3, "outright.go:266", #[⟨0, .data⟩], none⟩) (v := .int .i64 (n : Int)) rfl (by kernel_rfl) (by kernel_rfl) (by kernel_rfl) (fun _ _ _ h => HP.out _ _ _ _ _ h) (Or.inl ⟨by rfl, by intro w hSw; go_simp⟩) (by assumption) ?_
      simp only [Act.put, List.setIfInBounds_toArray, List.set_cons_zero, List.set_cons_succ]
      refine wpAnyH_take (i := 2) (oi := ⟨some 171, .move (.tmp 16), 43, "outright.go:266", #[], none⟩) (v := .slice (some ⟨gF, 0, none⟩) n cF) rfl (by kernel_rfl) (by kernel_rfl) (by kernel_rfl) (fun _ _ _ h => HP.out _ _ _ _ _ h) (Or.inl ⟨by rfl, by intro w hSw; go_simp⟩) (by assumption) ?_
      simp only [Act.put, List.setIfInBounds_toArray, List.set_cons_zero, List.set_cons_succ]
      refine wpAnyH_take (i := 3) (oi := ⟨some 172, .call { callee := .builtin .len, args := #[.tmp 171], argTypes := #[43] }, 3, "outright.go:266", #[⟨2, .data⟩], none⟩) (v := .int .i64 (n : Int)) rfl (by kernel_rfl) (by kernel_rfl) (by kernel_rfl) (fun _ _ _ h => HP.out _ _ _ _ _ h) (Or.inl ⟨by rfl, by intro w hSw; go_simp⟩) (by assumption) ?_
      simp only [Act.put, List.setIfInBounds_toArray, List.set_cons_zero, List.set_cons_succ]
      refine wpAnyH_take (i := 4) (oi := ⟨some 173, .binOp .neq 3 (.tmp 170) (.tmp 172) 3, 4, "outright.go:266", #[⟨1, .data⟩, ⟨3, .data⟩], none⟩) (v := .bool false) rfl (by kernel_rfl) (by kernel_rfl) (by kernel_rfl) (fun _ _ _ h => HP.out _ _ _ _ _ h) (Or.inl ⟨by rfl, by intro w hSw; go_simp⟩) (by assumption) ?_
      simp only [Act.put, List.setIfInBounds_toArray, List.set_cons_zero, List.set_cons_succ]
      refine wpAnyH_take (i := 5) (oi := ⟨some 174, .move (.tmp 173), 4, "outright.go:266", #[⟨4, .data⟩], none⟩) (v := .bool false) rfl (by kernel_rfl) (by kernel_rfl) (by kernel_rfl) (fun _ _ _ h => HP.out _ _ _ _ _ h) (Or.inl ⟨by rfl, by intro w hSw; go_simp⟩) (by assumption) ?_
      simp only [Act.put, List.setIfInBounds_toArray, List.set_cons_zero, List.set_cons_succ]
      refine wpAnyH_take (i := 6) (oi := ⟨some 175, .move (.tmp 18), 43, "outright.go:266", #[⟨5, .guard⟩], some (5, false)⟩) (v := .slice (some ⟨gL, 0, none⟩) n cL) rfl (by kernel_rfl) (by kernel_rfl) (by kernel_rfl) (fun _ _ _ h => HP.out _ _ _ _ _ h) (Or.inl ⟨by rfl, by intro w hSw; go_simp⟩) (by assumption) ?_
      simp only [Act.put, List.setIfInBounds_toArray, List.set_cons_zero, List.set_cons_succ]
      refine wpAnyH_take (i := 7) (oi := ⟨some 176, .move (.tmp 20), 3, "outright.go:266", #[⟨5, .guard⟩], some (5, false)⟩) (v := .int .i64 (j : Int)) rfl (by kernel_rfl) (by kernel_rfl) (by kernel_rfl) (fun _ _ _ h => HP.out _ _ _ _ _ h) (Or.inl ⟨by rfl, by intro w hSw; go_simp⟩) (by assumption) ?_
      simp only [Act.put, List.setIfInBounds_toArray, List.set_cons_zero, List.set_cons_succ]
      refine wpAnyH_take (i := 8) (oi := ⟨some 177, .indexAddr 43 (.tmp 175) (.tmp 176), 0, "outright.go:266", #[⟨6, .data⟩, ⟨7, .data⟩, ⟨5, .guard⟩], some (5, false)⟩) (v := .pointer (some ⟨gL, j * 5, none⟩)) rfl (by kernel_rfl) (by kernel_rfl) (by kernel_rfl) (fun _ _ _ h => HP.out _ _ _ _ _ h) (Or.inl ⟨by rfl, by intro w hSw; go_simp⟩) (by assumption) ?_
      simp only [Act.put, List.setIfInBounds_toArray, List.set_cons_zero, List.set_cons_succ]
      refine wpAnyH_take (i := 9) (oi := ⟨some 178, .load 55 (.tmp 177), 55, "outright.go:266", #[⟨8, .data⟩, ⟨5, .guard⟩], some (5, false)⟩) (v := .agg #[.int .u32 x.1, .bool x.2.s, .int .i64 x.2.p, .bool x.2.wr, .bool x.2.ex]) rfl (by kernel_rfl) (by kernel_rfl) (by kernel_rfl) (fun _ _ _ h => HP.out _ _ _ _ _ h) (yieldsIf_load_mid (by rfl) _ _ rfl _ _ rfl _ _ (fun w hSw => hSw.2) under55 rfl (by rw [size55]; rfl)) (by assumption) ?_
      simp only [Act.put, List.setIfInBounds_toArray, List.set_cons_zero, List.set_cons_succ]
      refine wpAnyH_take (i := 10) (oi := ⟨some 179, .move (.tmp 16), 43, "outright.go:266", #[⟨5, .guard⟩], some (5, false)⟩) (v := .slice (some ⟨gF, 0, none⟩) n cF) rfl (by kernel_rfl) (by kernel_rfl) (by kernel_rfl) (fun _ _ _ h => HP.out _ _ _ _ _ h) (Or.inl ⟨by rfl, by intro w hSw; go_simp⟩) (by assumption) ?_
      simp only [Act.put, List.setIfInBounds_toArray, List.set_cons_zero, List.set_cons_succ]
      refine wpAnyH_take (i := 11) (oi := ⟨some 180, .move (.tmp 20), 3, "outright.go:266", #[⟨5, .guard⟩], some (5, false)⟩) (v := .int .i64 (j : Int)) rfl (by kernel_rfl) (by kernel_rfl) (by kernel_rfl) (fun _ _ _ h => HP.out _ _ _ _ _ h) (Or.inl ⟨by rfl, by intro w hSw; go_simp⟩) (by assumption) ?_
      simp only [Act.put, List.setIfInBounds_toArray, List.set_cons_zero, List.set_cons_succ]
      refine wpAnyH_take (i := 12) (oi := ⟨some 181, .indexAddr 43 (.tmp 179) (.tmp 180), 0, "outright.go:266", #[⟨10, .data⟩, ⟨11, .data⟩, ⟨5, .guard⟩], some (5, false)⟩) (v := .pointer (some ⟨gF, j * 5, none⟩)) rfl (by kernel_rfl) (by kernel_rfl) (by kernel_rfl) (fun _ _ _ h => HP.out _ _ _ _ _ h) (Or.inl ⟨by rfl, by intro w hSw; go_simp⟩) (by assumption) ?_
      simp only [Act.put, List.setIfInBounds_toArray, List.set_cons_zero, List.set_cons_succ]
      refine wpAnyH_take (i := 13) (oi := ⟨some 182, .load 55 (.tmp 181), 55, "outright.go:266", #[⟨12, .data⟩, ⟨5, .guard⟩], some (5, false)⟩) (v := .agg #[.int .u32 x.1, .bool x.2.s, .int .i64 x.2.p, .bool x.2.wr, .bool x.2.ex]) rfl (by kernel_rfl) (by kernel_rfl) (by kernel_rfl) (fun _ _ _ h => HP.out _ _ _ _ _ h) (yieldsIf_load_mid (by rfl) _ _ rfl _ _ rfl _ _ (fun w hSw => hSw.1) under55 rfl (by rw [size55]; rfl)) (by assumption) ?_
      simp only [Act.put, List.setIfInBounds_toArray, List.set_cons_zero, List.set_cons_succ]
      refine wpAnyH_take (i := 14) (oi := ⟨some 183, .binOp .neq 55 (.tmp 178) (.tmp 182) 55, 4, "outright.go:266", #[⟨9, .data⟩, ⟨13, .data⟩, ⟨5, .guard⟩], some (5, false)⟩) (v := .bool false) rfl (by kernel_rfl) (by kernel_rfl) (by kernel_rfl) (fun _ _ _ h => HP.out _ _ _ _ _ h) (Or.inl ⟨by rfl, by intro w hSw; go_simp⟩) (by assumption) ?_
      simp only [Act.put, List.setIfInBounds_toArray, List.set_cons_zero, List.set_cons_succ]
      refine wpAnyH_take (i := 15) (oi := ⟨some 184, .pick (.tmp 174) (.const (.bool true)) (.tmp 183), 4, "outright.go:266", #[⟨5, .data⟩, ⟨14, .data⟩], none⟩) (v := .bool false) rfl (by kernel_rfl) (by kernel_rfl) (by kernel_rfl) (fun _ _ _ h => HP.out _ _ _ _ _ h) (Or.inl ⟨by rfl, by intro w hSw; go_simp⟩) (by assumption) ?_
      simp only [Act.put, List.setIfInBounds_toArray, List.set_cons_zero, List.set_cons_succ]
      refine wpAnyH_done (by kernel_rfl) ?_ _
      go_wp2_with fail
      go_roundw
      case measure => simp [intOf] <;> omega
      case rel => exact ⟨j + 1, by omega, by simp, RB⟩
    · have q1 : (n : Int) ≤ (j : Int) := by omega
      have HT1 := hid (HT.out.on HB.out)
      clear HT HB HRw
      go_wp2_with fail
      go_loopw [21] (fun i w2 => ∃ t : Nat, t ≤ n ∧ i = .int .i64 (t : Int) ∧ Hid (T1 W w2 p d v6 H (.slice aF n cF) n (filM b (flat A) t) [(.slice aL n cL, n, flat A)])) (fun i _ => n - (intOf i).toNat)
      case atStart => exact ⟨0, Nat.zero_le _, rfl, by rw [filM_0]; exact HT1⟩
      case round =>
        clear HT1
        obtain ⟨t, ht, rfl, HB⟩ := hrel
        by_cases hlt2 : t < n
        · have q2 : (t : Int) < (n : Int) := by omega
          obtain ⟨gF, rfl⟩ := HOs.out (by omega)
          go_wp2_with (first | (refine wpList_store_mark rfl _ _ rfl gF t b rfl rfl HB.out.R hlt2 ?_; intro w2 ho hb2; have HB2 := hid (HB.out.wr rfl hb2 ho); clear ho hb2))
          go_roundw
          case measure => simp [intOf] <;> omega
          case rel => exact ⟨t + 1, by omega, by simp, HB2⟩
        · have htn : n = t := by omega
          have q2 : (n : Int) ≤ (t : Int) := by omega
          have HB3 := hid (show T1 W wr p d v6 H (.slice aF n cF) n (mrep n b) [(.slice aL n cL, n, flat A)] by have := HB.out; rw [← htn, filM_all _ _ _ HXl.out] at this; exact this)
          clear HB htn
          go_upto_region 29 with fail
          go_cut [6] from 199 to 216 (fun v w => ∃ H', Hid (T3 W w p d v H' [(.slice aL n cL, n, flat A)]) ∧ H'.length = H.length + 1 ∧ ∀ h ∈ H', h.n ≤ 262144)
          case first =>
            go_wp2_with (first | (at_builtin; refine wpList_append_mk rfl _ _ rfl rfl (HB3.out.on (below_one _ _)).R (HB3.out.on (below_one _ _)).ts.below.size rfl (Cel.new _ 55 (mcs b)) hn ?_; intro v2 w2 hal; have HC0 := (HB3.out.on (below_one _ _)).more hal; obtain ⟨aM, cM, rfl⟩ := own_frm HC0.M; have HC := hid HC0; clear hal HC0) | (at_builtin; refine wpList_append_bk rfl _ _ rfl (H := H) (vl := .slice aF n cF) (vm := .slice aM (n + 1) cM) (n := n) (k := b) rfl (HC.out.on (below_one _ _)).t.ts.book (HC.out.on (below_one _ _)).t.ts.below.size rfl (Cel.new _ 79 (Hd.cs ⟨.slice aF n cF, .slice aM (n + 1) cM, n, b⟩)) rfl rfl (by have := HL.out.1; omega) ?_; intro v3 w4 hal; have HT3 := hid ((HC.out.on (below_one _ _)).book hal); clear hal))
            go_meet
            exact ⟨_, HT3, by simp, fun h hh => by
              rcases List.mem_append.1 hh with hh | hh
              · exact HL.out.2 h hh
              · rw [List.mem_singleton.1 hh]; exact hn⟩
          case rest =>
            obtain ⟨H', HT3, hlen, hall⟩ := hcut
            exact (‹∀ (a : Act) (w : World), Code.wp Try.prog _ _ a w → _› _ _ (partC W _ p d _ A0 A1 H' k hk (by have := HL.out.1; omega) hall aL n cL hn (flat A) HT3.out.one _ _ _ _ _ _ _ _ _ _ _ _ _ _ _ _ _ _ _ _ _ _ _ _ _ _ _ _ _ _ _ _ _ _ _ _ _ _ _ _ _ _ _ _ _ _ _ _ _ _ _ _ _ _ _ _ _ _ _ _ _ _ _ _ _ _ _ _ _ _ _ _ _ _ _ _ _ _ _ _ _ _ _ _ _ _ _ _ _ _ _ _ _ _ _ _ _ _ _ _ _ _ _ _ _ _ _ _ _ _ _ _ _ _ _ _ _ _ _ _ _ _ _ _ _ _ _ _ _ _ _ _ _ _ _ _ _ _ _ _ _ _ _ _ _ _ _ _ _ _ _ _ _ _ _ _ _ _ _ _ _ _ _ _ _ _ _ _ _ _ _ _ _ _ _ _ _ _ _ _ _ _ _ _ _ _ _ _ _ _ _ _ _ _ _ _ _ _ _ _ _ _ _ _ _ _ _ _ _ _ _ _ _ _ _ _ _ _ _ _ _ _ _ _ _ _ _ _ _ _ _ _ _ _ _ _ _ _ _ _ _ _ _ _ _ _ _ _ _ _ _ _ _ _ _ _ _ _ _ _ _ _ _ _ _ _ _ _ _ _ _ _ _ _ _ _ _ _ _ _ _ _ _ _ _ _ _ _ _ _ _ _ _ _ _ _ _ HP.out (fun w' v' H2 _ _ _ _ _ _ _ _ _ _ _ _ _ _ _ _ _ _ _ _ _ _ _ _ _ _ _ _ _ _ _ _ _ _ _ _ _ _ _ _ _ _ _ _ _ _ _ _ _ _ _ _ _ _ _ _ _ _ _ _ _ _ _ _ _ _ _ _ _ _ _ _ _ _ _ _ _ _ _ _ _ _ _ _ _ _ _ _ _ _ _ hT hl2 ha2 => HQ.out w' v' H2 _ _ _ _ _ _ _ _ _ _ _ _ _ _ _ _ _ _ _ _ _ _ _ _ _ _ _ _ _ _ _ _ _ _ _ _ _ _ _ _ _ _ _ _ _ _ _ _ _ _ _ _ _ _ _ _ _ _ _ _ _ _ _ _ _ _ _ _ _ _ _ _ _ _ _ _ _ _ _ _ _ _ _ _ _ _ _ _ _ _ _ _ _ _ _ _ _ _ _ _ _ _ _ _ _ _ _ _ _ _ _ _ _ _ _ _ _ _ _ _ _ _ _ _ _ _ _ _ _ _ _ _ _ _ _ _ _ _ _ _ _ _ _ _ _ _ _ hT (by omega) ha2)))
end Go.Proofs.Ytgbpbfnpeeciaaa
