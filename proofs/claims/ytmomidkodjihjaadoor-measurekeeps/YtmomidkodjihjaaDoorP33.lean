import Derived.Test.YtmomidkodjihjaaDoorP32
import Derived.Deep.DeepCutAuto
namespace Go.Proofs.YtmomidkodjihjaaDoor
open Go.RowKit
open H
set_option maxRecDepth 100000
set_option maxHeartbeats 8000000
attribute [-simp] Tryd.isAgg44 Tryd.sizeOf44 Tryd.zeroValue44 Tryd.isAgg37 Tryd.sizeOf37 Tryd.zeroValue37
def WSp (lo : List Ov) (WS : List Rr) : Prop := WS.length = lo.length ∧ ∀ (i : Nat) (x : Ov), lo[i]? = some x → ∃ xs : List Value, xs.length = x.o.ws.length ∧ WS[i]? = some ⟨24, 1, .slice x.p x.o.ws.length x.c, x.o.ws.length, xs⟩
theorem WSp.start (lo : List Ov) : WSp lo (lo.map wr1) := ⟨by simp, fun i x hx => ⟨x.o.ws.map (Value.int .u32), by simp, by rw [List.getElem?_map, hx]; rfl⟩⟩
theorem WSp.set {lo : List Ov} {WS : List Rr} (h : WSp lo WS) {k : Nat} {x : Ov} (hx : lo[k]? = some x) (xs : List Value) (hl : xs.length = x.o.ws.length) : WSp lo (WS.set k ⟨24, 1, .slice x.p x.o.ws.length x.c, x.o.ws.length, xs⟩) := by
  refine ⟨by rw [List.length_set]; exact h.1, fun i y hy => ?_⟩
  have hk := (List.getElem?_eq_some_iff.1 hx).1
  by_cases hik : k = i
  · subst hik
    rw [hx] at hy
    cases hy
    exact ⟨xs, hl, List.getElem?_set_self (by rw [h.1]; exact hk)⟩
  · rw [List.getElem?_set_ne hik]
    exact h.2 i y hy
theorem d43_cell {W w : World} {R : List Rr} {H : List Hk} (h : KS W w R H) {g n c : Nat} {xs : List Value} (hm : ⟨43, 3, .slice (some ⟨g, 0, none⟩) n c, n, xs⟩ ∈ R) {i : Nat} {u : Value} (hx : xs[i]? = some u) : w.cell? ⟨g, i, none⟩ = some u := by
  have h1 : w.ownsRow W.heap.size 43 3 (.slice (some ⟨g, 0, none⟩) n c) n xs := h.inn hm
  have := own_rng h1 i u hx
  rw [Nat.zero_add] at this
  exact this
theorem w24_wr {W w : World} {R : List Rr} {H : List Hk} (h : KS W w R H) {i g n c j : Nat} {xs : List Value} (hz : R[i]? = some ⟨24, 1, .slice (some ⟨g, 0, none⟩) n c, n, xs⟩) (u : Value) : KS W (w.setCell ⟨g, j, none⟩ u) (R.set i ⟨24, 1, .slice (some ⟨g, 0, none⟩) n c, n, xs.set j u⟩) H :=
  h.wr i hz _ (g := g) rfl rfl (but_setCell w g j u) (own_setc (h.mem hz) j u)
theorem bring {W w : World} {R1 R2 : List Rr} {r : Rr} {H : List Hk} (h : KS W w (R1 ++ r :: R2) H) : KS W w (r :: (R1 ++ R2)) H := h.perm List.perm_middle
theorem brow_snoc (v : Value) (HB : List Hk) (h : Hk) : (⟨63, 3, v, HB.length + 1, bcs HB ++ h.c3⟩ : Rr) = brow v (HB ++ [h]) := by simp [brow, bcs_snoc]
theorem mix_cell (lo2 : List Ov) (k t : Nat) (x : Ov) (hx : lo2[k]? = some x) : (rp k (mcs t) ++ (lo2.drop k).flatMap Ov.cs)[k * 3 + 2]? = some (.slice x.p x.o.ws.length x.c) := by
  have hl : (rp k (mcs t)).length = k * 3 := by rw [rp_len]; rfl
  rw [List.getElem?_append_right (by omega), hl, show k * 3 + 2 - k * 3 = 0 * 3 + 2 by omega, flat_get (lo2.drop k) 0 2 x (by rw [List.getElem?_drop]; exact hx) (by decide)]
  rfl
theorem mix_step (lo2 : List Ov) (k t : Nat) (x : Ov) (hx : lo2[k]? = some x) : (rp k (mcs t) ++ (lo2.drop k).flatMap Ov.cs).take (k * 3) ++ mcs t ++ (rp k (mcs t) ++ (lo2.drop k).flatMap Ov.cs).drop (k * 3 + 3) = rp (k + 1) (mcs t) ++ (lo2.drop (k + 1)).flatMap Ov.cs := by
  have hl : (rp k (mcs t)).length = k * 3 := by rw [rp_len]; rfl
  have hk := (List.getElem?_eq_some_iff.1 hx).1
  have hd : lo2.drop k = x :: lo2.drop (k + 1) := by rw [List.drop_eq_getElem_cons hk, (List.getElem?_eq_some_iff.1 hx).2]
  rw [List.take_append_of_le_length (by omega), List.take_of_length_le (by omega), List.drop_append, hl, show k * 3 + 3 - k * 3 = 3 by omega, List.drop_eq_nil_of_le (by omega), List.nil_append, hd, List.flatMap_cons, rp_succ]
  rfl
theorem wpList_store_op {W w : World} {R : List Rr} {H : List Hk} {ops : Array Oper} {rest : List Oper} {o : Oper} {a : Act} {Q : Exit → Act → World → Prop} (hgd : o.guard = none) (x y : Operand) (ho : o.op = .store 43 x y) (hK : KS W w R H) (i : Nat) {g n c : Nat} {xs : List Value} (hz : R[i]? = some ⟨43, 3, .slice (some ⟨g, 0, none⟩) n c, n, xs⟩) (j : Nat) (hj : j < n) (cs : List Value) (hcs : cs.length = 3) (h1 : ∀ u ∈ cs, u.oneCell' = true) (hx : a.eval x = .pointer (some ⟨g, j * 3, none⟩)) (hy : a.eval y = .agg cs.toArray)
    (h : ∀ w', KS W w' (R.set i ⟨43, 3, .slice (some ⟨g, 0, none⟩) n c, n, xs.take (j * 3) ++ cs ++ xs.drop (j * 3 + 3)⟩) H → wpList Tryd.prog ops Q rest (a.put o.dst undef) w') : wpList Tryd.prog ops Q (o :: rest) a w := by
  have hown : w.ownsRow W.heap.size 43 3 (.slice (some ⟨g, 0, none⟩) n c) n xs := hK.mem hz
  have hxl : xs.length = n * 3 := hown.1
  rcases hown.2 with ⟨hv, _⟩ | ⟨g', cap, cur, hv, hB, hg, k1, k2, k3, k4⟩
  · cases hv
  · cases hv
    have hle : j * 3 + 3 ≤ n * 3 := by omega
    have hcl : n * 3 ≤ cur.toList.length := by rw [Array.length_toList, k3]; omega
    have hst := run_storeCells_at (P := Tryd.prog) g (j * 3) 43 cs 0 cur w hg (by have : cur.size = c * 3 := k3; omega) h1
    simp only [Nat.add_zero, hcs] at hst
    obtain ⟨i0, hi, his⟩ := Option.map_eq_some_iff.1 size43
    have hrun : (storeVar 43 ⟨g, j * 3, none⟩ (.agg cs.toArray)).run Tryd.prog w = .ok () (w.setRow g (cur.toList.take (j * 3) ++ cs ++ cur.toList.drop (j * 3 + 3)).toArray) := by
      have hl5 : cs.length = i0.size := by rw [hcs]; exact his.symm
      simp [storeVar, sizeOf, typeInfo, hi, Value.cells, hl5, hst]
    have hp : (cur.toList.take (j * 3) ++ cs ++ cur.toList.drop (j * 3 + 3)).take (n * 3) = xs.take (j * 3) ++ cs ++ xs.drop (j * 3 + 3) := by
      rw [← k4, List.take_take, Nat.min_eq_left (by omega), List.take_append, List.take_of_length_le (by simp [hcs]; omega), List.drop_take]
      congr 2
      simp [hcs]
      omega
    have hnew : (w.setRow g (cur.toList.take (j * 3) ++ cs ++ cur.toList.drop (j * 3 + 3)).toArray).ownsRow W.heap.size 43 3 (.slice (some ⟨g, 0, none⟩) n c) n (xs.take (j * 3) ++ cs ++ xs.drop (j * 3 + 3)) := by
      refine ⟨by simp [hcs]; omega, .inr ⟨g, c, _, rfl, hB, setRow_heap w g _ _ 43 _ hg, k1, k2, ?_, hp⟩⟩
      rw [List.size_toArray, List.length_append, List.length_append, List.length_take, List.length_drop, Array.length_toList, k3, hcs]
      omega
    refine wpList_plain hgd fun K hK2 => ?_
    have := h _ (hK.wr i hz ⟨43, 3, .slice (some ⟨g, 0, none⟩) n c, n, xs.take (j * 3) ++ cs ++ xs.drop (j * 3 + 3)⟩ (g := g) rfl rfl (but_setRow _ _ _) hnew)
    unfold Oper.wp execOp
    simp only [ho, hx, hy, Instr.storeAt, Instr.sureAddr, Sem.run_bind, Sem.run_pure, Result.andThen_ok, hrun]
    exact hK2 _ _ this
theorem partD (W w : World) (al ak : Option Addr) (N lc EL kc t : Nat) (l : List Ov) (E : List Int) (hBS : BS W al ak N EL l E) (ht : t < 4) (v9 v10 v11 vo : Value) (HB D : List Hk) (H : List Hk) (X : List Rr) (lo lo2 : List Ov) (mo a26 ad : Option Addr) (mc c26 cd : Nat)
    (hD : D.length = t) (hHB : HB.length + N ≤ 900) (hb : ∀ h ∈ HB, h ∈ H) (hd : ∀ h ∈ D, h ∈ H) (wb : ∀ h ∈ HB, ∃ n a, HWd h n a ∧ n ≤ 262144) (wd : ∀ i h, D[i]? = some h → HOp h N i)
    (hlo : lo.map Ov.o = l.map Ov.o) (hlo2 : lo2.length = N) (hws : ∀ x ∈ lo2, x.o.ws.length ≤ 1024) (hX : (⟨24, 1, .slice a26 (EL + 100) c26, EL + 100, E.map (Value.int .u32) ++ rp 100 [mk]⟩ : Rr) ∈ X)
    (hK : KS W w (brow v9 HB :: drow v10 (D.map (·.vl)) :: drow v11 (D.map (·.vm)) :: ⟨43, 3, .slice ad N cd, N, lo2.flatMap Ov.cs⟩ :: (lo2.map wr1 ++ (mrow (.slice mo (N + 50) mc) lo 50 :: orow vo lo :: (lo.map wrow ++ X)))) H) (Q : Exit → Act → World → Prop)
    (z0 z1 z2 z3 z4 z6 z7 z16 z17 z18 z19 z20 z21 z22 z23 z24 z25 z27 z29 z30 z31 z32 z33 z34 z35 z36 z37 z38 z39 z40 z41 z42 z43 z44 z45 z46 z47 z48 z49 z50 z51 z52 z53 z54 z55 z56 z57 z58 z59 z60 z61 z62 z63 z64 z65 z66 z67 z68 z69 z70 z71 z72 z73 z74 z75 z76 z77 z78 z79 z80 z81 z82 z83 z84 z85 z86 z87 z88 z89 z90 z91 z92 z93 z94 z95 z96 z97 z98 z99 z100 z101 z102 z103 z104 z105 z106 z107 z108 z109 z110 z111 z112 z113 z114 z115 z116 z117 z118 z119 z120 z121 z122 z123 z124 z125 z126 z127 z128 z129 z130 z131 z132 z133 z134 z135 z136 z137 z138 z139 z140 z141 z142 z143 z144 z145 z146 z147 z148 z149 z150 z151 z152 z153 z154 z155 z156 z157 z158 z159 z160 z161 z162 z163 z164 z165 z166 z167 z168 z169 z170 z171 z172 z173 z174 z175 z176 z177 z178 z179 z180 z181 z182 z183 z184 z185 z186 z187 z188 z189 z190 z191 z192 z193 z194 z195 z196 z197 z198 z199 z200 z201 z202 z203 z204 z205 z206 z207 z208 z209 z210 z211 z212 z213 z214 z215 z216 z217 z218 z219 z220 z221 z222 z223 z224 z225 z226 z227 z228 z229 z230 z231 z232 z233 z234 z235 z236 z237 z238 z239 z240 z241 z242 z243 z244 z245 z246 z247 z248 z249 z250 z251 z252 z253 z254 z255 z256 z257 z258 z259 z260 z261 z262 z263 z264 z265 z266 z267 z268 z269 z270 z271 z272 z273 z274 z275 z276 z277 z278 z279 z280 z281 z282 z283 z284 z285 z286 z287 z288 z289 z290 z291 z292 z293 z294 z295 z296 z297 z298 z299 z300 z301 z302 z303 z304 z305 z306 z307 z308 z309 z310 z311 z312 z313 z314 z315 z316 z317 z318 z319 z320 z321 z322 z323 z324 z325 z326 z327 z328 z329 z330 z331 z332 z333 z334 z335 z336 z337 z338 z339 z340 z341 z342 z343 z344 z345 z346 z347 z348 z349 z350 z351 z352 z353 z354 z355 z356 z357 z358 z359 z360 z361 z362 z363 z364 z365 z366 z367 z368 z369 z370 : Value)
    (hP : ∀ (x : List PanicEntry) (a : Act) (t : Option Tmp) (v : Value) (w : World), Q (.panic x) (a.put t v) w → Q (.panic x) a w)
    (hQ : ∀ (w' : World) (v9' v10' v11' : Value) (HB' D' : List Hk) (H' : List Hk) (y4 y28 y35 y36 y37 y38 y266 y267 y268 y269 y270 y271 y272 y273 y274 y275 y276 y277 y278 y279 y280 y281 y282 y283 y284 y285 y286 y287 y288 y289 y290 y291 y292 y293 y294 y295 y296 y297 y298 y299 y300 y301 y302 y303 y304 y305 y306 y307 y308 y309 y310 y311 y312 y313 y314 y315 y316 y317 y318 y319 y320 y321 y322 y323 y324 y325 y326 y327 y328 y329 y330 y331 y332 y333 y334 y335 y336 y337 y338 y339 y340 y341 y342 y343 y344 y345 y346 y347 y348 y349 y350 y351 y352 y353 y354 y355 y356 y357 y358 y359 y360 y361 y362 y363 y364 y365 y366 y367 : Value), LS W w' N v9' v10' v11' HB' D' (D'.map (·.vl)) [] H' → D'.length = t + 1 → HB'.length = HB.length + N → Q .normal { tmps := #[z0, z1, z2, z3, y4, .slice al N lc, z6, z7, .slice ak EL kc, v9', v10', v11', .int .i64 (t : Int), .slice mo (N + 50) mc, vo, .slice mo N mc, z16, z17, z18, z19, z20, z21, z22, z23, z24, z25, .slice a26 (EL + 100) c26, z27, y28, z29, z30, z31, z32, z33, z34, y35, y36, y37, y38, z39, z40, z41, z42, z43, z44, z45, z46, z47, z48, z49, z50, z51, z52, z53, z54, z55, z56, z57, z58, z59, z60, z61, z62, z63, z64, z65, z66, z67, z68, z69, z70, z71, z72, z73, z74, z75, z76, z77, z78, z79, z80, z81, z82, z83, z84, z85, z86, z87, z88, z89, z90, z91, z92, z93, z94, z95, z96, z97, z98, z99, z100, z101, z102, z103, z104, z105, z106, z107, z108, z109, z110, z111, z112, z113, z114, z115, z116, z117, z118, z119, z120, z121, z122, z123, z124, z125, z126, z127, z128, z129, z130, z131, z132, z133, z134, z135, z136, z137, z138, z139, z140, z141, z142, z143, z144, z145, z146, z147, z148, z149, z150, z151, z152, z153, z154, z155, z156, z157, z158, z159, z160, z161, z162, z163, z164, z165, z166, z167, z168, z169, z170, z171, z172, z173, z174, z175, z176, z177, z178, z179, z180, z181, z182, z183, z184, z185, z186, z187, z188, z189, z190, z191, z192, z193, z194, z195, z196, z197, z198, z199, z200, z201, z202, z203, z204, z205, z206, z207, z208, z209, z210, z211, z212, z213, z214, z215, z216, z217, z218, z219, z220, z221, z222, z223, z224, z225, z226, z227, z228, z229, z230, z231, z232, z233, z234, z235, z236, z237, z238, z239, z240, z241, z242, z243, z244, z245, z246, z247, z248, z249, z250, z251, z252, z253, z254, z255, z256, z257, z258, z259, z260, z261, z262, z263, z264, z265, y266, y267, y268, y269, y270, y271, y272, y273, y274, y275, y276, y277, y278, y279, y280, y281, y282, y283, y284, y285, y286, y287, y288, y289, y290, y291, y292, y293, y294, y295, y296, y297, y298, y299, y300, y301, y302, y303, y304, y305, y306, y307, y308, y309, y310, y311, y312, y313, y314, y315, y316, y317, y318, y319, y320, y321, y322, y323, y324, y325, y326, y327, y328, y329, y330, y331, y332, y333, y334, y335, y336, y337, y338, y339, y340, y341, y342, y343, y344, y345, y346, y347, y348, y349, y350, y351, y352, y353, y354, y355, y356, y357, y358, y359, y360, y361, y362, y363, y364, y365, y366, y367, z368, z369, z370], defers := [] } w') :
    Code.wp Tryd.prog (pth (inner ++ [1, 1, 1, 1, 1, 1, 1, 1, 1, 1, 1, 1, 1, 1, 1, 1, 1, 1, 1, 1]) (Tryd.f6.body.getD .skip)) Q { tmps := #[z0, z1, z2, z3, z4, .slice al N lc, z6, z7, .slice ak EL kc, v9, v10, v11, .int .i64 (t : Int), .slice mo (N + 50) mc, vo, .slice mo N mc, z16, z17, z18, z19, z20, z21, z22, z23, z24, z25, .slice a26 (EL + 100) c26, z27, .slice ad N cd, z29, z30, z31, z32, z33, z34, z35, z36, z37, z38, z39, z40, z41, z42, z43, z44, z45, z46, z47, z48, z49, z50, z51, z52, z53, z54, z55, z56, z57, z58, z59, z60, z61, z62, z63, z64, z65, z66, z67, z68, z69, z70, z71, z72, z73, z74, z75, z76, z77, z78, z79, z80, z81, z82, z83, z84, z85, z86, z87, z88, z89, z90, z91, z92, z93, z94, z95, z96, z97, z98, z99, z100, z101, z102, z103, z104, z105, z106, z107, z108, z109, z110, z111, z112, z113, z114, z115, z116, z117, z118, z119, z120, z121, z122, z123, z124, z125, z126, z127, z128, z129, z130, z131, z132, z133, z134, z135, z136, z137, z138, z139, z140, z141, z142, z143, z144, z145, z146, z147, z148, z149, z150, z151, z152, z153, z154, z155, z156, z157, z158, z159, z160, z161, z162, z163, z164, z165, z166, z167, z168, z169, z170, z171, z172, z173, z174, z175, z176, z177, z178, z179, z180, z181, z182, z183, z184, z185, z186, z187, z188, z189, z190, z191, z192, z193, z194, z195, z196, z197, z198, z199, z200, z201, z202, z203, z204, z205, z206, z207, z208, z209, z210, z211, z212, z213, z214, z215, z216, z217, z218, z219, z220, z221, z222, z223, z224, z225, z226, z227, z228, z229, z230, z231, z232, z233, z234, z235, z236, z237, z238, z239, z240, z241, z242, z243, z244, z245, z246, z247, z248, z249, z250, z251, z252, z253, z254, z255, z256, z257, z258, z259, z260, z261, z262, z263, z264, z265, z266, z267, z268, z269, z270, z271, z272, z273, z274, z275, z276, z277, z278, z279, z280, z281, z282, z283, z284, z285, z286, z287, z288, z289, z290, z291, z292, z293, z294, z295, z296, z297, z298, z299, z300, z301, z302, z303, z304, z305, z306, z307, z308, z309, z310, z311, z312, z313, z314, z315, z316, z317, z318, z319, z320, z321, z322, z323, z324, z325, z326, z327, z328, z329, z330, z331, z332, z333, z334, z335, z336, z337, z338, z339, z340, z341, z342, z343, z344, z345, z346, z347, z348, z349, z350, z351, z352, z353, z354, z355, z356, z357, z358, z359, z360, z361, z362, z363, z364, z365, z366, z367, z368, z369, z370], defers := [] } w := by
  have n1 : (N : Int) ≤ 4 := by have := hBS.n4; omega
  have t1 : (t : Int) < 4 := by omega
  have HBS := hid hBS
  have HQ := hid hQ
  have HP := hid hP
  have HLo := hid hlo
  have HX := hid hX
  have HL2 := hid (And.intro hlo2 hws)
  have HF := hid (And.intro hD (And.intro hHB (And.intro hb (And.intro hd (And.intro wb wd)))))
  have HK0 : Hid (∃ WS, WSp lo2 WS ∧ KS W w (brow v9 HB :: drow v10 (D.map (·.vl)) :: drow v11 (D.map (·.vm)) :: ⟨43, 3, .slice ad N cd, N, lo2.flatMap Ov.cs⟩ :: (WS ++ (mrow (.slice mo (N + 50) mc) lo 50 :: orow vo lo :: (lo.map wrow ++ X)))) H) := hid ⟨_, .start _, hK⟩
  clear hBS hQ hP hlo hX hD hHB hb hd wb wd hK hlo2 hws
  refine pth_walk _ rfl (by simp only [pth, inner, List.cons_append, List.nil_append]; rfl) ?_
  go_wp2_with fail
  go_loopw [35] (fun i wr => ∃ k : Nat, k ≤ N ∧ i = .int .i64 (k : Int) ∧ Hid (∃ WS, WSp lo2 WS ∧ KS W wr (brow v9 HB :: drow v10 (D.map (·.vl)) :: drow v11 (D.map (·.vm)) :: ⟨43, 3, .slice ad N cd, N, lo2.flatMap Ov.cs⟩ :: (WS ++ (mrow (.slice mo (N + 50) mc) lo 50 :: orow vo lo :: (lo.map wrow ++ X)))) H)) (fun i _ => N - (intOf i).toNat)
  case atStart => exact ⟨0, Nat.zero_le _, rfl, HK0⟩
  case round =>
    clear HK0
    obtain ⟨k, hk, rfl, HKe⟩ := hrel
    by_cases hlt : k < N
    · have q1 : (k : Int) < (N : Int) := by omega
      obtain ⟨x, hx⟩ : ∃ x, lo2[k]? = some x := ⟨_, List.getElem?_eq_getElem (by rw [HL2.out.1]; exact hlt)⟩
      have hxl := HL2.out.2 x (List.mem_of_getElem? hx)
      have HXk := hid hx
      have had : ∃ gd, ad = some ⟨gd, 0, none⟩ := by
        obtain ⟨WS, _, h⟩ := HKe.out
        exact own_some (h.mem (i := 3) rfl) (by show 0 < N; omega)
      obtain ⟨gd, rfl⟩ := had
      have hce : ∀ w WS, KS W w (brow v9 HB :: drow v10 (D.map (·.vl)) :: drow v11 (D.map (·.vm)) :: ⟨43, 3, .slice (some ⟨gd, 0, none⟩) N cd, N, lo2.flatMap Ov.cs⟩ :: (WS ++ (mrow (.slice mo (N + 50) mc) lo 50 :: orow vo lo :: (lo.map wrow ++ X)))) H → w.cell? ⟨gd, k * 3 + 2, none⟩ = some (.slice x.p x.o.ws.length x.c) := fun w WS h => d43_cell h (.tail _ (.tail _ (.tail _ (.head _)))) (by rw [flat_get lo2 k 2 x HXk.out (by decide)]; rfl)
      have HCe := hid hce
      clear hx hce
      go_wp2_with fail
      go_loopw [36] (fun i w2 => ∃ j : Nat, j ≤ x.o.ws.length ∧ i = .int .i64 (j : Int) ∧ Hid (∃ WS, WSp lo2 WS ∧ KS W w2 (brow v9 HB :: drow v10 (D.map (·.vl)) :: drow v11 (D.map (·.vm)) :: ⟨43, 3, .slice (some ⟨gd, 0, none⟩) N cd, N, lo2.flatMap Ov.cs⟩ :: (WS ++ (mrow (.slice mo (N + 50) mc) lo 50 :: orow vo lo :: (lo.map wrow ++ X)))) H)) (fun i _ => x.o.ws.length - (intOf i).toNat)
      case atStart => exact ⟨0, Nat.zero_le _, rfl, HKe⟩
      case round =>
        clear HKe
        obtain ⟨j, hj, rfl, HKe⟩ := hrel
        obtain ⟨WS, hWS, hKW⟩ := HKe.out
        have HWS := hid hWS
        have HK := hid hKW
        have c2 := HCe.out _ _ HK.out
        clear HKe hWS hKW
        by_cases hlt2 : j < x.o.ws.length
        · have q2 : (j : Int) < (x.o.ws.length : Int) := by omega
          obtain ⟨xs, hxs, hz⟩ := HWS.out.2 k x HXk.out
          have hk4 : (brow v9 HB :: drow v10 (D.map (·.vl)) :: drow v11 (D.map (·.vm)) :: ⟨43, 3, .slice (some ⟨gd, 0, none⟩) N cd, N, lo2.flatMap Ov.cs⟩ :: (WS ++ (mrow (.slice mo (N + 50) mc) lo 50 :: orow vo lo :: (lo.map wrow ++ X))))[k + 4]? = some ⟨24, 1, .slice x.p x.o.ws.length x.c, x.o.ws.length, xs⟩ := by
            rw [List.getElem?_cons_succ, List.getElem?_cons_succ, List.getElem?_cons_succ, List.getElem?_cons_succ, List.getElem?_append_left (List.getElem?_eq_some_iff.1 hz).1, hz]
          obtain ⟨gx, hp⟩ := own_some (HK.out.mem hk4) (by show 0 < x.o.ws.length; omega)
          have hp2 : x.p = some ⟨gx, 0, none⟩ := hp
          rw [hp2] at hk4 c2
          obtain ⟨y, hy⟩ : ∃ y, xs[j]? = some y := ⟨_, List.getElem?_eq_getElem (by omega)⟩
          have cy := own_rng (HK.out.mem hk4) j y hy
          have fy := own_free (HK.out.mem hk4) j
          rw [Nat.zero_add] at cy
          have HK2 := hid (fun (u : Value) => (⟨WS.set k ⟨24, 1, .slice x.p x.o.ws.length x.c, x.o.ws.length, xs.set j u⟩, HWS.out.set HXk.out _ (by rw [List.length_set]; exact hxs), by
            have := w24_wr (j := j) HK.out hk4 u
            rw [List.set_cons_succ, List.set_cons_succ, List.set_cons_succ, List.set_cons_succ, List.set_append_left _ _ (List.getElem?_eq_some_iff.1 hz).1, ← hp2] at this
            exact this⟩ : ∃ WS2, WSp lo2 WS2 ∧ KS W (wr.setCell ⟨gx, j, none⟩ u) (brow v9 HB :: drow v10 (D.map (·.vl)) :: drow v11 (D.map (·.vm)) :: ⟨43, 3, .slice (some ⟨gd, 0, none⟩) N cd, N, lo2.flatMap Ov.cs⟩ :: (WS2 ++ (mrow (.slice mo (N + 50) mc) lo 50 :: orow vo lo :: (lo.map wrow ++ X)))) H))
          have HPx := hid hp2
          clear hxs hz hk4 hp hp2 hy HK HWS
          go_wp2_with fail
          go_roundw
          case measure => simp [intOf] <;> omega
          case rel => exact ⟨j + 1, by omega, by simp, hid (HK2.out _)⟩
        · have q2 : (x.o.ws.length : Int) ≤ (j : Int) := by omega
          go_wp2_with fail
          go_roundw
          case measure => simp [intOf] <;> omega
          case rel => exact ⟨k + 1, by omega, by simp, hid ⟨WS, HWS.out, HK.out⟩⟩
    · have q1 : (N : Int) ≤ (k : Int) := by omega
      obtain ⟨WS, hWS, hKW⟩ := HKe.out
      have HWS := hid hWS
      have HKs : Hid (KS W wr (brow v9 HB :: drow v10 (D.map (·.vl)) :: drow v11 (D.map (·.vm)) :: ⟨43, 3, .slice ad N cd, N, rp 0 (mcs t) ++ (lo2.drop 0).flatMap Ov.cs⟩ :: (WS.drop 0 ++ (mrow (.slice mo (N + 50) mc) lo 50 :: orow vo lo :: (lo.map wrow ++ X)))) H) := hid hKW
      clear HKe hWS hKW
      have hkN : N = k := by omega
      subst hkN
      clear q1 hlt hk
      go_wp2_with fail
      go_loopw [9, 37] (fun v i w2 => ∃ (j : Nat) (u : Value) (HB2 H2 : List Hk), j ≤ N ∧ i = .int .i64 (j : Int) ∧ v = u ∧ Hid (HB2.length = HB.length + j ∧ (∀ h ∈ HB2, h ∈ H2) ∧ (∀ h ∈ H, h ∈ H2) ∧ ∀ h ∈ HB2, ∃ n a, HWd h n a ∧ n ≤ 262144) ∧ Hid (KS W w2 (brow u HB2 :: drow v10 (D.map (·.vl)) :: drow v11 (D.map (·.vm)) :: ⟨43, 3, .slice ad N cd, N, rp j (mcs t) ++ (lo2.drop j).flatMap Ov.cs⟩ :: (WS.drop j ++ (mrow (.slice mo (N + 50) mc) lo 50 :: orow vo lo :: (lo.map wrow ++ X)))) H2)) (fun _ i _ => N - (intOf i).toNat)
      case atStart => exact ⟨0, _, HB, H, Nat.zero_le _, rfl, rfl, hid ⟨rfl, HF.out.2.2.1, fun h hh => hh, HF.out.2.2.2.2.1⟩, HKs⟩
      case round =>
        clear HKs
        obtain ⟨j, u9, HB2, H2, hj, rfl, rfl, HBf, HK⟩ := hrel
        have hb2 := HBf.out.1
        have hb3 := HF.out.2.1
        by_cases hlt : j < N
        · have q1 : (j : Int) < (N : Int) := by omega
          obtain ⟨x, hx⟩ : ∃ x, lo2[j]? = some x := ⟨_, List.getElem?_eq_getElem (by rw [HL2.out.1]; exact hlt)⟩
          have hxl := HL2.out.2 x (List.mem_of_getElem? hx)
          obtain ⟨xs, hxs, hz⟩ := HWS.out.2 j x hx
          obtain ⟨gd, rfl⟩ := own_some (HK.out.mem (i := 3) rfl) (by show 0 < N; omega)
          have c2 := d43_cell HK.out (.tail _ (.tail _ (.tail _ (.head _)))) (mix_cell lo2 j t x hx)
          have hWd : WS.drop j = ⟨24, 1, .slice x.p x.o.ws.length x.c, x.o.ws.length, xs⟩ :: WS.drop (j + 1) := by
            rw [List.drop_eq_getElem_cons (List.getElem?_eq_some_iff.1 hz).1, (List.getElem?_eq_some_iff.1 hz).2]
          have HKb : Hid (KS W wr (⟨24, 1, .slice x.p x.o.ws.length x.c, x.o.ws.length, xs⟩ :: (brow u9 HB2 :: drow v10 (D.map (·.vl)) :: drow v11 (D.map (·.vm)) :: ⟨43, 3, .slice (some ⟨gd, 0, none⟩) N cd, N, rp j (mcs t) ++ (lo2.drop j).flatMap Ov.cs⟩ :: (WS.drop (j + 1) ++ (mrow (.slice mo (N + 50) mc) lo 50 :: orow vo lo :: (lo.map wrow ++ X))))) H2) := hid (by
            have := HK.out
            rw [hWd] at this
            exact bring (R1 := [brow u9 HB2, drow v10 (D.map (·.vl)), drow v11 (D.map (·.vm)), ⟨43, 3, .slice (some ⟨gd, 0, none⟩) N cd, N, rp j (mcs t) ++ (lo2.drop j).flatMap Ov.cs⟩]) this)
          have HHo := hid (fun a => hold_any W wr x.p x.o.ws.length x.c xs _ H2 a HKb.out (by omega))
          have HXj := hid hx
          clear hx hz hWd hxs HK
          go_upto_region 59 with (first | (go_at_call 24; refine (HHo.out _).mono ?_; rintro e w5 ⟨vm, rfl, h5⟩; obtain ⟨am, cm, hvm⟩ := own_frm (h5.each _ (.head _)).m (by show 0 < 1; decide); have hvm2 : vm = .slice am (x.o.ws.length + 1) cm := hvm; subst hvm2; have HK5 := hid h5; clear h5 hvm) | (at_builtin; refine wpList_append_1 rfl _ _ 56 63 rfl Tryd.underlying56 info63 rfl (by decide) (by decide) rfl ((HK5.out.on (below_one _ _)).mem (i := 0) rfl) (HK5.out.on (below_one _ _)).below.size rfl rfl (cel_new _ 63 [.slice x.p x.o.ws.length x.c, .slice am (x.o.ws.length + 1) cm, .int .u32 _]) (by simp [Value.oneCell']) (by show HB2.length ≤ 2000000; omega) ?_; intro u9b w7 hal; have HK6 := hid ((HK5.out.on (below_one _ _)).app 0 rfl hal); clear hal))
          obtain ⟨hk, hhk⟩ : ∃ hk : Hk, hk = ⟨24, 1, .slice x.p x.o.ws.length x.c, .slice am (x.o.ws.length + 1) cm, x.o.ws.length, x.o.ws.length + 1, [.int .u32 (1000 * (t : Int) + (j : Int) + 2)]⟩ := ⟨_, rfl⟩
          have hHW : HWd hk x.o.ws.length (1000 * (t : Int) + (j : Int) + 2) := by rw [hhk]; exact ⟨rfl, rfl, rfl, rfl, rfl⟩
          have HK7 : Hid (KS W w7 (brow u9b (HB2 ++ [hk]) :: drow v10 (D.map (·.vl)) :: drow v11 (D.map (·.vm)) :: ⟨43, 3, .slice (some ⟨gd, 0, none⟩) N cd, N, rp j (mcs t) ++ (lo2.drop j).flatMap Ov.cs⟩ :: (WS.drop (j + 1) ++ (mrow (.slice mo (N + 50) mc) lo 50 :: orow vo lo :: (lo.map wrow ++ X)))) (hk :: H2)) := hid (by have := HK6.out; rw [← brow_snoc, hhk]; exact this)
          clear HK5 HK6 HHo HKb
          go_wp2_with (refine wpList_store_op rfl _ _ rfl HK7.out 3 rfl j hlt (mcs t) rfl (by simp [mcs, Value.oneCell']) rfl rfl ?_; intro w8 h8; have HK8 := hid h8; clear h8)
          go_roundw
          case measure => simp [intOf] <;> omega
          case rel => exact ⟨j + 1, u9b, HB2 ++ [hk], hk :: H2, by omega, by simp, rfl, hid ⟨by rw [List.length_append, hb2]; simp; omega, fun h hh => by
            rcases List.mem_append.1 hh with hh | hh
            · exact .tail _ (HBf.out.2.1 h hh)
            · rw [List.mem_singleton.1 hh]; exact .head _, fun h hh => .tail _ (HBf.out.2.2.1 h hh), fun h hh => by
            rcases List.mem_append.1 hh with hh | hh
            · exact HBf.out.2.2.2 h hh
            · rw [List.mem_singleton.1 hh]; exact ⟨_, _, hHW, by omega⟩⟩, hid (by have := HK8.out; rw [mix_step lo2 j t x HXj.out] at this; exact this)⟩
        · have q1 : (N : Int) ≤ (j : Int) := by omega
          have hjN : j = N := by omega
          have HK9 : Hid (KS W wr (brow u9 HB2 :: drow v10 (D.map (·.vl)) :: drow v11 (D.map (·.vm)) :: ⟨43, 3, .slice ad N cd, N, rp N (mcs t)⟩ :: (mrow (.slice mo (N + 50) mc) lo 50 :: orow vo lo :: (lo.map wrow ++ X))) H2) := hid (by
            have := HK.out
            have e1 : WS.drop N = [] := List.drop_eq_nil_of_le (by rw [HWS.out.1, HL2.out.1]; exact Nat.le_refl _)
            have e2 : lo2.drop N = [] := List.drop_eq_nil_of_le (by rw [HL2.out.1]; exact Nat.le_refl _)
            rw [hjN, e1, e2, List.flatMap_nil, List.append_nil] at this
            exact this)
          clear HK hjN
          go_upto_region 60 with fail
          go_cut [10] from 322 to 325 (fun v w => Hid (KS W w (brow u9 HB2 :: drow v (D.map (·.vl) ++ [.slice ad N cd]) :: drow v11 (D.map (·.vm)) :: ⟨43, 3, .slice ad N cd, N, rp N (mcs t)⟩ :: (mrow (.slice mo (N + 50) mc) lo 50 :: orow vo lo :: (lo.map wrow ++ X))) H2))
          case first =>
            go_wp2_with (at_builtin; refine wpList_append_1 rfl _ _ 57 25 rfl Tryd.underlying57 info25 rfl (by decide) (by decide) rfl ((HK9.out.on (below_one _ _)).mem (i := 1) rfl) (HK9.out.on (below_one _ _)).below.size rfl rfl (cel_new _ 25 [.slice ad N cd]) (by simp [Value.oneCell']) (by show (D.map (·.vl)).length ≤ 2000000; rw [List.length_map, HF.out.1]; omega) ?_; intro v10b w7 hal; have HKa : Hid (KS W w7 (brow u9 HB2 :: drow v10b (D.map (·.vl) ++ [.slice ad N cd]) :: drow v11 (D.map (·.vm)) :: ⟨43, 3, .slice ad N cd, N, rp N (mcs t)⟩ :: (mrow (.slice mo (N + 50) mc) lo 50 :: orow vo lo :: (lo.map wrow ++ X))) H2) := hid (by have := (HK9.out.on (below_one _ _)).app 1 rfl hal; rw [← drow_snoc v10b (D.map (·.vl))]; exact this); clear hal)
            go_meet
            exact HKa
          case rest =>
            exact (‹∀ (a : Act) (w : World), Code.wp Tryd.prog _ _ a w → _› _ _ (partE W _ al ak N lc EL kc t l E HBS.out ht u9 _ v11 (.slice ad N cd) vo HB2 D H2 X lo mo a26 mc c26 HF.out.1 (by omega) HBf.out.2.1 (fun h hh => HBf.out.2.2.1 h (HF.out.2.2.2.1 h hh)) HBf.out.2.2.2 HF.out.2.2.2.2.2 HLo.out HX.out (bring (R1 := [brow u9 HB2, drow _ (D.map (·.vl) ++ [.slice ad N cd]), drow v11 (D.map (·.vm))]) hcut.out) _ _ _ _ _ _ _ _ _ _ _ _ _ _ _ _ _ _ _ _ _ _ _ _ _ _ _ _ _ _ _ _ _ _ _ _ _ _ _ _ _ _ _ _ _ _ _ _ _ _ _ _ _ _ _ _ _ _ _ _ _ _ _ _ _ _ _ _ _ _ _ _ _ _ _ _ _ _ _ _ _ _ _ _ _ _ _ _ _ _ _ _ _ _ _ _ _ _ _ _ _ _ _ _ _ _ _ _ _ _ _ _ _ _ _ _ _ _ _ _ _ _ _ _ _ _ _ _ _ _ _ _ _ _ _ _ _ _ _ _ _ _ _ _ _ _ _ _ _ _ _ _ _ _ _ _ _ _ _ _ _ _ _ _ _ _ _ _ _ _ _ _ _ _ _ _ _ _ _ _ _ _ _ _ _ _ _ _ _ _ _ _ _ _ _ _ _ _ _ _ _ _ _ _ _ _ _ _ _ _ _ _ _ _ _ _ _ _ _ _ _ _ _ _ _ _ _ _ _ _ _ _ _ _ _ _ _ _ _ _ _ _ _ _ _ _ _ _ _ _ _ _ _ _ _ _ _ _ _ _ _ _ _ _ _ _ _ _ _ _ _ _ _ _ _ _ _ _ _ _ _ _ _ _ _ _ _ _ _ _ _ _ _ _ _ _ _ _ _ _ _ _ _ _ _ _ _ _ _ _ _ _ _ _ _ _ _ _ _ _ _ _ _ _ _ _ _ _ _ _ _ _ _ _ _ _ _ _ _ _ _ _ _ _ _ _ _ _ _ _ _ _ _ _ _ _ _ _ _ _ _ HP.out (fun w' v11' D' H' _ _ _ _ _ _ _ _ _ _ _ _ _ _ _ _ _ _ _ _ _ _ _ _ _ _ _ _ _ _ _ _ _ _ _ _ _ _ _ _ _ _ _ _ _ hT hl => HQ.out w' u9 _ v11' HB2 D' H' _ _ _ _ _ _ _ _ _ _ _ _ _ _ _ _ _ _ _ _ _ _ _ _ _ _ _ _ _ _ _ _ _ _ _ _ _ _ _ _ _ _ _ _ _ _ _ _ _ _ _ _ _ _ _ _ _ _ _ _ _ _ _ _ _ _ _ _ _ _ _ _ _ _ _ _ _ _ _ _ _ _ _ _ _ _ _ _ _ _ _ _ _ _ _ _ _ _ _ _ _ _ _ _ _ _ _ _ hT hl (by omega))))
end Go.Proofs.YtmomidkodjihjaaDoor
