import Derived.Test.YtmomidkodjihjaaDoorP33
import Derived.Deep.DeepCutAuto
namespace Go.Proofs.YtmomidkodjihjaaDoor
open Go.RowKit
open H
set_option maxRecDepth 100000
set_option maxHeartbeats 8000000
attribute [-simp] Tryd.isAgg44 Tryd.sizeOf44 Tryd.zeroValue44 Tryd.isAgg37 Tryd.sizeOf37 Tryd.zeroValue37
theorem bf_add {HB H : List Hk} {hk : Hk} (h : (∀ x ∈ HB, x ∈ H) ∧ ∀ x ∈ HB, ∃ n a, HWd x n a ∧ n ≤ 262144) {n : Nat} {a : Int} (hw : HWd hk n a) (hn : n ≤ 262144) : (∀ x ∈ HB ++ [hk], x ∈ hk :: H) ∧ ∀ x ∈ HB ++ [hk], ∃ n a, HWd x n a ∧ n ≤ 262144 := by
  refine ⟨fun x hx => ?_, fun x hx => ?_⟩
  · rcases List.mem_append.1 hx with hx | hx
    · exact .tail _ (h.1 x hx)
    · rw [List.mem_singleton.1 hx]; exact .head _
  · rcases List.mem_append.1 hx with hx | hx
    · exact h.2 x hx
    · rw [List.mem_singleton.1 hx]; exact ⟨n, a, hw, hn⟩
theorem partC (W w : World) (al ak : Option Addr) (N lc EL kc t : Nat) (l : List Ov) (E : List Int) (hBS : BS W al ak N EL l E) (ht : t < 4) (v9 v10 v11 vo : Value) (HB D : List Hk) (H : List Hk) (X : List Rr) (lo lo2 lo3 : List Ov) (mo a26 ad ae aw a2 : Option Addr) (mc c26 cd ce cw c2 : Nat)
    (hD : D.length = t) (hHB : HB.length + (N + N + 2) ≤ 900) (hb : ∀ h ∈ HB, h ∈ H) (hd : ∀ h ∈ D, h ∈ H) (wb : ∀ h ∈ HB, ∃ n a, HWd h n a ∧ n ≤ 262144) (wd : ∀ i h, D[i]? = some h → HOp h N i)
    (hlo : lo.map Ov.o = l.map Ov.o) (hlo2 : lo2.length = N) (hws : ∀ x ∈ lo2, x.o.ws.length ≤ 1024) (hlo3 : lo3.length = N) (hws3 : ∀ x ∈ lo3, x.o.ws.length ≤ 1024) (hX : (⟨24, 1, .slice a26 (EL + 100) c26, EL + 100, E.map (Value.int .u32) ++ rp 100 [mk]⟩ : Rr) ∈ X)
    (hK : KS W w (⟨24, 1, .slice a2 EL c2, EL, E.map (Value.int .u32)⟩ :: (brow v9 HB :: drow v10 (D.map (·.vl)) :: drow v11 (D.map (·.vm)) :: ⟨43, 3, .slice ae N ce, N, lo3.flatMap Ov.cs⟩ :: (lo3.map wr1 ++ (⟨24, 1, .slice aw EL cw, EL, E.map (Value.int .u32)⟩ :: ⟨43, 3, .slice ad N cd, N, lo2.flatMap Ov.cs⟩ :: (lo2.map wr1 ++ (mrow (.slice mo (N + 50) mc) lo 50 :: orow vo lo :: (lo.map wrow ++ X))))))) H) (Q : Exit → Act → World → Prop)
    (z0 z1 z2 z3 z4 z6 z7 z17 z18 z19 z20 z21 z22 z23 z24 z25 z27 z30 z32 z33 z34 z35 z36 z37 z38 z39 z40 z41 z42 z43 z44 z45 z46 z47 z48 z49 z50 z51 z52 z53 z54 z55 z56 z57 z58 z59 z60 z61 z62 z63 z64 z65 z66 z67 z68 z69 z70 z71 z72 z73 z74 z75 z76 z77 z78 z79 z80 z81 z82 z83 z84 z85 z86 z87 z88 z89 z90 z91 z92 z93 z94 z95 z96 z97 z98 z99 z100 z101 z102 z103 z104 z105 z106 z107 z108 z109 z110 z111 z112 z113 z114 z115 z116 z117 z118 z119 z120 z121 z122 z123 z124 z125 z126 z127 z128 z129 z130 z131 z132 z133 z134 z135 z136 z137 z138 z139 z140 z141 z142 z143 z144 z145 z146 z147 z148 z149 z150 z151 z152 z153 z154 z155 z156 z157 z158 z159 z160 z161 z162 z163 z164 z165 z166 z167 z168 z169 z170 z171 z172 z173 z174 z175 z176 z177 z178 z179 z180 z181 z182 z183 z184 z185 z186 z187 z188 z189 z190 z191 z192 z193 z194 z195 z196 z197 z198 z199 z200 z201 z202 z203 z204 z205 z206 z207 z208 z209 z210 z211 z212 z213 z214 z215 z216 z217 z218 z219 z220 z221 z222 z223 z224 z225 z226 z227 z228 z229 z230 z231 z232 z233 z234 z235 z236 z237 z238 z239 z240 z241 z242 z243 z244 z245 z246 z247 z248 z249 z250 z251 z252 z253 z254 z255 z256 z257 z258 z259 z260 z261 z262 z263 z264 z265 z266 z267 z268 z269 z270 z271 z272 z273 z274 z275 z276 z277 z278 z279 z280 z281 z282 z283 z284 z285 z286 z287 z288 z289 z290 z291 z292 z293 z294 z295 z296 z297 z298 z299 z300 z301 z302 z303 z304 z305 z306 z307 z308 z309 z310 z311 z312 z313 z314 z315 z316 z317 z318 z319 z320 z321 z322 z323 z324 z325 z326 z327 z328 z329 z330 z331 z332 z333 z334 z335 z336 z337 z338 z339 z340 z341 z342 z343 z344 z345 z346 z347 z348 z349 z350 z351 z352 z353 z354 z355 z356 z357 z358 z359 z360 z361 z362 z363 z364 z365 z366 z367 z368 z369 z370 : Value)
    (hP : ∀ (x : List PanicEntry) (a : Act) (t : Option Tmp) (v : Value) (w : World), Q (.panic x) (a.put t v) w → Q (.panic x) a w)
    (hQ : ∀ (w' : World) (v9' v10' v11' : Value) (HB' D' : List Hk) (H' : List Hk) (y4 y28 y33 y34 y35 y36 y37 y38 y214 y215 y216 y217 y218 y219 y220 y221 y222 y223 y224 y225 y226 y227 y228 y229 y230 y231 y232 y233 y234 y235 y236 y237 y238 y239 y240 y241 y242 y243 y244 y245 y246 y247 y248 y249 y250 y251 y252 y253 y254 y255 y256 y257 y258 y259 y260 y261 y262 y263 y264 y265 y266 y267 y268 y269 y270 y271 y272 y273 y274 y275 y276 y277 y278 y279 y280 y281 y282 y283 y284 y285 y286 y287 y288 y289 y290 y291 y292 y293 y294 y295 y296 y297 y298 y299 y300 y301 y302 y303 y304 y305 y306 y307 y308 y309 y310 y311 y312 y313 y314 y315 y316 y317 y318 y319 y320 y321 y322 y323 y324 y325 y326 y327 y328 y329 y330 y331 y332 y333 y334 y335 y336 y337 y338 y339 y340 y341 y342 y343 y344 y345 y346 y347 y348 y349 y350 y351 y352 y353 y354 y355 y356 y357 y358 y359 y360 y361 y362 y363 y364 y365 y366 y367 : Value), LS W w' N v9' v10' v11' HB' D' (D'.map (·.vl)) [] H' → D'.length = t + 1 → HB'.length = HB.length + (N + N + 2) → Q .normal { tmps := #[z0, z1, z2, z3, y4, .slice al N lc, z6, z7, .slice ak EL kc, v9', v10', v11', .int .i64 (t : Int), .slice mo (N + 50) mc, vo, .slice mo N mc, .slice aw EL cw, z17, z18, z19, z20, z21, z22, z23, z24, z25, .slice a26 (EL + 100) c26, z27, y28, .slice a2 EL c2, z30, .slice ae N ce, z32, y33, y34, y35, y36, y37, y38, z39, z40, z41, z42, z43, z44, z45, z46, z47, z48, z49, z50, z51, z52, z53, z54, z55, z56, z57, z58, z59, z60, z61, z62, z63, z64, z65, z66, z67, z68, z69, z70, z71, z72, z73, z74, z75, z76, z77, z78, z79, z80, z81, z82, z83, z84, z85, z86, z87, z88, z89, z90, z91, z92, z93, z94, z95, z96, z97, z98, z99, z100, z101, z102, z103, z104, z105, z106, z107, z108, z109, z110, z111, z112, z113, z114, z115, z116, z117, z118, z119, z120, z121, z122, z123, z124, z125, z126, z127, z128, z129, z130, z131, z132, z133, z134, z135, z136, z137, z138, z139, z140, z141, z142, z143, z144, z145, z146, z147, z148, z149, z150, z151, z152, z153, z154, z155, z156, z157, z158, z159, z160, z161, z162, z163, z164, z165, z166, z167, z168, z169, z170, z171, z172, z173, z174, z175, z176, z177, z178, z179, z180, z181, z182, z183, z184, z185, z186, z187, z188, z189, z190, z191, z192, z193, z194, z195, z196, z197, z198, z199, z200, z201, z202, z203, z204, z205, z206, z207, z208, z209, z210, z211, z212, z213, y214, y215, y216, y217, y218, y219, y220, y221, y222, y223, y224, y225, y226, y227, y228, y229, y230, y231, y232, y233, y234, y235, y236, y237, y238, y239, y240, y241, y242, y243, y244, y245, y246, y247, y248, y249, y250, y251, y252, y253, y254, y255, y256, y257, y258, y259, y260, y261, y262, y263, y264, y265, y266, y267, y268, y269, y270, y271, y272, y273, y274, y275, y276, y277, y278, y279, y280, y281, y282, y283, y284, y285, y286, y287, y288, y289, y290, y291, y292, y293, y294, y295, y296, y297, y298, y299, y300, y301, y302, y303, y304, y305, y306, y307, y308, y309, y310, y311, y312, y313, y314, y315, y316, y317, y318, y319, y320, y321, y322, y323, y324, y325, y326, y327, y328, y329, y330, y331, y332, y333, y334, y335, y336, y337, y338, y339, y340, y341, y342, y343, y344, y345, y346, y347, y348, y349, y350, y351, y352, y353, y354, y355, y356, y357, y358, y359, y360, y361, y362, y363, y364, y365, y366, y367, z368, z369, z370], defers := [] } w') :
    Code.wp Tryd.prog (pth (inner ++ [1, 1, 1, 1, 1, 1, 1, 1, 1, 1, 1, 1, 1, 1, 1, 1]) (Tryd.f6.body.getD .skip)) Q { tmps := #[z0, z1, z2, z3, z4, .slice al N lc, z6, z7, .slice ak EL kc, v9, v10, v11, .int .i64 (t : Int), .slice mo (N + 50) mc, vo, .slice mo N mc, .slice aw EL cw, z17, z18, z19, z20, z21, z22, z23, z24, z25, .slice a26 (EL + 100) c26, z27, .slice ad N cd, .slice a2 EL c2, z30, .slice ae N ce, z32, z33, z34, z35, z36, z37, z38, z39, z40, z41, z42, z43, z44, z45, z46, z47, z48, z49, z50, z51, z52, z53, z54, z55, z56, z57, z58, z59, z60, z61, z62, z63, z64, z65, z66, z67, z68, z69, z70, z71, z72, z73, z74, z75, z76, z77, z78, z79, z80, z81, z82, z83, z84, z85, z86, z87, z88, z89, z90, z91, z92, z93, z94, z95, z96, z97, z98, z99, z100, z101, z102, z103, z104, z105, z106, z107, z108, z109, z110, z111, z112, z113, z114, z115, z116, z117, z118, z119, z120, z121, z122, z123, z124, z125, z126, z127, z128, z129, z130, z131, z132, z133, z134, z135, z136, z137, z138, z139, z140, z141, z142, z143, z144, z145, z146, z147, z148, z149, z150, z151, z152, z153, z154, z155, z156, z157, z158, z159, z160, z161, z162, z163, z164, z165, z166, z167, z168, z169, z170, z171, z172, z173, z174, z175, z176, z177, z178, z179, z180, z181, z182, z183, z184, z185, z186, z187, z188, z189, z190, z191, z192, z193, z194, z195, z196, z197, z198, z199, z200, z201, z202, z203, z204, z205, z206, z207, z208, z209, z210, z211, z212, z213, z214, z215, z216, z217, z218, z219, z220, z221, z222, z223, z224, z225, z226, z227, z228, z229, z230, z231, z232, z233, z234, z235, z236, z237, z238, z239, z240, z241, z242, z243, z244, z245, z246, z247, z248, z249, z250, z251, z252, z253, z254, z255, z256, z257, z258, z259, z260, z261, z262, z263, z264, z265, z266, z267, z268, z269, z270, z271, z272, z273, z274, z275, z276, z277, z278, z279, z280, z281, z282, z283, z284, z285, z286, z287, z288, z289, z290, z291, z292, z293, z294, z295, z296, z297, z298, z299, z300, z301, z302, z303, z304, z305, z306, z307, z308, z309, z310, z311, z312, z313, z314, z315, z316, z317, z318, z319, z320, z321, z322, z323, z324, z325, z326, z327, z328, z329, z330, z331, z332, z333, z334, z335, z336, z337, z338, z339, z340, z341, z342, z343, z344, z345, z346, z347, z348, z349, z350, z351, z352, z353, z354, z355, z356, z357, z358, z359, z360, z361, z362, z363, z364, z365, z366, z367, z368, z369, z370], defers := [] } w := by
  have n1 : (N : Int) ≤ 4 := by have := hBS.n4; omega
  have t1 : (t : Int) < 4 := by omega
  have e0 : EL ≤ 8208 := hBS.e8
  have e1 : (EL : Int) ≤ 8208 := by omega
  have HBS := hid hBS
  have HQ := hid hQ
  have HP := hid hP
  have HLo := hid hlo
  have HX := hid hX
  have HL2 := hid (And.intro hlo2 hws)
  have HL3 := hid (And.intro hlo3 hws3)
  have HF := hid (And.intro hD (And.intro hHB (And.intro hd wd)))
  have HBf := hid (And.intro hb wb)
  have HHo := hid (fun a => hold_any W w a2 EL c2 _ _ H a hK (by omega))
  clear hBS hQ hP hlo hX hD hHB hb hd wb wd hK hlo2 hws hlo3 hws3
  have hb3 := HF.out.2.1
  refine pth_walk _ rfl (by simp only [pth, inner, List.cons_append, List.nil_append]; rfl) ?_
  go_upto_region 38 with (first | (go_at_call 24; refine (HHo.out _).mono ?_; rintro e w5 ⟨vm, rfl, h5⟩; obtain ⟨am, cm, hvm⟩ := own_frm (h5.each _ (.head _)).m (by show 0 < 1; decide); have hvm2 : vm = .slice am (EL + 1) cm := hvm; subst hvm2; have HK5 := hid h5; clear h5 hvm) | (at_builtin; refine wpList_append_1 rfl _ _ 56 63 rfl Tryd.underlying56 info63 rfl (by decide) (by decide) rfl ((HK5.out.on (below_one _ _)).mem (i := 0) rfl) (HK5.out.on (below_one _ _)).below.size rfl rfl (cel_new _ 63 [.slice a2 EL c2, .slice am (EL + 1) cm, .int .u32 _]) (by simp [Value.oneCell']) (by show HB.length ≤ 2000000; omega) ?_; intro u9 w7 hal; have HK6 := hid ((HK5.out.on (below_one _ _)).app 0 rfl hal); clear hal))
  obtain ⟨hk, hhk⟩ : ∃ hk : Hk, hk = ⟨24, 1, .slice a2 EL c2, .slice am (EL + 1) cm, EL, EL + 1, [.int .u32 (1000 * (t : Int) + 501)]⟩ := ⟨_, rfl⟩
  have hHW : HWd hk EL (1000 * (t : Int) + 501) := by rw [hhk]; exact ⟨rfl, rfl, rfl, rfl, rfl⟩
  have HB1 := hid (bf_add HBf.out hHW (by omega))
  have HK7 : Hid (KS W w7 (brow u9 (HB ++ [hk]) :: drow v10 (D.map (·.vl)) :: drow v11 (D.map (·.vm)) :: ⟨43, 3, .slice ae N ce, N, lo3.flatMap Ov.cs⟩ :: (((lo3.map wr1).drop 0) ++ (⟨24, 1, .slice aw EL cw, EL, E.map (Value.int .u32)⟩ :: ⟨43, 3, .slice ad N cd, N, lo2.flatMap Ov.cs⟩ :: (lo2.map wr1 ++ (mrow (.slice mo (N + 50) mc) lo 50 :: orow vo lo :: (lo.map wrow ++ X)))))) (hk :: H)) := hid (by have := HK6.out; rw [← brow_snoc, hhk]; exact this)
  have HH1 : Hid (∀ h ∈ H, h ∈ hk :: H) := hid (fun h hh => .tail _ hh)
  have hl1 : (HB ++ [hk]).length = HB.length + 1 + 0 := by simp
  clear HK5 HK6 HHo hhk hHW
  generalize HB ++ [hk] = HBa at *
  generalize hk :: H = Ha at *
  go_wp2_with fail
  go_loopw [9, 33] (fun v i w2 => ∃ (j : Nat) (u : Value) (HB2 H2 : List Hk), j ≤ N ∧ i = .int .i64 (j : Int) ∧ v = u ∧ Hid (HB2.length = HB.length + 1 + j) ∧ Hid ((∀ x ∈ HB2, x ∈ H2) ∧ ∀ x ∈ HB2, ∃ n a, HWd x n a ∧ n ≤ 262144) ∧ Hid (∀ h ∈ H, h ∈ H2) ∧ Hid (KS W w2 (brow u HB2 :: drow v10 (D.map (·.vl)) :: drow v11 (D.map (·.vm)) :: ⟨43, 3, .slice ae N ce, N, lo3.flatMap Ov.cs⟩ :: (((lo3.map wr1).drop j) ++ (⟨24, 1, .slice aw EL cw, EL, E.map (Value.int .u32)⟩ :: ⟨43, 3, .slice ad N cd, N, lo2.flatMap Ov.cs⟩ :: (lo2.map wr1 ++ (mrow (.slice mo (N + 50) mc) lo 50 :: orow vo lo :: (lo.map wrow ++ X)))))) H2)) (fun _ i _ => N - (intOf i).toNat)
  case atStart => exact ⟨0, _, HBa, Ha, Nat.zero_le _, rfl, rfl, hid hl1, HB1, HH1, HK7⟩
  case round =>
    clear HK7 HB1 HH1 hl1
    obtain ⟨j, u9, HB2, H2, hj, rfl, rfl, HLb, HBf2, HH2, HK⟩ := hrel
    have hb2 := HLb.out
    by_cases hlt : j < N
    · have q1 : (j : Int) < (N : Int) := by omega
      obtain ⟨x, hx⟩ : ∃ x, lo3[j]? = some x := ⟨_, List.getElem?_eq_getElem (by rw [HL3.out.1]; exact hlt)⟩
      have hxl := HL3.out.2 x (List.mem_of_getElem? hx)
      obtain ⟨gd, rfl⟩ := own_some (HK.out.mem (i := 3) rfl) (by show 0 < N; omega)
      have c2_ := d43_cell HK.out (.tail _ (.tail _ (.tail _ (.head _)))) (by rw [flat_get lo3 j 2 x hx (by decide)]; rfl : (lo3.flatMap Ov.cs)[j * 3 + 2]? = some (.slice x.p x.o.ws.length x.c))
      have hWd : (lo3.map wr1).drop j = wr1 x :: (lo3.map wr1).drop (j + 1) := by
        have hz : (lo3.map wr1)[j]? = some (wr1 x) := by rw [List.getElem?_map, hx]; rfl
        rw [List.drop_eq_getElem_cons (List.getElem?_eq_some_iff.1 hz).1, (List.getElem?_eq_some_iff.1 hz).2]
      have HKb : Hid (KS W wr (⟨24, 1, .slice x.p x.o.ws.length x.c, x.o.ws.length, x.o.ws.map (Value.int .u32)⟩ :: (brow u9 HB2 :: drow v10 (D.map (·.vl)) :: drow v11 (D.map (·.vm)) :: ⟨43, 3, .slice (some ⟨gd, 0, none⟩) N ce, N, lo3.flatMap Ov.cs⟩ :: (((lo3.map wr1).drop (j + 1)) ++ (⟨24, 1, .slice aw EL cw, EL, E.map (Value.int .u32)⟩ :: ⟨43, 3, .slice ad N cd, N, lo2.flatMap Ov.cs⟩ :: (lo2.map wr1 ++ (mrow (.slice mo (N + 50) mc) lo 50 :: orow vo lo :: (lo.map wrow ++ X))))))) H2) := hid (by
        have := HK.out
        rw [hWd] at this
        exact bring (R1 := [brow u9 HB2, drow v10 (D.map (·.vl)), drow v11 (D.map (·.vm)), ⟨43, 3, .slice (some ⟨gd, 0, none⟩) N ce, N, lo3.flatMap Ov.cs⟩]) this)
      have HHo := hid (fun a => hold_any W wr x.p x.o.ws.length x.c _ _ H2 a HKb.out (by omega))
      clear hx hWd HK
      go_wp2_with (first | (go_at_call 24; refine (HHo.out _).mono ?_; rintro e w5 ⟨vm, rfl, h5⟩; obtain ⟨am, cm, hvm⟩ := own_frm (h5.each _ (.head _)).m (by show 0 < 1; decide); have hvm2 : vm = .slice am (x.o.ws.length + 1) cm := hvm; subst hvm2; have HK5 := hid h5; clear h5 hvm) | (at_builtin; refine wpList_append_1 rfl _ _ 56 63 rfl Tryd.underlying56 info63 rfl (by decide) (by decide) rfl ((HK5.out.on (below_one _ _)).mem (i := 0) rfl) (HK5.out.on (below_one _ _)).below.size rfl rfl (cel_new _ 63 [.slice x.p x.o.ws.length x.c, .slice am (x.o.ws.length + 1) cm, .int .u32 _]) (by simp [Value.oneCell']) (by show HB2.length ≤ 2000000; omega) ?_; intro u9b w7 hal; have HK6 := hid ((HK5.out.on (below_one _ _)).app 0 rfl hal); clear hal))
      obtain ⟨hk, hhk⟩ : ∃ hk : Hk, hk = ⟨24, 1, .slice x.p x.o.ws.length x.c, .slice am (x.o.ws.length + 1) cm, x.o.ws.length, x.o.ws.length + 1, [.int .u32 (1000 * (t : Int) + (j : Int) + 502)]⟩ := ⟨_, rfl⟩
      have hHW : HWd hk x.o.ws.length (1000 * (t : Int) + (j : Int) + 502) := by rw [hhk]; exact ⟨rfl, rfl, rfl, rfl, rfl⟩
      go_roundw
      case measure => simp [intOf] <;> omega
      case rel => exact ⟨j + 1, u9b, HB2 ++ [hk], hk :: H2, by omega, by simp, rfl, hid (by rw [List.length_append, hb2]; simp; omega), hid (bf_add HBf2.out hHW (by omega)), hid (fun h hh => .tail _ (HH2.out h hh)), hid (by have := HK6.out; rw [← brow_snoc, hhk]; exact this)⟩
    · have hjN : N = j := by omega
      subst hjN
      have HK8 : Hid (KS W wr (brow u9 HB2 :: drow v10 (D.map (·.vl)) :: drow v11 (D.map (·.vm)) :: ⟨43, 3, .slice ae N ce, N, lo3.flatMap Ov.cs⟩ :: (⟨24, 1, .slice aw EL cw, EL, E.map (Value.int .u32)⟩ :: ⟨43, 3, .slice ad N cd, N, lo2.flatMap Ov.cs⟩ :: (lo2.map wr1 ++ (mrow (.slice mo (N + 50) mc) lo 50 :: orow vo lo :: (lo.map wrow ++ X))))) H2) := hid (by
        have := HK.out
        rw [List.drop_eq_nil_of_le (by rw [List.length_map, HL3.out.1]; exact Nat.le_refl _)] at this
        exact this)
      have HLg : Hid (∃ g26, a26 = some ⟨g26, 0, none⟩) := hid (own_some (HK8.out.inn (r := (⟨24, 1, .slice a26 (EL + 100) c26, EL + 100, E.map (Value.int .u32) ++ rp 100 [mk]⟩ : Rr)) (.tail _ (.tail _ (.tail _ (.tail _ (.tail _ (.tail _ (List.mem_append_right _ (.tail _ (.tail _ (List.mem_append_right _ HX.out))))))))))) (by show 0 < EL + 100; omega))
      obtain ⟨g26, rfl⟩ := HLg.out
      have HCm := hid (fun (m : Nat) (hm : m < 100) => (by
        have h1 : wr.ownsRow W.heap.size 24 1 (.slice (some ⟨g26, 0, none⟩) (EL + 100) c26) (EL + 100) (E.map (Value.int .u32) ++ rp 100 [mk]) := HK8.out.inn (r := (⟨24, 1, .slice (some ⟨g26, 0, none⟩) (EL + 100) c26, EL + 100, E.map (Value.int .u32) ++ rp 100 [mk]⟩ : Rr)) (.tail _ (.tail _ (.tail _ (.tail _ (.tail _ (.tail _ (List.mem_append_right _ (.tail _ (.tail _ (List.mem_append_right _ HX.out))))))))))
        have hE := HBS.out.hEl
        have := own_rng h1 (EL + m) mk (by
          rw [List.getElem?_append_right (by rw [List.length_map]; omega), List.length_map, hE, show EL + m - EL = m by omega]
          unfold mk
          rw [rp_map, List.getElem?_map, List.getElem?_replicate, if_pos hm]
          rfl)
        rw [Nat.zero_add] at this
        exact this : wr.cell? ⟨g26, EL + m, none⟩ = some (.int .u32 4276993775)))
      clear HK HLg
      go_wp2_with fail
      go_loopw [34] (fun i w2 => ∃ m : Nat, m ≤ 100 ∧ i = .int .i64 ((EL : Int) + (m : Int)) ∧ wr = w2) (fun i _ => EL + 100 - (intOf i).toNat)
      case atStart => exact ⟨0, by omega, by simp, rfl⟩
      case round =>
        obtain ⟨m, hm, rfl, rfl⟩ := hrel
        have hq0 : ((EL : Int) + (m : Int)).toNat = EL + m := by omega
        have hq1 : (0 : Int) ≤ (EL : Int) + (m : Int) := by omega
        by_cases hm2 : m < 100
        · have q2 : (EL : Int) + (m : Int) < (EL : Int) + 100 := by omega
          have cm := HCm.out m hm2
          have hq2 : IntKind.i64.wrap ((EL : Int) + (m : Int) + 1) = (EL : Int) + ((m + 1 : Nat) : Int) := by rw [IntKind.wrap_i64]; omega
          go_wp2_with fail
          go_roundw
          case measure => simp [intOf] <;> omega
          case rel => exact ⟨m + 1, by omega, by simp, trivial⟩
        · have hm3 : m = 100 := by omega
          subst hm3
          have q2 : ¬ ((EL : Int) + ((100 : Nat) : Int) < (EL : Int) + 100) := by omega
          clear HCm hq0 hq1
          have HKb : Hid (KS W wr (⟨24, 1, .slice aw EL cw, EL, E.map (Value.int .u32)⟩ :: (brow u9 HB2 :: drow v10 (D.map (·.vl)) :: drow v11 (D.map (·.vm)) :: ⟨43, 3, .slice ae N ce, N, lo3.flatMap Ov.cs⟩ :: (⟨43, 3, .slice ad N cd, N, lo2.flatMap Ov.cs⟩ :: (lo2.map wr1 ++ (mrow (.slice mo (N + 50) mc) lo 50 :: orow vo lo :: (lo.map wrow ++ X)))))) H2) := hid (bring (R1 := [brow u9 HB2, drow v10 (D.map (·.vl)), drow v11 (D.map (·.vm)), ⟨43, 3, .slice ae N ce, N, lo3.flatMap Ov.cs⟩]) HK8.out)
          have HHo := hid (fun a => hold_any W wr aw EL cw _ _ H2 a HKb.out (by omega))
          clear HK8
          go_upto_region 47 with fail
          go_cut [9] from 257 to 265 (fun v w => ∃ HB3 H3, HB3.length = HB.length + (N + 2) ∧ Hid ((∀ x ∈ HB3, x ∈ H3) ∧ ∀ x ∈ HB3, ∃ n a, HWd x n a ∧ n ≤ 262144) ∧ Hid (∀ h ∈ H, h ∈ H3) ∧ Hid (KS W w (brow v HB3 :: drow v10 (D.map (·.vl)) :: drow v11 (D.map (·.vm)) :: ⟨43, 3, .slice ae N ce, N, lo3.flatMap Ov.cs⟩ :: (⟨43, 3, .slice ad N cd, N, lo2.flatMap Ov.cs⟩ :: (lo2.map wr1 ++ (mrow (.slice mo (N + 50) mc) lo 50 :: orow vo lo :: (lo.map wrow ++ X))))) H3))
          case first =>
            go_wp2_with (first | (go_at_call 24; refine (HHo.out _).mono ?_; rintro e w5 ⟨vm, rfl, h5⟩; obtain ⟨am, cm, hvm⟩ := own_frm (h5.each _ (.head _)).m (by show 0 < 1; decide); have hvm2 : vm = .slice am (EL + 1) cm := hvm; subst hvm2; have HK5 := hid h5; clear h5 hvm) | (at_builtin; refine wpList_append_1 rfl _ _ 56 63 rfl Tryd.underlying56 info63 rfl (by decide) (by decide) rfl ((HK5.out.on (below_one _ _)).mem (i := 0) rfl) (HK5.out.on (below_one _ _)).below.size rfl rfl (cel_new _ 63 [.slice aw EL cw, .slice am (EL + 1) cm, .int .u32 _]) (by simp [Value.oneCell']) (by show HB2.length ≤ 2000000; omega) ?_; intro u9b w7 hal; have HK6 := hid ((HK5.out.on (below_one _ _)).app 0 rfl hal); clear hal))
            obtain ⟨hk, hhk⟩ : ∃ hk : Hk, hk = ⟨24, 1, .slice aw EL cw, .slice am (EL + 1) cm, EL, EL + 1, [.int .u32 (1000 * (t : Int) + 1)]⟩ := ⟨_, rfl⟩
            have hHW : HWd hk EL (1000 * (t : Int) + 1) := by rw [hhk]; exact ⟨rfl, rfl, rfl, rfl, rfl⟩
            go_meet
            exact ⟨HB2 ++ [hk], hk :: H2, by rw [List.length_append, hb2]; simp; omega, hid (bf_add HBf2.out hHW (by omega)), hid (fun h hh => .tail _ (HH2.out h hh)), hid (by have := HK6.out; rw [← brow_snoc, hhk]; exact this)⟩
          case rest =>
            obtain ⟨HB3, H3, hl3, HBf3, HH3, HKz⟩ := hcut
            exact (‹∀ (a : Act) (w : World), Code.wp Tryd.prog _ _ a w → _› _ _ (partD W _ al ak N lc EL kc t l E HBS.out ht _ v10 v11 vo HB3 D H3 X lo lo2 mo _ ad mc c26 cd HF.out.1 (by omega) HBf3.out.1 (fun h hh => HH3.out h (HF.out.2.2.1 h hh)) HBf3.out.2 HF.out.2.2.2 HLo.out HL2.out.1 HL2.out.2 HX.out (HKz.out.er 3) _ _ _ _ _ _ _ _ _ _ _ _ _ _ _ _ _ _ _ _ _ _ _ _ _ _ _ _ _ _ _ _ _ _ _ _ _ _ _ _ _ _ _ _ _ _ _ _ _ _ _ _ _ _ _ _ _ _ _ _ _ _ _ _ _ _ _ _ _ _ _ _ _ _ _ _ _ _ _ _ _ _ _ _ _ _ _ _ _ _ _ _ _ _ _ _ _ _ _ _ _ _ _ _ _ _ _ _ _ _ _ _ _ _ _ _ _ _ _ _ _ _ _ _ _ _ _ _ _ _ _ _ _ _ _ _ _ _ _ _ _ _ _ _ _ _ _ _ _ _ _ _ _ _ _ _ _ _ _ _ _ _ _ _ _ _ _ _ _ _ _ _ _ _ _ _ _ _ _ _ _ _ _ _ _ _ _ _ _ _ _ _ _ _ _ _ _ _ _ _ _ _ _ _ _ _ _ _ _ _ _ _ _ _ _ _ _ _ _ _ _ _ _ _ _ _ _ _ _ _ _ _ _ _ _ _ _ _ _ _ _ _ _ _ _ _ _ _ _ _ _ _ _ _ _ _ _ _ _ _ _ _ _ _ _ _ _ _ _ _ _ _ _ _ _ _ _ _ _ _ _ _ _ _ _ _ _ _ _ _ _ _ _ _ _ _ _ _ _ _ _ _ _ _ _ _ _ _ _ _ _ _ _ _ _ _ _ _ _ _ _ _ _ _ _ _ _ _ _ _ _ _ _ _ _ _ _ _ _ _ _ _ _ _ _ _ _ _ _ _ _ _ _ _ _ _ _ _ _ _ _ HP.out (fun w' v9' v10' v11' HB' D' H' _ _ _ _ _ _ _ _ _ _ _ _ _ _ _ _ _ _ _ _ _ _ _ _ _ _ _ _ _ _ _ _ _ _ _ _ _ _ _ _ _ _ _ _ _ _ _ _ _ _ _ _ _ _ _ _ _ _ _ _ _ _ _ _ _ _ _ _ _ _ _ _ _ _ _ _ _ _ _ _ _ _ _ _ _ _ _ _ _ _ _ _ _ _ _ _ _ _ _ _ _ _ _ _ _ _ _ _ hT hl hb => HQ.out w' v9' v10' v11' HB' D' H' _ _ _ _ _ _ _ _ _ _ _ _ _ _ _ _ _ _ _ _ _ _ _ _ _ _ _ _ _ _ _ _ _ _ _ _ _ _ _ _ _ _ _ _ _ _ _ _ _ _ _ _ _ _ _ _ _ _ _ _ _ _ _ _ _ _ _ _ _ _ _ _ _ _ _ _ _ _ _ _ _ _ _ _ _ _ _ _ _ _ _ _ _ _ _ _ _ _ _ _ _ _ _ _ _ _ _ _ _ _ _ _ _ _ _ _ _ _ _ _ _ _ _ _ _ _ _ _ _ _ _ _ _ _ _ _ _ _ _ _ _ _ _ _ _ _ _ _ _ _ _ _ _ _ _ _ _ _ _ _ _ _ hT hl (by omega))))
end Go.Proofs.YtmomidkodjihjaaDoor
