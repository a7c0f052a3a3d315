import Derived.Test.YtmomidkodjihjaaDoorP34
import Derived.Deep.DeepCutAuto
namespace Go.Proofs.YtmomidkodjihjaaDoor
open Go.RowKit
open H
set_option maxRecDepth 100000
set_option maxHeartbeats 8000000
attribute [-simp] Tryd.isAgg44 Tryd.sizeOf44 Tryd.zeroValue44 Tryd.isAgg37 Tryd.sizeOf37 Tryd.zeroValue37
theorem KS.of {W w : World} {R : List Rr} {H : List Hk} (hb : Below W.heap.size W w) (own : ∀ r ∈ R, r.ok w W.heap.size) (pw : R.Pairwise (fun r s => ∀ g, r.v.ownBlock = some g → s.v.ownBlock ≠ some g)) (each : ∀ h ∈ H, h.ok w W.heap.size) (off : ∀ r ∈ R, ∀ g, r.v.ownBlock = some g → ∀ h ∈ H, h.vl.ownBlock ≠ some g ∧ h.vm.ownBlock ≠ some g) : KS W w R H := by
  have pw' := List.pairwise_iff_getElem.1 pw
  refine ⟨hb, fun i r hr => own r (List.mem_of_getElem? hr), fun i j r s hij hr hs => ?_, each, fun i r hr => off r (List.mem_of_getElem? hr)⟩
  obtain ⟨hi, ei⟩ := List.getElem?_eq_some_iff.1 hr
  obtain ⟨hj, ej⟩ := List.getElem?_eq_some_iff.1 hs
  rcases Nat.lt_or_ge i j with hlt | hge
  · have := pw' i j hi hj hlt
    rw [ei, ej] at this
    exact this
  · have := pw' j i hj hi (by omega)
    rw [ei, ej] at this
    exact fun g hg e => this g e hg
theorem KS.pw {W w : World} {R : List Rr} {H : List Hk} (h : KS W w R H) : R.Pairwise (fun r s => ∀ g, r.v.ownBlock = some g → s.v.ownBlock ≠ some g) :=
  List.pairwise_iff_getElem.2 fun i j hi hj hij => h.ap i j _ _ (by omega) (List.getElem?_eq_getElem hi) (List.getElem?_eq_getElem hj)
theorem KS.offm {W w : World} {R : List Rr} {H : List Hk} {r : Rr} (h : KS W w R H) (hr : r ∈ R) : ∀ g, r.v.ownBlock = some g → ∀ x ∈ H, x.vl.ownBlock ≠ some g ∧ x.vm.ownBlock ≠ some g := by
  obtain ⟨i, hi⟩ := List.mem_iff_getElem?.1 hr
  exact h.off i r hi
theorem KS.addHO {W w w' : World} {R : List Rr} {H : List Hk} {v : Value} {lo : List Ov} (h : KS W w R H) (ho : HO w w' v lo) : KS W w' (⟨43, 3, v, lo.length, lo.flatMap Ov.cs⟩ :: (lo.map wr1 ++ R)) H := by
  have h' := h.on ho.below
  have o43 : ∀ g, v.ownBlock = some g → w.heap.size ≤ g := fun g hg => (own_lt2 ho.own hg).1
  have o24 : ∀ x ∈ lo, ∀ g, (wr1 x).v.ownBlock = some g → w.heap.size ≤ g := fun x hx g hg => (own_lt2 (ho.ws x hx) hg).1
  have old : ∀ r ∈ R, ∀ g, r.v.ownBlock = some g → g < w.heap.size := fun r hr g hg => (own_lt2 (h.inn hr) hg).2
  have oldH : ∀ x ∈ H, ∀ g, w.heap.size ≤ g → x.vl.ownBlock ≠ some g ∧ x.vm.ownBlock ≠ some g := fun x hx g hg => ⟨fun e => by have := (own_lt2 (h.each x hx).l e).2; omega, fun e => by have := (own_lt2 (h.each x hx).m e).2; omega⟩
  refine .of h'.below (fun r hr => ?_) ?_ h'.each (fun r hr g hg x hx => ?_)
  · rcases List.mem_cons.1 hr with rfl | hr
    · exact own_base ho.own h.below.size
    · rcases List.mem_append.1 hr with hr | hr
      · obtain ⟨x, hx, rfl⟩ := List.mem_map.1 hr
        exact own_base (ho.ws x hx) h.below.size
      · exact h'.inn hr
  · refine List.pairwise_cons.2 ⟨fun r hr g hg e => ?_, List.pairwise_append.2 ⟨List.pairwise_map.2 (ho.apart.imp (fun {x y} hxy g hg => hxy g hg)), h.pw, fun r hr s hs g hg e => ?_⟩⟩
    · rcases List.mem_append.1 hr with hr | hr
      · obtain ⟨x, hx, rfl⟩ := List.mem_map.1 hr
        obtain ⟨c1, e1⟩ := own_ty ho.own hg
        obtain ⟨c2, e2⟩ := own_ty (ho.ws x hx) e
        rw [e1] at e2
        injection e2 with e2
        injection e2 with _ e2
        exact absurd e2 (by decide)
      · have := old r hr g e
        have := o43 g hg
        omega
    · obtain ⟨x, hx, rfl⟩ := List.mem_map.1 hr
      have := o24 x hx g hg
      have := old s hs g e
      omega
  · rcases List.mem_cons.1 hr with rfl | hr
    · exact oldH x hx g (o43 g hg)
    · rcases List.mem_append.1 hr with hr | hr
      · obtain ⟨y, hy, rfl⟩ := List.mem_map.1 hr
        exact oldH x hx g (o24 y hy g hg)
      · exact h.offm hr g hg x hx
theorem perm_all (e w2 d lr b d1 d2 w m o : Rr) (L3 L2 L1 : List Rr) : (e :: (L3 ++ (w2 :: (d :: (L2 ++ (lr :: (b :: d1 :: d2 :: w :: (m :: o :: L1)))))))).Perm (w2 :: b :: d1 :: d2 :: e :: (L3 ++ (w :: d :: (L2 ++ (m :: o :: (L1 ++ [lr])))))) := by
  classical
  rw [List.perm_iff_count]
  intro a
  simp only [List.count_cons, List.count_append, List.count_nil]
  omega
theorem partB (W w : World) (al ak : Option Addr) (N lc EL kc t : Nat) (l : List Ov) (E : List Int) (hBS : BS W al ak N EL l E) (ht : t < 4) (v9 v10 v11 vo : Value) (HB D : List Hk) (H : List Hk) (lo : List Ov) (mo aw : Option Addr) (mc cw : Nat)
    (hD : D.length = t) (hHB : HB.length + (N + N + 2) ≤ 900) (hb : ∀ h ∈ HB, h ∈ H) (hd : ∀ h ∈ D, h ∈ H) (wb : ∀ h ∈ HB, ∃ n a, HWd h n a ∧ n ≤ 262144) (wd : ∀ i h, D[i]? = some h → HOp h N i)
    (hlo : lo.map Ov.o = l.map Ov.o) (hK : KS W w (brow v9 HB :: drow v10 (D.map (·.vl)) :: drow v11 (D.map (·.vm)) :: ⟨24, 1, .slice aw EL cw, EL, E.map (Value.int .u32)⟩ :: (mrow (.slice mo (N + 50) mc) lo 50 :: orow vo lo :: lo.map wrow)) H) (Q : Exit → Act → World → Prop)
    (z0 z1 z2 z3 z4 z6 z7 z18 z19 z20 z21 z22 z23 z24 z25 z26 z27 z28 z29 z30 z31 z32 z33 z34 z35 z36 z37 z38 z39 z40 z41 z42 z43 z44 z45 z46 z47 z48 z49 z50 z51 z52 z53 z54 z55 z56 z57 z58 z59 z60 z61 z62 z63 z64 z65 z66 z67 z68 z69 z70 z71 z72 z73 z74 z75 z76 z77 z78 z79 z80 z81 z82 z83 z84 z85 z86 z87 z88 z89 z90 z91 z92 z93 z94 z95 z96 z97 z98 z99 z100 z101 z102 z103 z104 z105 z106 z107 z108 z109 z110 z111 z112 z113 z114 z115 z116 z117 z118 z119 z120 z121 z122 z123 z124 z125 z126 z127 z128 z129 z130 z131 z132 z133 z134 z135 z136 z137 z138 z139 z140 z141 z142 z143 z144 z145 z146 z147 z148 z149 z150 z151 z152 z153 z154 z155 z156 z157 z158 z159 z160 z161 z162 z163 z164 z165 z166 z167 z168 z169 z170 z171 z172 z173 z174 z175 z176 z177 z178 z179 z180 z181 z182 z183 z184 z185 z186 z187 z188 z189 z190 z191 z192 z193 z194 z195 z196 z197 z198 z199 z200 z201 z202 z203 z204 z205 z206 z207 z208 z209 z210 z211 z212 z213 z214 z215 z216 z217 z218 z219 z220 z221 z222 z223 z224 z225 z226 z227 z228 z229 z230 z231 z232 z233 z234 z235 z236 z237 z238 z239 z240 z241 z242 z243 z244 z245 z246 z247 z248 z249 z250 z251 z252 z253 z254 z255 z256 z257 z258 z259 z260 z261 z262 z263 z264 z265 z266 z267 z268 z269 z270 z271 z272 z273 z274 z275 z276 z277 z278 z279 z280 z281 z282 z283 z284 z285 z286 z287 z288 z289 z290 z291 z292 z293 z294 z295 z296 z297 z298 z299 z300 z301 z302 z303 z304 z305 z306 z307 z308 z309 z310 z311 z312 z313 z314 z315 z316 z317 z318 z319 z320 z321 z322 z323 z324 z325 z326 z327 z328 z329 z330 z331 z332 z333 z334 z335 z336 z337 z338 z339 z340 z341 z342 z343 z344 z345 z346 z347 z348 z349 z350 z351 z352 z353 z354 z355 z356 z357 z358 z359 z360 z361 z362 z363 z364 z365 z366 z367 z368 z369 z370 : Value)
    (hP : ∀ (x : List PanicEntry) (a : Act) (t : Option Tmp) (v : Value) (w : World), Q (.panic x) (a.put t v) w → Q (.panic x) a w)
    (hQ : ∀ (w' : World) (v9' v10' v11' : Value) (HB' D' : List Hk) (H' : List Hk) (y4 y17 y26 y27 y28 y29 y30 y31 y32 y33 y34 y35 y36 y37 y38 y146 y147 y148 y149 y150 y151 y152 y153 y154 y155 y156 y157 y158 y159 y160 y161 y162 y163 y164 y165 y166 y167 y168 y169 y170 y171 y172 y173 y174 y175 y176 y177 y178 y179 y180 y181 y182 y183 y184 y185 y186 y187 y188 y189 y190 y191 y192 y193 y194 y195 y196 y197 y198 y199 y200 y201 y202 y203 y204 y205 y206 y207 y208 y209 y210 y211 y212 y213 y214 y215 y216 y217 y218 y219 y220 y221 y222 y223 y224 y225 y226 y227 y228 y229 y230 y231 y232 y233 y234 y235 y236 y237 y238 y239 y240 y241 y242 y243 y244 y245 y246 y247 y248 y249 y250 y251 y252 y253 y254 y255 y256 y257 y258 y259 y260 y261 y262 y263 y264 y265 y266 y267 y268 y269 y270 y271 y272 y273 y274 y275 y276 y277 y278 y279 y280 y281 y282 y283 y284 y285 y286 y287 y288 y289 y290 y291 y292 y293 y294 y295 y296 y297 y298 y299 y300 y301 y302 y303 y304 y305 y306 y307 y308 y309 y310 y311 y312 y313 y314 y315 y316 y317 y318 y319 y320 y321 y322 y323 y324 y325 y326 y327 y328 y329 y330 y331 y332 y333 y334 y335 y336 y337 y338 y339 y340 y341 y342 y343 y344 y345 y346 y347 y348 y349 y350 y351 y352 y353 y354 y355 y356 y357 y358 y359 y360 y361 y362 y363 y364 y365 y366 y367 : Value), LS W w' N v9' v10' v11' HB' D' (D'.map (·.vl)) [] H' → D'.length = t + 1 → HB'.length = HB.length + (N + N + 2) → Q .normal { tmps := #[z0, z1, z2, z3, y4, .slice al N lc, z6, z7, .slice ak EL kc, v9', v10', v11', .int .i64 (t : Int), .slice mo (N + 50) mc, vo, .slice mo N mc, .slice aw EL cw, y17, z18, z19, z20, z21, z22, z23, z24, z25, y26, y27, y28, y29, y30, y31, y32, y33, y34, y35, y36, y37, y38, z39, z40, z41, z42, z43, z44, z45, z46, z47, z48, z49, z50, z51, z52, z53, z54, z55, z56, z57, z58, z59, z60, z61, z62, z63, z64, z65, z66, z67, z68, z69, z70, z71, z72, z73, z74, z75, z76, z77, z78, z79, z80, z81, z82, z83, z84, z85, z86, z87, z88, z89, z90, z91, z92, z93, z94, z95, z96, z97, z98, z99, z100, z101, z102, z103, z104, z105, z106, z107, z108, z109, z110, z111, z112, z113, z114, z115, z116, z117, z118, z119, z120, z121, z122, z123, z124, z125, z126, z127, z128, z129, z130, z131, z132, z133, z134, z135, z136, z137, z138, z139, z140, z141, z142, z143, z144, z145, y146, y147, y148, y149, y150, y151, y152, y153, y154, y155, y156, y157, y158, y159, y160, y161, y162, y163, y164, y165, y166, y167, y168, y169, y170, y171, y172, y173, y174, y175, y176, y177, y178, y179, y180, y181, y182, y183, y184, y185, y186, y187, y188, y189, y190, y191, y192, y193, y194, y195, y196, y197, y198, y199, y200, y201, y202, y203, y204, y205, y206, y207, y208, y209, y210, y211, y212, y213, y214, y215, y216, y217, y218, y219, y220, y221, y222, y223, y224, y225, y226, y227, y228, y229, y230, y231, y232, y233, y234, y235, y236, y237, y238, y239, y240, y241, y242, y243, y244, y245, y246, y247, y248, y249, y250, y251, y252, y253, y254, y255, y256, y257, y258, y259, y260, y261, y262, y263, y264, y265, y266, y267, y268, y269, y270, y271, y272, y273, y274, y275, y276, y277, y278, y279, y280, y281, y282, y283, y284, y285, y286, y287, y288, y289, y290, y291, y292, y293, y294, y295, y296, y297, y298, y299, y300, y301, y302, y303, y304, y305, y306, y307, y308, y309, y310, y311, y312, y313, y314, y315, y316, y317, y318, y319, y320, y321, y322, y323, y324, y325, y326, y327, y328, y329, y330, y331, y332, y333, y334, y335, y336, y337, y338, y339, y340, y341, y342, y343, y344, y345, y346, y347, y348, y349, y350, y351, y352, y353, y354, y355, y356, y357, y358, y359, y360, y361, y362, y363, y364, y365, y366, y367, z368, z369, z370], defers := [] } w') :
    Code.wp Tryd.prog (pth (inner ++ [1, 1, 1, 1, 1, 1, 1, 1, 1]) (Tryd.f6.body.getD .skip)) Q { tmps := #[z0, z1, z2, z3, z4, .slice al N lc, z6, z7, .slice ak EL kc, v9, v10, v11, .int .i64 (t : Int), .slice mo (N + 50) mc, vo, .slice mo N mc, .slice aw EL cw, .int .i64 0, z18, z19, z20, z21, z22, z23, z24, z25, z26, z27, z28, z29, z30, z31, z32, z33, z34, z35, z36, z37, z38, z39, z40, z41, z42, z43, z44, z45, z46, z47, z48, z49, z50, z51, z52, z53, z54, z55, z56, z57, z58, z59, z60, z61, z62, z63, z64, z65, z66, z67, z68, z69, z70, z71, z72, z73, z74, z75, z76, z77, z78, z79, z80, z81, z82, z83, z84, z85, z86, z87, z88, z89, z90, z91, z92, z93, z94, z95, z96, z97, z98, z99, z100, z101, z102, z103, z104, z105, z106, z107, z108, z109, z110, z111, z112, z113, z114, z115, z116, z117, z118, z119, z120, z121, z122, z123, z124, z125, z126, z127, z128, z129, z130, z131, z132, z133, z134, z135, z136, z137, z138, z139, z140, z141, z142, z143, z144, z145, z146, z147, z148, z149, z150, z151, z152, z153, z154, z155, z156, z157, z158, z159, z160, z161, z162, z163, z164, z165, z166, z167, z168, z169, z170, z171, z172, z173, z174, z175, z176, z177, z178, z179, z180, z181, z182, z183, z184, z185, z186, z187, z188, z189, z190, z191, z192, z193, z194, z195, z196, z197, z198, z199, z200, z201, z202, z203, z204, z205, z206, z207, z208, z209, z210, z211, z212, z213, z214, z215, z216, z217, z218, z219, z220, z221, z222, z223, z224, z225, z226, z227, z228, z229, z230, z231, z232, z233, z234, z235, z236, z237, z238, z239, z240, z241, z242, z243, z244, z245, z246, z247, z248, z249, z250, z251, z252, z253, z254, z255, z256, z257, z258, z259, z260, z261, z262, z263, z264, z265, z266, z267, z268, z269, z270, z271, z272, z273, z274, z275, z276, z277, z278, z279, z280, z281, z282, z283, z284, z285, z286, z287, z288, z289, z290, z291, z292, z293, z294, z295, z296, z297, z298, z299, z300, z301, z302, z303, z304, z305, z306, z307, z308, z309, z310, z311, z312, z313, z314, z315, z316, z317, z318, z319, z320, z321, z322, z323, z324, z325, z326, z327, z328, z329, z330, z331, z332, z333, z334, z335, z336, z337, z338, z339, z340, z341, z342, z343, z344, z345, z346, z347, z348, z349, z350, z351, z352, z353, z354, z355, z356, z357, z358, z359, z360, z361, z362, z363, z364, z365, z366, z367, z368, z369, z370], defers := [] } w := by
  have n1 : (N : Int) ≤ 4 := by have := hBS.n4; omega
  have t1 : (t : Int) < 4 := by omega
  have e0 : EL ≤ 8208 := hBS.e8
  have e1 : (EL : Int) ≤ 8208 := by omega
  have HBS := hid hBS
  have HQ := hid hQ
  have HP := hid hP
  have HLo := hid hlo
  have HF := hid (And.intro hD (And.intro hHB (And.intro hb (And.intro hd (And.intro wb wd)))))
  have HLl : Hid (lo.length = N) := hid (by rw [← hBS.hn]; have := congrArg List.length hlo; simpa using this)
  have H0 := hid (hK.add ⟨24, 1, .slice none 0 0, 0, []⟩ (Below.refl _ _) (World.ownsRow_nil _ _ _ _))
  clear hBS hQ hP hlo hD hHB hb hd wb wd hK
  refine pth_walk _ rfl (by simp only [pth, inner, List.cons_append, List.nil_append]; rfl) ?_
  go_upto_region 28 with (at_builtin; refine wpList_append_at rfl _ _ rfl rfl H0.out.own0 H0.out.below.size rfl HBS.out.hEl (HBS.out.kept.below H0.out.below) (by omega) ?_; intro v7 w2 hal; obtain ⟨a7, c7, hv7⟩ := two_frm hal (by decide); rw [Nat.zero_add] at hv7; subst hv7; have H2 := hid (H0.out.app 0 rfl hal); clear hal)
  simp only [List.set_cons_zero, Nat.zero_add, List.nil_append] at H2
  clear H0
  go_wp2_with fail
  go_loopw [26, 27] (fun v i w3 => ∃ (j : Nat) (a : Option Addr) (c' : Nat), j ≤ 100 ∧ i = .int .i64 (j : Int) ∧ v = .slice a (EL + j) c' ∧ Hid (KS W w3 (⟨24, 1, .slice a (EL + j) c', EL + j, E.map (Value.int .u32) ++ rp j [mk]⟩ :: (brow v9 HB :: drow v10 (D.map (·.vl)) :: drow v11 (D.map (·.vm)) :: ⟨24, 1, .slice aw EL cw, EL, E.map (Value.int .u32)⟩ :: (mrow (.slice mo (N + 50) mc) lo 50 :: orow vo lo :: lo.map wrow))) H)) (fun _ i _ => 100 - (intOf i).toNat)
  case atStart => exact ⟨0, a7, c7, by omega, rfl, rfl, by rw [show rp 0 [mk] = [] from rfl, List.append_nil]; exact H2⟩
  case round =>
    clear H2
    obtain ⟨j, a26, c26, hj, rfl, rfl, HB0⟩ := hrel
    by_cases hj2 : j < 100
    · have q2 : (j : Int) < 100 := by omega
      go_wp2_with (at_builtin; refine wpList_append_w rfl _ _ rfl (news := [mk]) rfl (HB0.out.on (below_one _ _)).own0 (HB0.out.on (below_one _ _)).below.size rfl rfl (fun j u hu => ((cel_new _ 24 [mk]).cell j).trans hu) (by simp [mk, Value.oneCell']) (by omega) ?_; intro v8 w4 hal; obtain ⟨a8, c8, rfl⟩ := two_frm hal (by decide); have HB2 := hid ((HB0.out.on (below_one _ _)).app 0 rfl hal); clear hal)
      go_roundw
      case measure => simp [intOf] <;> omega
      case rel => exact ⟨j + 1, a8, c8, by omega, by simp, rfl, by rw [rp_succ, ← List.append_assoc]; exact HB2⟩
    · have hj3 : j = 100 := by omega
      subst hj3
      have hcap := own_cap HB0.out.own0
      have q4 : (EL : Int) ≤ (c26 : Int) := by omega
      have hcm : N + 50 ≤ mc := by
        have : wr.ownsRow W.heap.size 43 3 (.slice mo (N + 50) mc) (lo.length + 50) (lo.flatMap Ov.cs ++ t50 50) := HB0.out.mem (i := 5) rfl
        rw [HLl.out] at this
        exact own_cap this
      have HDe := hid (fun (w : World) (R : List Rr) (h : KS W w R H) (hm : ⟨24, 1, .slice a26 (EL + 100) c26, EL + 100, E.map (Value.int .u32) ++ rp 100 [mk]⟩ ∈ R) => (by
        have h1 : w.ownsRow W.heap.size 24 1 (.slice a26 (EL + 100) c26) (EL + 100) (E.map (Value.int .u32) ++ rp 100 [mk]) := h.inn hm
        unfold mk at h1
        rw [rp_map, ← List.map_append] at h1
        refine (decode_ok w a26 EL c26 E HBS.out.hEl HBS.out.wds (at_head (own_at h1)) (by omega) (by omega) ⟨l.map Ov.o, fun o ho => (by obtain ⟨x, hx, rfl⟩ := List.mem_map.1 ho; exact HBS.out.ok x hx), HBS.out.hE⟩).mono ?_
        rintro e w' ⟨p, cp, l2, he, hho, hok, hen⟩
        have hl2 : l2.map Ov.o = l.map Ov.o := enc_inj hok (fun o ho => by obtain ⟨x, hx, rfl⟩ := List.mem_map.1 ho; exact HBS.out.ok x hx) (hen.trans HBS.out.hE.symm)
        have hln : l2.length = N := by rw [← HBS.out.hn]; have := congrArg List.length hl2; simpa using this
        have hk := h.addHO hho
        rw [hln] at he hk
        exact ⟨p, cp, l2, he, hk, hl2, hln⟩ : Calls Tryd.prog 8 #[.slice a26 EL c26] w fun e w' => ∃ (p : Option Addr) (cp : Nat) (l2 : List Ov), e = .returned (.tuple #[.slice p N cp, .int .i64 0]) ∧ KS W w' (⟨43, 3, .slice p N cp, N, l2.flatMap Ov.cs⟩ :: (l2.map wr1 ++ R)) H ∧ l2.map Ov.o = l.map Ov.o ∧ l2.length = N))
      have HEn := hid (fun (w : World) (R : List Rr) (h : KS W w R H) (hm : mrow (.slice mo (N + 50) mc) lo 50 ∈ R) (hw : ∀ x ∈ lo, wrow x ∈ R) => (by
        refine (encode_ok w mo N mc lo HLl.out (ol_pre (mrow_ol h hm (by rw [HLl.out]) hw)) (by omega) (fun o ho => by rw [HLo.out] at ho; obtain ⟨x, hx, rfl⟩ := List.mem_map.1 ho; exact HBS.out.ok x hx) (by rw [HLo.out, HBS.out.hE, HBS.out.hEl]; omega)).mono ?_
        rintro e w' ⟨p, cp, he, hh⟩
        rw [HLo.out, HBS.out.hE] at he hh
        have ho := hh.own
        rw [HBS.out.hEl] at he ho
        exact ⟨p, cp, he, h.add ⟨24, 1, .slice p EL cp, EL, E.map (Value.int .u32)⟩ hh.below ho⟩ : Calls Tryd.prog 10 #[.slice mo N mc] w fun e w' => ∃ (p : Option Addr) (cp : Nat), e = .returned (.tuple #[.slice p EL cp, .int .i64 0]) ∧ KS W w' (⟨24, 1, .slice p EL cp, EL, E.map (Value.int .u32)⟩ :: R) H))
      clear hcap
      go_upto_region 33 with (go_at_call 8; refine (HDe.out _ _ HB0.out (.head _)).mono ?_; rintro e w5 ⟨ad, cd, lo2, rfl, hk2, hl2, hn2⟩; have HK2 := hid hk2; have HL2 := hid (And.intro hl2 hn2); clear hk2 hl2 hn2; try dsimp only)
      go_upto_region 34 with (go_at_call 10; refine (HEn.out _ _ HK2.out (by simp) (fun x hx => .tail _ (List.mem_append_right _ (.tail _ (.tail _ (.tail _ (.tail _ (.tail _ (.tail _ (.tail _ (List.mem_map_of_mem hx))))))))))).mono ?_; rintro e w6 ⟨a2, c2, rfl, hk3⟩; have HK3 := hid hk3; clear hk3; try dsimp only)
      go_upto_region 35 with (go_at_call 8; refine (HDe.out _ _ HK3.out (.tail _ (.tail _ (List.mem_append_right _ (.head _))))).mono ?_; rintro e w7 ⟨ae, ce, lo3, rfl, hk4, hl3, hn3⟩; have HK4 := hid hk4; have HL3 := hid (And.intro hl3 hn3); clear hk4 hl3 hn3; try dsimp only)
      clear HDe HEn HB0 HK2 HK3
      have okx : ∀ (l' : List Ov), l'.map Ov.o = l.map Ov.o → ∀ x ∈ l', x.o.ws.length ≤ 1024 := fun l' h x hx => by
        have hx2 : x.o ∈ l.map Ov.o := by rw [← h]; exact List.mem_map_of_mem hx
        obtain ⟨z, hz, hz2⟩ := List.mem_map.1 hx2
        rw [← hz2]
        exact ok_len (HBS.out.ok z hz)
      have HOx := hid okx
      have HA2 := hid (fun (w : World) (h : KS W w (⟨43, 3, .slice ae N ce, N, lo3.flatMap Ov.cs⟩ :: (lo3.map wr1 ++ (⟨24, 1, .slice a2 EL c2, EL, E.map (Value.int .u32)⟩ :: (⟨43, 3, .slice ad N cd, N, lo2.flatMap Ov.cs⟩ :: (lo2.map wr1 ++ (⟨24, 1, .slice a26 (EL + 100) c26, EL + 100, E.map (Value.int .u32) ++ rp 100 [mk]⟩ :: (brow v9 HB :: drow v10 (D.map (·.vl)) :: drow v11 (D.map (·.vm)) :: ⟨24, 1, .slice aw EL cw, EL, E.map (Value.int .u32)⟩ :: (mrow (.slice mo (N + 50) mc) lo 50 :: orow vo lo :: lo.map wrow)))))))) H) => alike_any w ad al N N cd lc lo2 l HL2.out.2 HBS.out.hn (ol_row (h.inn (r := ⟨43, 3, .slice ad N cd, N, lo2.flatMap Ov.cs⟩) (by simp)) HL2.out.2 (fun x hx => own_at (h.inn (r := wr1 x) (.tail _ (List.mem_append_right _ (.tail _ (.tail _ (List.mem_append_left _ (List.mem_map_of_mem hx))))))))) (HBS.out.hl.on h.below) (by omega) (fun x hx => by have := HOx.out lo2 HL2.out.1 x hx; omega) true (by simp [HL2.out.1]))
      have HA3 := hid (fun (w : World) (h : KS W w (⟨43, 3, .slice ae N ce, N, lo3.flatMap Ov.cs⟩ :: (lo3.map wr1 ++ (⟨24, 1, .slice a2 EL c2, EL, E.map (Value.int .u32)⟩ :: (⟨43, 3, .slice ad N cd, N, lo2.flatMap Ov.cs⟩ :: (lo2.map wr1 ++ (⟨24, 1, .slice a26 (EL + 100) c26, EL + 100, E.map (Value.int .u32) ++ rp 100 [mk]⟩ :: (brow v9 HB :: drow v10 (D.map (·.vl)) :: drow v11 (D.map (·.vm)) :: ⟨24, 1, .slice aw EL cw, EL, E.map (Value.int .u32)⟩ :: (mrow (.slice mo (N + 50) mc) lo 50 :: orow vo lo :: lo.map wrow)))))))) H) => alike_any w ae al N N ce lc lo3 l HL3.out.2 HBS.out.hn (ol_row h.own0 HL3.out.2 (fun x hx => own_at (h.inn (r := wr1 x) (.tail _ (List.mem_append_left _ (List.mem_map_of_mem hx)))))) (HBS.out.hl.on h.below) (by omega) (fun x hx => by have := HOx.out lo3 HL3.out.1 x hx; omega) true (by simp [HL3.out.1]))
      have HSa := hid (fun (w : World) (h : KS W w (⟨43, 3, .slice ae N ce, N, lo3.flatMap Ov.cs⟩ :: (lo3.map wr1 ++ (⟨24, 1, .slice a2 EL c2, EL, E.map (Value.int .u32)⟩ :: (⟨43, 3, .slice ad N cd, N, lo2.flatMap Ov.cs⟩ :: (lo2.map wr1 ++ (⟨24, 1, .slice a26 (EL + 100) c26, EL + 100, E.map (Value.int .u32) ++ rp 100 [mk]⟩ :: (brow v9 HB :: drow v10 (D.map (·.vl)) :: drow v11 (D.map (·.vm)) :: ⟨24, 1, .slice aw EL cw, EL, E.map (Value.int .u32)⟩ :: (mrow (.slice mo (N + 50) mc) lo 50 :: orow vo lo :: lo.map wrow)))))))) H) => (by
        have := same_any w a2 ak EL EL c2 kc E E HBS.out.hEl HBS.out.hEl (own_at (h.inn (r := ⟨24, 1, .slice a2 EL c2, EL, E.map (Value.int .u32)⟩) (.tail _ (List.mem_append_right _ (.head _))))) (HBS.out.kept.below h.below) (by omega)
        rw [decide_eq_true rfl] at this
        exact this : Calls Tryd.prog 11 #[.slice a2 EL c2, .slice ak EL kc] w fun e W' => e = .returned (.bool true) ∧ Below w.heap.size w W'))
      have HSb := hid (fun (w : World) (h : KS W w (⟨43, 3, .slice ae N ce, N, lo3.flatMap Ov.cs⟩ :: (lo3.map wr1 ++ (⟨24, 1, .slice a2 EL c2, EL, E.map (Value.int .u32)⟩ :: (⟨43, 3, .slice ad N cd, N, lo2.flatMap Ov.cs⟩ :: (lo2.map wr1 ++ (⟨24, 1, .slice a26 (EL + 100) c26, EL + 100, E.map (Value.int .u32) ++ rp 100 [mk]⟩ :: (brow v9 HB :: drow v10 (D.map (·.vl)) :: drow v11 (D.map (·.vm)) :: ⟨24, 1, .slice aw EL cw, EL, E.map (Value.int .u32)⟩ :: (mrow (.slice mo (N + 50) mc) lo 50 :: orow vo lo :: lo.map wrow)))))))) H) => (by
        have h1 : w.ownsRow W.heap.size 24 1 (.slice a26 (EL + 100) c26) (EL + 100) (E.map (Value.int .u32) ++ rp 100 [mk]) := h.inn (r := ⟨24, 1, .slice a26 (EL + 100) c26, EL + 100, E.map (Value.int .u32) ++ rp 100 [mk]⟩) (.tail _ (List.mem_append_right _ (.tail _ (.tail _ (List.mem_append_right _ (.head _))))))
        unfold mk at h1
        rw [rp_map, ← List.map_append] at h1
        have := same_any w a26 ak EL EL c26 kc E E HBS.out.hEl HBS.out.hEl (at_head (own_at h1)) (HBS.out.kept.below h.below) (by omega)
        rw [decide_eq_true rfl] at this
        exact this : Calls Tryd.prog 11 #[.slice a26 EL c26, .slice ak EL kc] w fun e W' => e = .returned (.bool true) ∧ Below w.heap.size w W'))
      clear okx
      go_upto_if 213 with (first | (go_at_call 11; revert HK7; intro HK7; refine (HSb.out _ HK7.out).mono ?_; rintro e w11 ⟨rfl, hb11⟩; have HK8 := hid (HK7.out.on hb11); clear hb11; try dsimp only) | (go_at_call 11; revert HK6; intro HK6; refine (HSa.out _ HK6.out).mono ?_; rintro e w10 ⟨rfl, hb10⟩; have HK7 := hid (HK6.out.on hb10); clear hb10; try dsimp only) | (go_at_call 19; revert HK5; intro HK5; refine (HA3.out _ HK5.out).mono ?_; rintro e w9 ⟨rfl, hb9⟩; have HK6 := hid (HK5.out.on hb9); clear hb9; try dsimp only) | (go_at_call 19; refine (HA2.out _ HK4.out).mono ?_; rintro e w8 ⟨rfl, hb8⟩; have HK5 := hid (HK4.out.on hb8); clear hb8; try dsimp only))
      clear HA2 HA3 HSa HSb HK4 HK5 HK6 HK7
      go_cut [4] from 213 to 213 (fun _ w => Hid (KS W w (⟨43, 3, .slice ae N ce, N, lo3.flatMap Ov.cs⟩ :: (lo3.map wr1 ++ (⟨24, 1, .slice a2 EL c2, EL, E.map (Value.int .u32)⟩ :: (⟨43, 3, .slice ad N cd, N, lo2.flatMap Ov.cs⟩ :: (lo2.map wr1 ++ (⟨24, 1, .slice a26 (EL + 100) c26, EL + 100, E.map (Value.int .u32) ++ rp 100 [mk]⟩ :: (brow v9 HB :: drow v10 (D.map (·.vl)) :: drow v11 (D.map (·.vm)) :: ⟨24, 1, .slice aw EL cw, EL, E.map (Value.int .u32)⟩ :: (mrow (.slice mo (N + 50) mc) lo 50 :: orow vo lo :: lo.map wrow)))))))) H))
      case first =>
        go_wp2_with fail
        go_meet
        exact HK8
      case rest =>
        exact (‹∀ (a : Act) (w : World), Code.wp Tryd.prog _ _ a w → _› _ _ (partC W _ al ak N lc EL kc t l E HBS.out ht v9 v10 v11 vo HB D H [⟨24, 1, .slice a26 (EL + 100) c26, EL + 100, E.map (Value.int .u32) ++ rp 100 [mk]⟩] lo lo2 lo3 mo a26 ad ae aw a2 mc c26 cd ce cw c2 HF.out.1 HF.out.2.1 HF.out.2.2.1 HF.out.2.2.2.1 HF.out.2.2.2.2.1 HF.out.2.2.2.2.2 HLo.out HL2.out.2 (HOx.out lo2 HL2.out.1) HL3.out.2 (HOx.out lo3 HL3.out.1) (.head _) (hcut.out.perm (perm_all _ _ _ _ _ _ _ _ _ _ _ _ _)) _ _ _ _ _ _ _ _ _ _ _ _ _ _ _ _ _ _ _ _ _ _ _ _ _ _ _ _ _ _ _ _ _ _ _ _ _ _ _ _ _ _ _ _ _ _ _ _ _ _ _ _ _ _ _ _ _ _ _ _ _ _ _ _ _ _ _ _ _ _ _ _ _ _ _ _ _ _ _ _ _ _ _ _ _ _ _ _ _ _ _ _ _ _ _ _ _ _ _ _ _ _ _ _ _ _ _ _ _ _ _ _ _ _ _ _ _ _ _ _ _ _ _ _ _ _ _ _ _ _ _ _ _ _ _ _ _ _ _ _ _ _ _ _ _ _ _ _ _ _ _ _ _ _ _ _ _ _ _ _ _ _ _ _ _ _ _ _ _ _ _ _ _ _ _ _ _ _ _ _ _ _ _ _ _ _ _ _ _ _ _ _ _ _ _ _ _ _ _ _ _ _ _ _ _ _ _ _ _ _ _ _ _ _ _ _ _ _ _ _ _ _ _ _ _ _ _ _ _ _ _ _ _ _ _ _ _ _ _ _ _ _ _ _ _ _ _ _ _ _ _ _ _ _ _ _ _ _ _ _ _ _ _ _ _ _ _ _ _ _ _ _ _ _ _ _ _ _ _ _ _ _ _ _ _ _ _ _ _ _ _ _ _ _ _ _ _ _ _ _ _ _ _ _ _ _ _ _ _ _ _ _ _ _ _ _ _ _ _ _ _ _ _ _ _ _ _ _ _ _ _ _ _ _ _ _ _ _ _ _ _ _ _ _ _ _ _ _ _ _ _ _ _ _ _ _ _ _ HP.out (fun w' v9' v10' v11' HB' D' H' _ _ _ _ _ _ _ _ _ _ _ _ _ _ _ _ _ _ _ _ _ _ _ _ _ _ _ _ _ _ _ _ _ _ _ _ _ _ _ _ _ _ _ _ _ _ _ _ _ _ _ _ _ _ _ _ _ _ _ _ _ _ _ _ _ _ _ _ _ _ _ _ _ _ _ _ _ _ _ _ _ _ _ _ _ _ _ _ _ _ _ _ _ _ _ _ _ _ _ _ _ _ _ _ _ _ _ _ _ _ _ _ _ _ _ _ _ _ _ _ _ _ _ _ _ _ _ _ _ _ _ _ _ _ _ _ _ _ _ _ _ _ _ _ _ _ _ _ _ _ _ _ _ _ _ _ _ _ _ _ _ _ hT hl hb => HQ.out w' v9' v10' v11' HB' D' H' _ _ _ _ _ _ _ _ _ _ _ _ _ _ _ _ _ _ _ _ _ _ _ _ _ _ _ _ _ _ _ _ _ _ _ _ _ _ _ _ _ _ _ _ _ _ _ _ _ _ _ _ _ _ _ _ _ _ _ _ _ _ _ _ _ _ _ _ _ _ _ _ _ _ _ _ _ _ _ _ _ _ _ _ _ _ _ _ _ _ _ _ _ _ _ _ _ _ _ _ _ _ _ _ _ _ _ _ _ _ _ _ _ _ _ _ _ _ _ _ _ _ _ _ _ _ _ _ _ _ _ _ _ _ _ _ _ _ _ _ _ _ _ _ _ _ _ _ _ _ _ _ _ _ _ _ _ _ _ _ _ _ _ _ _ _ _ _ _ _ _ _ _ _ _ _ _ _ _ _ _ _ _ _ _ _ _ _ _ _ _ _ _ _ _ _ _ _ _ _ _ _ _ _ _ _ _ _ _ _ _ _ _ _ _ _ _ _ _ _ _ _ _ _ _ _ _ _ _ _ _ _ _ _ _ _ _ hT hl hb)))
end Go.Proofs.YtmomidkodjihjaaDoor
