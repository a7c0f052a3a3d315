import Derived.Test.YtmomidkodjihjaaDoorP31
import Derived.Deep.DeepCutAuto
namespace Go.Proofs.YtmomidkodjihjaaDoor
open Go.RowKit
open H
set_option maxRecDepth 100000
def pth : List Nat → Code → Code
  | 0 :: l, .seq a _ => pth l a
  | 1 :: l, .seq _ b => pth l b
  | 2 :: l, .block _ c => pth l c
  | 3 :: l, .loop c => pth l c
  | _, c => c
theorem pth_walk {body : Option Code} (l : List Nat) {code c' : Code} {Q : Exit → Act → World → Prop} {a : Act} {w : World} (h : body = some code) (h' : pth l code = c') (hw : Code.wp Tryd.prog c' Q a w) : Code.wp Tryd.prog (pth l (body.getD .skip)) Q a w := by
  subst h'
  rw [h]
  exact hw
def inner : List Nat := [1, 1, 1, 1, 1, 1, 1, 1, 1, 0, 1, 2, 3, 1, 0, 2]
structure BS (W : World) (al ak : Option Addr) (N EL : Nat) (l : List Ov) (E : List Int) : Prop where
  tab : Tab W
  sz : 1 < W.heap.size
  hl : OL W al l
  hn : l.length = N
  n4 : N ≤ 4
  ok : ∀ x ∈ l, x.o.Ok
  hE : enc (l.map Ov.o) = E
  hEl : E.length = EL
  e8 : EL ≤ 8208
  kept : At W .u32 ak E
  wds : Wds E
def brow (v : Value) (HB : List Hk) : Rr := ⟨63, 3, v, HB.length, bcs HB⟩
def drow (v : Value) (ds : List Value) : Rr := ⟨25, 1, v, ds.length, ds⟩
def mcs (t : Nat) : List Value := [.int .i64 99, .int .u32 (t : Int), .slice none 0 0]
structure LS (W w : World) (N : Nat) (v9 v10 v11 : Value) (HB D : List Hk) (ds : List Value) (X : List Rr) (H : List Hk) : Prop where
  k : KS W w (brow v9 HB :: drow v10 ds :: drow v11 (D.map (·.vm)) :: X) H
  hb : ∀ h ∈ HB, h ∈ H
  hd : ∀ h ∈ D, h ∈ H
  wb : ∀ h ∈ HB, ∃ n a, HWd h n a ∧ n ≤ 262144
  wd : ∀ i h, D[i]? = some h → HOp h N i
theorem LS.on {W w w' : World} {N : Nat} {v9 v10 v11 : Value} {HB D : List Hk} {ds : List Value} {X : List Rr} {H : List Hk} (h : LS W w N v9 v10 v11 HB D ds X H) (hb : Below w.heap.size w w') : LS W w' N v9 v10 v11 HB D ds X H := ⟨h.k.on hb, h.hb, h.hd, h.wb, h.wd⟩
structure GR (W w : World) (vd v : Value) (N m : Nat) (cs : List Value) (R : List Rr) : Prop where
  own : w.ownsRow W.heap.size 43 3 vd N (rp N cs)
  same : ∀ g, vd.ownBlock = some g → v.ownBlock = some g → ∃ cap, vd = .slice (some ⟨g, 0, none⟩) N cap ∧ v = .slice (some ⟨g, 0, none⟩) m cap
  off : ∀ r ∈ R, ∀ g, vd.ownBlock = some g → r.v.ownBlock ≠ some g
theorem GR.start {W w : World} {vd : Value} {N : Nat} {cs : List Value} {R : List Rr} {H : List Hk} (h : KS W w (⟨43, 3, vd, N, rp N cs⟩ :: R) H) : GR W w vd vd N N cs R := by
  refine ⟨h.own0, fun g hg _ => ?_, fun r hr g hg => ?_⟩
  · rcases h.own0.2 with ⟨hv, _⟩ | ⟨g', cap, cur, hv, _⟩
    · rw [hv] at hg; cases hg
    · rw [hv] at hg
      cases hg
      exact ⟨cap, hv, hv⟩
  · obtain ⟨i, hi⟩ := List.mem_iff_getElem?.1 hr
    exact h.ap 0 (i + 1) _ r (by omega) rfl (by simpa using hi) g hg
theorem GR.on {W w w' : World} {vd v : Value} {N m : Nat} {cs : List Value} {R : List Rr} (h : GR W w vd v N m cs R) (hb : Below w.heap.size w w') : GR W w' vd v N m cs R := ⟨own_on h.own hb, h.same, h.off⟩
theorem GR.more {W w w' : World} {vd v v' : Value} {N j : Nat} {cs : List Value} {R : List Rr} (h : GR W w vd v N (N + j) cs R) (hcs : cs.length = 3) (ha : Two2 w w' W.heap.size 43 3 v v' (N + j) 1 (rp (N + j) cs ++ cs)) : GR W w' vd v' N (N + (j + 1)) cs R := by
  rcases ha with ⟨g, cap, rfl, rfl, ho, hb⟩ | ⟨ho, hb⟩
  · by_cases hv : vd.ownBlock = some g
    · obtain ⟨cap', h1, h2⟩ := h.same g hv rfl
      cases h2
      refine ⟨?_, fun g' hg' e => ?_, h.off⟩
      · rw [h1]
        rw [← rp_succ, show N + j + 1 = N + (j + 1) by omega, show rp (N + (j + 1)) cs = rp N cs ++ rp (j + 1) cs by unfold rp; rw [← List.flatten_append, List.replicate_append_replicate]] at ho
        exact own_prefix ho (by rw [rp_len, hcs])
      · cases e
        exact ⟨_, h1, rfl⟩
    · refine ⟨own_but h.own hb hv, fun g' hg' e => ?_, h.off⟩
      cases e
      exact absurd hg' hv
  · refine ⟨own_on h.own hb, fun g' hg' e => ?_, h.off⟩
    have := (own_lt2 h.own hg').2
    have := (own_lt2 ho e).1
    omega
theorem GR.keep {W w : World} {vd v : Value} {N m : Nat} {cs : List Value} {R : List Rr} {H : List Hk} (h : GR W w vd v N m cs R) (hk : KS W w (⟨43, 3, v, m, rp m cs⟩ :: R) H) : KS W w R (⟨43, 3, vd, v, N, m, cs⟩ :: H) := by
  refine ⟨hk.below, hk.tail.own, hk.tail.ap, fun x hx => ?_, fun i s hs g hg x hx => ?_⟩
  · rcases List.mem_cons.1 hx with rfl | hx
    · exact ⟨h.own, hk.own0⟩
    · exact hk.each x hx
  · rcases List.mem_cons.1 hx with rfl | hx
    · exact ⟨fun e => h.off s (List.mem_of_getElem? hs) g e hg, hk.ap (i + 1) 0 s _ (by omega) (by simpa using hs) rfl g hg⟩
    · exact hk.tail.off i s hs g hg x hx
end Go.Proofs.YtmomidkodjihjaaDoor
namespace Go.Proofs.YtmomidkodjihjaaDoor
open Go.RowKit
open H
set_option maxRecDepth 100000
set_option maxHeartbeats 8000000
attribute [-simp] Tryd.isAgg44 Tryd.sizeOf44 Tryd.zeroValue44 Tryd.isAgg37 Tryd.sizeOf37 Tryd.zeroValue37
theorem drow_snoc (v : Value) (ds : List Value) (u : Value) : (⟨25, 1, v, ds.length + 1, ds ++ [u]⟩ : Rr) = drow v (ds ++ [u]) := by simp [drow]
theorem KS.lend {W w : World} {a b c m o : Rr} {L X : List Rr} {H : List Hk} (h : KS W w (a :: b :: c :: (m :: o :: (L ++ X))) H) : KS W w (m :: o :: (L ++ (a :: b :: c :: X))) H :=
  h.perm (by
    have : ([a, b, c] ++ ((m :: o :: L) ++ X)).Perm ((m :: o :: L) ++ ([a, b, c] ++ X)) := by
      rw [← List.append_assoc, ← List.append_assoc]
      exact List.Perm.append_right _ List.perm_append_comm
    simpa using this)
theorem KS.three {W w : World} {a b c : Rr} {X : List Rr} {H : List Hk} (h : KS W w (a :: b :: c :: X) H) : KS W w [a, b, c] H :=
  h.emb id (fun i r hr => by
    match i, hr with
    | 0, hr => exact hr
    | 1, hr => exact hr
    | 2, hr => exact hr
    | i + 3, hr => simp at hr) (fun i j h => h)
theorem info25 : (Tryd.prog.info? 25).map (fun i => (i.zero, i.size, i.bytes)) = some (some (.slice none 0 0), 1, 24) := by kernel_rfl
theorem partE (W w : World) (al ak : Option Addr) (N lc EL kc t : Nat) (l : List Ov) (E : List Int) (hBS : BS W al ak N EL l E) (ht : t < 4) (v9 v10 v11 vd vo : Value) (HB D : List Hk) (H : List Hk) (X : List Rr) (lo : List Ov) (mo a26 : Option Addr) (mc c26 : Nat)
    (hD : D.length = t) (hHB : HB.length ≤ 900) (hb : ∀ h ∈ HB, h ∈ H) (hd : ∀ h ∈ D, h ∈ H) (wb : ∀ h ∈ HB, ∃ n a, HWd h n a ∧ n ≤ 262144) (wd : ∀ i h, D[i]? = some h → HOp h N i)
    (hlo : lo.map Ov.o = l.map Ov.o) (hX : (⟨24, 1, .slice a26 (EL + 100) c26, EL + 100, E.map (Value.int .u32) ++ rp 100 [mk]⟩ : Rr) ∈ X)
    (hK : KS W w (⟨43, 3, vd, N, rp N (mcs t)⟩ :: (brow v9 HB :: drow v10 (D.map (·.vl) ++ [vd]) :: drow v11 (D.map (·.vm)) :: (mrow (.slice mo (N + 50) mc) lo 50 :: orow vo lo :: (lo.map wrow ++ X)))) H) (Q : Exit → Act → World → Prop)
    (z0 z1 z2 z3 z4 z6 z7 z16 z17 z18 z19 z20 z21 z22 z23 z24 z25 z27 z29 z30 z31 z32 z33 z34 z35 z36 z37 z38 z39 z40 z41 z42 z43 z44 z45 z46 z47 z48 z49 z50 z51 z52 z53 z54 z55 z56 z57 z58 z59 z60 z61 z62 z63 z64 z65 z66 z67 z68 z69 z70 z71 z72 z73 z74 z75 z76 z77 z78 z79 z80 z81 z82 z83 z84 z85 z86 z87 z88 z89 z90 z91 z92 z93 z94 z95 z96 z97 z98 z99 z100 z101 z102 z103 z104 z105 z106 z107 z108 z109 z110 z111 z112 z113 z114 z115 z116 z117 z118 z119 z120 z121 z122 z123 z124 z125 z126 z127 z128 z129 z130 z131 z132 z133 z134 z135 z136 z137 z138 z139 z140 z141 z142 z143 z144 z145 z146 z147 z148 z149 z150 z151 z152 z153 z154 z155 z156 z157 z158 z159 z160 z161 z162 z163 z164 z165 z166 z167 z168 z169 z170 z171 z172 z173 z174 z175 z176 z177 z178 z179 z180 z181 z182 z183 z184 z185 z186 z187 z188 z189 z190 z191 z192 z193 z194 z195 z196 z197 z198 z199 z200 z201 z202 z203 z204 z205 z206 z207 z208 z209 z210 z211 z212 z213 z214 z215 z216 z217 z218 z219 z220 z221 z222 z223 z224 z225 z226 z227 z228 z229 z230 z231 z232 z233 z234 z235 z236 z237 z238 z239 z240 z241 z242 z243 z244 z245 z246 z247 z248 z249 z250 z251 z252 z253 z254 z255 z256 z257 z258 z259 z260 z261 z262 z263 z264 z265 z266 z267 z268 z269 z270 z271 z272 z273 z274 z275 z276 z277 z278 z279 z280 z281 z282 z283 z284 z285 z286 z287 z288 z289 z290 z291 z292 z293 z294 z295 z296 z297 z298 z299 z300 z301 z302 z303 z304 z305 z306 z307 z308 z309 z310 z311 z312 z313 z314 z315 z316 z317 z318 z319 z320 z321 z322 z323 z324 z325 z326 z327 z328 z329 z330 z331 z332 z333 z334 z335 z336 z337 z338 z339 z340 z341 z342 z343 z344 z345 z346 z347 z348 z349 z350 z351 z352 z353 z354 z355 z356 z357 z358 z359 z360 z361 z362 z363 z364 z365 z366 z367 z368 z369 z370 : Value)
    (hP : ∀ (x : List PanicEntry) (a : Act) (t : Option Tmp) (v : Value) (w : World), Q (.panic x) (a.put t v) w → Q (.panic x) a w)
    (hQ : ∀ (w' : World) (v11' : Value) (D' : List Hk) (H' : List Hk) (y4 y28 y38 y326 y327 y328 y329 y330 y331 y332 y333 y334 y335 y336 y337 y338 y339 y340 y341 y342 y343 y344 y345 y346 y347 y348 y349 y350 y351 y352 y353 y354 y355 y356 y357 y358 y359 y360 y361 y362 y363 y364 y365 y366 y367 : Value), LS W w' N v9 v10 v11' HB D' (D'.map (·.vl)) [] H' → D'.length = t + 1 → Q .normal { tmps := #[z0, z1, z2, z3, y4, .slice al N lc, z6, z7, .slice ak EL kc, v9, v10, v11', .int .i64 (t : Int), .slice mo (N + 50) mc, vo, .slice mo N mc, z16, z17, z18, z19, z20, z21, z22, z23, z24, z25, .slice a26 (EL + 100) c26, z27, y28, z29, z30, z31, z32, z33, z34, z35, z36, z37, y38, z39, z40, z41, z42, z43, z44, z45, z46, z47, z48, z49, z50, z51, z52, z53, z54, z55, z56, z57, z58, z59, z60, z61, z62, z63, z64, z65, z66, z67, z68, z69, z70, z71, z72, z73, z74, z75, z76, z77, z78, z79, z80, z81, z82, z83, z84, z85, z86, z87, z88, z89, z90, z91, z92, z93, z94, z95, z96, z97, z98, z99, z100, z101, z102, z103, z104, z105, z106, z107, z108, z109, z110, z111, z112, z113, z114, z115, z116, z117, z118, z119, z120, z121, z122, z123, z124, z125, z126, z127, z128, z129, z130, z131, z132, z133, z134, z135, z136, z137, z138, z139, z140, z141, z142, z143, z144, z145, z146, z147, z148, z149, z150, z151, z152, z153, z154, z155, z156, z157, z158, z159, z160, z161, z162, z163, z164, z165, z166, z167, z168, z169, z170, z171, z172, z173, z174, z175, z176, z177, z178, z179, z180, z181, z182, z183, z184, z185, z186, z187, z188, z189, z190, z191, z192, z193, z194, z195, z196, z197, z198, z199, z200, z201, z202, z203, z204, z205, z206, z207, z208, z209, z210, z211, z212, z213, z214, z215, z216, z217, z218, z219, z220, z221, z222, z223, z224, z225, z226, z227, z228, z229, z230, z231, z232, z233, z234, z235, z236, z237, z238, z239, z240, z241, z242, z243, z244, z245, z246, z247, z248, z249, z250, z251, z252, z253, z254, z255, z256, z257, z258, z259, z260, z261, z262, z263, z264, z265, z266, z267, z268, z269, z270, z271, z272, z273, z274, z275, z276, z277, z278, z279, z280, z281, z282, z283, z284, z285, z286, z287, z288, z289, z290, z291, z292, z293, z294, z295, z296, z297, z298, z299, z300, z301, z302, z303, z304, z305, z306, z307, z308, z309, z310, z311, z312, z313, z314, z315, z316, z317, z318, z319, z320, z321, z322, z323, z324, z325, y326, y327, y328, y329, y330, y331, y332, y333, y334, y335, y336, y337, y338, y339, y340, y341, y342, y343, y344, y345, y346, y347, y348, y349, y350, y351, y352, y353, y354, y355, y356, y357, y358, y359, y360, y361, y362, y363, y364, y365, y366, y367, z368, z369, z370], defers := [] } w') :
    Code.wp Tryd.prog (pth (inner ++ [1, 1, 1, 1, 1, 1, 1, 1, 1, 1, 1, 1, 1, 1, 1, 1, 1, 1, 1, 1, 1, 1, 1]) (Tryd.f6.body.getD .skip)) Q { tmps := #[z0, z1, z2, z3, z4, .slice al N lc, z6, z7, .slice ak EL kc, v9, v10, v11, .int .i64 (t : Int), .slice mo (N + 50) mc, vo, .slice mo N mc, z16, z17, z18, z19, z20, z21, z22, z23, z24, z25, .slice a26 (EL + 100) c26, z27, vd, z29, z30, z31, z32, z33, z34, z35, z36, z37, z38, z39, z40, z41, z42, z43, z44, z45, z46, z47, z48, z49, z50, z51, z52, z53, z54, z55, z56, z57, z58, z59, z60, z61, z62, z63, z64, z65, z66, z67, z68, z69, z70, z71, z72, z73, z74, z75, z76, z77, z78, z79, z80, z81, z82, z83, z84, z85, z86, z87, z88, z89, z90, z91, z92, z93, z94, z95, z96, z97, z98, z99, z100, z101, z102, z103, z104, z105, z106, z107, z108, z109, z110, z111, z112, z113, z114, z115, z116, z117, z118, z119, z120, z121, z122, z123, z124, z125, z126, z127, z128, z129, z130, z131, z132, z133, z134, z135, z136, z137, z138, z139, z140, z141, z142, z143, z144, z145, z146, z147, z148, z149, z150, z151, z152, z153, z154, z155, z156, z157, z158, z159, z160, z161, z162, z163, z164, z165, z166, z167, z168, z169, z170, z171, z172, z173, z174, z175, z176, z177, z178, z179, z180, z181, z182, z183, z184, z185, z186, z187, z188, z189, z190, z191, z192, z193, z194, z195, z196, z197, z198, z199, z200, z201, z202, z203, z204, z205, z206, z207, z208, z209, z210, z211, z212, z213, z214, z215, z216, z217, z218, z219, z220, z221, z222, z223, z224, z225, z226, z227, z228, z229, z230, z231, z232, z233, z234, z235, z236, z237, z238, z239, z240, z241, z242, z243, z244, z245, z246, z247, z248, z249, z250, z251, z252, z253, z254, z255, z256, z257, z258, z259, z260, z261, z262, z263, z264, z265, z266, z267, z268, z269, z270, z271, z272, z273, z274, z275, z276, z277, z278, z279, z280, z281, z282, z283, z284, z285, z286, z287, z288, z289, z290, z291, z292, z293, z294, z295, z296, z297, z298, z299, z300, z301, z302, z303, z304, z305, z306, z307, z308, z309, z310, z311, z312, z313, z314, z315, z316, z317, z318, z319, z320, z321, z322, z323, z324, z325, z326, z327, z328, z329, z330, z331, z332, z333, z334, z335, z336, z337, z338, z339, z340, z341, z342, z343, z344, z345, z346, z347, z348, z349, z350, z351, z352, z353, z354, z355, z356, z357, z358, z359, z360, z361, z362, z363, z364, z365, z366, z367, z368, z369, z370], defers := [] } w := by
  have n1 : (N : Int) ≤ 4 := by have := hBS.n4; omega
  have t1 : (t : Int) < 4 := by omega
  have e1 : (EL : Int) ≤ 8208 := by have := hBS.e8; omega
  have HBS := hid hBS
  have HQ := hid hQ
  have HP := hid hP
  have HLo := hid hlo
  have HX := hid hX
  have HF := hid (And.intro hD (And.intro hHB (And.intro hb (And.intro hd (And.intro wb wd)))))
  have HK0 := hid hK
  have HG0 := hid (GR.start hK)
  have HN2 := hid (show N ≤ 4 from hBS.n4)
  clear hBS hQ hP hlo hX hD hHB hb hd wb wd hK
  refine pth_walk _ rfl (by simp only [pth, inner, List.cons_append, List.nil_append]; rfl) ?_
  go_wp2_with fail
  go_loopw [28, 38] (fun v i wr => ∃ (j : Nat) (u : Value), j ≤ 40 ∧ i = .int .i64 (j : Int) ∧ v = u ∧ Hid (KS W wr (⟨43, 3, u, N + j, rp (N + j) (mcs t)⟩ :: (brow v9 HB :: drow v10 (D.map (·.vl) ++ [vd]) :: drow v11 (D.map (·.vm)) :: (mrow (.slice mo (N + 50) mc) lo 50 :: orow vo lo :: (lo.map wrow ++ X)))) H) ∧ Hid (GR W wr vd u N (N + j) (mcs t) (brow v9 HB :: drow v10 (D.map (·.vl) ++ [vd]) :: drow v11 (D.map (·.vm)) :: (mrow (.slice mo (N + 50) mc) lo 50 :: orow vo lo :: (lo.map wrow ++ X))))) (fun _ i _ => 40 - (intOf i).toNat)
  case atStart => exact ⟨0, _, by omega, rfl, rfl, HK0, HG0⟩
  case round =>
    clear HK0 HG0
    obtain ⟨j, u28, hj, rfl, rfl, HK, HG⟩ := hrel
    by_cases hlt : j < 40
    · have q1 : (j : Int) < 40 := by omega
      go_wp2_with (at_builtin; refine wpList_append_1 rfl _ _ 25 43 rfl Tryd.underlying25 Tryd.info43 rfl (by decide) (by decide) rfl (HK.out.on (below_one _ _)).own0 (HK.out.on (below_one _ _)).below.size rfl rfl (cel_new _ 43 [.int .i64 99, .int .u32 (t : Int), .slice none 0 0]) (by simp [Value.oneCell']) (by have := HN2.out; omega) ?_; intro v5 w5 hal; have HK2 := hid ((HK.out.on (below_one _ _)).app 0 rfl hal); have HG2 := hid ((HG.out.on (below_one _ _)).more rfl hal); clear hal)
      go_roundw
      case measure => simp [intOf] <;> omega
      case rel => exact ⟨j + 1, v5, by omega, by simp, rfl, by rw [show N + (j + 1) = N + j + 1 by omega, rp_succ]; exact HK2, HG2⟩
    · have hj3 : j = 40 := by omega
      subst hj3
      obtain ⟨a28, c28, rfl⟩ := own_frm HK.out.own0 (by decide)
      have HK3 := hid (HG.out.keep HK.out)
      clear HK HG
      go_upto_region 66 with (at_builtin; refine wpList_append_1 rfl _ _ 57 25 rfl Tryd.underlying57 info25 rfl (by decide) (by decide) rfl ((HK3.out.on (below_one _ _)).mem (i := 2) rfl) (HK3.out.on (below_one _ _)).below.size rfl rfl (cel_new _ 25 [.slice a28 (N + 40) c28]) (by simp [Value.oneCell']) (by show (D.map (·.vm)).length ≤ 2000000; rw [List.length_map, HF.out.1]; omega) ?_; intro v11' w5 hal; have HK4 := hid ((HK3.out.on (below_one _ _)).app 2 rfl hal); clear hal)
      obtain ⟨h9, hh9⟩ : ∃ h : Hk, h = ⟨43, 3, vd, .slice a28 (N + 40) c28, N, N + 40, mcs t⟩ := ⟨_, rfl⟩
      have hl9 : h9.vl = vd ∧ h9.vm = .slice a28 (N + 40) c28 := by rw [hh9]; exact ⟨rfl, rfl⟩
      have hop : HOp h9 N t := by rw [hh9]; exact ⟨rfl, rfl, rfl, rfl, rfl⟩
      have HK5 : Hid (KS W w5 (brow v9 HB :: drow v10 ((D ++ [h9]).map (·.vl)) :: drow v11' ((D ++ [h9]).map (·.vm)) :: (mrow (.slice mo (N + 50) mc) lo 50 :: orow vo lo :: (lo.map wrow ++ X))) (h9 :: H)) := hid (by
        have := HK4.out
        simp only [List.set_cons_succ, List.set_cons_zero] at this
        rw [List.map_append, List.map_append, List.map_singleton, List.map_singleton, hl9.1, hl9.2, ← drow_snoc v11' (D.map (·.vm)), hh9]
        exact this)
      have HOp2 : Hid (∀ i h, (D ++ [h9])[i]? = some h → HOp h N i) := hid (fun i h hi => by
        by_cases hlt : i < D.length
        · rw [List.getElem?_append_left hlt] at hi
          exact HF.out.2.2.2.2.2 i h hi
        · rw [List.getElem?_append_right (by omega)] at hi
          have h0 : i - D.length = 0 := by
            rcases Nat.eq_zero_or_pos (i - D.length) with h | h
            · exact h
            · rw [List.getElem?_eq_none (by simp; omega)] at hi; cases hi
          rw [h0] at hi
          simp only [List.getElem?_cons_zero, Option.some.injEq] at hi
          subst hi
          rw [show i = t by have := HF.out.1; omega]
          exact hop)
      have hDl : (D ++ [h9]).length = t + 1 := by rw [List.length_append, HF.out.1]; rfl
      have HDm : Hid (∀ h ∈ D ++ [h9], h ∈ h9 :: H) := hid (fun h hh => by
        rcases List.mem_append.1 hh with hh | hh
        · exact .tail _ (HF.out.2.2.2.1 h hh)
        · rw [List.mem_singleton.1 hh]; exact .head _)
      clear HK3 HK4 hop hl9 hh9
      obtain ⟨D2, hD2⟩ : ∃ D2, D ++ [h9] = D2 := ⟨_, rfl⟩
      rw [hD2] at HK5 HOp2 HDm hDl
      clear hD2
      have o10 : ∀ w, KS W w (brow v9 HB :: drow v10 (D2.map (·.vl)) :: drow v11' (D2.map (·.vm)) :: (mrow (.slice mo (N + 50) mc) lo 50 :: orow vo lo :: (lo.map wrow ++ X))) (h9 :: H) → w.ownsRow W.heap.size 25 1 v10 (t + 1) (D2.map (·.vl)) := fun w h => by
        have : w.ownsRow W.heap.size 25 1 v10 (D2.map (·.vl)).length (D2.map (·.vl)) := h.mem (i := 1) rfl
        rw [List.length_map, hDl] at this
        exact this
      have o11 : ∀ w, KS W w (brow v9 HB :: drow v10 (D2.map (·.vl)) :: drow v11' (D2.map (·.vm)) :: (mrow (.slice mo (N + 50) mc) lo 50 :: orow vo lo :: (lo.map wrow ++ X))) (h9 :: H) → w.ownsRow W.heap.size 25 1 v11' (t + 1) (D2.map (·.vm)) := fun w h => by
        have : w.ownsRow W.heap.size 25 1 v11' (D2.map (·.vm)).length (D2.map (·.vm)) := h.mem (i := 2) rfl
        rw [List.length_map, hDl] at this
        exact this
      have o9 : ∀ w, KS W w (brow v9 HB :: drow v10 (D2.map (·.vl)) :: drow v11' (D2.map (·.vm)) :: (mrow (.slice mo (N + 50) mc) lo 50 :: orow vo lo :: (lo.map wrow ++ X))) (h9 :: H) → w.ownsRow W.heap.size 63 3 v9 HB.length (bcs HB) := fun w h => h.mem (i := 0) rfl
      obtain ⟨a10, c10, e10⟩ := own_frm (o10 _ HK5.out) (by decide)
      obtain ⟨a11, c11, e11⟩ := own_frm (o11 _ HK5.out) (by decide)
      obtain ⟨a9, c9, e9⟩ := own_frm (o9 _ HK5.out) (by decide)
      subst e10 e11 e9
      have HMk := hid (fun w h => marked_any w W.heap.size a10 a11 (t + 1) c10 c11 N D2 hDl (o10 w h) (o11 w h) (fun x hx => h.each x (HDm.out x hx)) HOp2.out (by omega) (by omega))
      have HSt := hid (fun w h => stay_any w W.heap.size a9 HB.length c9 HB rfl (o9 w h) (fun x hx => h.each x (.tail _ (HF.out.2.2.1 x hx))) HF.out.2.2.2.2.1 (by have := HF.out.2.1; omega))
      have HCl := hid (fun w h => clean_any W w (brow (.slice a9 HB.length c9) HB :: drow (.slice a10 (t + 1) c10) (D2.map (·.vl)) :: drow (.slice a11 (t + 1) c11) (D2.map (·.vm)) :: (mrow (.slice mo (N + 50) mc) lo 50 :: orow vo lo :: (lo.map wrow ++ X))) (h9 :: H) h lo (.slice mo (N + 50) mc) vo (by simp) (by simp) (fun x hx => .tail _ (.tail _ (.tail _ (.tail _ (.tail _ (List.mem_append_left _ (List.mem_map_of_mem hx))))))) al N lc l HBS.out.hn HBS.out.hl HLo.out (by omega) (fun x hx => ok_len (HBS.out.ok x hx)))
      have HLg := hid (fun (w : World) (h : KS W w (brow (.slice a9 HB.length c9) HB :: drow (.slice a10 (t + 1) c10) (D2.map (·.vl)) :: drow (.slice a11 (t + 1) c11) (D2.map (·.vm)) :: (mrow (.slice mo (N + 50) mc) lo 50 :: orow vo lo :: (lo.map wrow ++ X))) (h9 :: H)) => (h.inn (r := (⟨24, 1, .slice a26 (EL + 100) c26, EL + 100, E.map (Value.int .u32) ++ rp 100 [mk]⟩ : Rr)) (.tail _ (.tail _ (.tail _ (.tail _ (.tail _ (List.mem_append_right _ HX.out)))))) : w.ownsRow W.heap.size 24 1 (.slice a26 (EL + 100) c26) (EL + 100) (E.map (Value.int .u32) ++ rp 100 [mk])))
      have hcap := own_cap (HLg.out _ HK5.out)
      have HSm := hid (fun (w : World) (h : KS W w (brow (.slice a9 HB.length c9) HB :: drow (.slice a10 (t + 1) c10) (D2.map (·.vl)) :: drow (.slice a11 (t + 1) c11) (D2.map (·.vm)) :: (mrow (.slice mo (N + 50) mc) lo 50 :: orow vo lo :: (lo.map wrow ++ X))) (h9 :: H)) => (by
        have h1 := HLg.out w h
        unfold mk at h1
        rw [rp_map, ← List.map_append] at h1
        have := same_any w a26 ak EL EL c26 kc E E HBS.out.hEl HBS.out.hEl (at_head (own_at h1)) (HBS.out.kept.below h.below) (by omega)
        rw [decide_eq_true rfl] at this
        exact this : Calls Tryd.prog 11 #[.slice a26 EL c26, .slice ak EL kc] w fun e W' => e = .returned (.bool true) ∧ Below w.heap.size w W'))
      have HAn := hid (fun (w : World) (h : KS W w (brow (.slice a9 HB.length c9) HB :: drow (.slice a10 (t + 1) c10) (D2.map (·.vl)) :: drow (.slice a11 (t + 1) c11) (D2.map (·.vm)) :: (mrow (.slice mo (N + 50) mc) lo 50 :: orow vo lo :: (lo.map wrow ++ X))) (h9 :: H)) => anew_any W w HBS.out.tab HBS.out.sz _ (h9 :: H) lo lo mo N mc vo h.lend (by rw [← HBS.out.hn]; have := congrArg List.length HLo.out; simpa using this) (fun x hx => by
        have hx2 : x.o ∈ l.map Ov.o := by rw [← HLo.out]; exact List.mem_map_of_mem hx
        obtain ⟨z, hz, hz2⟩ := List.mem_map.1 hx2
        rw [← hz2]
        exact HBS.out.ok z hz) (by omega))
      clear o10 o11 o9 HLg
      go_upto_region 68 with (go_at_call 25; refine (HMk.out _ HK5.out).mono ?_; rintro e w6 ⟨rfl, rfl⟩)
      go_upto_region 70 with (first | (go_at_call 26; refine (HSt.out _ HK5.out).mono ?_; rintro e w7 ⟨rfl, hb7⟩; have HK6 := hid (HK5.out.on hb7); clear hb7) | (go_at_call 23; refine (HCl.out _ HK6.out).mono ?_; rintro e w8 ⟨rfl, h8⟩; have HK7 := hid h8; clear h8) | (go_at_call 11; refine (HSm.out _ HK7.out).mono ?_; rintro e w9 ⟨rfl, hb9⟩; have HK8 := hid (HK7.out.on hb9); clear hb9))
      clear HMk HSt HCl HSm HK5 HK6 HK7
      go_wp2_with (go_at_call 27; refine (HAn.out _ HK8.out).mono ?_; rintro e w10 ⟨rfl, h10⟩; have HK9 := hid h10; clear h10)
      exact HQ.out _ _ D2 (h9 :: H) _ _ _ _ _ _ _ _ _ _ _ _ _ _ _ _ _ _ _ _ _ _ _ _ _ _ _ _ _ _ _ _ _ _ _ _ _ _ _ _ _ _ _ _ _ ⟨HK9.out.three, fun h hh => .tail _ (HF.out.2.2.1 h hh), HDm.out, HF.out.2.2.2.2.1, HOp2.out⟩ hDl
end Go.Proofs.YtmomidkodjihjaaDoor
