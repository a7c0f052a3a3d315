import Derived.Test.YtmomidkodjihjaaDoorP35
import Derived.Deep.DeepCutAuto
namespace Go.Proofs.YtmomidkodjihjaaDoor
open Go.RowKit
open H
set_option maxRecDepth 100000
set_option maxHeartbeats 8000000
attribute [-simp] Tryd.isAgg44 Tryd.sizeOf44 Tryd.zeroValue44 Tryd.isAgg37 Tryd.sizeOf37 Tryd.zeroValue37
theorem cel_ne {w : World} {g g' : Nat} {t t' : TypeId} {cs cs' : List Value} (h : Cel w g t cs) (h' : Cel w g' t' cs') (ht : t ≠ t') : g ≠ g' := fun e => by
  subst e
  have := Option.some.inj (h.symm.trans h')
  injection this with _ h5
  exact ht h5
theorem box_put {W w w' : World} {R : List Rr} {H : List Hk} {e : TypeId} {g : Nat} {cs ds : List Value} (h : KS W w (bx e g cs :: R) H) (hc : Cel w' g e ds) (hb : But g w w') : KS W w' (bx e g ds :: R) H :=
  h.wr 0 rfl (bx e g ds) (g := g) rfl rfl hb ⟨by simp [bx], .inr ⟨g, 1, ds.toArray, rfl, (own_lt2 (h.mem (i := 0) rfl) rfl).1, hc, Nat.le_refl _, by unfold maxLen; omega, by simp [bx], by simp [bx]⟩⟩
theorem partA2 (W w : World) (al ak : Option Addr) (N lc EL kc t : Nat) (l : List Ov) (E : List Int) (hBS : BS W al ak N EL l E) (ht : t < 4) (v9 v10 v11 vo : Value) (HB D : List Hk) (H : List Hk) (lo : List Ov) (mo aw : Option Addr) (mc cw g18 g20 g22 : Nat) (M : List Int) (hM : sumW E = M)
    (hD : D.length = t) (hHB : HB.length + (N + N + 2) ≤ 900) (hb : ∀ h ∈ HB, h ∈ H) (hd : ∀ h ∈ D, h ∈ H) (wb : ∀ h ∈ HB, ∃ n a, HWd h n a ∧ n ≤ 262144) (wd : ∀ i h, D[i]? = some h → HOp h N i)
    (hlo : lo.map Ov.o = l.map Ov.o) (hK : (KS W w (bx 37 g22 ((saveOf (enc ((l.map Ov.o).take 0))).map (Value.int .u32)) :: (brow v9 HB :: drow v10 (D.map (·.vl)) :: drow v11 (D.map (·.vm)) :: ⟨24, 1, .slice aw EL cw, EL, E.map (Value.int .u32)⟩ :: (mrow (.slice mo (N + 50) mc) lo 50 :: orow vo lo :: lo.map wrow))) H ∧ Blk w g18 .u32 44 M ∧ Cel w g20 52 nil2)) (Q : Exit → Act → World → Prop)
    (z0 z1 z2 z3 z4 z6 z7 z23 z24 z25 z26 z27 z28 z29 z30 z31 z32 z33 z34 z35 z36 z37 z38 z39 z40 z41 z42 z43 z44 z45 z46 z47 z48 z49 z50 z51 z52 z53 z54 z55 z56 z57 z58 z59 z60 z61 z62 z63 z64 z65 z66 z67 z68 z69 z70 z71 z72 z73 z74 z75 z76 z77 z78 z79 z80 z81 z82 z83 z84 z85 z86 z87 z88 z89 z90 z91 z92 z93 z94 z95 z96 z97 z98 z99 z100 z101 z102 z103 z104 z105 z106 z107 z108 z109 z110 z111 z112 z113 z114 z115 z116 z117 z118 z119 z120 z121 z122 z123 z124 z125 z126 z127 z128 z129 z130 z131 z132 z133 z134 z135 z136 z137 z138 z139 z140 z141 z142 z143 z144 z145 z146 z147 z148 z149 z150 z151 z152 z153 z154 z155 z156 z157 z158 z159 z160 z161 z162 z163 z164 z165 z166 z167 z168 z169 z170 z171 z172 z173 z174 z175 z176 z177 z178 z179 z180 z181 z182 z183 z184 z185 z186 z187 z188 z189 z190 z191 z192 z193 z194 z195 z196 z197 z198 z199 z200 z201 z202 z203 z204 z205 z206 z207 z208 z209 z210 z211 z212 z213 z214 z215 z216 z217 z218 z219 z220 z221 z222 z223 z224 z225 z226 z227 z228 z229 z230 z231 z232 z233 z234 z235 z236 z237 z238 z239 z240 z241 z242 z243 z244 z245 z246 z247 z248 z249 z250 z251 z252 z253 z254 z255 z256 z257 z258 z259 z260 z261 z262 z263 z264 z265 z266 z267 z268 z269 z270 z271 z272 z273 z274 z275 z276 z277 z278 z279 z280 z281 z282 z283 z284 z285 z286 z287 z288 z289 z290 z291 z292 z293 z294 z295 z296 z297 z298 z299 z300 z301 z302 z303 z304 z305 z306 z307 z308 z309 z310 z311 z312 z313 z314 z315 z316 z317 z318 z319 z320 z321 z322 z323 z324 z325 z326 z327 z328 z329 z330 z331 z332 z333 z334 z335 z336 z337 z338 z339 z340 z341 z342 z343 z344 z345 z346 z347 z348 z349 z350 z351 z352 z353 z354 z355 z356 z357 z358 z359 z360 z361 z362 z363 z364 z365 z366 z367 z368 z369 z370 : Value)
    (hP : ∀ (x : List PanicEntry) (a : Act) (t : Option Tmp) (v : Value) (w : World), Q (.panic x) (a.put t v) w → Q (.panic x) a w)
    (hQ : ∀ (w' : World) (v9' v10' v11' : Value) (HB' D' : List Hk) (H' : List Hk) (y4 y17 y23 y24 y25 y26 y27 y28 y29 y30 y31 y32 y33 y34 y35 y36 y37 y38 y88 y89 y90 y91 y92 y93 y94 y95 y96 y97 y98 y99 y100 y101 y102 y103 y104 y105 y106 y107 y108 y109 y110 y111 y112 y113 y114 y115 y116 y117 y118 y119 y120 y121 y122 y123 y124 y125 y126 y127 y128 y129 y130 y131 y132 y133 y134 y135 y136 y137 y138 y139 y140 y141 y142 y143 y144 y145 y146 y147 y148 y149 y150 y151 y152 y153 y154 y155 y156 y157 y158 y159 y160 y161 y162 y163 y164 y165 y166 y167 y168 y169 y170 y171 y172 y173 y174 y175 y176 y177 y178 y179 y180 y181 y182 y183 y184 y185 y186 y187 y188 y189 y190 y191 y192 y193 y194 y195 y196 y197 y198 y199 y200 y201 y202 y203 y204 y205 y206 y207 y208 y209 y210 y211 y212 y213 y214 y215 y216 y217 y218 y219 y220 y221 y222 y223 y224 y225 y226 y227 y228 y229 y230 y231 y232 y233 y234 y235 y236 y237 y238 y239 y240 y241 y242 y243 y244 y245 y246 y247 y248 y249 y250 y251 y252 y253 y254 y255 y256 y257 y258 y259 y260 y261 y262 y263 y264 y265 y266 y267 y268 y269 y270 y271 y272 y273 y274 y275 y276 y277 y278 y279 y280 y281 y282 y283 y284 y285 y286 y287 y288 y289 y290 y291 y292 y293 y294 y295 y296 y297 y298 y299 y300 y301 y302 y303 y304 y305 y306 y307 y308 y309 y310 y311 y312 y313 y314 y315 y316 y317 y318 y319 y320 y321 y322 y323 y324 y325 y326 y327 y328 y329 y330 y331 y332 y333 y334 y335 y336 y337 y338 y339 y340 y341 y342 y343 y344 y345 y346 y347 y348 y349 y350 y351 y352 y353 y354 y355 y356 y357 y358 y359 y360 y361 y362 y363 y364 y365 y366 y367 : Value), LS W w' N v9' v10' v11' HB' D' (D'.map (·.vl)) [] H' → D'.length = t + 1 → HB'.length = HB.length + (N + N + 2) → Q .normal { tmps := #[z0, z1, z2, z3, y4, .slice al N lc, z6, z7, .slice ak EL kc, v9', v10', v11', .int .i64 (t : Int), .slice mo (N + 50) mc, vo, .slice mo N mc, .slice aw EL cw, y17, .pointer (some ⟨g18, 0, none⟩), .int .i64 0, .pointer (some ⟨g20, 0, none⟩), .int .i64 1, .pointer (some ⟨g22, 0, none⟩), y23, y24, y25, y26, y27, y28, y29, y30, y31, y32, y33, y34, y35, y36, y37, y38, z39, z40, z41, z42, z43, z44, z45, z46, z47, z48, z49, z50, z51, z52, z53, z54, z55, z56, z57, z58, z59, z60, z61, z62, z63, z64, z65, z66, z67, z68, z69, z70, z71, z72, z73, z74, z75, z76, z77, z78, z79, z80, z81, z82, z83, z84, z85, z86, z87, y88, y89, y90, y91, y92, y93, y94, y95, y96, y97, y98, y99, y100, y101, y102, y103, y104, y105, y106, y107, y108, y109, y110, y111, y112, y113, y114, y115, y116, y117, y118, y119, y120, y121, y122, y123, y124, y125, y126, y127, y128, y129, y130, y131, y132, y133, y134, y135, y136, y137, y138, y139, y140, y141, y142, y143, y144, y145, y146, y147, y148, y149, y150, y151, y152, y153, y154, y155, y156, y157, y158, y159, y160, y161, y162, y163, y164, y165, y166, y167, y168, y169, y170, y171, y172, y173, y174, y175, y176, y177, y178, y179, y180, y181, y182, y183, y184, y185, y186, y187, y188, y189, y190, y191, y192, y193, y194, y195, y196, y197, y198, y199, y200, y201, y202, y203, y204, y205, y206, y207, y208, y209, y210, y211, y212, y213, y214, y215, y216, y217, y218, y219, y220, y221, y222, y223, y224, y225, y226, y227, y228, y229, y230, y231, y232, y233, y234, y235, y236, y237, y238, y239, y240, y241, y242, y243, y244, y245, y246, y247, y248, y249, y250, y251, y252, y253, y254, y255, y256, y257, y258, y259, y260, y261, y262, y263, y264, y265, y266, y267, y268, y269, y270, y271, y272, y273, y274, y275, y276, y277, y278, y279, y280, y281, y282, y283, y284, y285, y286, y287, y288, y289, y290, y291, y292, y293, y294, y295, y296, y297, y298, y299, y300, y301, y302, y303, y304, y305, y306, y307, y308, y309, y310, y311, y312, y313, y314, y315, y316, y317, y318, y319, y320, y321, y322, y323, y324, y325, y326, y327, y328, y329, y330, y331, y332, y333, y334, y335, y336, y337, y338, y339, y340, y341, y342, y343, y344, y345, y346, y347, y348, y349, y350, y351, y352, y353, y354, y355, y356, y357, y358, y359, y360, y361, y362, y363, y364, y365, y366, y367, z368, z369, z370], defers := [] } w') :
    Code.wp Tryd.prog (pth (inner ++ [1, 1, 1, 1, 1, 1]) (Tryd.f6.body.getD .skip)) Q { tmps := #[z0, z1, z2, z3, z4, .slice al N lc, z6, z7, .slice ak EL kc, v9, v10, v11, .int .i64 (t : Int), .slice mo (N + 50) mc, vo, .slice mo N mc, .slice aw EL cw, .int .i64 0, .pointer (some ⟨g18, 0, none⟩), .int .i64 0, .pointer (some ⟨g20, 0, none⟩), .int .i64 1, .pointer (some ⟨g22, 0, none⟩), z23, z24, z25, z26, z27, z28, z29, z30, z31, z32, z33, z34, z35, z36, z37, z38, z39, z40, z41, z42, z43, z44, z45, z46, z47, z48, z49, z50, z51, z52, z53, z54, z55, z56, z57, z58, z59, z60, z61, z62, z63, z64, z65, z66, z67, z68, z69, z70, z71, z72, z73, z74, z75, z76, z77, z78, z79, z80, z81, z82, z83, z84, z85, z86, z87, z88, z89, z90, z91, z92, z93, z94, z95, z96, z97, z98, z99, z100, z101, z102, z103, z104, z105, z106, z107, z108, z109, z110, z111, z112, z113, z114, z115, z116, z117, z118, z119, z120, z121, z122, z123, z124, z125, z126, z127, z128, z129, z130, z131, z132, z133, z134, z135, z136, z137, z138, z139, z140, z141, z142, z143, z144, z145, z146, z147, z148, z149, z150, z151, z152, z153, z154, z155, z156, z157, z158, z159, z160, z161, z162, z163, z164, z165, z166, z167, z168, z169, z170, z171, z172, z173, z174, z175, z176, z177, z178, z179, z180, z181, z182, z183, z184, z185, z186, z187, z188, z189, z190, z191, z192, z193, z194, z195, z196, z197, z198, z199, z200, z201, z202, z203, z204, z205, z206, z207, z208, z209, z210, z211, z212, z213, z214, z215, z216, z217, z218, z219, z220, z221, z222, z223, z224, z225, z226, z227, z228, z229, z230, z231, z232, z233, z234, z235, z236, z237, z238, z239, z240, z241, z242, z243, z244, z245, z246, z247, z248, z249, z250, z251, z252, z253, z254, z255, z256, z257, z258, z259, z260, z261, z262, z263, z264, z265, z266, z267, z268, z269, z270, z271, z272, z273, z274, z275, z276, z277, z278, z279, z280, z281, z282, z283, z284, z285, z286, z287, z288, z289, z290, z291, z292, z293, z294, z295, z296, z297, z298, z299, z300, z301, z302, z303, z304, z305, z306, z307, z308, z309, z310, z311, z312, z313, z314, z315, z316, z317, z318, z319, z320, z321, z322, z323, z324, z325, z326, z327, z328, z329, z330, z331, z332, z333, z334, z335, z336, z337, z338, z339, z340, z341, z342, z343, z344, z345, z346, z347, z348, z349, z350, z351, z352, z353, z354, z355, z356, z357, z358, z359, z360, z361, z362, z363, z364, z365, z366, z367, z368, z369, z370], defers := [] } w := by
  have n1 : (N : Int) ≤ 4 := by have := hBS.n4; omega
  have t1 : (t : Int) < 4 := by omega
  have e0 : EL ≤ 8208 := hBS.e8
  have HBS := hid hBS
  have HQ := hid hQ
  have HP := hid hP
  have HLo := hid hlo
  have HMs := hid hM
  have HF := hid (And.intro hD (And.intro hHB (And.intro hb (And.intro hd (And.intro wb wd)))))
  have hlN : lo.length = N := by rw [← hBS.hn]; have := congrArg List.length hlo; simpa using this
  have HLl := hid hlN
  have hmrow : w.ownsRow W.heap.size 43 3 (.slice mo (N + 50) mc) (lo.length + 50) (lo.flatMap Ov.cs ++ t50 50) := hK.1.mem (i := 5) rfl
  rw [hlN] at hmrow
  obtain ⟨gm, rfl⟩ := own_some hmrow (by omega)
  have HSl := hid (fun j => saveOf_length (enc ((l.map Ov.o).take j)))
  have HK0 := hid hK
  clear hBS hQ hP hlo hM hD hHB hb hd wb wd hK hmrow hlN
  refine pth_walk _ rfl (by simp only [pth, inner, List.cons_append, List.nil_append]; rfl) ?_
  go_wp2_with fail
  go_loopw [23] (fun i w => ∃ k : Nat, k ≤ N ∧ i = .int .i64 (k : Int) ∧ Hid (KS W w (bx 37 g22 ((saveOf (enc ((l.map Ov.o).take k))).map (Value.int .u32)) :: (brow v9 HB :: drow v10 (D.map (·.vl)) :: drow v11 (D.map (·.vm)) :: ⟨24, 1, .slice aw EL cw, EL, E.map (Value.int .u32)⟩ :: (mrow (.slice (some ⟨gm, 0, none⟩) (N + 50) mc) lo 50 :: orow vo lo :: lo.map wrow))) H ∧ Blk w g18 .u32 44 M ∧ Cel w g20 52 nil2)) (fun i _ => N - (intOf i).toNat)
  case atStart => exact ⟨0, Nat.zero_le _, rfl, HK0⟩
  case round =>
    clear HK0
    obtain ⟨k, hk, rfl, HK⟩ := hrel
    by_cases hlt : k < N
    · have q1 : (k : Int) < (N : Int) := by omega
      obtain ⟨x, hx⟩ : ∃ x, lo[k]? = some x := ⟨_, List.getElem?_eq_getElem (by rw [HLl.out]; exact hlt)⟩
      have hxo : (l.map Ov.o)[k]? = some x.o := by rw [← HLo.out, List.getElem?_map, hx]; rfl
      have HCe := hid (fun (w : World) (h : KS W w (bx 37 g22 ((saveOf (enc ((l.map Ov.o).take k))).map (Value.int .u32)) :: (brow v9 HB :: drow v10 (D.map (·.vl)) :: drow v11 (D.map (·.vm)) :: ⟨24, 1, .slice aw EL cw, EL, E.map (Value.int .u32)⟩ :: (mrow (.slice (some ⟨gm, 0, none⟩) (N + 50) mc) lo 50 :: orow vo lo :: lo.map wrow))) H) => (mrow_cell h.tail (g := gm) (.tail _ (.tail _ (.tail _ (.tail _ (.head _))))) (by rw [HLl.out]) hx : w.rangeAt gm (k * 3) [.int .i64 x.o.k, .int .u32 x.o.a, .slice x.p x.o.ws.length x.c]))
      have HCe2 := hid (fun (w : World) (h : KS W w (bx 37 g22 ((saveOf (enc ((l.map Ov.o).take (k + 1)))).map (Value.int .u32)) :: (brow v9 HB :: drow v10 (D.map (·.vl)) :: drow v11 (D.map (·.vm)) :: ⟨24, 1, .slice aw EL cw, EL, E.map (Value.int .u32)⟩ :: (mrow (.slice (some ⟨gm, 0, none⟩) (N + 50) mc) lo 50 :: orow vo lo :: lo.map wrow))) H) => (mrow_cell h.tail (g := gm) (.tail _ (.tail _ (.tail _ (.tail _ (.head _))))) (by rw [HLl.out]) hx : w.rangeAt gm (k * 3) [.int .i64 x.o.k, .int .u32 x.o.a, .slice x.p x.o.ws.length x.c]))
      have HEx := hid (fun (w : World) (h : KS W w (bx 37 g22 ((saveOf (enc ((l.map Ov.o).take k))).map (Value.int .u32)) :: (brow v9 HB :: drow v10 (D.map (·.vl)) :: drow v11 (D.map (·.vm)) :: ⟨24, 1, .slice aw EL cw, EL, E.map (Value.int .u32)⟩ :: (mrow (.slice (some ⟨gm, 0, none⟩) (N + 50) mc) lo 50 :: orow vo lo :: lo.map wrow))) H) => (by
        have hpl := enc_take_le (l.map Ov.o) k
        rw [HBS.out.hE, HBS.out.hEl] at hpl
        have hw : Wds (enc ((l.map Ov.o).take k)) := by
          have e : E = enc ((l.map Ov.o).take k) ++ enc ((l.map Ov.o).drop k) := by rw [← HBS.out.hE, ← enc_app, List.take_append_drop]
          have := wds_take HBS.out.wds (enc ((l.map Ov.o).take k)).length
          rw [e, List.take_left] at this
          exact this
        have h1 := extend_ok w (HBS.out.tab.below h.below HBS.out.sz) (by have := h.below.size; have := HBS.out.sz; omega) (enc ((l.map Ov.o).take k)) hw (by omega) x.o (by
          obtain ⟨z, hz, hz2⟩ := List.mem_map.1 (List.mem_of_getElem? hxo)
          rw [← hz2]; exact HBS.out.ok z hz) x.p x.c (at_head (wrow_at (h.inn (r := wrow x) (.tail _ (.tail _ (.tail _ (.tail _ (.tail _ (.tail _ (.tail _ (List.mem_map_of_mem (List.mem_of_getElem? hx))))))))))))
        rw [show enc ((l.map Ov.o).take k) ++ x.o.wds = enc ((l.map Ov.o).take (k + 1)) by rw [List.take_add_one, hxo, enc_app]; simp [enc]] at h1
        exact h1 : Calls Tryd.prog 16 #[.agg ((saveOf (enc ((l.map Ov.o).take k))).map (Value.int .u32)).toArray, .agg #[.int .i64 x.o.k, .int .u32 x.o.a, .slice x.p x.o.ws.length x.c]] w fun e W' => e = .returned (.tuple #[.agg ((saveOf (enc ((l.map Ov.o).take (k + 1)))).map (Value.int .u32)).toArray, .int .i64 0]) ∧ Below w.heap.size w W'))
      clear hx hxo
      go_upto_region 22 with fail
      have HS1 := hid (And.intro (HK.out.1.on (Below.refl _ _).drew) (And.intro (HK.out.2.1.below (Below.refl _ _).drew HK.out.2.1.lt) (HK.out.2.2.below (Below.refl _ _).drew HK.out.2.2.lt)))
      refine wp_region_held_drew (S := fun w => w.rangeAt gm (k * 3) [.int .i64 x.o.k, .int .u32 x.o.a, .slice x.p x.o.ws.length x.c]) (by kernel_rfl) (HCe.out _ HS1.out.1) (fun hHeld => ?_)
      generalize World.drew _ = w8 at *
      refine wpAnyH_take (i := 1) (oi := ⟨some 96, .move (.tmp 15), 25, "outright.go:251", #[], none⟩) (v := .slice (some ⟨gm, 0, none⟩) N mc) rfl (by kernel_rfl) (by kernel_rfl) (by kernel_rfl) (fun _ _ _ h => HP.out _ _ _ _ _ h) (Or.inl ⟨by rfl, by intro w hSw; go_simp⟩) (by assumption) ?_
      simp only [Act.put, List.setIfInBounds_toArray, List.set_cons_zero, List.set_cons_succ]
      refine wpAnyH_take (i := 2) (oi := ⟨some 97, .move (.tmp 23), 3, "outright.go:251", #[], none⟩) (v := .int .i64 (k : Int)) rfl (by kernel_rfl) (by kernel_rfl) (by kernel_rfl) (fun _ _ _ h => HP.out _ _ _ _ _ h) (Or.inl ⟨by rfl, by intro w hSw; go_simp⟩) (by assumption) ?_
      simp only [Act.put, List.setIfInBounds_toArray, List.set_cons_zero, List.set_cons_succ]
      refine wpAnyH_take (i := 3) (oi := ⟨some 98, .indexAddr 25 (.tmp 96) (.tmp 97), 0, "outright.go:251", #[⟨1, .data⟩, ⟨2, .data⟩], none⟩) (v := .pointer (some ⟨gm, k * 3, none⟩)) rfl (by kernel_rfl) (by kernel_rfl) (by kernel_rfl) (fun _ _ _ h => HP.out _ _ _ _ _ h) (Or.inl ⟨by rfl, by intro w hSw; go_simp⟩) (by assumption) ?_
      simp only [Act.put, List.setIfInBounds_toArray, List.set_cons_zero, List.set_cons_succ]
      refine wpAnyH_take (i := 4) (oi := ⟨some 99, .load 43 (.tmp 98), 43, "outright.go:251", #[⟨3, .data⟩], none⟩) (v := .agg #[.int .i64 x.o.k, .int .u32 x.o.a, .slice x.p x.o.ws.length x.c]) rfl (by kernel_rfl) (by kernel_rfl) (by kernel_rfl) (fun _ _ _ h => HP.out _ _ _ _ _ h) (yieldsIf_load_mid (by rfl) _ _ rfl _ _ rfl _ _ (fun w hSw => hSw) Tryd.underlying43 rfl (by rw [size43]; rfl)) (by assumption) ?_
      simp only [Act.put, List.setIfInBounds_toArray, List.set_cons_zero, List.set_cons_succ]
      refine wpAnyH_ready (rs := [0]) (by kernel_rfl) (by simp) (AllReadyH.cons (o := ⟨some 95, .load 37 (.tmp 22), 37, "outright.go:251", #[], none⟩) rfl (fun KQ hK => ?_) AllReadyH.nil)
      rw [if_pos (by rfl)]
      refine wp_load_mid 37 _ rfl g22 0 rfl ((saveOf (enc ((l.map Ov.o).take k))).map (Value.int .u32)) _ (cel_range (HS1.out.1.cel 0 rfl)) Tryd.underlying37 rfl (by rw [List.length_map, HSl.out]; exact size40) ?_
      refine hK.out _ _ (HCe.out _ HS1.out.1) (fun hHeld => ?_)
      clear hK KQ
      try simp only [Act.put, List.setIfInBounds_toArray, List.set_cons_zero, List.set_cons_succ]
      refine wpAnyH_ready (rs := [5]) (by kernel_rfl) (by simp) (AllReadyH.cons (o := ⟨some 100, .call { callee := .value (.func 16), args := #[.tmp 95, .tmp 99], argTypes := #[37, 43] }, 39, "outright.go:251", #[⟨0, .data⟩, ⟨4, .data⟩], none⟩) rfl (fun KQ hK => ?_) AllReadyH.nil)
      go_simp
      refine (HEx.out _ HS1.out.1).mono ?_
      rintro e w9 ⟨rfl, hb9⟩
      have HS2 := hid (And.intro (HS1.out.1.on hb9) (And.intro (HS1.out.2.1.below hb9 HS1.out.2.1.lt) (HS1.out.2.2.below hb9 HS1.out.2.2.lt)))
      clear hb9
      try dsimp only
      go_wp2_with fail
      refine hK.out _ _ (HCe.out _ HS2.out.1) (fun hHeld => ?_)
      clear hK KQ
      try simp only [Act.put, List.setIfInBounds_toArray, List.set_cons_zero, List.set_cons_succ]
      refine wpAnyH_take (i := 6) (oi := ⟨some 94, .move (.tmp 100), 39, "outright.go:251", #[⟨5, .data⟩], none⟩) (v := .tuple #[.agg ((saveOf (enc ((l.map Ov.o).take (k + 1)))).map (Value.int .u32)).toArray, .int .i64 0]) rfl (by kernel_rfl) (by kernel_rfl) (by kernel_rfl) (fun _ _ _ h => HP.out _ _ _ _ _ h) (Or.inl ⟨by rfl, by intro w hSw; go_simp⟩) (by assumption) ?_
      simp only [Act.put, List.setIfInBounds_toArray, List.set_cons_zero, List.set_cons_succ]
      refine wpAnyH_take (i := 7) (oi := ⟨some 101, .extract (.tmp 94) 0, 37, "outright.go:251", #[⟨6, .data⟩], none⟩) (v := .agg ((saveOf (enc ((l.map Ov.o).take (k + 1)))).map (Value.int .u32)).toArray) rfl (by kernel_rfl) (by kernel_rfl) (by kernel_rfl) (fun _ _ _ h => HP.out _ _ _ _ _ h) (Or.inl ⟨by rfl, by intro w hSw; go_simp⟩) (by assumption) ?_
      simp only [Act.put, List.setIfInBounds_toArray, List.set_cons_zero, List.set_cons_succ]
      refine wpAnyH_take (i := 8) (oi := ⟨some 102, .extract (.tmp 94) 1, 26, "outright.go:251", #[⟨6, .data⟩, { on := 9, ground := .gcOnly Departure.lateStores }], none⟩) (v := .int .i64 0) rfl (by kernel_rfl) (by kernel_rfl) (by kernel_rfl) (fun _ _ _ h => HP.out _ _ _ _ _ h) (Or.inl ⟨by rfl, by intro w hSw; go_simp⟩) (by assumption) ?_
      simp only [Act.put, List.setIfInBounds_toArray, List.set_cons_zero, List.set_cons_succ]
      refine wpAnyH_ready (rs := [9]) (by kernel_rfl) (by simp) (AllReadyH.cons (o := ⟨none, .store 37 (.tmp 22) (.tmp 101), 0, "outright.go:251", #[⟨7, .data⟩, ⟨5, .chain⟩, ⟨0, .phase⟩, ⟨1, .phase⟩, ⟨2, .phase⟩, ⟨3, .phase⟩, ⟨4, .phase⟩, ⟨5, .phase⟩, ⟨6, .phase⟩, ⟨7, .phase⟩, { on := 8, ground := .textOnly Departure.lateStores }], none⟩) rfl (fun KQ hK => ?_) AllReadyH.nil)
      rw [if_pos (by rfl)]
      refine wp_store_st 37 _ _ rfl g22 ((saveOf (enc ((l.map Ov.o).take (k + 1)))).map (Value.int .u32)) rfl rfl (HS2.out.1.cel 0 rfl) (by rw [List.length_map, HSl.out]; exact size40) (by rw [List.length_map, List.length_map, HSl.out, HSl.out]) (List.all_eq_true.2 (ints_oneCell .u32 _)) ?_
      intro w11 hc11 hb11 hs11
      have HS3 := hid (And.intro (box_put HS2.out.1 hc11 hb11) (And.intro (hb11.blk HS2.out.2.1 (cel_ne HS2.out.2.1 (HS2.out.1.cel 0 rfl) (by decide))) (HS2.out.2.2.but hb11 (cel_ne HS2.out.2.2 (HS2.out.1.cel 0 rfl) (by decide)))))
      clear hc11 hb11 hs11
      refine hK.out _ _ (HCe2.out _ HS3.out.1) (fun hHeld => ?_)
      clear hK KQ
      try simp only [Act.put]
      refine wpAnyH_done (by kernel_rfl) ?_ _
      go_wp2_with fail
      go_roundw
      case measure => simp [intOf] <;> omega
      case rel => exact ⟨k + 1, by omega, by simp, HS3⟩
    · have hkN : N = k := by omega
      subst hkN
      have hTk : (l.map Ov.o).take N = l.map Ov.o := List.take_of_length_le (by rw [List.length_map, HBS.out.hn]; exact Nat.le_refl _)
      have HK8 : Hid (KS W wr (bx 37 g22 ((saveOf E).map (Value.int .u32)) :: (brow v9 HB :: drow v10 (D.map (·.vl)) :: drow v11 (D.map (·.vm)) :: ⟨24, 1, .slice aw EL cw, EL, E.map (Value.int .u32)⟩ :: (mrow (.slice (some ⟨gm, 0, none⟩) (N + 50) mc) lo 50 :: orow vo lo :: lo.map wrow))) H ∧ Blk wr g18 .u32 44 M ∧ Cel wr g20 52 nil2) := hid (by have := HK.out; rw [hTk, HBS.out.hE] at this; exact this)
      have hsl : (saveOf E).length = 26 := saveOf_length _
      have HFi := hid (fun (w : World) (hb : Below W.heap.size W w) => (by
        have := finish_ok w (HBS.out.tab.below hb HBS.out.sz) (by have := hb.size; have := HBS.out.sz; omega) E HBS.out.wds (by rw [HBS.out.hEl]; omega)
        rw [HMs.out] at this
        exact this : Calls Tryd.prog 18 #[.agg ((saveOf E).map (Value.int .u32)).toArray] w fun e W' => e = .returned (.tuple #[.agg (M.map (Value.int .u32)).toArray, .int .i64 0]) ∧ Below w.heap.size w W'))
      have hMl : M.length = 8 := by rw [← HMs.out]; exact sumW_length _
      have heqM := eq27 M M hMl hMl
      rw [decide_eq_true rfl] at heqM
      obtain ⟨Y, hY⟩ : ∃ Y : List Int, Y = List.replicate 8 0 := ⟨_, rfl⟩
      have hYl : Y.length = 8 := by rw [hY]; simp
      have hy : ∀ w, (zeroValue 44).run Tryd.prog w = .ok (.agg (Y.map (Value.int .u32)).toArray) w := fun w => by rw [Tryd.zeroValue44, hY]; rfl
      have HSa := hid (fun (w : World) (h : KS W w (brow v9 HB :: drow v10 (D.map (·.vl)) :: drow v11 (D.map (·.vm)) :: ⟨24, 1, .slice aw EL cw, EL, E.map (Value.int .u32)⟩ :: (mrow (.slice (some ⟨gm, 0, none⟩) (N + 50) mc) lo 50 :: orow vo lo :: lo.map wrow)) H) => (by
        have := same_any w aw ak EL EL cw kc E E HBS.out.hEl HBS.out.hEl (own_at (h.inn (r := ⟨24, 1, .slice aw EL cw, EL, E.map (Value.int .u32)⟩) (.tail _ (.tail _ (.tail _ (.head _)))))) (HBS.out.kept.below h.below) (by omega)
        rw [decide_eq_true rfl] at this
        exact this : Calls Tryd.prog 11 #[.slice aw EL cw, .slice ak EL kc] w fun e W' => e = .returned (.bool true) ∧ Below w.heap.size w W'))
      have HCl := hid (fun (w : World) (h : KS W w (brow v9 HB :: drow v10 (D.map (·.vl)) :: drow v11 (D.map (·.vm)) :: ⟨24, 1, .slice aw EL cw, EL, E.map (Value.int .u32)⟩ :: (mrow (.slice (some ⟨gm, 0, none⟩) (N + 50) mc) lo 50 :: orow vo lo :: lo.map wrow)) H) => clean_any W w _ H h lo (.slice (some ⟨gm, 0, none⟩) (N + 50) mc) vo (.tail _ (.tail _ (.tail _ (.tail _ (.head _))))) (.tail _ (.tail _ (.tail _ (.tail _ (.tail _ (.head _)))))) (fun x hx => .tail _ (.tail _ (.tail _ (.tail _ (.tail _ (.tail _ (List.mem_map_of_mem hx))))))) al N lc l HBS.out.hn HBS.out.hl HLo.out (by omega) (fun x hx => ok_len (HBS.out.ok x hx)))
      clear hY hTk HK
      go_upto_region 24 with (first | (revert HK9; intro HK9; refine wpList_store_but rfl 44 _ _ rfl w5.heap.size M rfl rfl (Blk.new w5 .u32 44 Y) (by rw [hMl]; exact size27) (by rw [hYl, hMl]) ?_; intro w10 b10 t10 s10; have HKa := hid (And.intro (HK9.out.1.on (box_below2 _ t10)) (And.intro (HK9.out.2.1.below (box_below2 _ t10) HK9.out.2.1.lt) (And.intro (HK9.out.2.2.below (box_below2 _ t10) HK9.out.2.2.lt) b10))); clear b10 t10 s10) | (refine wpList_load_blk rfl 37 _ rfl g22 (saveOf E) rfl (HK8.out.1.cel 0 rfl) Tryd.underlying37 (by rw [hsl]; exact size40) ?_) | (go_at_call 18; refine (HFi.out _ HK8.out.1.below).mono ?_; rintro e w5 ⟨rfl, hb5⟩; have HK9 := hid (And.intro (HK8.out.1.tail.on hb5) (And.intro (HK8.out.2.1.below hb5 HK8.out.2.1.lt) (HK8.out.2.2.below hb5 HK8.out.2.2.lt))); clear hb5; try dsimp only))
      generalize w5.heap.size = g24 at *
      clear HK8 HK9 HFi
      have y20 := HKa.out.2.2.1.cell 0
      simp only [nil2, List.getElem?_cons_zero] at y20
      go_upto_if 145 with (first | (go_at_call 23; revert HKb; intro HKb; refine (HCl.out _ HKb.out).mono ?_; rintro e w12 ⟨rfl, h12⟩; have HKc := hid h12; clear h12; try dsimp only) | (go_at_call 11; refine (HSa.out _ HKa.out.1).mono ?_; rintro e w11 ⟨rfl, hb11⟩; have HKb := hid (HKa.out.1.on hb11); clear hb11; try dsimp only) | (refine wpList_load_b2 rfl 44 _ rfl g18 M rfl HKa.out.2.1 Tryd.underlying44 (by rw [hMl]; exact size27) ?_) | (refine wpList_load_b2 rfl 44 _ rfl g24 M rfl HKa.out.2.2.2 Tryd.underlying44 (by rw [hMl]; exact size27) ?_))
      clear HSa HCl HKa HKb y20
      go_cut [4] from 145 to 145 (fun _ w => Hid (KS W w (brow v9 HB :: drow v10 (D.map (·.vl)) :: drow v11 (D.map (·.vm)) :: ⟨24, 1, .slice aw EL cw, EL, E.map (Value.int .u32)⟩ :: (mrow (.slice (some ⟨gm, 0, none⟩) (N + 50) mc) lo 50 :: orow vo lo :: lo.map wrow)) H))
      case first =>
        go_wp2_with fail
        go_meet
        exact HKc
      case rest =>
        exact (‹∀ (a : Act) (w : World), Code.wp Tryd.prog _ _ a w → _› _ _ (partB W _ al ak N lc EL kc t l E HBS.out ht v9 v10 v11 vo HB D H lo _ aw mc cw HF.out.1 HF.out.2.1 HF.out.2.2.1 HF.out.2.2.2.1 HF.out.2.2.2.2.1 HF.out.2.2.2.2.2 HLo.out hcut.out _ _ _ _ _ _ _ _ _ _ _ _ _ _ _ _ _ _ _ _ _ _ _ _ _ _ _ _ _ _ _ _ _ _ _ _ _ _ _ _ _ _ _ _ _ _ _ _ _ _ _ _ _ _ _ _ _ _ _ _ _ _ _ _ _ _ _ _ _ _ _ _ _ _ _ _ _ _ _ _ _ _ _ _ _ _ _ _ _ _ _ _ _ _ _ _ _ _ _ _ _ _ _ _ _ _ _ _ _ _ _ _ _ _ _ _ _ _ _ _ _ _ _ _ _ _ _ _ _ _ _ _ _ _ _ _ _ _ _ _ _ _ _ _ _ _ _ _ _ _ _ _ _ _ _ _ _ _ _ _ _ _ _ _ _ _ _ _ _ _ _ _ _ _ _ _ _ _ _ _ _ _ _ _ _ _ _ _ _ _ _ _ _ _ _ _ _ _ _ _ _ _ _ _ _ _ _ _ _ _ _ _ _ _ _ _ _ _ _ _ _ _ _ _ _ _ _ _ _ _ _ _ _ _ _ _ _ _ _ _ _ _ _ _ _ _ _ _ _ _ _ _ _ _ _ _ _ _ _ _ _ _ _ _ _ _ _ _ _ _ _ _ _ _ _ _ _ _ _ _ _ _ _ _ _ _ _ _ _ _ _ _ _ _ _ _ _ _ _ _ _ _ _ _ _ _ _ _ _ _ _ _ _ _ _ _ _ _ _ _ _ _ _ _ _ _ _ _ _ _ _ _ _ _ _ _ _ _ _ _ _ _ _ _ _ _ _ _ _ _ _ _ _ _ _ _ _ _ _ _ _ HP.out (fun w' v9' v10' v11' HB' D' H' _ _ _ _ _ _ _ _ _ _ _ _ _ _ _ _ _ _ _ _ _ _ _ _ _ _ _ _ _ _ _ _ _ _ _ _ _ _ _ _ _ _ _ _ _ _ _ _ _ _ _ _ _ _ _ _ _ _ _ _ _ _ _ _ _ _ _ _ _ _ _ _ _ _ _ _ _ _ _ _ _ _ _ _ _ _ _ _ _ _ _ _ _ _ _ _ _ _ _ _ _ _ _ _ _ _ _ _ _ _ _ _ _ _ _ _ _ _ _ _ _ _ _ _ _ _ _ _ _ _ _ _ _ _ _ _ _ _ _ _ _ _ _ _ _ _ _ _ _ _ _ _ _ _ _ _ _ _ _ _ _ _ _ _ _ _ _ _ _ _ _ _ _ _ _ _ _ _ _ _ _ _ _ _ _ _ _ _ _ _ _ _ _ _ _ _ _ _ _ _ _ _ _ _ _ _ _ _ _ _ _ _ _ _ _ _ _ _ _ _ _ _ _ _ _ _ _ _ _ _ _ _ _ _ _ _ _ hT hl hb => HQ.out w' v9' v10' v11' HB' D' H' _ _ _ _ _ _ _ _ _ _ _ _ _ _ _ _ _ _ _ _ _ _ _ _ _ _ _ _ _ _ _ _ _ _ _ _ _ _ _ _ _ _ _ _ _ _ _ _ _ _ _ _ _ _ _ _ _ _ _ _ _ _ _ _ _ _ _ _ _ _ _ _ _ _ _ _ _ _ _ _ _ _ _ _ _ _ _ _ _ _ _ _ _ _ _ _ _ _ _ _ _ _ _ _ _ _ _ _ _ _ _ _ _ _ _ _ _ _ _ _ _ _ _ _ _ _ _ _ _ _ _ _ _ _ _ _ _ _ _ _ _ _ _ _ _ _ _ _ _ _ _ _ _ _ _ _ _ _ _ _ _ _ _ _ _ _ _ _ _ _ _ _ _ _ _ _ _ _ _ _ _ _ _ _ _ _ _ _ _ _ _ _ _ _ _ _ _ _ _ _ _ _ _ _ _ _ _ _ _ _ _ _ _ _ _ _ _ _ _ _ _ _ _ _ _ _ _ _ _ _ _ _ _ _ _ _ _ _ _ _ _ _ _ _ _ _ _ _ _ _ _ _ _ _ _ _ _ _ _ _ _ _ _ _ _ _ _ _ _ _ _ _ _ _ _ _ _ _ _ _ _ _ _ _ _ _ _ _ _ _ _ _ _ _ _ _ _ _ hT hl hb)))
end Go.Proofs.YtmomidkodjihjaaDoor
