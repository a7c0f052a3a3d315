/- MacKeeps, from the first answers on. -/
import Derived.Test.YtialckmoigcdeaaDoorKc
import Derived.Deep.DeepCutAuto
import Derived.Deep.MidRow
namespace Go.Proofs.YtialckmoigcdeaaDoor
open Go.RowKit
attribute [-simp] Tryd.isAgg26 Tryd.sizeOf26 Tryd.zeroValue26
set_option maxRecDepth 100000
set_option maxHeartbeats 8000000
theorem room_at {w : World} {g cap il : Nat} {is : List Int} (h : (⟨g, 5, .u8, cap, some ⟨g, 0, none⟩, roomBD is 400⟩ : Rz).ok w) (hl : is.length = il) : At w .u8 (some ⟨g, 1, none⟩) is := by
  have := (h.own (by simp)).2.mid il
  simp only at this
  rw [roomB_mid is il 400 hl] at this
  exact this
theorem KM.row {W w : World} {cs cq : List Value} {M : Option Mq} {Z : List Rz} {g : Nat} {V : List Int} (h : KM W w cs cq M (⟨g, 26, .u32, 8, some ⟨g, 0, none⟩, V⟩ :: Z)) (hb : Blk w g .u32 26 V) (L : List Int) (hl : L.length = 8) : KM W (w.setRow g (L.map (Value.int .u32)).toArray) cs cq M (⟨g, 26, .u32, 8, some ⟨g, 0, none⟩, L⟩ :: Z) := by
  have hc : Cel w g 26 (V.map (Value.int .u32)) := hb
  have ht := but_setRow w g (L.map (Value.int .u32)).toArray
  have hn := List.pairwise_cons.1 h.nd
  have hnw : W.heap.size ≤ g := h.nw ⟨g, 26, .u32, 8, some ⟨g, 0, none⟩, V⟩ (.head _) (by simp)
  refine ⟨h.tab, h.below.trans (ht.below hnw h.below.size), h.BC.but ht (fun e => by subst e; exact absurd (h.BC.ty hc) (by decide)), h.BQ.but ht (fun e => by rw [← e] at hc; exact absurd (h.BQ.ty hc) (by decide)), fun m hm => ⟨(h.MH m hm).1.ch hc ht (by decide), (h.MH m hm).2⟩, ?_, ?_, ?_, ?_⟩
  · intro y hy
    rcases List.mem_cons.1 hy with rfl | hy
    · exact .inr ⟨rfl, by have := (hb.setRow L).own; rw [hl] at this; exact this⟩
    · exact (h.own y (.tail _ hy)).but ht fun hv e => hn.1 y hy (by simp) hv e.symm
  · intro y hy hv
    rcases List.mem_cons.1 hy with rfl | hy
    · exact hnw
    · exact h.nw y (.tail _ hy) hv
  · intro y hy
    rcases List.mem_cons.1 hy with rfl | hy
    · exact .inr (.inr rfl)
    · exact h.ty y (.tail _ hy)
  · exact List.pairwise_cons.2 ⟨fun y hy h1 h2 => hn.1 y hy (by simp) h2, hn.2⟩
theorem keepB (W w : World) (cs cq : List Value) (ka : Option Addr) (kn kc : Nat) (ks : List Int) (ma : Option Addr) (mn mc : Nat) (xs : List Int) (sa : Option Addr) (sn sc : Nat) (ss : List Int) (ea : Option Addr) (en ec : Nat) (es : List Int) (ia : Option Addr) (il ic : Nat) (is : List Int) (N : Int) (hC : KC W ka kn kc ks ma mn mc xs sa sn sc ss ea en ec es ia il ic is) (hQ : KQ cs cq ka kn kc ma mn mc sa sn sc ea en ec ia il ic N) (m : Mq) (hmK : m.K = keyW (bytesD ks)) (hmx : m.xs = xs) (gw gI cI gb cb ga ca gv cv gu cu : Nat) (H : List Int)
    (hk : KM W w cs cq (some m) [⟨gw, 26, .u32, 8, some ⟨gw, 0, none⟩, H⟩, ⟨gI, 5, .u8, cI, some ⟨gI, 0, none⟩, roomBD is 400⟩, ⟨gb, 5, .u8, cb, some ⟨gb, 0, none⟩, roomBD es 400⟩, ⟨ga, 5, .u8, ca, some ⟨ga, 0, none⟩, roomBD ss 400⟩, ⟨gv, 25, .u32, cv, some ⟨gv, 0, none⟩, roomWD xs 200⟩, ⟨gu, 25, .u32, cu, some ⟨gu, 0, none⟩, roomWD ks 200⟩]) (hH : hmac (bytesD ks) (bytesD xs) = H) (hcI : il + 401 ≤ cI) (mI : (cI : Int) ≤ 9223372036854775807) (hca : sn + 401 ≤ ca) (mA : (ca : Int) ≤ 9223372036854775807) (hcb : en + 401 ≤ cb) (_mB : (cb : Int) ≤ 9223372036854775807)
    (z0 z1 z4 z14 z15 z16 z17 z18 z19 z20 z21 z22 z23 z24 z25 z26 z27 z28 z29 z30 z31 z32 z33 z34 z35 z36 z37 z38 z39 z40 z41 z42 z43 z44 z45 z46 z47 z48 z49 z50 z51 z52 z53 z54 z55 z56 z57 z58 z59 z60 z61 z62 z63 z64 z65 z66 z67 z68 z69 z70 z71 z72 z73 z74 z75 z76 z77 z78 z79 z80 z81 z82 z83 z84 z85 z86 z87 z88 z89 z90 z91 z92 z93 z94 z95 z96 z97 z98 z99 z100 z101 z102 z103 z104 z105 z106 z107 z108 z109 z110 z111 z112 z113 z114 z115 z116 z117 z118 z119 z120 z121 z122 z123 z124 z125 z126 z127 z128 z129 z130 z131 z132 z133 z134 z135 z136 z137 z138 z139 z140 z141 z142 z143 z144 z145 z146 z147 z148 z149 z150 z151 z152 z153 z154 z155 z156 z157 z158 z159 z160 z161 z162 z163 z164 z165 z166 z167 z168 z169 z170 z171 z172 z173 z174 z175 z176 z177 z178 z179 z180 z181 z182 z183 z184 z185 z186 z187 z188 z189 z190 z191 z192 z193 z194 z195 z196 z197 z198 z199 z200 z201 z202 z203 z204 z205 z206 z207 z208 z209 z210 z211 z212 z213 z214 z215 z216 z217 z218 z219 z220 z221 z222 z223 z224 z225 z226 z227 z228 z229 z230 z231 z232 z233 z234 z235 z236 z237 z238 z239 z240 z241 z242 z243 z244 z245 z246 z247 z248 z249 z250 z251 z252 z253 z254 z255 z256 z257 z258 z259 z260 z261 z262 z263 z264 z265 z266 z267 z268 z269 z270 z271 z272 z273 z274 z275 z276 z277 z278 z279 z280 z281 z282 z283 z284 z285 z286 z287 z288 z289 z290 z291 z292 z293 z294 z295 z296 z297 z298 z299 z300 z301 z302 z303 z304 z305 z306 z307 z308 z309 z310 z311 z312 z313 z314 z315 z316 z317 z318 z319 z320 z321 z322 z323 z324 z325 z326 z327 z328 z329 z330 z331 z332 z333 z334 z335 z336 z337 z338 z339 z340 z341 z342 z343 z344 z345 z346 z347 z348 z349 z350 z351 z352 z353 z354 : Value) :
    Code.wp Tryd.prog (sfx 12 (Tryd.f5.body.getD .skip)) (bodyPost Tryd.prog Tryd.f5 fun e W' => e = .returned (.bool true) ∧ Below W.heap.size W W') { tmps := #[z0, z1, .pointer (some ⟨W.heap.size, 0, none⟩), .pointer (some ⟨W.heap.size + 1, 0, none⟩), z4, .slice (some ⟨gu, 0, none⟩) (kn + 1 + 200) cu, .slice (some ⟨gv, 0, none⟩) (mn + 1 + 200) cv, .slice (some ⟨ga, 0, none⟩) (sn + 1 + 400) ca, .slice (some ⟨gb, 0, none⟩) (en + 1 + 400) cb, .slice (some ⟨gI, 0, none⟩) (il + 1 + 400) cI, .slice (some ⟨gu, 1, none⟩) kn (cu - 1), .slice (some ⟨gv, 1, none⟩) mn (cv - 1), .pointer (some ⟨gw, 0, none⟩), .pointer (some ⟨m.gm, 0, none⟩), z14, z15, z16, z17, z18, z19, z20, z21, z22, z23, z24, z25, z26, z27, z28, z29, z30, z31, z32, z33, z34, z35, z36, z37, z38, z39, z40, z41, z42, z43, z44, z45, z46, z47, z48, z49, z50, z51, z52, z53, z54, z55, z56, z57, z58, z59, z60, z61, z62, z63, z64, z65, z66, z67, z68, z69, z70, z71, z72, z73, z74, z75, z76, z77, z78, z79, z80, z81, z82, z83, z84, z85, z86, z87, z88, z89, z90, z91, z92, z93, z94, z95, z96, z97, z98, z99, z100, z101, z102, z103, z104, z105, z106, z107, z108, z109, z110, z111, z112, z113, z114, z115, z116, z117, z118, z119, z120, z121, z122, z123, z124, z125, z126, z127, z128, z129, z130, z131, z132, z133, z134, z135, z136, z137, z138, z139, z140, z141, z142, z143, z144, z145, z146, z147, z148, z149, z150, z151, z152, z153, z154, z155, z156, z157, z158, z159, z160, z161, z162, z163, z164, z165, z166, z167, z168, z169, z170, z171, z172, z173, z174, z175, z176, z177, z178, z179, z180, z181, z182, z183, z184, z185, z186, z187, z188, z189, z190, z191, z192, z193, z194, z195, z196, z197, z198, z199, z200, z201, z202, z203, z204, z205, z206, z207, z208, z209, z210, z211, z212, z213, z214, z215, z216, z217, z218, z219, z220, z221, z222, z223, z224, z225, z226, z227, z228, z229, z230, z231, z232, z233, z234, z235, z236, z237, z238, z239, z240, z241, z242, z243, z244, z245, z246, z247, z248, z249, z250, z251, z252, z253, z254, z255, z256, z257, z258, z259, z260, z261, z262, z263, z264, z265, z266, z267, z268, z269, z270, z271, z272, z273, z274, z275, z276, z277, z278, z279, z280, z281, z282, z283, z284, z285, z286, z287, z288, z289, z290, z291, z292, z293, z294, z295, z296, z297, z298, z299, z300, z301, z302, z303, z304, z305, z306, z307, z308, z309, z310, z311, z312, z313, z314, z315, z316, z317, z318, z319, z320, z321, z322, z323, z324, z325, z326, z327, z328, z329, z330, z331, z332, z333, z334, z335, z336, z337, z338, z339, z340, z341, z342, z343, z344, z345, z346, z347, z348, z349, z350, z351, z352, z353, z354], defers := [] } w := by
  obtain ⟨V, hV⟩ : ∃ V : List Int, V = List.replicate 8 0 := ⟨_, rfl⟩
  have hVl : V.length = 8 := by rw [hV]; simp
  have hv : ∀ w, (zeroValue 26).run Tryd.prog w = .ok (.agg (V.map (Value.int .u32)).toArray) w := fun w => by rw [Tryd.zeroValue26, hV]; rfl
  clear hV
  have i1 : (kn : Int) ≤ 35184372087808 := by have := hC.hkn; omega
  have i2 : (mn : Int) ≤ 35184372087808 := by have := hC.hmn; omega
  have i3 : (sn : Int) ≤ 140737488351232 := by have := hC.hsn; omega
  have i4 : (en : Int) ≤ 140737488351232 := by have := hC.hen; omega
  have i5 : (il : Int) ≤ 4096 := by have := hC.hin; omega
  have HC := hid hC
  have HQ := hid hQ
  have HH := hid (And.intro hH (And.intro hmK hmx))
  have HLu : Hid ((roomWD ks 200).length = kn + 1 + 200) := hid (by rw [roomWD_length, hC.hkl])
  have HLv : Hid ((roomWD xs 200).length = mn + 1 + 200) := hid (by rw [roomWD_length, hC.hml])
  have HLa : Hid ((roomBD ss 400).length = sn + 1 + 400) := hid (by rw [roomBD_length, hC.hsl])
  have HLb : Hid ((roomBD es 400).length = en + 1 + 400) := hid (by rw [roomBD_length, hC.hel])
  have HLi : Hid ((roomBD is 400).length = il + 1 + 400) := hid (by rw [roomBD_length, hC.hil])
  have HK0 := hid hk
  clear hC hQ hH hk hmK hmx
  refine sfx_walk 12 rfl (by simp only [sfx]; rfl) ?_
  go_upto_region 13 with fail
  have HK1 := hid (HK0.out.on (Below.refl _ _).drew)
  clear HK0
  refine wp_region_held_drew (S := fun w => KM W w cs cq (some m) [⟨gw, 26, .u32, 8, some ⟨gw, 0, none⟩, H⟩, ⟨gI, 5, .u8, cI, some ⟨gI, 0, none⟩, roomBD is 400⟩, ⟨gb, 5, .u8, cb, some ⟨gb, 0, none⟩, roomBD es 400⟩, ⟨ga, 5, .u8, ca, some ⟨ga, 0, none⟩, roomBD ss 400⟩, ⟨gv, 25, .u32, cv, some ⟨gv, 0, none⟩, roomWD xs 200⟩, ⟨gu, 25, .u32, cu, some ⟨gu, 0, none⟩, roomWD ks 200⟩]) (by kernel_rfl) HK1.out (fun hHeld => ?_)
  refine wpAnyH_take (i := 0) (oi := { dst := some 84, op := Op.move (Operand.tmp 7), type := 22, pos := "outright.go:167", after := #[], guard := none }) (v := .slice (some ⟨ga, 0, none⟩) (sn + 1 + 400) ca) rfl (by kernel_rfl) (by kernel_rfl) (by kernel_rfl) (fun _ _ _ h => h) (Or.inl ⟨by rfl, by intro w hSw; go_simp⟩) (by assumption) ?_
  simp only [Act.put, List.setIfInBounds_toArray, List.set_cons_zero, List.set_cons_succ]
  refine wpAnyH_take (i := 1) (oi := { dst := some 85, op := Op.fieldAddr 24 (Operand.tmp 3) 0, type := 0, pos := "outright.go:167", after := #[], guard := none }) (v := .pointer (some ⟨W.heap.size + 1, 0, none⟩)) rfl (by kernel_rfl) (by kernel_rfl) (by kernel_rfl) (fun _ _ _ h => h) (Or.inl ⟨by rfl, by intro w hSw; go_simp⟩) (by assumption) ?_
  simp only [Act.put, List.setIfInBounds_toArray, List.set_cons_zero, List.set_cons_succ]
  refine wpAnyH_take (i := 2) (oi := { dst := some 86, op := Op.load 22 (Operand.tmp 85), type := 22, pos := "outright.go:167", after := #[{ on := 1, ground := Ground.data }], guard := none }) (v := .slice sa sn sc) rfl (by kernel_rfl) (by kernel_rfl) (by kernel_rfl) (fun _ _ _ h => h) (Or.inl ⟨by rfl, by intro w hSw; have hc := (hSw.BQ.cell 0).trans HQ.out.q0; go_simp⟩) (by assumption) ?_
  simp only [Act.put, List.setIfInBounds_toArray, List.set_cons_zero, List.set_cons_succ]
  refine wpAnyH_take (i := 3) (oi := { dst := some 87, op := Op.call { callee := Callee.builtin Builtin.len, args := #[Operand.tmp 86], argTypes := #[22] }, type := 3, pos := "outright.go:167", after := #[{ on := 2, ground := Ground.data }], guard := none }) (v := .int .i64 (sn : Int)) rfl (by kernel_rfl) (by kernel_rfl) (by kernel_rfl) (fun _ _ _ h => h) (Or.inl ⟨by rfl, by intro w hSw; go_simp⟩) (by assumption) ?_
  simp only [Act.put, List.setIfInBounds_toArray, List.set_cons_zero, List.set_cons_succ]
  refine wpAnyH_take (i := 4) (oi := { dst := some 88, op := Op.binOp BinOp.add 3 (Operand.const (Value.int IntKind.i64 1)) (Operand.tmp 87) 3, type := 3, pos := "outright.go:167", after := #[{ on := 3, ground := Ground.data }], guard := none }) (v := .int .i64 (1 + (sn : Int))) rfl (by kernel_rfl) (by kernel_rfl) (by kernel_rfl) (fun _ _ _ h => h) (Or.inl ⟨by rfl, by intro w hSw; have q1 : IntKind.i64.wrap (1 + (sn : Int)) = 1 + (sn : Int) := (by rw [IntKind.wrap_i64]; omega); go_simp⟩) (by assumption) ?_
  simp only [Act.put, List.setIfInBounds_toArray, List.set_cons_zero, List.set_cons_succ]
  refine wpAnyH_take (i := 5) (oi := { dst := some 89, op := Op.slice 22 (Operand.tmp 84) (some (Operand.const (Value.int IntKind.i64 1))) (some (Operand.tmp 88)) none, type := 22, pos := "outright.go:167", after := #[{ on := 0, ground := Ground.data }, { on := 4, ground := Ground.data }], guard := none }) (v := .slice (some ⟨ga, 1, none⟩) sn (ca - 1)) rfl (by kernel_rfl) (by kernel_rfl) (by kernel_rfl) (fun _ _ _ h => h) (Or.inl ⟨by rfl, by intro w hSw; have q1 : ¬ (ca < 1 + sn) := (by omega); have q2 : ¬ (ca = 1) := (by omega); have q3 : (1 + (sn : Int)).toNat = 1 + sn := (by omega); have q4 : (0 : Int) ≤ 1 + (sn : Int) := (by omega); have q5 : 1 + (sn : Int) ≤ (ca : Int) := (by omega); have q6 : (1 : Int) ≤ 1 + (sn : Int) := (by omega); go_simp⟩) (by assumption) ?_
  simp only [Act.put, List.setIfInBounds_toArray, List.set_cons_zero, List.set_cons_succ]
  refine wpAnyH_take (i := 6) (oi := { dst := some 90, op := Op.move (Operand.tmp 8), type := 22, pos := "outright.go:167", after := #[], guard := none }) (v := .slice (some ⟨gb, 0, none⟩) (en + 1 + 400) cb) rfl (by kernel_rfl) (by kernel_rfl) (by kernel_rfl) (fun _ _ _ h => h) (Or.inl ⟨by rfl, by intro w hSw; go_simp⟩) (by assumption) ?_
  simp only [Act.put, List.setIfInBounds_toArray, List.set_cons_zero, List.set_cons_succ]
  refine wpAnyH_take (i := 7) (oi := { dst := some 91, op := Op.fieldAddr 24 (Operand.tmp 3) 1, type := 0, pos := "outright.go:167", after := #[], guard := none }) (v := .pointer (some ⟨W.heap.size + 1, 1, none⟩)) rfl (by kernel_rfl) (by kernel_rfl) (by kernel_rfl) (fun _ _ _ h => h) (Or.inl ⟨by rfl, by intro w hSw; go_simp⟩) (by assumption) ?_
  simp only [Act.put, List.setIfInBounds_toArray, List.set_cons_zero, List.set_cons_succ]
  refine wpAnyH_take (i := 8) (oi := { dst := some 92, op := Op.load 22 (Operand.tmp 91), type := 22, pos := "outright.go:167", after := #[{ on := 7, ground := Ground.data }], guard := none }) (v := .slice ea en ec) rfl (by kernel_rfl) (by kernel_rfl) (by kernel_rfl) (fun _ _ _ h => h) (Or.inl ⟨by rfl, by intro w hSw; have hc := (hSw.BQ.cell 1).trans HQ.out.q1; go_simp⟩) (by assumption) ?_
  simp only [Act.put, List.setIfInBounds_toArray, List.set_cons_zero, List.set_cons_succ]
  refine wpAnyH_take (i := 9) (oi := { dst := some 93, op := Op.call { callee := Callee.builtin Builtin.len, args := #[Operand.tmp 92], argTypes := #[22] }, type := 3, pos := "outright.go:167", after := #[{ on := 8, ground := Ground.data }], guard := none }) (v := .int .i64 (en : Int)) rfl (by kernel_rfl) (by kernel_rfl) (by kernel_rfl) (fun _ _ _ h => h) (Or.inl ⟨by rfl, by intro w hSw; go_simp⟩) (by assumption) ?_
  simp only [Act.put, List.setIfInBounds_toArray, List.set_cons_zero, List.set_cons_succ]
  refine wpAnyH_take (i := 10) (oi := { dst := some 94, op := Op.binOp BinOp.add 3 (Operand.const (Value.int IntKind.i64 1)) (Operand.tmp 93) 3, type := 3, pos := "outright.go:167", after := #[{ on := 9, ground := Ground.data }], guard := none }) (v := .int .i64 (1 + (en : Int))) rfl (by kernel_rfl) (by kernel_rfl) (by kernel_rfl) (fun _ _ _ h => h) (Or.inl ⟨by rfl, by intro w hSw; have q1 : IntKind.i64.wrap (1 + (en : Int)) = 1 + (en : Int) := (by rw [IntKind.wrap_i64]; omega); go_simp⟩) (by assumption) ?_
  simp only [Act.put, List.setIfInBounds_toArray, List.set_cons_zero, List.set_cons_succ]
  refine wpAnyH_take (i := 11) (oi := { dst := some 95, op := Op.slice 22 (Operand.tmp 90) (some (Operand.const (Value.int IntKind.i64 1))) (some (Operand.tmp 94)) none, type := 22, pos := "outright.go:167", after := #[{ on := 6, ground := Ground.data }, { on := 10, ground := Ground.data }], guard := none }) (v := .slice (some ⟨gb, 1, none⟩) en (cb - 1)) rfl (by kernel_rfl) (by kernel_rfl) (by kernel_rfl) (fun _ _ _ h => h) (Or.inl ⟨by rfl, by intro w hSw; have q1 : ¬ (cb < 1 + en) := (by omega); have q2 : ¬ (cb = 1) := (by omega); have q3 : (1 + (en : Int)).toNat = 1 + en := (by omega); have q4 : (0 : Int) ≤ 1 + (en : Int) := (by omega); have q5 : 1 + (en : Int) ≤ (cb : Int) := (by omega); have q6 : (1 : Int) ≤ 1 + (en : Int) := (by omega); go_simp⟩) (by assumption) ?_
  simp only [Act.put, List.setIfInBounds_toArray, List.set_cons_zero, List.set_cons_succ]
  refine wpAnyH_ready (rs := [12]) (by kernel_rfl) (by simp) (AllReadyH.cons (o := { dst := some 96, op := Op.call { callee := Callee.value (Operand.func 16), args := #[Operand.tmp 89, Operand.tmp 95], argTypes := #[22, 22] }, type := 26, pos := "outright.go:167", after := #[{ on := 5, ground := Ground.data }, { on := 11, ground := Ground.data }], guard := none }) rfl (fun KQ hK => ?_) AllReadyH.nil)
  go_simp
  refine (tagBytes_any _ HK1.out.tabs (some ⟨ga, 1, none⟩) sn (ca - 1) ss HC.out.hsl HC.out.ps (room_at (HK1.out.get 3 rfl) HC.out.hsl) (by omega) (by have := HC.out.hsn; omega) (some ⟨gb, 1, none⟩) en (cb - 1) es HC.out.hel HC.out.pe (room_at (HK1.out.get 2 rfl) HC.out.hel) (fun h => by cases h) (by have := HC.out.hen; omega)).mono ?_
  rintro e w2 ⟨rfl, hb2⟩
  have HK2 := hid (HK1.out.on hb2)
  clear hb2
  go_wp2_with fail
  refine hK.out _ _ HK2.out (fun hHeld => ?_)
  clear hK KQ
  try simp only [Act.put, List.setIfInBounds_toArray, List.set_cons_zero, List.set_cons_succ]
  refine wpAnyH_done (by kernel_rfl) ?_ _
  clear hHeld HK1
  obtain ⟨KY, hKY⟩ : ∃ KY, hmac ss es = KY := ⟨_, rfl⟩
  have HKY := hid hKY
  have hKl : KY.length = 8 := by rw [← hKY]; exact hmac_length _ _
  have HKw : Hid (Wds KY) := hid (by rw [← hKY]; exact sumB_wds _)
  clear hKY
  go_upto_region 14 with fail
  go_cut [14] (fun v w => ∃ g14, v = .pointer (some ⟨g14, 0, none⟩) ∧ KM W w cs cq (some m) [⟨g14, 26, .u32, 8, some ⟨g14, 0, none⟩, KY⟩, ⟨gw, 26, .u32, 8, some ⟨gw, 0, none⟩, H⟩, ⟨gI, 5, .u8, cI, some ⟨gI, 0, none⟩, roomBD is 400⟩, ⟨gb, 5, .u8, cb, some ⟨gb, 0, none⟩, roomBD es 400⟩, ⟨ga, 5, .u8, ca, some ⟨ga, 0, none⟩, roomBD ss 400⟩, ⟨gv, 25, .u32, cv, some ⟨gv, 0, none⟩, roomWD xs 200⟩, ⟨gu, 25, .u32, cu, some ⟨gu, 0, none⟩, roomWD ks 200⟩])
  case first =>
    as_aux_lemma =>
      have HK3 := hid (HK2.out.on (Below.refl _ _).drew)
      clear HK2
      refine wp_region_held_drew (S := fun w => KM W w cs cq (some m) [⟨gw, 26, .u32, 8, some ⟨gw, 0, none⟩, H⟩, ⟨gI, 5, .u8, cI, some ⟨gI, 0, none⟩, roomBD is 400⟩, ⟨gb, 5, .u8, cb, some ⟨gb, 0, none⟩, roomBD es 400⟩, ⟨ga, 5, .u8, ca, some ⟨ga, 0, none⟩, roomBD ss 400⟩, ⟨gv, 25, .u32, cv, some ⟨gv, 0, none⟩, roomWD xs 200⟩, ⟨gu, 25, .u32, cu, some ⟨gu, 0, none⟩, roomWD ks 200⟩]) (by kernel_rfl) HK3.out (fun hHeld => ?_)
      generalize w2.drew = x0 at *
      refine wpAnyH_take (i := 0) (oi := { dst := some 97, op := Op.move (Operand.tmp 7), type := 22, pos := "outright.go:168", after := #[], guard := none }) (v := .slice (some ⟨ga, 0, none⟩) (sn + 1 + 400) ca) rfl (by kernel_rfl) (by kernel_rfl) (by kernel_rfl) (fun _ _ _ h => h) (Or.inl ⟨by rfl, by intro w hSw; go_simp⟩) (by assumption) ?_
      simp only [Act.put, List.setIfInBounds_toArray, List.set_cons_zero, List.set_cons_succ]
      refine wpAnyH_take (i := 1) (oi := { dst := some 98, op := Op.fieldAddr 24 (Operand.tmp 3) 0, type := 0, pos := "outright.go:168", after := #[], guard := none }) (v := .pointer (some ⟨W.heap.size + 1, 0, none⟩)) rfl (by kernel_rfl) (by kernel_rfl) (by kernel_rfl) (fun _ _ _ h => h) (Or.inl ⟨by rfl, by intro w hSw; go_simp⟩) (by assumption) ?_
      simp only [Act.put, List.setIfInBounds_toArray, List.set_cons_zero, List.set_cons_succ]
      refine wpAnyH_take (i := 2) (oi := { dst := some 99, op := Op.load 22 (Operand.tmp 98), type := 22, pos := "outright.go:168", after := #[{ on := 1, ground := Ground.data }], guard := none }) (v := .slice sa sn sc) rfl (by kernel_rfl) (by kernel_rfl) (by kernel_rfl) (fun _ _ _ h => h) (Or.inl ⟨by rfl, by intro w hSw; have hc := (hSw.BQ.cell 0).trans HQ.out.q0; go_simp⟩) (by assumption) ?_
      simp only [Act.put, List.setIfInBounds_toArray, List.set_cons_zero, List.set_cons_succ]
      refine wpAnyH_take (i := 3) (oi := { dst := some 100, op := Op.call { callee := Callee.builtin Builtin.len, args := #[Operand.tmp 99], argTypes := #[22] }, type := 3, pos := "outright.go:168", after := #[{ on := 2, ground := Ground.data }], guard := none }) (v := .int .i64 (sn : Int)) rfl (by kernel_rfl) (by kernel_rfl) (by kernel_rfl) (fun _ _ _ h => h) (Or.inl ⟨by rfl, by intro w hSw; go_simp⟩) (by assumption) ?_
      simp only [Act.put, List.setIfInBounds_toArray, List.set_cons_zero, List.set_cons_succ]
      refine wpAnyH_take (i := 4) (oi := { dst := some 101, op := Op.binOp BinOp.add 3 (Operand.const (Value.int IntKind.i64 1)) (Operand.tmp 100) 3, type := 3, pos := "outright.go:168", after := #[{ on := 3, ground := Ground.data }], guard := none }) (v := .int .i64 (1 + (sn : Int))) rfl (by kernel_rfl) (by kernel_rfl) (by kernel_rfl) (fun _ _ _ h => h) (Or.inl ⟨by rfl, by intro w hSw; have q1 : IntKind.i64.wrap (1 + (sn : Int)) = 1 + (sn : Int) := (by rw [IntKind.wrap_i64]; omega); go_simp⟩) (by assumption) ?_
      simp only [Act.put, List.setIfInBounds_toArray, List.set_cons_zero, List.set_cons_succ]
      refine wpAnyH_take (i := 5) (oi := { dst := some 102, op := Op.slice 22 (Operand.tmp 97) (some (Operand.const (Value.int IntKind.i64 1))) (some (Operand.tmp 101)) none, type := 22, pos := "outright.go:168", after := #[{ on := 0, ground := Ground.data }, { on := 4, ground := Ground.data }], guard := none }) (v := .slice (some ⟨ga, 1, none⟩) sn (ca - 1)) rfl (by kernel_rfl) (by kernel_rfl) (by kernel_rfl) (fun _ _ _ h => h) (Or.inl ⟨by rfl, by intro w hSw; have q1 : ¬ (ca < 1 + sn) := (by omega); have q2 : ¬ (ca = 1) := (by omega); have q3 : (1 + (sn : Int)).toNat = 1 + sn := (by omega); have q4 : (0 : Int) ≤ 1 + (sn : Int) := (by omega); have q5 : 1 + (sn : Int) ≤ (ca : Int) := (by omega); have q6 : (1 : Int) ≤ 1 + (sn : Int) := (by omega); go_simp⟩) (by assumption) ?_
      simp only [Act.put, List.setIfInBounds_toArray, List.set_cons_zero, List.set_cons_succ]
      refine wpAnyH_take (i := 6) (oi := { dst := some 103, op := Op.move (Operand.tmp 8), type := 22, pos := "outright.go:168", after := #[], guard := none }) (v := .slice (some ⟨gb, 0, none⟩) (en + 1 + 400) cb) rfl (by kernel_rfl) (by kernel_rfl) (by kernel_rfl) (fun _ _ _ h => h) (Or.inl ⟨by rfl, by intro w hSw; go_simp⟩) (by assumption) ?_
      simp only [Act.put, List.setIfInBounds_toArray, List.set_cons_zero, List.set_cons_succ]
      refine wpAnyH_take (i := 7) (oi := { dst := some 104, op := Op.fieldAddr 24 (Operand.tmp 3) 1, type := 0, pos := "outright.go:168", after := #[], guard := none }) (v := .pointer (some ⟨W.heap.size + 1, 1, none⟩)) rfl (by kernel_rfl) (by kernel_rfl) (by kernel_rfl) (fun _ _ _ h => h) (Or.inl ⟨by rfl, by intro w hSw; go_simp⟩) (by assumption) ?_
      simp only [Act.put, List.setIfInBounds_toArray, List.set_cons_zero, List.set_cons_succ]
      refine wpAnyH_take (i := 8) (oi := { dst := some 105, op := Op.load 22 (Operand.tmp 104), type := 22, pos := "outright.go:168", after := #[{ on := 7, ground := Ground.data }], guard := none }) (v := .slice ea en ec) rfl (by kernel_rfl) (by kernel_rfl) (by kernel_rfl) (fun _ _ _ h => h) (Or.inl ⟨by rfl, by intro w hSw; have hc := (hSw.BQ.cell 1).trans HQ.out.q1; go_simp⟩) (by assumption) ?_
      simp only [Act.put, List.setIfInBounds_toArray, List.set_cons_zero, List.set_cons_succ]
      refine wpAnyH_take (i := 9) (oi := { dst := some 106, op := Op.call { callee := Callee.builtin Builtin.len, args := #[Operand.tmp 105], argTypes := #[22] }, type := 3, pos := "outright.go:168", after := #[{ on := 8, ground := Ground.data }], guard := none }) (v := .int .i64 (en : Int)) rfl (by kernel_rfl) (by kernel_rfl) (by kernel_rfl) (fun _ _ _ h => h) (Or.inl ⟨by rfl, by intro w hSw; go_simp⟩) (by assumption) ?_
      simp only [Act.put, List.setIfInBounds_toArray, List.set_cons_zero, List.set_cons_succ]
      refine wpAnyH_take (i := 10) (oi := { dst := some 107, op := Op.binOp BinOp.add 3 (Operand.const (Value.int IntKind.i64 1)) (Operand.tmp 106) 3, type := 3, pos := "outright.go:168", after := #[{ on := 9, ground := Ground.data }], guard := none }) (v := .int .i64 (1 + (en : Int))) rfl (by kernel_rfl) (by kernel_rfl) (by kernel_rfl) (fun _ _ _ h => h) (Or.inl ⟨by rfl, by intro w hSw; have q1 : IntKind.i64.wrap (1 + (en : Int)) = 1 + (en : Int) := (by rw [IntKind.wrap_i64]; omega); go_simp⟩) (by assumption) ?_
      simp only [Act.put, List.setIfInBounds_toArray, List.set_cons_zero, List.set_cons_succ]
      refine wpAnyH_take (i := 11) (oi := { dst := some 108, op := Op.slice 22 (Operand.tmp 103) (some (Operand.const (Value.int IntKind.i64 1))) (some (Operand.tmp 107)) none, type := 22, pos := "outright.go:168", after := #[{ on := 6, ground := Ground.data }, { on := 10, ground := Ground.data }], guard := none }) (v := .slice (some ⟨gb, 1, none⟩) en (cb - 1)) rfl (by kernel_rfl) (by kernel_rfl) (by kernel_rfl) (fun _ _ _ h => h) (Or.inl ⟨by rfl, by intro w hSw; have q1 : ¬ (cb < 1 + en) := (by omega); have q2 : ¬ (cb = 1) := (by omega); have q3 : (1 + (en : Int)).toNat = 1 + en := (by omega); have q4 : (0 : Int) ≤ 1 + (en : Int) := (by omega); have q5 : 1 + (en : Int) ≤ (cb : Int) := (by omega); have q6 : (1 : Int) ≤ 1 + (en : Int) := (by omega); go_simp⟩) (by assumption) ?_
      simp only [Act.put, List.setIfInBounds_toArray, List.set_cons_zero, List.set_cons_succ]
      refine wpAnyH_ready (rs := [12, 13]) (by kernel_rfl) (by simp) (AllReadyH.cons (o := { dst := some 109, op := Op.call { callee := Callee.value (Operand.func 7), args := #[Operand.tmp 102, Operand.tmp 108], argTypes := #[22, 22] }, type := 26, pos := "outright.go:168", after := #[{ on := 5, ground := Ground.data }, { on := 11, ground := Ground.data }], guard := none }) rfl (fun KQ hK => ?_) (AllReadyH.cons (o := { dst := some 14, op := Op.alloc 26, type := 0, pos := "outright.go:168", after := #[], guard := none }) rfl (fun KQ hK => ?_) AllReadyH.nil))
      · go_simp
        refine (extract_any x0 HK3.out.tabs (some ⟨ga, 1, none⟩) sn (ca - 1) ss HC.out.hsl HC.out.ps (room_at (HK3.out.get 3 rfl) HC.out.hsl) (by omega) (by have := HC.out.hsn; omega) (some ⟨gb, 1, none⟩) en (cb - 1) es HC.out.hel HC.out.pe (room_at (HK3.out.get 2 rfl) HC.out.hel) (fun h => by cases h) (by have := HC.out.hen; omega)).mono ?_
        rintro e w4 ⟨rfl, hb4⟩
        rw [HKY.out]
        have HK4 := hid (HK3.out.on hb4)
        clear hb4
        go_wp2_with fail
        refine hK.out _ _ HK4.out (fun hHeld => ?_)
        clear hK KQ
        try simp only [Act.put, List.setIfInBounds_toArray, List.set_cons_zero, List.set_cons_succ]
        refine wpAnyH_ready (rs := [13]) (by kernel_rfl) (by simp) (AllReadyH.cons (o := { dst := some 14, op := Op.alloc 26, type := 0, pos := "outright.go:168", after := #[], guard := none }) rfl (fun KQ hK => ?_) AllReadyH.nil)
        go_simp
        have HKl := hid (HK4.out.on (below_one w4 (Obj.cells (List.map (Value.int IntKind.u32) V).toArray 26)))
        have HAl := hid (Blk.new w4 .u32 26 V)
        have HL := hid (HK4.out.add (below_one w4 (Obj.cells (List.map (Value.int IntKind.u32) V).toArray 26)) ⟨w4.heap.size, 26, .u32, 8, some ⟨w4.heap.size, 0, none⟩, V⟩ (.inr ⟨rfl, by have := (Blk.new w4 .u32 26 V).own; rw [hVl] at this; exact this⟩) (fun _ => Nat.le_refl _) (by simp))
        refine hK.out _ _ HKl.out (fun hHeld => ?_)
        clear hK KQ
        try simp only [Act.put, List.setIfInBounds_toArray, List.set_cons_zero, List.set_cons_succ]
        generalize World.alloc w4 (Obj.cells (List.map (Value.int IntKind.u32) V).toArray 26) = wal at *
        generalize w4.heap.size = g14 at *
        refine wpAnyH_ready (rs := [14]) (by kernel_rfl) (by simp) (AllReadyH.cons (o := { dst := none, op := Op.store 26 (Operand.tmp 14) (Operand.tmp 109), type := 0, pos := "outright.go:168", after := #[{ on := 13, ground := Ground.data }, { on := 12, ground := Ground.data }, { on := 12, ground := Ground.chain }, { on := 0, ground := Ground.phase }, { on := 1, ground := Ground.phase }, { on := 2, ground := Ground.phase }, { on := 3, ground := Ground.phase }, { on := 4, ground := Ground.phase }, { on := 5, ground := Ground.phase }, { on := 6, ground := Ground.phase }, { on := 7, ground := Ground.phase }, { on := 8, ground := Ground.phase }, { on := 9, ground := Ground.phase }, { on := 10, ground := Ground.phase }, { on := 11, ground := Ground.phase }, { on := 12, ground := Ground.phase }, { on := 13, ground := Ground.phase }], guard := none }) rfl (fun KQ hK => ?_) AllReadyH.nil)
        rw [if_pos (by rfl)]
        refine wp_store_row8 26 _ _ rfl g14 KY rfl rfl HAl.out (by rw [hVl]; exact size26) (by rw [hVl, hKl]) ?_
        have HKs := hid (HL.out.row HAl.out KY hKl)
        have HKt := hid (HKs.out.sub (.cons _ (List.Sublist.refl _)))
        refine hK.out _ _ HKt.out (fun hHeld => ?_)
        clear hK KQ
        try simp only [Act.put]
        refine wpAnyH_done (by kernel_rfl) ?_ _
        clear hHeld
        go_wp2_with fail
        go_meet
        exact ⟨g14, rfl, HKs.out⟩
      · go_simp
        have HKl := hid (HK3.out.on (below_one x0 (Obj.cells (List.map (Value.int IntKind.u32) V).toArray 26)))
        have HAl := hid (Blk.new x0 .u32 26 V)
        have HL := hid (HK3.out.add (below_one x0 (Obj.cells (List.map (Value.int IntKind.u32) V).toArray 26)) ⟨x0.heap.size, 26, .u32, 8, some ⟨x0.heap.size, 0, none⟩, V⟩ (.inr ⟨rfl, by have := (Blk.new x0 .u32 26 V).own; rw [hVl] at this; exact this⟩) (fun _ => Nat.le_refl _) (by simp))
        refine hK.out _ _ HKl.out (fun hHeld => ?_)
        clear hK KQ
        try simp only [Act.put, List.setIfInBounds_toArray, List.set_cons_zero, List.set_cons_succ]
        generalize World.alloc x0 (Obj.cells (List.map (Value.int IntKind.u32) V).toArray 26) = wal at *
        generalize x0.heap.size = g14 at *
        refine wpAnyH_ready (rs := [12]) (by kernel_rfl) (by simp) (AllReadyH.cons (o := { dst := some 109, op := Op.call { callee := Callee.value (Operand.func 7), args := #[Operand.tmp 102, Operand.tmp 108], argTypes := #[22, 22] }, type := 26, pos := "outright.go:168", after := #[{ on := 5, ground := Ground.data }, { on := 11, ground := Ground.data }], guard := none }) rfl (fun KQ hK => ?_) AllReadyH.nil)
        go_simp
        refine (extract_any wal HKl.out.tabs (some ⟨ga, 1, none⟩) sn (ca - 1) ss HC.out.hsl HC.out.ps (room_at (HKl.out.get 3 rfl) HC.out.hsl) (by omega) (by have := HC.out.hsn; omega) (some ⟨gb, 1, none⟩) en (cb - 1) es HC.out.hel HC.out.pe (room_at (HKl.out.get 2 rfl) HC.out.hel) (fun h => by cases h) (by have := HC.out.hen; omega)).mono ?_
        rintro e w4 ⟨rfl, hb4⟩
        rw [HKY.out]
        have HK4 := hid (HKl.out.on hb4)
        have HAl4 := hid (HAl.out.on hb4)
        have HL4 := hid (HL.out.on hb4)
        clear hb4
        go_wp2_with fail
        refine hK.out _ _ HK4.out (fun hHeld => ?_)
        clear hK KQ
        try simp only [Act.put, List.setIfInBounds_toArray, List.set_cons_zero, List.set_cons_succ]
        refine wpAnyH_ready (rs := [14]) (by kernel_rfl) (by simp) (AllReadyH.cons (o := { dst := none, op := Op.store 26 (Operand.tmp 14) (Operand.tmp 109), type := 0, pos := "outright.go:168", after := #[{ on := 13, ground := Ground.data }, { on := 12, ground := Ground.data }, { on := 12, ground := Ground.chain }, { on := 0, ground := Ground.phase }, { on := 1, ground := Ground.phase }, { on := 2, ground := Ground.phase }, { on := 3, ground := Ground.phase }, { on := 4, ground := Ground.phase }, { on := 5, ground := Ground.phase }, { on := 6, ground := Ground.phase }, { on := 7, ground := Ground.phase }, { on := 8, ground := Ground.phase }, { on := 9, ground := Ground.phase }, { on := 10, ground := Ground.phase }, { on := 11, ground := Ground.phase }, { on := 12, ground := Ground.phase }, { on := 13, ground := Ground.phase }], guard := none }) rfl (fun KQ hK => ?_) AllReadyH.nil)
        rw [if_pos (by rfl)]
        refine wp_store_row8 26 _ _ rfl g14 KY rfl rfl HAl4.out (by rw [hVl]; exact size26) (by rw [hVl, hKl]) ?_
        have HKs := hid (HL4.out.row HAl4.out KY hKl)
        have HKt := hid (HKs.out.sub (.cons _ (List.Sublist.refl _)))
        refine hK.out _ _ HKt.out (fun hHeld => ?_)
        clear hK KQ
        try simp only [Act.put]
        refine wpAnyH_done (by kernel_rfl) ?_ _
        clear hHeld
        go_wp2_with fail
        go_meet
        exact ⟨g14, rfl, HKs.out⟩
  case rest =>
    as_aux_lemma =>
      obtain ⟨g14, rfl, hk5⟩ := hcut
      have HK5 := hid hk5
      clear hk5 HK2
      have d3 := (HK5.out.BQ.cell 3).trans HQ.out.q3
      go_upto_region 16 with (go_at_call 11; refine (within_any _ N 0 100 (by decide) (by decide) (by decide)).mono ?_; rintro e w5 ⟨⟨r, hr1, hr2, rfl⟩, rfl⟩)
      obtain ⟨n, rfl⟩ := Int.eq_ofNat_of_zero_le hr1
      have n1 : (n : Int) ≤ 100 := hr2
      have hn : n ≤ 100 := by omega
      clear hr1 hr2 d3
      have HK6 := hid (HK5.out.on (Below.refl _ _).drew)
      clear HK5
      refine wp_region_held_drew (S := fun w => KM W w cs cq (some m) [⟨g14, 26, .u32, 8, some ⟨g14, 0, none⟩, KY⟩, ⟨gw, 26, .u32, 8, some ⟨gw, 0, none⟩, H⟩, ⟨gI, 5, .u8, cI, some ⟨gI, 0, none⟩, roomBD is 400⟩, ⟨gb, 5, .u8, cb, some ⟨gb, 0, none⟩, roomBD es 400⟩, ⟨ga, 5, .u8, ca, some ⟨ga, 0, none⟩, roomBD ss 400⟩, ⟨gv, 25, .u32, cv, some ⟨gv, 0, none⟩, roomWD xs 200⟩, ⟨gu, 25, .u32, cu, some ⟨gu, 0, none⟩, roomWD ks 200⟩]) (by kernel_rfl) HK6.out (fun hHeld => ?_)
      refine wpAnyH_take (i := 0) (oi := { dst := some 114, op := Op.load 26 (Operand.tmp 14), type := 26, pos := "outright.go:170", after := #[], guard := none }) (v := .agg (KY.map (Value.int .u32)).toArray) rfl (by kernel_rfl) (by kernel_rfl) (by kernel_rfl) (fun _ _ _ h => h) (yieldsIf_load_mid (by rfl) _ _ rfl _ _ rfl _ _ (fun w hSw => hSw.rng 0 rfl) Tryd.underlying26 rfl (by rw [List.length_map, hKl]; exact size26)) (by assumption) ?_
      simp only [Act.put, List.setIfInBounds_toArray, List.set_cons_zero, List.set_cons_succ]
      refine wpAnyH_take (i := 1) (oi := { dst := some 115, op := Op.move (Operand.tmp 9), type := 22, pos := "outright.go:170", after := #[], guard := none }) (v := .slice (some ⟨gI, 0, none⟩) (il + 1 + 400) cI) rfl (by kernel_rfl) (by kernel_rfl) (by kernel_rfl) (fun _ _ _ h => h) (Or.inl ⟨by rfl, by intro w hSw; go_simp⟩) (by assumption) ?_
      simp only [Act.put, List.setIfInBounds_toArray, List.set_cons_zero, List.set_cons_succ]
      refine wpAnyH_take (i := 2) (oi := { dst := some 116, op := Op.fieldAddr 24 (Operand.tmp 3) 2, type := 0, pos := "outright.go:170", after := #[], guard := none }) (v := .pointer (some ⟨W.heap.size + 1, 2, none⟩)) rfl (by kernel_rfl) (by kernel_rfl) (by kernel_rfl) (fun _ _ _ h => h) (Or.inl ⟨by rfl, by intro w hSw; go_simp⟩) (by assumption) ?_
      simp only [Act.put, List.setIfInBounds_toArray, List.set_cons_zero, List.set_cons_succ]
      refine wpAnyH_take (i := 3) (oi := { dst := some 117, op := Op.load 22 (Operand.tmp 116), type := 22, pos := "outright.go:170", after := #[{ on := 2, ground := Ground.data }], guard := none }) (v := .slice ia il ic) rfl (by kernel_rfl) (by kernel_rfl) (by kernel_rfl) (fun _ _ _ h => h) (Or.inl ⟨by rfl, by intro w hSw; have hc := (hSw.BQ.cell 2).trans HQ.out.q2; go_simp⟩) (by assumption) ?_
      simp only [Act.put, List.setIfInBounds_toArray, List.set_cons_zero, List.set_cons_succ]
      refine wpAnyH_take (i := 4) (oi := { dst := some 118, op := Op.call { callee := Callee.builtin Builtin.len, args := #[Operand.tmp 117], argTypes := #[22] }, type := 3, pos := "outright.go:170", after := #[{ on := 3, ground := Ground.data }], guard := none }) (v := .int .i64 (il : Int)) rfl (by kernel_rfl) (by kernel_rfl) (by kernel_rfl) (fun _ _ _ h => h) (Or.inl ⟨by rfl, by intro w hSw; go_simp⟩) (by assumption) ?_
      simp only [Act.put, List.setIfInBounds_toArray, List.set_cons_zero, List.set_cons_succ]
      refine wpAnyH_take (i := 5) (oi := { dst := some 119, op := Op.binOp BinOp.add 3 (Operand.const (Value.int IntKind.i64 1)) (Operand.tmp 118) 3, type := 3, pos := "outright.go:170", after := #[{ on := 4, ground := Ground.data }], guard := none }) (v := .int .i64 (1 + (il : Int))) rfl (by kernel_rfl) (by kernel_rfl) (by kernel_rfl) (fun _ _ _ h => h) (Or.inl ⟨by rfl, by intro w hSw; have q1 : IntKind.i64.wrap (1 + (il : Int)) = 1 + (il : Int) := (by rw [IntKind.wrap_i64]; omega); go_simp⟩) (by assumption) ?_
      simp only [Act.put, List.setIfInBounds_toArray, List.set_cons_zero, List.set_cons_succ]
      refine wpAnyH_take (i := 6) (oi := { dst := some 120, op := Op.slice 22 (Operand.tmp 115) (some (Operand.const (Value.int IntKind.i64 1))) (some (Operand.tmp 119)) none, type := 22, pos := "outright.go:170", after := #[{ on := 1, ground := Ground.data }, { on := 5, ground := Ground.data }], guard := none }) (v := .slice (some ⟨gI, 1, none⟩) il (cI - 1)) rfl (by kernel_rfl) (by kernel_rfl) (by kernel_rfl) (fun _ _ _ h => h) (Or.inl ⟨by rfl, by intro w hSw; have q1 : ¬ (cI < 1 + il) := (by omega); have q2 : ¬ (cI = 1) := (by omega); have q3 : (1 + (il : Int)).toNat = 1 + il := (by omega); have q4 : (0 : Int) ≤ 1 + (il : Int) := (by omega); have q5 : 1 + (il : Int) ≤ (cI : Int) := (by omega); have q6 : (1 : Int) ≤ 1 + (il : Int) := (by omega); go_simp⟩) (by assumption) ?_
      simp only [Act.put, List.setIfInBounds_toArray, List.set_cons_zero, List.set_cons_succ]
      refine wpAnyH_take (i := 7) (oi := { dst := some 121, op := Op.move (Operand.tmp 15), type := 3, pos := "outright.go:170", after := #[], guard := none }) (v := .int .i64 (n : Int)) rfl (by kernel_rfl) (by kernel_rfl) (by kernel_rfl) (fun _ _ _ h => h) (Or.inl ⟨by rfl, by intro w hSw; go_simp⟩) (by assumption) ?_
      simp only [Act.put, List.setIfInBounds_toArray, List.set_cons_zero, List.set_cons_succ]
      refine wpAnyH_ready (rs := [8]) (by kernel_rfl) (by simp) (AllReadyH.cons (o := { dst := some 122, op := Op.call { callee := Callee.value (Operand.func 12), args := #[Operand.tmp 114, Operand.tmp 120, Operand.tmp 121], argTypes := #[26, 22, 3] }, type := 32, pos := "outright.go:170", after := #[{ on := 0, ground := Ground.data }, { on := 6, ground := Ground.data }, { on := 7, ground := Ground.data }], guard := none }) rfl (fun KQ hK => ?_) AllReadyH.nil)
      go_simp
      refine (expand_any _ HK6.out.tabs KY hKl HKw.out (some ⟨gI, 1, none⟩) il (cI - 1) is HC.out.hil HC.out.pi (room_at (HK6.out.get 2 rfl) HC.out.hil) (fun h => by cases h) (by have := HC.out.hin; omega) n (by omega)).mono ?_
      rintro e w7 ⟨vx, rfl, oz, hb7⟩
      obtain ⟨gx, cx, rx, hgx⟩ := oz.row
      have HK7 := hid (HK6.out.on hb7)
      have HK8 := hid (HK6.out.add hb7 ⟨gx, 5, .u8, cx, vx, okm (bytesD KY) is n⟩ rx hgx (by simp))
      clear rx oz hb7 hgx
      go_wp2_with fail
      refine hK.out _ _ HK7.out (fun hHeld => ?_)
      clear hK KQ
      try simp only [Act.put, List.setIfInBounds_toArray, List.set_cons_zero, List.set_cons_succ]
      refine wpAnyH_take (i := 9) (oi := { dst := some 113, op := Op.move (Operand.tmp 122), type := 32, pos := "outright.go:170", after := #[{ on := 8, ground := Ground.data }], guard := none }) (v := .tuple #[.slice vx n n, .int .i64 0]) rfl (by kernel_rfl) (by kernel_rfl) (by kernel_rfl) (fun _ _ _ h => h) (Or.inl ⟨by rfl, by intro w hSw; go_simp⟩) (by assumption) ?_
      simp only [Act.put, List.setIfInBounds_toArray, List.set_cons_zero, List.set_cons_succ]
      refine wpAnyH_take (i := 10) (oi := { dst := some 123, op := Op.extract (Operand.tmp 113) 0, type := 22, pos := "outright.go:170", after := #[{ on := 9, ground := Ground.data }], guard := none }) (v := .slice vx n n) rfl (by kernel_rfl) (by kernel_rfl) (by kernel_rfl) (fun _ _ _ h => h) (Or.inl ⟨by rfl, by intro w hSw; go_simp⟩) (by assumption) ?_
      simp only [Act.put, List.setIfInBounds_toArray, List.set_cons_zero, List.set_cons_succ]
      refine wpAnyH_take (i := 11) (oi := { dst := some 124, op := Op.extract (Operand.tmp 113) 1, type := 31, pos := "outright.go:170", after := #[{ on := 9, ground := Ground.data }, { on := 12, ground := Ground.gcOnly Departure.lateStores }], guard := none }) (v := .int .i64 0) rfl (by kernel_rfl) (by kernel_rfl) (by kernel_rfl) (fun _ _ _ h => h) (Or.inl ⟨by rfl, by intro w hSw; go_simp⟩) (by assumption) ?_
      simp only [Act.put, List.setIfInBounds_toArray, List.set_cons_zero, List.set_cons_succ]
      refine wpAnyH_ready (rs := [12]) (by kernel_rfl) (by simp) (AllReadyH.cons (o := { dst := some 16, op := Op.assign (Operand.tmp 123), type := 22, pos := "outright.go:170", after := #[{ on := 10, ground := Ground.data }, { on := 8, ground := Ground.chain }, { on := 0, ground := Ground.phase }, { on := 1, ground := Ground.phase }, { on := 2, ground := Ground.phase }, { on := 3, ground := Ground.phase }, { on := 4, ground := Ground.phase }, { on := 5, ground := Ground.phase }, { on := 6, ground := Ground.phase }, { on := 7, ground := Ground.phase }, { on := 8, ground := Ground.phase }, { on := 9, ground := Ground.phase }, { on := 10, ground := Ground.phase }, { on := 11, ground := Ground.textOnly Departure.lateStores }], guard := none }) rfl (fun KQ hK => ?_) AllReadyH.nil)
      go_simp
      refine hK.out _ _ HK7.out (fun hHeld => ?_)
      clear hK KQ
      try simp only [Act.put, List.setIfInBounds_toArray, List.set_cons_zero, List.set_cons_succ]
      refine wpAnyH_ready (rs := [13]) (by kernel_rfl) (by simp) (AllReadyH.cons (o := { dst := some 17, op := Op.assign (Operand.tmp 124), type := 31, pos := "outright.go:170", after := #[{ on := 11, ground := Ground.data }, { on := 12, ground := Ground.chain }, { on := 0, ground := Ground.phase }, { on := 1, ground := Ground.phase }, { on := 2, ground := Ground.phase }, { on := 3, ground := Ground.phase }, { on := 4, ground := Ground.phase }, { on := 5, ground := Ground.phase }, { on := 6, ground := Ground.phase }, { on := 7, ground := Ground.phase }, { on := 8, ground := Ground.phase }, { on := 9, ground := Ground.phase }, { on := 10, ground := Ground.phase }, { on := 11, ground := Ground.phase }, { on := 12, ground := Ground.phase }], guard := none }) rfl (fun KQ hK => ?_) AllReadyH.nil)
      go_simp
      refine hK.out _ _ HK7.out (fun hHeld => ?_)
      clear hK KQ
      try simp only [Act.put, List.setIfInBounds_toArray, List.set_cons_zero, List.set_cons_succ]
      refine wpAnyH_done (by kernel_rfl) ?_ _
      clear hHeld HK6 HK7
      obtain ⟨stA, hstA⟩ : ∃ s, strOfNums (roomBD ss 400) = s := ⟨_, rfl⟩
      obtain ⟨stB, hstB⟩ : ∃ s, strOfNums (roomBD es 400) = s := ⟨_, rfl⟩
      obtain ⟨stI, hstI⟩ : ∃ s, strOfNums (roomBD is 400) = s := ⟨_, rfl⟩
      have HstA := hid hstA
      have HstB := hid hstB
      have HstI := hid hstI
      clear hstA hstB hstI
      go_upto_region 17 with fail
      go_cut [165] (fun v w => v = .bool false ∧ Hid (KM W w cs cq (some m) [⟨gx, 5, .u8, cx, vx, okm (bytesD KY) is n⟩, ⟨g14, 26, .u32, 8, some ⟨g14, 0, none⟩, KY⟩, ⟨gw, 26, .u32, 8, some ⟨gw, 0, none⟩, H⟩, ⟨gI, 5, .u8, cI, some ⟨gI, 0, none⟩, roomBD is 400⟩, ⟨gb, 5, .u8, cb, some ⟨gb, 0, none⟩, roomBD es 400⟩, ⟨ga, 5, .u8, ca, some ⟨ga, 0, none⟩, roomBD ss 400⟩, ⟨gv, 25, .u32, cv, some ⟨gv, 0, none⟩, roomWD xs 200⟩, ⟨gu, 25, .u32, cu, some ⟨gu, 0, none⟩, roomWD ks 200⟩]))
      case first =>
        as_aux_lemma =>
          have HKy0 := hid (HK8.out.on (Below.refl _ _).drew)
          clear HK8
          refine wp_region_held_drew (S := fun w => KM W w cs cq (some m) [⟨gx, 5, .u8, cx, vx, okm (bytesD KY) is n⟩, ⟨g14, 26, .u32, 8, some ⟨g14, 0, none⟩, KY⟩, ⟨gw, 26, .u32, 8, some ⟨gw, 0, none⟩, H⟩, ⟨gI, 5, .u8, cI, some ⟨gI, 0, none⟩, roomBD is 400⟩, ⟨gb, 5, .u8, cb, some ⟨gb, 0, none⟩, roomBD es 400⟩, ⟨ga, 5, .u8, ca, some ⟨ga, 0, none⟩, roomBD ss 400⟩, ⟨gv, 25, .u32, cv, some ⟨gv, 0, none⟩, roomWD xs 200⟩, ⟨gu, 25, .u32, cu, some ⟨gu, 0, none⟩, roomWD ks 200⟩]) (by kernel_rfl) HKy0.out (fun hHeld => ?_)
          refine wpAnyH_take (i := 0) (oi := { dst := some 125, op := Op.move (Operand.tmp 5), type := 35, pos := "outright.go:171", after := #[], guard := none }) (v := .slice (some ⟨gu, 0, none⟩) (kn + 1 + 200) cu) rfl (by kernel_rfl) (by kernel_rfl) (by kernel_rfl) (fun _ _ _ h => h) (Or.inl ⟨by rfl, by intro w hSw; go_simp⟩) (by assumption) ?_
          simp only [Act.put, List.setIfInBounds_toArray, List.set_cons_zero, List.set_cons_succ]
          refine wpAnyH_take (i := 1) (oi := { dst := some 126, op := Op.fieldAddr 39 (Operand.tmp 2) 0, type := 0, pos := "outright.go:171", after := #[], guard := none }) (v := .pointer (some ⟨W.heap.size, 0, none⟩)) rfl (by kernel_rfl) (by kernel_rfl) (by kernel_rfl) (fun _ _ _ h => h) (Or.inl ⟨by rfl, by intro w hSw; go_simp⟩) (by assumption) ?_
          simp only [Act.put, List.setIfInBounds_toArray, List.set_cons_zero, List.set_cons_succ]
          refine wpAnyH_take (i := 2) (oi := { dst := some 127, op := Op.load 35 (Operand.tmp 126), type := 35, pos := "outright.go:171", after := #[{ on := 1, ground := Ground.data }], guard := none }) (v := .slice ka kn kc) rfl (by kernel_rfl) (by kernel_rfl) (by kernel_rfl) (fun _ _ _ h => h) (Or.inl ⟨by rfl, by intro w hSw; have hc := (hSw.BC.cell 0).trans HQ.out.c0; go_simp⟩) (by assumption) ?_
          simp only [Act.put, List.setIfInBounds_toArray, List.set_cons_zero, List.set_cons_succ]
          refine wpAnyH_ready (rs := [3]) (by kernel_rfl) (by simp) (AllReadyH.cons (o := { dst := some 128, op := Op.call { callee := Callee.value (Operand.func 20), args := #[Operand.tmp 127], argTypes := #[35] }, type := 35, pos := "outright.go:171", after := #[{ on := 2, ground := Ground.data }], guard := none }) rfl (fun KQ hK => ?_) AllReadyH.nil)
          go_simp
          refine (roomW_any _ ka kn kc ks HC.out.hkl (HC.out.AK _ HKy0.out.bw) HC.out.S1 (by have := HC.out.hkn; omega)).mono ?_
          rintro e x1 ⟨v, rfl, H_⟩
          obtain ⟨r1, cr1, rfl, _, or1, _⟩ := H_.toOwn (by rw [HLu.out]; omega)
          rw [HLu.out]
          have HKy1 := hid (HKy0.out.on H_.below)
          have Or1 := hid or1
          clear H_ or1
          go_wp2_with fail
          refine hK.out _ _ HKy1.out (fun hHeld => ?_)
          clear hK KQ
          try simp only [Act.put, List.setIfInBounds_toArray, List.set_cons_zero, List.set_cons_succ]
          refine wpAnyH_ready (rs := [4]) (by kernel_rfl) (by simp) (AllReadyH.cons (o := { dst := some 129, op := Op.call { callee := Callee.value (Operand.func 22), args := #[Operand.tmp 125, Operand.tmp 128], argTypes := #[35, 35] }, type := 4, pos := "outright.go:171", after := #[{ on := 0, ground := Ground.data }, { on := 3, ground := Ground.data }, { on := 3, ground := Ground.chain }], guard := none }) rfl (fun KQ hK => ?_) AllReadyH.nil)
          go_simp
          refine (as_any _ gu 0 r1 0 (kn + 1 + 200) cu cr1 (roomWD ks 200) HLu.out ((HKy1.out.get 7 rfl).own (by simp)).2.row ((HKy1.out.get 7 rfl).own (by simp)).2.lt Or1.out.row Or1.out.lt (by omega)).mono ?_
          rintro e x2 ⟨rfl, hb_⟩
          have HKy2 := hid (HKy1.out.on hb_)
          clear hb_
          go_wp2_with fail
          refine hK.out _ _ HKy2.out (fun hHeld => ?_)
          clear hK KQ
          try simp only [Act.put, List.setIfInBounds_toArray, List.set_cons_zero, List.set_cons_succ]
          refine wpAnyH_take (i := 5) (oi := { dst := some 130, op := Op.unOp UnOp.not 4 (Operand.tmp 129), type := 4, pos := "outright.go:171", after := #[{ on := 4, ground := Ground.data }], guard := none }) (v := .bool false) rfl (by kernel_rfl) (by kernel_rfl) (by kernel_rfl) (fun _ _ _ h => h) (Or.inl ⟨by rfl, by intro w hSw; go_simp⟩) (by assumption) ?_
          simp only [Act.put, List.setIfInBounds_toArray, List.set_cons_zero, List.set_cons_succ]
          refine wpAnyH_take (i := 6) (oi := { dst := some 131, op := Op.move (Operand.tmp 130), type := 4, pos := "outright.go:171", after := #[{ on := 5, ground := Ground.data }, { on := 4, ground := Ground.chain }], guard := none }) (v := .bool false) rfl (by kernel_rfl) (by kernel_rfl) (by kernel_rfl) (fun _ _ _ h => h) (Or.inl ⟨by rfl, by intro w hSw; go_simp⟩) (by assumption) ?_
          simp only [Act.put, List.setIfInBounds_toArray, List.set_cons_zero, List.set_cons_succ]
          refine wpAnyH_take (i := 7) (oi := { dst := some 132, op := Op.move (Operand.tmp 6), type := 35, pos := "outright.go:171", after := #[{ on := 6, ground := Ground.guard }], guard := some (6, false) }) (v := .slice (some ⟨gv, 0, none⟩) (mn + 1 + 200) cv) rfl (by kernel_rfl) (by kernel_rfl) (by kernel_rfl) (fun _ _ _ h => h) (Or.inl ⟨by rfl, by intro w hSw; go_simp⟩) (by assumption) ?_
          simp only [Act.put, List.setIfInBounds_toArray, List.set_cons_zero, List.set_cons_succ]
          refine wpAnyH_take (i := 8) (oi := { dst := some 133, op := Op.fieldAddr 39 (Operand.tmp 2) 1, type := 0, pos := "outright.go:171", after := #[{ on := 6, ground := Ground.guard }], guard := some (6, false) }) (v := .pointer (some ⟨W.heap.size, 1, none⟩)) rfl (by kernel_rfl) (by kernel_rfl) (by kernel_rfl) (fun _ _ _ h => h) (Or.inl ⟨by rfl, by intro w hSw; go_simp⟩) (by assumption) ?_
          simp only [Act.put, List.setIfInBounds_toArray, List.set_cons_zero, List.set_cons_succ]
          refine wpAnyH_take (i := 9) (oi := { dst := some 134, op := Op.load 35 (Operand.tmp 133), type := 35, pos := "outright.go:171", after := #[{ on := 8, ground := Ground.data }, { on := 6, ground := Ground.guard }], guard := some (6, false) }) (v := .slice ma mn mc) rfl (by kernel_rfl) (by kernel_rfl) (by kernel_rfl) (fun _ _ _ h => h) (Or.inl ⟨by rfl, by intro w hSw; have hc := (hSw.BC.cell 1).trans HQ.out.c1; go_simp⟩) (by assumption) ?_
          simp only [Act.put, List.setIfInBounds_toArray, List.set_cons_zero, List.set_cons_succ]
          refine wpAnyH_ready (rs := [10]) (by kernel_rfl) (by simp) (AllReadyH.cons (o := { dst := some 135, op := Op.call { callee := Callee.value (Operand.func 20), args := #[Operand.tmp 134], argTypes := #[35] }, type := 35, pos := "outright.go:171", after := #[{ on := 9, ground := Ground.data }, { on := 6, ground := Ground.chain }, { on := 6, ground := Ground.guard }], guard := some (6, false) }) rfl (fun KQ hK => ?_) AllReadyH.nil)
          go_simp
          refine (roomW_any _ ma mn mc xs HC.out.hml (HC.out.AM _ HKy2.out.bw) HC.out.S2 (by have := HC.out.hmn; omega)).mono ?_
          rintro e x3 ⟨v, rfl, H_⟩
          obtain ⟨r2, cr2, rfl, _, or2, _⟩ := H_.toOwn (by rw [HLv.out]; omega)
          rw [HLv.out]
          have HKy3 := hid (HKy2.out.on H_.below)
          have Or2 := hid or2
          clear H_ or2
          go_wp2_with fail
          refine hK.out _ _ HKy3.out (fun hHeld => ?_)
          clear hK KQ
          try simp only [Act.put, List.setIfInBounds_toArray, List.set_cons_zero, List.set_cons_succ]
          refine wpAnyH_ready (rs := [11]) (by kernel_rfl) (by simp) (AllReadyH.cons (o := { dst := some 136, op := Op.call { callee := Callee.value (Operand.func 22), args := #[Operand.tmp 132, Operand.tmp 135], argTypes := #[35, 35] }, type := 4, pos := "outright.go:171", after := #[{ on := 7, ground := Ground.data }, { on := 10, ground := Ground.data }, { on := 10, ground := Ground.chain }, { on := 6, ground := Ground.guard }], guard := some (6, false) }) rfl (fun KQ hK => ?_) AllReadyH.nil)
          go_simp
          refine (as_any _ gv 0 r2 0 (mn + 1 + 200) cv cr2 (roomWD xs 200) HLv.out ((HKy3.out.get 6 rfl).own (by simp)).2.row ((HKy3.out.get 6 rfl).own (by simp)).2.lt Or2.out.row Or2.out.lt (by omega)).mono ?_
          rintro e x4 ⟨rfl, hb_⟩
          have HKy4 := hid (HKy3.out.on hb_)
          clear hb_
          go_wp2_with fail
          refine hK.out _ _ HKy4.out (fun hHeld => ?_)
          clear hK KQ
          try simp only [Act.put, List.setIfInBounds_toArray, List.set_cons_zero, List.set_cons_succ]
          refine wpAnyH_take (i := 12) (oi := { dst := some 137, op := Op.unOp UnOp.not 4 (Operand.tmp 136), type := 4, pos := "outright.go:171", after := #[{ on := 11, ground := Ground.data }, { on := 6, ground := Ground.guard }], guard := some (6, false) }) (v := .bool false) rfl (by kernel_rfl) (by kernel_rfl) (by kernel_rfl) (fun _ _ _ h => h) (Or.inl ⟨by rfl, by intro w hSw; go_simp⟩) (by assumption) ?_
          simp only [Act.put, List.setIfInBounds_toArray, List.set_cons_zero, List.set_cons_succ]
          refine wpAnyH_take (i := 13) (oi := { dst := some 138, op := Op.pick (Operand.tmp 131) (Operand.const (Value.bool true)) (Operand.tmp 137), type := 4, pos := "outright.go:171", after := #[{ on := 6, ground := Ground.data }, { on := 12, ground := Ground.data }], guard := none }) (v := .bool false) rfl (by kernel_rfl) (by kernel_rfl) (by kernel_rfl) (fun _ _ _ h => h) (Or.inl ⟨by rfl, by intro w hSw; go_simp⟩) (by assumption) ?_
          simp only [Act.put, List.setIfInBounds_toArray, List.set_cons_zero, List.set_cons_succ]
          refine wpAnyH_take (i := 14) (oi := { dst := some 139, op := Op.move (Operand.tmp 138), type := 4, pos := "outright.go:171", after := #[{ on := 13, ground := Ground.data }, { on := 11, ground := Ground.chain }], guard := none }) (v := .bool false) rfl (by kernel_rfl) (by kernel_rfl) (by kernel_rfl) (fun _ _ _ h => h) (Or.inl ⟨by rfl, by intro w hSw; go_simp⟩) (by assumption) ?_
          simp only [Act.put, List.setIfInBounds_toArray, List.set_cons_zero, List.set_cons_succ]
          refine wpAnyH_take (i := 15) (oi := { dst := some 140, op := Op.move (Operand.tmp 7), type := 22, pos := "outright.go:171", after := #[{ on := 14, ground := Ground.guard }], guard := some (14, false) }) (v := .slice (some ⟨ga, 0, none⟩) (sn + 1 + 400) ca) rfl (by kernel_rfl) (by kernel_rfl) (by kernel_rfl) (fun _ _ _ h => h) (Or.inl ⟨by rfl, by intro w hSw; go_simp⟩) (by assumption) ?_
          simp only [Act.put, List.setIfInBounds_toArray, List.set_cons_zero, List.set_cons_succ]
          refine wpAnyH_take (i := 16) (oi := { dst := some 141, op := Op.convert 22 9 (Operand.tmp 140), type := 9, pos := "outright.go:171", after := #[{ on := 15, ground := Ground.data }, { on := 14, ground := Ground.guard }], guard := some (14, false) }) (v := .string stA) rfl (by kernel_rfl) (by kernel_rfl) (by kernel_rfl) (fun _ _ _ h => h) (Or.inl ⟨by rfl, by intro w hSw; have hcc := (hSw.get 5 rfl).conv (c := ca) HLa.out; rw [HstA.out] at hcc; go_simp⟩) (by assumption) ?_
          simp only [Act.put, List.setIfInBounds_toArray, List.set_cons_zero, List.set_cons_succ]
          refine wpAnyH_take (i := 17) (oi := { dst := some 142, op := Op.fieldAddr 24 (Operand.tmp 3) 0, type := 0, pos := "outright.go:171", after := #[{ on := 14, ground := Ground.guard }], guard := some (14, false) }) (v := .pointer (some ⟨W.heap.size + 1, 0, none⟩)) rfl (by kernel_rfl) (by kernel_rfl) (by kernel_rfl) (fun _ _ _ h => h) (Or.inl ⟨by rfl, by intro w hSw; go_simp⟩) (by assumption) ?_
          simp only [Act.put, List.setIfInBounds_toArray, List.set_cons_zero, List.set_cons_succ]
          refine wpAnyH_take (i := 18) (oi := { dst := some 143, op := Op.load 22 (Operand.tmp 142), type := 22, pos := "outright.go:171", after := #[{ on := 17, ground := Ground.data }, { on := 14, ground := Ground.guard }], guard := some (14, false) }) (v := .slice sa sn sc) rfl (by kernel_rfl) (by kernel_rfl) (by kernel_rfl) (fun _ _ _ h => h) (Or.inl ⟨by rfl, by intro w hSw; have hc := (hSw.BQ.cell 0).trans HQ.out.q0; go_simp⟩) (by assumption) ?_
          simp only [Act.put, List.setIfInBounds_toArray, List.set_cons_zero, List.set_cons_succ]
          refine wpAnyH_ready (rs := [19]) (by kernel_rfl) (by simp) (AllReadyH.cons (o := { dst := some 144, op := Op.call { callee := Callee.value (Operand.func 21), args := #[Operand.tmp 143], argTypes := #[22] }, type := 22, pos := "outright.go:171", after := #[{ on := 18, ground := Ground.data }, { on := 14, ground := Ground.chain }, { on := 14, ground := Ground.guard }], guard := some (14, false) }) rfl (fun KQ hK => ?_) AllReadyH.nil)
          go_simp
          refine (roomB_any _ sa sn sc ss HC.out.hsl (HC.out.AS _ HKy4.out.bw) HC.out.S3 (by have := HC.out.hsn; omega)).mono ?_
          rintro e x5 ⟨v, rfl, H_⟩
          obtain ⟨r3, cr3, rfl, _, or3, _⟩ := H_.toOwn (by rw [HLa.out]; omega)
          rw [HLa.out]
          have HKy5 := hid (HKy4.out.on H_.below)
          have Or3 := hid or3
          clear H_ or3
          go_wp2_with fail
          refine hK.out _ _ HKy5.out (fun hHeld => ?_)
          clear hK KQ
          try simp only [Act.put, List.setIfInBounds_toArray, List.set_cons_zero, List.set_cons_succ]
          refine wpAnyH_ready (rs := [20]) (by kernel_rfl) (by simp) (AllReadyH.cons (o := { dst := some 145, op := Op.convert 22 9 (Operand.tmp 144), type := 9, pos := "outright.go:171", after := #[{ on := 19, ground := Ground.data }, { on := 14, ground := Ground.guard }], guard := some (14, false) }) rfl (fun KQ hK => ?_) AllReadyH.nil)
          have hcc := conv_own (c := cr3) Or3.out HLa.out; rw [HstA.out] at hcc; go_simp
          refine hK.out _ _ HKy5.out (fun hHeld => ?_)
          clear hK KQ
          try simp only [Act.put, List.setIfInBounds_toArray, List.set_cons_zero, List.set_cons_succ]
          refine wpAnyH_take (i := 21) (oi := { dst := some 146, op := Op.binOp BinOp.neq 9 (Operand.tmp 141) (Operand.tmp 145) 9, type := 4, pos := "outright.go:171", after := #[{ on := 16, ground := Ground.data }, { on := 20, ground := Ground.data }, { on := 14, ground := Ground.guard }], guard := some (14, false) }) (v := .bool false) rfl (by kernel_rfl) (by kernel_rfl) (by kernel_rfl) (fun _ _ _ h => h) (Or.inl ⟨by rfl, by intro w hSw; go_simp⟩) (by assumption) ?_
          simp only [Act.put, List.setIfInBounds_toArray, List.set_cons_zero, List.set_cons_succ]
          refine wpAnyH_take (i := 22) (oi := { dst := some 147, op := Op.pick (Operand.tmp 139) (Operand.const (Value.bool true)) (Operand.tmp 146), type := 4, pos := "outright.go:171", after := #[{ on := 14, ground := Ground.data }, { on := 21, ground := Ground.data }], guard := none }) (v := .bool false) rfl (by kernel_rfl) (by kernel_rfl) (by kernel_rfl) (fun _ _ _ h => h) (Or.inl ⟨by rfl, by intro w hSw; go_simp⟩) (by assumption) ?_
          simp only [Act.put, List.setIfInBounds_toArray, List.set_cons_zero, List.set_cons_succ]
          refine wpAnyH_take (i := 23) (oi := { dst := some 148, op := Op.move (Operand.tmp 147), type := 4, pos := "outright.go:171", after := #[{ on := 22, ground := Ground.data }, { on := 19, ground := Ground.chain }], guard := none }) (v := .bool false) rfl (by kernel_rfl) (by kernel_rfl) (by kernel_rfl) (fun _ _ _ h => h) (Or.inl ⟨by rfl, by intro w hSw; go_simp⟩) (by assumption) ?_
          simp only [Act.put, List.setIfInBounds_toArray, List.set_cons_zero, List.set_cons_succ]
          refine wpAnyH_take (i := 24) (oi := { dst := some 149, op := Op.move (Operand.tmp 8), type := 22, pos := "outright.go:171", after := #[{ on := 23, ground := Ground.guard }], guard := some (23, false) }) (v := .slice (some ⟨gb, 0, none⟩) (en + 1 + 400) cb) rfl (by kernel_rfl) (by kernel_rfl) (by kernel_rfl) (fun _ _ _ h => h) (Or.inl ⟨by rfl, by intro w hSw; go_simp⟩) (by assumption) ?_
          simp only [Act.put, List.setIfInBounds_toArray, List.set_cons_zero, List.set_cons_succ]
          refine wpAnyH_take (i := 25) (oi := { dst := some 150, op := Op.convert 22 9 (Operand.tmp 149), type := 9, pos := "outright.go:171", after := #[{ on := 24, ground := Ground.data }, { on := 23, ground := Ground.guard }], guard := some (23, false) }) (v := .string stB) rfl (by kernel_rfl) (by kernel_rfl) (by kernel_rfl) (fun _ _ _ h => h) (Or.inl ⟨by rfl, by intro w hSw; have hcc := (hSw.get 4 rfl).conv (c := cb) HLb.out; rw [HstB.out] at hcc; go_simp⟩) (by assumption) ?_
          simp only [Act.put, List.setIfInBounds_toArray, List.set_cons_zero, List.set_cons_succ]
          refine wpAnyH_take (i := 26) (oi := { dst := some 151, op := Op.fieldAddr 24 (Operand.tmp 3) 1, type := 0, pos := "outright.go:171", after := #[{ on := 23, ground := Ground.guard }], guard := some (23, false) }) (v := .pointer (some ⟨W.heap.size + 1, 1, none⟩)) rfl (by kernel_rfl) (by kernel_rfl) (by kernel_rfl) (fun _ _ _ h => h) (Or.inl ⟨by rfl, by intro w hSw; go_simp⟩) (by assumption) ?_
          simp only [Act.put, List.setIfInBounds_toArray, List.set_cons_zero, List.set_cons_succ]
          refine wpAnyH_take (i := 27) (oi := { dst := some 152, op := Op.load 22 (Operand.tmp 151), type := 22, pos := "outright.go:171", after := #[{ on := 26, ground := Ground.data }, { on := 23, ground := Ground.guard }], guard := some (23, false) }) (v := .slice ea en ec) rfl (by kernel_rfl) (by kernel_rfl) (by kernel_rfl) (fun _ _ _ h => h) (Or.inl ⟨by rfl, by intro w hSw; have hc := (hSw.BQ.cell 1).trans HQ.out.q1; go_simp⟩) (by assumption) ?_
          simp only [Act.put, List.setIfInBounds_toArray, List.set_cons_zero, List.set_cons_succ]
          refine wpAnyH_ready (rs := [28]) (by kernel_rfl) (by simp) (AllReadyH.cons (o := { dst := some 153, op := Op.call { callee := Callee.value (Operand.func 21), args := #[Operand.tmp 152], argTypes := #[22] }, type := 22, pos := "outright.go:171", after := #[{ on := 27, ground := Ground.data }, { on := 23, ground := Ground.chain }, { on := 23, ground := Ground.guard }], guard := some (23, false) }) rfl (fun KQ hK => ?_) AllReadyH.nil)
          go_simp
          refine (roomB_any _ ea en ec es HC.out.hel (HC.out.AE _ HKy5.out.bw) HC.out.S4 (by have := HC.out.hen; omega)).mono ?_
          rintro e x6 ⟨v, rfl, H_⟩
          obtain ⟨r4, cr4, rfl, _, or4, _⟩ := H_.toOwn (by rw [HLb.out]; omega)
          rw [HLb.out]
          have HKy6 := hid (HKy5.out.on H_.below)
          have Or4 := hid or4
          clear H_ or4
          go_wp2_with fail
          refine hK.out _ _ HKy6.out (fun hHeld => ?_)
          clear hK KQ
          try simp only [Act.put, List.setIfInBounds_toArray, List.set_cons_zero, List.set_cons_succ]
          refine wpAnyH_ready (rs := [29]) (by kernel_rfl) (by simp) (AllReadyH.cons (o := { dst := some 154, op := Op.convert 22 9 (Operand.tmp 153), type := 9, pos := "outright.go:171", after := #[{ on := 28, ground := Ground.data }, { on := 23, ground := Ground.guard }], guard := some (23, false) }) rfl (fun KQ hK => ?_) AllReadyH.nil)
          have hcc := conv_own (c := cr4) Or4.out HLb.out; rw [HstB.out] at hcc; go_simp
          refine hK.out _ _ HKy6.out (fun hHeld => ?_)
          clear hK KQ
          try simp only [Act.put, List.setIfInBounds_toArray, List.set_cons_zero, List.set_cons_succ]
          refine wpAnyH_take (i := 30) (oi := { dst := some 155, op := Op.binOp BinOp.neq 9 (Operand.tmp 150) (Operand.tmp 154) 9, type := 4, pos := "outright.go:171", after := #[{ on := 25, ground := Ground.data }, { on := 29, ground := Ground.data }, { on := 23, ground := Ground.guard }], guard := some (23, false) }) (v := .bool false) rfl (by kernel_rfl) (by kernel_rfl) (by kernel_rfl) (fun _ _ _ h => h) (Or.inl ⟨by rfl, by intro w hSw; go_simp⟩) (by assumption) ?_
          simp only [Act.put, List.setIfInBounds_toArray, List.set_cons_zero, List.set_cons_succ]
          refine wpAnyH_take (i := 31) (oi := { dst := some 156, op := Op.pick (Operand.tmp 148) (Operand.const (Value.bool true)) (Operand.tmp 155), type := 4, pos := "outright.go:171", after := #[{ on := 23, ground := Ground.data }, { on := 30, ground := Ground.data }], guard := none }) (v := .bool false) rfl (by kernel_rfl) (by kernel_rfl) (by kernel_rfl) (fun _ _ _ h => h) (Or.inl ⟨by rfl, by intro w hSw; go_simp⟩) (by assumption) ?_
          simp only [Act.put, List.setIfInBounds_toArray, List.set_cons_zero, List.set_cons_succ]
          refine wpAnyH_take (i := 32) (oi := { dst := some 157, op := Op.move (Operand.tmp 156), type := 4, pos := "outright.go:171", after := #[{ on := 31, ground := Ground.data }, { on := 28, ground := Ground.chain }], guard := none }) (v := .bool false) rfl (by kernel_rfl) (by kernel_rfl) (by kernel_rfl) (fun _ _ _ h => h) (Or.inl ⟨by rfl, by intro w hSw; go_simp⟩) (by assumption) ?_
          simp only [Act.put, List.setIfInBounds_toArray, List.set_cons_zero, List.set_cons_succ]
          refine wpAnyH_take (i := 33) (oi := { dst := some 158, op := Op.move (Operand.tmp 9), type := 22, pos := "outright.go:171", after := #[{ on := 32, ground := Ground.guard }], guard := some (32, false) }) (v := .slice (some ⟨gI, 0, none⟩) (il + 1 + 400) cI) rfl (by kernel_rfl) (by kernel_rfl) (by kernel_rfl) (fun _ _ _ h => h) (Or.inl ⟨by rfl, by intro w hSw; go_simp⟩) (by assumption) ?_
          simp only [Act.put, List.setIfInBounds_toArray, List.set_cons_zero, List.set_cons_succ]
          refine wpAnyH_take (i := 34) (oi := { dst := some 159, op := Op.convert 22 9 (Operand.tmp 158), type := 9, pos := "outright.go:171", after := #[{ on := 33, ground := Ground.data }, { on := 32, ground := Ground.guard }], guard := some (32, false) }) (v := .string stI) rfl (by kernel_rfl) (by kernel_rfl) (by kernel_rfl) (fun _ _ _ h => h) (Or.inl ⟨by rfl, by intro w hSw; have hcc := (hSw.get 3 rfl).conv (c := cI) HLi.out; rw [HstI.out] at hcc; go_simp⟩) (by assumption) ?_
          simp only [Act.put, List.setIfInBounds_toArray, List.set_cons_zero, List.set_cons_succ]
          refine wpAnyH_take (i := 35) (oi := { dst := some 160, op := Op.fieldAddr 24 (Operand.tmp 3) 2, type := 0, pos := "outright.go:171", after := #[{ on := 32, ground := Ground.guard }], guard := some (32, false) }) (v := .pointer (some ⟨W.heap.size + 1, 2, none⟩)) rfl (by kernel_rfl) (by kernel_rfl) (by kernel_rfl) (fun _ _ _ h => h) (Or.inl ⟨by rfl, by intro w hSw; go_simp⟩) (by assumption) ?_
          simp only [Act.put, List.setIfInBounds_toArray, List.set_cons_zero, List.set_cons_succ]
          refine wpAnyH_take (i := 36) (oi := { dst := some 161, op := Op.load 22 (Operand.tmp 160), type := 22, pos := "outright.go:171", after := #[{ on := 35, ground := Ground.data }, { on := 32, ground := Ground.guard }], guard := some (32, false) }) (v := .slice ia il ic) rfl (by kernel_rfl) (by kernel_rfl) (by kernel_rfl) (fun _ _ _ h => h) (Or.inl ⟨by rfl, by intro w hSw; have hc := (hSw.BQ.cell 2).trans HQ.out.q2; go_simp⟩) (by assumption) ?_
          simp only [Act.put, List.setIfInBounds_toArray, List.set_cons_zero, List.set_cons_succ]
          refine wpAnyH_ready (rs := [37]) (by kernel_rfl) (by simp) (AllReadyH.cons (o := { dst := some 162, op := Op.call { callee := Callee.value (Operand.func 21), args := #[Operand.tmp 161], argTypes := #[22] }, type := 22, pos := "outright.go:171", after := #[{ on := 36, ground := Ground.data }, { on := 32, ground := Ground.chain }, { on := 32, ground := Ground.guard }], guard := some (32, false) }) rfl (fun KQ hK => ?_) AllReadyH.nil)
          go_simp
          refine (roomB_any _ ia il ic is HC.out.hil (HC.out.AI _ HKy6.out.bw) HC.out.S5 (by have := HC.out.hin; omega)).mono ?_
          rintro e x7 ⟨v, rfl, H_⟩
          obtain ⟨r5, cr5, rfl, _, or5, _⟩ := H_.toOwn (by rw [HLi.out]; omega)
          rw [HLi.out]
          have HKy7 := hid (HKy6.out.on H_.below)
          have Or5 := hid or5
          clear H_ or5
          go_wp2_with fail
          refine hK.out _ _ HKy7.out (fun hHeld => ?_)
          clear hK KQ
          try simp only [Act.put, List.setIfInBounds_toArray, List.set_cons_zero, List.set_cons_succ]
          refine wpAnyH_ready (rs := [38]) (by kernel_rfl) (by simp) (AllReadyH.cons (o := { dst := some 163, op := Op.convert 22 9 (Operand.tmp 162), type := 9, pos := "outright.go:171", after := #[{ on := 37, ground := Ground.data }, { on := 32, ground := Ground.guard }], guard := some (32, false) }) rfl (fun KQ hK => ?_) AllReadyH.nil)
          have hcc := conv_own (c := cr5) Or5.out HLi.out; rw [HstI.out] at hcc; go_simp
          refine hK.out _ _ HKy7.out (fun hHeld => ?_)
          clear hK KQ
          try simp only [Act.put, List.setIfInBounds_toArray, List.set_cons_zero, List.set_cons_succ]
          refine wpAnyH_take (i := 39) (oi := { dst := some 164, op := Op.binOp BinOp.neq 9 (Operand.tmp 159) (Operand.tmp 163) 9, type := 4, pos := "outright.go:171", after := #[{ on := 34, ground := Ground.data }, { on := 38, ground := Ground.data }, { on := 32, ground := Ground.guard }], guard := some (32, false) }) (v := .bool false) rfl (by kernel_rfl) (by kernel_rfl) (by kernel_rfl) (fun _ _ _ h => h) (Or.inl ⟨by rfl, by intro w hSw; go_simp⟩) (by assumption) ?_
          simp only [Act.put, List.setIfInBounds_toArray, List.set_cons_zero, List.set_cons_succ]
          refine wpAnyH_take (i := 40) (oi := { dst := some 165, op := Op.pick (Operand.tmp 157) (Operand.const (Value.bool true)) (Operand.tmp 164), type := 4, pos := "outright.go:171", after := #[{ on := 32, ground := Ground.data }, { on := 39, ground := Ground.data }], guard := none }) (v := .bool false) rfl (by kernel_rfl) (by kernel_rfl) (by kernel_rfl) (fun _ _ _ h => h) (Or.inl ⟨by rfl, by intro w hSw; go_simp⟩) (by assumption) ?_
          simp only [Act.put, List.setIfInBounds_toArray, List.set_cons_zero, List.set_cons_succ]
          refine wpAnyH_done (by kernel_rfl) ?_ _
          clear hHeld
          go_wp2_with fail
          go_meet
          exact ⟨rfl, HKy7⟩
      case rest =>
        as_aux_lemma =>
          obtain ⟨rfl, HK9⟩ := hcut
          clear HK8
          go_upto_if 165 with fail
          go_cut [4] (fun _ w => wc = w)
          case first =>
            go_wp2_with fail
            go_meet
            exact rfl
          case rest =>
            obtain rfl := hcut
            exact (‹∀ (a : Act) (w : World), Code.wp Tryd.prog _ _ a w → _› _ _ (keepC W _ cs cq ka kn kc ks ma mn mc xs sa sn sc ss ea en ec es ia il ic is N HC.out HQ.out m HH.out.2.1 HH.out.2.2 n hn gx cx g14 gw gI cI gv cv gu cu vx KY H _ (HK9.out.sub (.cons_cons _ (.cons_cons _ (.cons_cons _ (.cons_cons _ (.cons _ (.cons _ (.cons_cons _ (.cons_cons _ .slnil))))))))) HH.out.1 hKl HKw.out rfl hcI mI _ _ _ _ _ _ _ _ _ _ _ _ _ _ _ _ _ _ _ _ _ _ _ _ _ _ _ _ _ _ _ _ _ _ _ _ _ _ _ _ _ _ _ _ _ _ _ _ _ _ _ _ _ _ _ _ _ _ _ _ _ _ _ _ _ _ _ _ _ _ _ _ _ _ _ _ _ _ _ _ _ _ _ _ _ _ _ _ _ _ _ _ _ _ _ _ _ _ _ _ _ _ _ _ _ _ _ _ _ _ _ _ _ _ _ _ _ _ _ _ _ _ _ _ _ _ _ _ _ _ _ _ _ _ _ _ _ _ _ _ _ _ _ _ _ _ _ _ _ _ _ _ _ _ _ _ _ _ _ _ _ _ _ _ _ _ _ _ _ _ _ _ _ _ _ _ _ _ _ _ _ _ _ _ _ _ _ _ _ _ _ _ _ _ _ _ _ _ _ _ _ _ _ _ _ _ _ _ _ _ _ _ _ _ _ _ _ _ _ _ _ _ _ _ _ _ _ _ _ _ _ _ _ _ _ _ _ _ _ _ _ _ _ _ _ _ _ _ _ _ _ _ _ _ _ _ _ _ _ _ _ _ _ _ _ _ _ _ _ _ _ _ _ _ _ _ _ _ _ _ _ _ _ _ _ _ _ _ _ _ _ _ _ _ _ _ _ _ _ _ _ _ _ _ _ _ _ _ _ _ _ _ _ _ _ _ _ _ _ _ _ _ _ _ _ _ _ _ _ _ _ _ _ _ _ _ _ _ _ _ _ _ _))
end Go.Proofs.YtialckmoigcdeaaDoor
