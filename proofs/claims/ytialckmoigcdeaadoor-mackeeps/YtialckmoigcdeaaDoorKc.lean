/- MacKeeps, from the writing over of what was handed in on. -/
import Derived.Test.YtialckmoigcdeaaDoorKd
import Derived.Deep.DeepCutAuto
import Derived.Deep.MidRow
namespace Go.Proofs.YtialckmoigcdeaaDoor
open Go.RowKit
attribute [-simp] Tryd.isAgg26 Tryd.sizeOf26 Tryd.zeroValue26
set_option maxRecDepth 100000
set_option maxHeartbeats 8000000
theorem sev_at {w : World} {g cap k : Nat} (h : (⟨g, 25, .u32, cap, some ⟨g, 0, none⟩, List.replicate (k + 1 + 200) 7⟩ : Rz).ok w) : At w .u32 (some ⟨g, 1, none⟩) (List.replicate k 7) := by
  have := (h.own (by simp)).2.mid k
  simp only at this
  rw [rep_mid _ _ _ (by omega)] at this
  exact this
theorem keepC (W w : World) (cs cq : List Value) (ka : Option Addr) (kn kc : Nat) (ks : List Int) (ma : Option Addr) (mn mc : Nat) (xs : List Int) (sa : Option Addr) (sn sc : Nat) (ss : List Int) (ea : Option Addr) (en ec : Nat) (es : List Int) (ia : Option Addr) (il ic : Nat) (is : List Int) (N : Int) (hC : KC W ka kn kc ks ma mn mc xs sa sn sc ss ea en ec es ia il ic is) (hQ : KQ cs cq ka kn kc ma mn mc sa sn sc ea en ec ia il ic N) (m : Mq) (hmK : m.K = keyW (bytesD ks)) (hmx : m.xs = xs) (n : Nat) (hn : n ≤ 100) (gx cx g14 gw gI cI gv cv gu cu : Nat) (vx : Option Addr) (KY H E1 : List Int)
    (hk : KM W w cs cq (some m) [⟨gx, 5, .u8, cx, vx, E1⟩, ⟨g14, 26, .u32, 8, some ⟨g14, 0, none⟩, KY⟩, ⟨gw, 26, .u32, 8, some ⟨gw, 0, none⟩, H⟩, ⟨gI, 5, .u8, cI, some ⟨gI, 0, none⟩, roomBD is 400⟩, ⟨gv, 25, .u32, cv, some ⟨gv, 0, none⟩, roomWD xs 200⟩, ⟨gu, 25, .u32, cu, some ⟨gu, 0, none⟩, roomWD ks 200⟩]) (hH : hmac (bytesD ks) (bytesD xs) = H) (hKl : KY.length = 8) (hKw : Wds KY) (hE : okm (bytesD KY) is n = E1) (hcI : il + 401 ≤ cI) (mI : (cI : Int) ≤ 9223372036854775807)
    (z0 z1 z4 z7 z8 z17 z18 z19 z20 z21 z22 z23 z24 z25 z26 z27 z28 z29 z30 z31 z32 z33 z34 z35 z36 z37 z38 z39 z40 z41 z42 z43 z44 z45 z46 z47 z48 z49 z50 z51 z52 z53 z54 z55 z56 z57 z58 z59 z60 z61 z62 z63 z64 z65 z66 z67 z68 z69 z70 z71 z72 z73 z74 z75 z76 z77 z78 z79 z80 z81 z82 z83 z84 z85 z86 z87 z88 z89 z90 z91 z92 z93 z94 z95 z96 z97 z98 z99 z100 z101 z102 z103 z104 z105 z106 z107 z108 z109 z110 z111 z112 z113 z114 z115 z116 z117 z118 z119 z120 z121 z122 z123 z124 z125 z126 z127 z128 z129 z130 z131 z132 z133 z134 z135 z136 z137 z138 z139 z140 z141 z142 z143 z144 z145 z146 z147 z148 z149 z150 z151 z152 z153 z154 z155 z156 z157 z158 z159 z160 z161 z162 z163 z164 z165 z166 z167 z168 z169 z170 z171 z172 z173 z174 z175 z176 z177 z178 z179 z180 z181 z182 z183 z184 z185 z186 z187 z188 z189 z190 z191 z192 z193 z194 z195 z196 z197 z198 z199 z200 z201 z202 z203 z204 z205 z206 z207 z208 z209 z210 z211 z212 z213 z214 z215 z216 z217 z218 z219 z220 z221 z222 z223 z224 z225 z226 z227 z228 z229 z230 z231 z232 z233 z234 z235 z236 z237 z238 z239 z240 z241 z242 z243 z244 z245 z246 z247 z248 z249 z250 z251 z252 z253 z254 z255 z256 z257 z258 z259 z260 z261 z262 z263 z264 z265 z266 z267 z268 z269 z270 z271 z272 z273 z274 z275 z276 z277 z278 z279 z280 z281 z282 z283 z284 z285 z286 z287 z288 z289 z290 z291 z292 z293 z294 z295 z296 z297 z298 z299 z300 z301 z302 z303 z304 z305 z306 z307 z308 z309 z310 z311 z312 z313 z314 z315 z316 z317 z318 z319 z320 z321 z322 z323 z324 z325 z326 z327 z328 z329 z330 z331 z332 z333 z334 z335 z336 z337 z338 z339 z340 z341 z342 z343 z344 z345 z346 z347 z348 z349 z350 z351 z352 z353 z354 : Value) :
    Code.wp Tryd.prog (sfx 17 (Tryd.f5.body.getD .skip)) (bodyPost Tryd.prog Tryd.f5 fun e W' => e = .returned (.bool true) ∧ Below W.heap.size W W') { tmps := #[z0, z1, .pointer (some ⟨W.heap.size, 0, none⟩), .pointer (some ⟨W.heap.size + 1, 0, none⟩), z4, .slice (some ⟨gu, 0, none⟩) (kn + 1 + 200) cu, .slice (some ⟨gv, 0, none⟩) (mn + 1 + 200) cv, z7, z8, .slice (some ⟨gI, 0, none⟩) (il + 1 + 400) cI, .slice (some ⟨gu, 1, none⟩) kn (cu - 1), .slice (some ⟨gv, 1, none⟩) mn (cv - 1), .pointer (some ⟨gw, 0, none⟩), .pointer (some ⟨m.gm, 0, none⟩), .pointer (some ⟨g14, 0, none⟩), .int .i64 (n : Int), .slice vx n n, z17, z18, z19, z20, z21, z22, z23, z24, z25, z26, z27, z28, z29, z30, z31, z32, z33, z34, z35, z36, z37, z38, z39, z40, z41, z42, z43, z44, z45, z46, z47, z48, z49, z50, z51, z52, z53, z54, z55, z56, z57, z58, z59, z60, z61, z62, z63, z64, z65, z66, z67, z68, z69, z70, z71, z72, z73, z74, z75, z76, z77, z78, z79, z80, z81, z82, z83, z84, z85, z86, z87, z88, z89, z90, z91, z92, z93, z94, z95, z96, z97, z98, z99, z100, z101, z102, z103, z104, z105, z106, z107, z108, z109, z110, z111, z112, z113, z114, z115, z116, z117, z118, z119, z120, z121, z122, z123, z124, z125, z126, z127, z128, z129, z130, z131, z132, z133, z134, z135, z136, z137, z138, z139, z140, z141, z142, z143, z144, z145, z146, z147, z148, z149, z150, z151, z152, z153, z154, z155, z156, z157, z158, z159, z160, z161, z162, z163, z164, z165, z166, z167, z168, z169, z170, z171, z172, z173, z174, z175, z176, z177, z178, z179, z180, z181, z182, z183, z184, z185, z186, z187, z188, z189, z190, z191, z192, z193, z194, z195, z196, z197, z198, z199, z200, z201, z202, z203, z204, z205, z206, z207, z208, z209, z210, z211, z212, z213, z214, z215, z216, z217, z218, z219, z220, z221, z222, z223, z224, z225, z226, z227, z228, z229, z230, z231, z232, z233, z234, z235, z236, z237, z238, z239, z240, z241, z242, z243, z244, z245, z246, z247, z248, z249, z250, z251, z252, z253, z254, z255, z256, z257, z258, z259, z260, z261, z262, z263, z264, z265, z266, z267, z268, z269, z270, z271, z272, z273, z274, z275, z276, z277, z278, z279, z280, z281, z282, z283, z284, z285, z286, z287, z288, z289, z290, z291, z292, z293, z294, z295, z296, z297, z298, z299, z300, z301, z302, z303, z304, z305, z306, z307, z308, z309, z310, z311, z312, z313, z314, z315, z316, z317, z318, z319, z320, z321, z322, z323, z324, z325, z326, z327, z328, z329, z330, z331, z332, z333, z334, z335, z336, z337, z338, z339, z340, z341, z342, z343, z344, z345, z346, z347, z348, z349, z350, z351, z352, z353, z354], defers := [] } w := by
  obtain ⟨V, hV⟩ : ∃ V : List Int, V = List.replicate 8 0 := ⟨_, rfl⟩
  have hVl : V.length = 8 := by rw [hV]; simp
  have hv : ∀ w, (zeroValue 26).run Tryd.prog w = .ok (.agg (V.map (Value.int .u32)).toArray) w := fun w => by rw [Tryd.zeroValue26, hV]; rfl
  clear hV
  have n1 : (n : Int) ≤ 100 := by omega
  have k1 : (kn : Int) ≤ 35184372087808 := by have := hC.hkn; omega
  have k2 : (mn : Int) ≤ 35184372087808 := by have := hC.hmn; omega
  have HC := hid hC
  have HQ := hid hQ
  have HH := hid (And.intro hH (And.intro hmK hmx))
  have HKw := hid hKw
  have HE := hid hE
  have HEl : Hid (E1.length = n) := hid (by rw [← hE]; exact okm_length _ _ _)
  have HLu : Hid ((roomWD ks 200).length = kn + 1 + 200) := hid (by rw [roomWD_length, hC.hkl])
  have HLv : Hid ((roomWD xs 200).length = mn + 1 + 200) := hid (by rw [roomWD_length, hC.hml])
  have HK0 := hid hk
  clear hC hQ hH hKw hk hmK hmx hE
  obtain ⟨RU, hRU⟩ : ∃ R, roomWD ks 200 = R := ⟨_, rfl⟩
  obtain ⟨RV, hRV⟩ : ∃ R, roomWD xs 200 = R := ⟨_, rfl⟩
  rw [hRU, hRV] at HK0
  rw [hRU] at HLu
  rw [hRV] at HLv
  clear hRU hRV
  refine sfx_walk 17 rfl (by simp only [sfx]; rfl) ?_
  go_upto_region 19 with fail
  go_wp2_with fail
  go_loopw [18] (fun i wr => ∃ j : Nat, j ≤ kn + 1 + 200 ∧ i = .int .i64 (j : Int) ∧ Hid (KM W wr cs cq (some m) [⟨gx, 5, .u8, cx, vx, E1⟩, ⟨g14, 26, .u32, 8, some ⟨g14, 0, none⟩, KY⟩, ⟨gw, 26, .u32, 8, some ⟨gw, 0, none⟩, H⟩, ⟨gI, 5, .u8, cI, some ⟨gI, 0, none⟩, roomBD is 400⟩, ⟨gv, 25, .u32, cv, some ⟨gv, 0, none⟩, RV⟩, ⟨gu, 25, .u32, cu, some ⟨gu, 0, none⟩, fil 7 RU j⟩])) (fun i _ => kn + 1 + 200 - (intOf i).toNat)
  case atStart => exact ⟨0, Nat.zero_le _, rfl, HK0⟩
  case round =>
    clear HK0
    obtain ⟨j, hj, rfl, HK⟩ := hrel
    by_cases hlt : j < kn + 1 + 200
    · have q1 : (j : Int) < (kn : Int) + 1 + 200 := by omega
      obtain ⟨_, f1, y, c1⟩ := HK.out.fl 5 rfl (by rw [HLu.out]; exact hlt)
      go_wp2_with fail
      go_roundw
      case measure => simp [intOf] <;> omega
      case rel => exact ⟨j + 1, by omega, by simp, hid (HK.out.fill 5 rfl (by rw [HLu.out]; exact hlt))⟩
    · have hjn : j = kn + 1 + 200 := by omega
      subst hjn
      have HK1 : Hid (KM W wr cs cq (some m) [⟨gx, 5, .u8, cx, vx, E1⟩, ⟨g14, 26, .u32, 8, some ⟨g14, 0, none⟩, KY⟩, ⟨gw, 26, .u32, 8, some ⟨gw, 0, none⟩, H⟩, ⟨gI, 5, .u8, cI, some ⟨gI, 0, none⟩, roomBD is 400⟩, ⟨gv, 25, .u32, cv, some ⟨gv, 0, none⟩, RV⟩, ⟨gu, 25, .u32, cu, some ⟨gu, 0, none⟩, List.replicate (kn + 1 + 200) 7⟩]) := hid (by have := fil_all 7 RU; rw [HLu.out] at this; rw [← this]; exact HK.out)
      clear HK
      go_wp2_with fail
      go_loopw [19] (fun i wr => ∃ t : Nat, t ≤ mn + 1 + 200 ∧ i = .int .i64 (t : Int) ∧ Hid (KM W wr cs cq (some m) [⟨gx, 5, .u8, cx, vx, E1⟩, ⟨g14, 26, .u32, 8, some ⟨g14, 0, none⟩, KY⟩, ⟨gw, 26, .u32, 8, some ⟨gw, 0, none⟩, H⟩, ⟨gI, 5, .u8, cI, some ⟨gI, 0, none⟩, roomBD is 400⟩, ⟨gv, 25, .u32, cv, some ⟨gv, 0, none⟩, fil 7 RV t⟩, ⟨gu, 25, .u32, cu, some ⟨gu, 0, none⟩, List.replicate (kn + 1 + 200) 7⟩])) (fun i _ => mn + 1 + 200 - (intOf i).toNat)
      case atStart => exact ⟨0, Nat.zero_le _, rfl, HK1⟩
      case round =>
        clear HK1
        obtain ⟨t, ht, rfl, HK⟩ := hrel
        by_cases hlt : t < mn + 1 + 200
        · have q1 : (t : Int) < (mn : Int) + 1 + 200 := by omega
          obtain ⟨_, f1, y, c1⟩ := HK.out.fl 4 rfl (by rw [HLv.out]; exact hlt)
          go_wp2_with fail
          go_roundw
          case measure => simp [intOf] <;> omega
          case rel => exact ⟨t + 1, by omega, by simp, hid (HK.out.fill 4 rfl (by rw [HLv.out]; exact hlt))⟩
        · have htn : t = mn + 1 + 200 := by omega
          subst htn
          have HK2 : Hid (KM W wr cs cq (some m) [⟨gx, 5, .u8, cx, vx, E1⟩, ⟨g14, 26, .u32, 8, some ⟨g14, 0, none⟩, KY⟩, ⟨gw, 26, .u32, 8, some ⟨gw, 0, none⟩, H⟩, ⟨gI, 5, .u8, cI, some ⟨gI, 0, none⟩, roomBD is 400⟩, ⟨gv, 25, .u32, cv, some ⟨gv, 0, none⟩, List.replicate (mn + 1 + 200) 7⟩, ⟨gu, 25, .u32, cu, some ⟨gu, 0, none⟩, List.replicate (kn + 1 + 200) 7⟩]) := hid (by have := fil_all 7 RV; rw [HLv.out] at this; rw [← this]; exact HK.out)
          clear HK
          obtain ⟨st, hst⟩ : ∃ s, strOfNums E1 = s := ⟨_, rfl⟩
          have HSt := hid hst
          have v1 := (HK2.out.get 0 rfl).conv (n := n) (c := n) HEl.out
          rw [hst] at v1
          clear hst
          obtain ⟨H2, hH2e⟩ : ∃ H, hmac (bytesD (List.replicate kn 7)) (bytesD (List.replicate mn 7)) = H := ⟨_, rfl⟩
          have hH2 : H2.length = 8 := by rw [← hH2e]; exact hmac_length _ _
          have HH2 := hid hH2e
          have hs2 : (Tryd.prog.info? 26).map (·.size) = some H2.length := by rw [hH2]; exact size26
          clear hH2e
          go_upto_region 28 with fail
          clear v1
          go_upto_region 29 with (first | (go_at_call 14; refine (macTag_any _ HK2.out.tabs (some ⟨gu, 1, none⟩) kn (cu - 1) (List.replicate kn 7) (by simp) (wds_rep _) (sev_at (HK2.out.get 5 rfl)) HC.out.hkn (some ⟨gv, 1, none⟩) mn (cv - 1) (List.replicate mn 7) (by simp) (wds_rep _) (sev_at (HK2.out.get 4 rfl)) HC.out.hmn).mono ?_; rintro e w2 ⟨rfl, hb2⟩; rw [HH2.out]; have HK3 := hid (HK2.out.on hb2); clear hb2) | (refine wpList_store_but rfl 26 _ _ rfl w2.heap.size H2 rfl rfl (Blk.new w2 .u32 26 V) hs2 (hVl.trans hH2.symm) ?_; intro w3 b3 hw3 hs3; have HK3b := hid (HK3.out.add ((below_one w2 _).trans (hw3.below (Nat.le_refl _) (by simp))) ⟨w2.heap.size, 26, .u32, 8, some ⟨w2.heap.size, 0, none⟩, H2⟩ (.inr ⟨rfl, by have := b3.own; rw [hH2] at this; exact this⟩) (fun _ => Nat.le_refl _) (by simp)); clear b3 hw3 hs3))
          clear HK2 HK3
          generalize w2.heap.size = gt at *
          have e26 := eq26 H2 H2 hH2 hH2
          rw [decide_eq_true rfl] at e26
          have HK4 := hid (HK3b.out.on (Below.refl _ _).drew)
          clear HK3b
          refine wp_region_held_drew (S := fun w => KM W w cs cq (some m) [⟨gt, 26, .u32, 8, some ⟨gt, 0, none⟩, H2⟩, ⟨gx, 5, .u8, cx, vx, E1⟩, ⟨g14, 26, .u32, 8, some ⟨g14, 0, none⟩, KY⟩, ⟨gw, 26, .u32, 8, some ⟨gw, 0, none⟩, H⟩, ⟨gI, 5, .u8, cI, some ⟨gI, 0, none⟩, roomBD is 400⟩, ⟨gv, 25, .u32, cv, some ⟨gv, 0, none⟩, List.replicate (mn + 1 + 200) 7⟩, ⟨gu, 25, .u32, cu, some ⟨gu, 0, none⟩, List.replicate (kn + 1 + 200) 7⟩]) (by kernel_rfl) HK4.out (fun hHeld => ?_)
          refine wpAnyH_take (i := 0) (oi := { dst := some 189, op := Op.load 26 (Operand.tmp 21), type := 26, pos := "outright.go:182", after := #[], guard := none }) (v := .agg (H2.map (Value.int .u32)).toArray) rfl (by kernel_rfl) (by kernel_rfl) (by kernel_rfl) (fun _ _ _ h => h) (yieldsIf_load_mid (by rfl) _ _ rfl _ _ rfl _ _ (fun w hSw => hSw.rng 0 rfl) Tryd.underlying26 rfl (by rw [List.length_map, hH2]; exact size26)) (by assumption) ?_
          simp only [Act.put, List.setIfInBounds_toArray, List.set_cons_zero, List.set_cons_succ]
          refine wpAnyH_take (i := 1) (oi := { dst := some 190, op := Op.move (Operand.tmp 10), type := 35, pos := "outright.go:182", after := #[], guard := none }) (v := .slice (some ⟨gu, 1, none⟩) kn (cu - 1)) rfl (by kernel_rfl) (by kernel_rfl) (by kernel_rfl) (fun _ _ _ h => h) (Or.inl ⟨by rfl, by intro w hSw; go_simp⟩) (by assumption) ?_
          simp only [Act.put, List.setIfInBounds_toArray, List.set_cons_zero, List.set_cons_succ]
          refine wpAnyH_take (i := 3) (oi := { dst := some 192, op := Op.move (Operand.tmp 11), type := 35, pos := "outright.go:182", after := #[], guard := none }) (v := .slice (some ⟨gv, 1, none⟩) mn (cv - 1)) rfl (by kernel_rfl) (by kernel_rfl) (by kernel_rfl) (fun _ _ _ h => h) (Or.inl ⟨by rfl, by intro w hSw; go_simp⟩) (by assumption) ?_
          simp only [Act.put, List.setIfInBounds_toArray, List.set_cons_zero, List.set_cons_succ]
          refine wpAnyH_ready (rs := [2]) (by kernel_rfl) (by simp) (AllReadyH.cons (o := { dst := some 191, op := Op.call { callee := Callee.value (Operand.func 15), args := #[Operand.tmp 190], argTypes := #[35] }, type := 35, pos := "outright.go:182", after := #[{ on := 1, ground := Ground.data }], guard := none }) rfl (fun KQ hK => ?_) AllReadyH.nil)
          go_simp
          refine (words_own _ (some ⟨gu, 1, none⟩) kn (cu - 1) (List.replicate kn 7) (by simp) (sev_at (HK4.out.get 6 rfl)) (fun h => by cases h) (by have := HC.out.hkn; omega)).mono ?_
          rintro e w5 ⟨vo5, vc5, rfl, _, a5, _, hb5⟩
          have HK5 := hid (HK4.out.on hb5)
          have HA5 := hid a5
          clear a5 hb5
          go_wp2_with fail
          refine hK.out _ _ HK5.out (fun hHeld => ?_)
          clear hK KQ
          try simp only [Act.put, List.setIfInBounds_toArray, List.set_cons_zero, List.set_cons_succ]
          refine wpAnyH_ready (rs := [4]) (by kernel_rfl) (by simp) (AllReadyH.cons (o := { dst := some 193, op := Op.call { callee := Callee.value (Operand.func 15), args := #[Operand.tmp 192], argTypes := #[35] }, type := 35, pos := "outright.go:182", after := #[{ on := 3, ground := Ground.data }, { on := 2, ground := Ground.chain }], guard := none }) rfl (fun KQ hK => ?_) AllReadyH.nil)
          go_simp
          refine (words_own _ (some ⟨gv, 1, none⟩) mn (cv - 1) (List.replicate mn 7) (by simp) (sev_at (HK5.out.get 5 rfl)) (fun h => by cases h) (by have := HC.out.hmn; omega)).mono ?_
          rintro e w6 ⟨vo6, vc6, rfl, _, a6, _, hb6⟩
          have HK6 := hid (HK5.out.on hb6)
          have HA6 := hid (And.intro (HA5.out.below hb6) a6)
          clear a6 hb6
          go_wp2_with fail
          refine hK.out _ _ HK6.out (fun hHeld => ?_)
          clear hK KQ
          try simp only [Act.put, List.setIfInBounds_toArray, List.set_cons_zero, List.set_cons_succ]
          refine wpAnyH_ready (rs := [5]) (by kernel_rfl) (by simp) (AllReadyH.cons (o := { dst := some 194, op := Op.call { callee := Callee.value (Operand.func 14), args := #[Operand.tmp 191, Operand.tmp 193], argTypes := #[35, 35] }, type := 26, pos := "outright.go:182", after := #[{ on := 2, ground := Ground.data }, { on := 4, ground := Ground.data }, { on := 4, ground := Ground.chain }], guard := none }) rfl (fun KQ hK => ?_) AllReadyH.nil)
          go_simp
          refine (macTag_any w6 HK6.out.tabs vo5 kn vc5 (List.replicate kn 7) (by simp) (wds_rep _) HA6.out.1 HC.out.hkn vo6 mn vc6 (List.replicate mn 7) (by simp) (wds_rep _) HA6.out.2 HC.out.hmn).mono ?_
          rintro e w7 ⟨rfl, hb7⟩
          rw [HH2.out]
          have HK7 := hid (HK6.out.on hb7)
          clear hb7
          go_wp2_with fail
          refine hK.out _ _ HK7.out (fun hHeld => ?_)
          clear hK KQ
          try simp only [Act.put, List.setIfInBounds_toArray, List.set_cons_zero, List.set_cons_succ]
          refine wpAnyH_take (i := 6) (oi := { dst := some 195, op := Op.binOp BinOp.neq 26 (Operand.tmp 189) (Operand.tmp 194) 26, type := 4, pos := "outright.go:182", after := #[{ on := 0, ground := Ground.data }, { on := 5, ground := Ground.data }], guard := none }) (v := .bool false) rfl (by kernel_rfl) (by kernel_rfl) (by kernel_rfl) (fun _ _ _ h => h) (Or.inl ⟨by rfl, by intro w hSw; have he := e26; simp only [Ag]; go_simp⟩) (by assumption) ?_
          simp only [Act.put, List.setIfInBounds_toArray, List.set_cons_zero, List.set_cons_succ]
          refine wpAnyH_done (by kernel_rfl) ?_ _
          clear hHeld HK4 HK5 HA5 HK6 HA6
          go_upto_region 31 with fail
          have HK8 := hid (HK7.out.on (Below.refl _ _).drew)
          clear HK7
          refine wp_region_held_drew (S := fun w => KM W w cs cq (some m) [⟨gt, 26, .u32, 8, some ⟨gt, 0, none⟩, H2⟩, ⟨gx, 5, .u8, cx, vx, E1⟩, ⟨g14, 26, .u32, 8, some ⟨g14, 0, none⟩, KY⟩, ⟨gw, 26, .u32, 8, some ⟨gw, 0, none⟩, H⟩, ⟨gI, 5, .u8, cI, some ⟨gI, 0, none⟩, roomBD is 400⟩, ⟨gv, 25, .u32, cv, some ⟨gv, 0, none⟩, List.replicate (mn + 1 + 200) 7⟩, ⟨gu, 25, .u32, cu, some ⟨gu, 0, none⟩, List.replicate (kn + 1 + 200) 7⟩]) (by kernel_rfl) HK8.out (fun hHeld => ?_)
          refine wpAnyH_take (i := 0) (oi := { dst := some 197, op := Op.load 26 (Operand.tmp 14), type := 26, pos := "outright.go:185", after := #[], guard := none }) (v := .agg (KY.map (Value.int .u32)).toArray) rfl (by kernel_rfl) (by kernel_rfl) (by kernel_rfl) (fun _ _ _ h => h) (yieldsIf_load_mid (by rfl) _ _ rfl _ _ rfl _ _ (fun w hSw => hSw.rng 2 rfl) Tryd.underlying26 rfl (by rw [List.length_map, hKl]; exact size26)) (by assumption) ?_
          simp only [Act.put, List.setIfInBounds_toArray, List.set_cons_zero, List.set_cons_succ]
          refine wpAnyH_take (i := 1) (oi := { dst := some 198, op := Op.fieldAddr 24 (Operand.tmp 3) 2, type := 0, pos := "outright.go:185", after := #[], guard := none }) (v := .pointer (some ⟨W.heap.size + 1, 2, none⟩)) rfl (by kernel_rfl) (by kernel_rfl) (by kernel_rfl) (fun _ _ _ h => h) (Or.inl ⟨by rfl, by intro w hSw; go_simp⟩) (by assumption) ?_
          simp only [Act.put, List.setIfInBounds_toArray, List.set_cons_zero, List.set_cons_succ]
          refine wpAnyH_take (i := 2) (oi := { dst := some 199, op := Op.load 22 (Operand.tmp 198), type := 22, pos := "outright.go:185", after := #[{ on := 1, ground := Ground.data }], guard := none }) (v := .slice ia il ic) rfl (by kernel_rfl) (by kernel_rfl) (by kernel_rfl) (fun _ _ _ h => h) (Or.inl ⟨by rfl, by intro w hSw; have hc := (hSw.BQ.cell 2).trans HQ.out.q2; go_simp⟩) (by assumption) ?_
          simp only [Act.put, List.setIfInBounds_toArray, List.set_cons_zero, List.set_cons_succ]
          refine wpAnyH_take (i := 4) (oi := { dst := some 201, op := Op.move (Operand.tmp 15), type := 3, pos := "outright.go:185", after := #[], guard := none }) (v := .int .i64 (n : Int)) rfl (by kernel_rfl) (by kernel_rfl) (by kernel_rfl) (fun _ _ _ h => h) (Or.inl ⟨by rfl, by intro w hSw; go_simp⟩) (by assumption) ?_
          simp only [Act.put, List.setIfInBounds_toArray, List.set_cons_zero, List.set_cons_succ]
          refine wpAnyH_ready (rs := [3]) (by kernel_rfl) (by simp) (AllReadyH.cons (o := { dst := some 200, op := Op.call { callee := Callee.value (Operand.func 8), args := #[Operand.tmp 199], argTypes := #[22] }, type := 22, pos := "outright.go:185", after := #[{ on := 2, ground := Ground.data }], guard := none }) rfl (fun KQ hK => ?_) AllReadyH.nil)
          go_simp
          refine (bytes_own _ ia il ic is HC.out.hil (HC.out.AI _ HK8.out.bw) HC.out.S5 (by have := HC.out.hin; omega)).mono ?_
          rintro e w9 ⟨vo9, vc9, rfl, _, a9, s9, hb9⟩
          have HK9 := hid (HK8.out.on hb9)
          have HA9 := hid (And.intro a9 s9)
          clear a9 s9 hb9
          go_wp2_with fail
          refine hK.out _ _ HK9.out (fun hHeld => ?_)
          clear hK KQ
          try simp only [Act.put, List.setIfInBounds_toArray, List.set_cons_zero, List.set_cons_succ]
          refine wpAnyH_ready (rs := [5]) (by kernel_rfl) (by simp) (AllReadyH.cons (o := { dst := some 202, op := Op.call { callee := Callee.value (Operand.func 12), args := #[Operand.tmp 197, Operand.tmp 200, Operand.tmp 201], argTypes := #[26, 22, 3] }, type := 32, pos := "outright.go:185", after := #[{ on := 0, ground := Ground.data }, { on := 3, ground := Ground.data }, { on := 4, ground := Ground.data }, { on := 3, ground := Ground.chain }], guard := none }) rfl (fun KQ hK => ?_) AllReadyH.nil)
          go_simp
          refine (expand_any w9 HK9.out.tabs KY hKl HKw.out vo9 il vc9 is HC.out.hil HC.out.pi HA9.out.1 HA9.out.2 (by have := HC.out.hin; omega) n (by omega)).mono ?_
          rintro e wa ⟨vy, rfl, oz, hba⟩
          rw [HE.out] at oz
          obtain ⟨gy, cy, ry, hgy⟩ := oz.row
          have HKa := hid (HK9.out.on hba)
          have HKb := hid (HK9.out.add hba ⟨gy, 5, .u8, cy, vy, E1⟩ ry hgy (by simp))
          clear ry oz hba hgy
          go_wp2_with fail
          refine hK.out _ _ HKa.out (fun hHeld => ?_)
          clear hK KQ
          try simp only [Act.put, List.setIfInBounds_toArray, List.set_cons_zero, List.set_cons_succ]
          refine wpAnyH_take (i := 6) (oi := { dst := some 196, op := Op.move (Operand.tmp 202), type := 32, pos := "outright.go:185", after := #[{ on := 5, ground := Ground.data }], guard := none }) (v := .tuple #[.slice vy n n, .int .i64 0]) rfl (by kernel_rfl) (by kernel_rfl) (by kernel_rfl) (fun _ _ _ h => h) (Or.inl ⟨by rfl, by intro w hSw; go_simp⟩) (by assumption) ?_
          simp only [Act.put, List.setIfInBounds_toArray, List.set_cons_zero, List.set_cons_succ]
          refine wpAnyH_take (i := 7) (oi := { dst := some 203, op := Op.extract (Operand.tmp 196) 0, type := 22, pos := "outright.go:185", after := #[{ on := 6, ground := Ground.data }], guard := none }) (v := .slice vy n n) rfl (by kernel_rfl) (by kernel_rfl) (by kernel_rfl) (fun _ _ _ h => h) (Or.inl ⟨by rfl, by intro w hSw; go_simp⟩) (by assumption) ?_
          simp only [Act.put, List.setIfInBounds_toArray, List.set_cons_zero, List.set_cons_succ]
          refine wpAnyH_take (i := 8) (oi := { dst := some 204, op := Op.extract (Operand.tmp 196) 1, type := 31, pos := "outright.go:185", after := #[{ on := 6, ground := Ground.data }, { on := 9, ground := Ground.gcOnly Departure.lateStores }], guard := none }) (v := .int .i64 0) rfl (by kernel_rfl) (by kernel_rfl) (by kernel_rfl) (fun _ _ _ h => h) (Or.inl ⟨by rfl, by intro w hSw; go_simp⟩) (by assumption) ?_
          simp only [Act.put, List.setIfInBounds_toArray, List.set_cons_zero, List.set_cons_succ]
          refine wpAnyH_ready (rs := [9]) (by kernel_rfl) (by simp) (AllReadyH.cons (o := { dst := some 22, op := Op.assign (Operand.tmp 203), type := 22, pos := "outright.go:185", after := #[{ on := 7, ground := Ground.data }, { on := 5, ground := Ground.chain }, { on := 0, ground := Ground.phase }, { on := 1, ground := Ground.phase }, { on := 2, ground := Ground.phase }, { on := 3, ground := Ground.phase }, { on := 4, ground := Ground.phase }, { on := 5, ground := Ground.phase }, { on := 6, ground := Ground.phase }, { on := 7, ground := Ground.phase }, { on := 8, ground := Ground.textOnly Departure.lateStores }], guard := none }) rfl (fun KQ hK => ?_) AllReadyH.nil)
          go_simp
          refine hK.out _ _ HKa.out (fun hHeld => ?_)
          clear hK KQ
          try simp only [Act.put, List.setIfInBounds_toArray, List.set_cons_zero, List.set_cons_succ]
          refine wpAnyH_ready (rs := [10]) (by kernel_rfl) (by simp) (AllReadyH.cons (o := { dst := some 23, op := Op.assign (Operand.tmp 204), type := 31, pos := "outright.go:185", after := #[{ on := 8, ground := Ground.data }, { on := 9, ground := Ground.chain }, { on := 0, ground := Ground.phase }, { on := 1, ground := Ground.phase }, { on := 2, ground := Ground.phase }, { on := 3, ground := Ground.phase }, { on := 4, ground := Ground.phase }, { on := 5, ground := Ground.phase }, { on := 6, ground := Ground.phase }, { on := 7, ground := Ground.phase }, { on := 8, ground := Ground.phase }, { on := 9, ground := Ground.phase }], guard := none }) rfl (fun KQ hK => ?_) AllReadyH.nil)
          go_simp
          refine hK.out _ _ HKa.out (fun hHeld => ?_)
          clear hK KQ
          try simp only [Act.put, List.setIfInBounds_toArray, List.set_cons_zero, List.set_cons_succ]
          refine wpAnyH_done (by kernel_rfl) ?_ _
          clear hHeld HK8 HK9 HA9 HKa
          have v2 := (HKb.out.get 0 rfl).conv (n := n) (c := n) HEl.out
          rw [HSt.out] at v2
          go_upto_region 32 with fail
          go_cut [24] (fun v w => v = .string st ∧ wa = w)
          case first =>
            go_wp2_with fail
            go_meet
            exact ⟨rfl, rfl⟩
          case rest =>
            obtain ⟨rfl, rfl⟩ := hcut
            exact (‹∀ (a : Act) (w : World), Code.wp Tryd.prog _ _ a w → _› _ _ (keepD W _ cs cq ka kn kc ks ma mn mc xs sa sn sc ss ea en ec es ia il ic is N HC.out HQ.out m HH.out.2.1 HH.out.2.2 n hn gy cy gx cx g14 gw gI cI vy vx KY H E1 (HKb.out.sub (.cons_cons _ (.cons _ (.cons_cons _ (.cons_cons _ (.cons_cons _ (.cons_cons _ (.cons _ (.cons _ .slnil))))))))) HH.out.1 hKl HKw.out HE.out st HSt.out hcI mI _ _ _ _ _ _ _ _ _ _ _ _ _ _ _ _ _ _ _ _ _ _ _ _ _ _ _ _ _ _ _ _ _ _ _ _ _ _ _ _ _ _ _ _ _ _ _ _ _ _ _ _ _ _ _ _ _ _ _ _ _ _ _ _ _ _ _ _ _ _ _ _ _ _ _ _ _ _ _ _ _ _ _ _ _ _ _ _ _ _ _ _ _ _ _ _ _ _ _ _ _ _ _ _ _ _ _ _ _ _ _ _ _ _ _ _ _ _ _ _ _ _ _ _ _ _ _ _ _ _ _ _ _ _ _ _ _ _ _ _ _ _ _ _ _ _ _ _ _ _ _ _ _ _ _ _ _ _ _ _ _ _ _ _ _ _ _ _ _ _ _ _ _ _ _ _ _ _ _ _ _ _ _ _ _ _ _ _ _ _ _ _ _ _ _ _ _ _ _ _ _ _ _ _ _ _ _ _ _ _ _ _ _ _ _ _ _ _ _ _ _ _ _ _ _ _ _ _ _ _ _ _ _ _ _ _ _ _ _ _ _ _ _ _ _ _ _ _ _ _ _ _ _ _ _ _ _ _ _ _ _ _ _ _ _ _ _ _ _ _ _ _ _ _ _ _ _ _ _ _ _ _ _ _ _ _ _ _ _ _ _ _ _ _ _ _ _ _ _ _ _ _ _ _ _ _ _ _ _ _ _ _ _ _ _ _ _ _ _ _ _ _ _ _ _ _ _ _ _ _ _ _ _ _ _ _ _ _ _ _ _ _ _ _))
end Go.Proofs.YtialckmoigcdeaaDoor
