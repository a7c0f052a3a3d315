/- MacKeeps, from the appends on. -/
import Derived.Test.YtialckmoigcdeaaDoorKm
import Derived.Deep.DeepCutAuto
import Derived.Deep.MidRow
namespace Go.Proofs.YtialckmoigcdeaaDoor
open Go.RowKit
attribute [-simp] Tryd.isAgg26 Tryd.sizeOf26 Tryd.zeroValue26
set_option maxRecDepth 100000
set_option maxHeartbeats 8000000
theorem KM.rng {W w : World} {cs cq : List Value} {M : Option Mq} {Z : List Rz} (h : KM W w cs cq M Z) (i : Nat) {g cap : Nat} {e : TypeId} {k : IntKind} {L : List Int} (hz : Z[i]? = some ⟨g, e, k, cap, some ⟨g, 0, none⟩, L⟩) : w.rangeAt g 0 (L.map (Value.int k)) := ((h.get i hz).own (by simp)).2.range
theorem rep_getD (n j : Nat) (u : Int) (h : j < n) : (List.replicate n u).getD j 0 = u := by simp [List.getD_eq_getElem?_getD, h]
theorem snoc_getD (n j : Nat) (u y : Int) (h : j < n) : (List.replicate n u ++ [y]).getD j 0 = u := by simp [List.getD_eq_getElem?_getD, List.getElem?_append, h]
theorem snoc_last (n : Nat) (u y : Int) : (List.replicate n u ++ [y]).getD n 0 = y := by simp [List.getD_eq_getElem?_getD]
theorem KM.x {W w : World} {cs cq : List Value} {M : Option Mq} {Z : List Rz} (h : KM W w cs cq M Z) (i : Nat) {g cap n : Nat} {vo : Option Addr} {u : Int} (hz : Z[i]? = some ⟨g, 5, .u8, cap, vo, List.replicate n u⟩) {j : Nat} (hj : j < n) : vo = some ⟨g, 0, none⟩ ∧ w.cell? ⟨g, j, none⟩ = some (.int .u8 u) := by
  obtain ⟨h1, h2⟩ := (h.get i hz).real (by show 0 < (List.replicate n u).length; simp; omega)
  refine ⟨h1, ?_⟩
  have := h2.cell j (by show j < (List.replicate n u).length; simpa using hj)
  rw [this]
  show some (Value.int .u8 ((List.replicate n u).getD j 0)) = _
  rw [rep_getD n j u hj]
theorem keepE (W w : World) (cs cq : List Value) (ka : Option Addr) (kn kc : Nat) (ks : List Int) (ma : Option Addr) (mn mc : Nat) (xs : List Int) (sa : Option Addr) (sn sc : Nat) (ss : List Int) (ea : Option Addr) (en ec : Nat) (es : List Int) (ia : Option Addr) (il ic : Nat) (is : List Int) (N : Int) (hC : KC W ka kn kc ks ma mn mc xs sa sn sc ss ea en ec es ia il ic is) (hQ : KQ cs cq ka kn kc ma mn mc sa sn sc ea en ec ia il ic N) (m : Mq) (hmK : m.K = keyW (bytesD ks)) (hmx : m.xs = xs) (n : Nat) (hn : n ≤ 100) (gy cy gx cx g14 gw : Nat) (vy vx : Option Addr) (KY H : List Int)
    (hk : KM W w cs cq (some m) [⟨gy, 5, .u8, cy, vy, List.replicate n 2⟩, ⟨gx, 5, .u8, cx, vx, List.replicate n 1⟩, ⟨g14, 26, .u32, 8, some ⟨g14, 0, none⟩, KY⟩, ⟨gw, 26, .u32, 8, some ⟨gw, 0, none⟩, H⟩]) (hH : hmac (bytesD ks) (bytesD xs) = H) (hKl : KY.length = 8) (hKw : Wds KY) (st : ByteArray) (hst : strOfNums (okm (bytesD KY) is n) = st)
    (z0 z1 z4 z5 z6 z7 z8 z9 z10 z11 z17 z18 z19 z21 z23 z25 z26 z27 z28 z29 z30 z31 z32 z33 z34 z35 z36 z37 z38 z39 z40 z41 z42 z43 z44 z45 z46 z47 z48 z49 z50 z51 z52 z53 z54 z55 z56 z57 z58 z59 z60 z61 z62 z63 z64 z65 z66 z67 z68 z69 z70 z71 z72 z73 z74 z75 z76 z77 z78 z79 z80 z81 z82 z83 z84 z85 z86 z87 z88 z89 z90 z91 z92 z93 z94 z95 z96 z97 z98 z99 z100 z101 z102 z103 z104 z105 z106 z107 z108 z109 z110 z111 z112 z113 z114 z115 z116 z117 z118 z119 z120 z121 z122 z123 z124 z125 z126 z127 z128 z129 z130 z131 z132 z133 z134 z135 z136 z137 z138 z139 z140 z141 z142 z143 z144 z145 z146 z147 z148 z149 z150 z151 z152 z153 z154 z155 z156 z157 z158 z159 z160 z161 z162 z163 z164 z165 z166 z167 z168 z169 z170 z171 z172 z173 z174 z175 z176 z177 z178 z179 z180 z181 z182 z183 z184 z185 z186 z187 z188 z189 z190 z191 z192 z193 z194 z195 z196 z197 z198 z199 z200 z201 z202 z203 z204 z205 z206 z207 z208 z209 z210 z211 z212 z213 z214 z215 z216 z217 z218 z219 z220 z221 z222 z223 z224 z225 z226 z227 z228 z229 z230 z231 z232 z233 z234 z235 z236 z237 z238 z239 z240 z241 z242 z243 z244 z245 z246 z247 z248 z249 z250 z251 z252 z253 z254 z255 z256 z257 z258 z259 z260 z261 z262 z263 z264 z265 z266 z267 z268 z269 z270 z271 z272 z273 z274 z275 z276 z277 z278 z279 z280 z281 z282 z283 z284 z285 z286 z287 z288 z289 z290 z291 z292 z293 z294 z295 z296 z297 z298 z299 z300 z301 z302 z303 z304 z305 z306 z307 z308 z309 z310 z311 z312 z313 z314 z315 z316 z317 z318 z319 z320 z321 z322 z323 z324 z325 z326 z327 z328 z329 z330 z331 z332 z333 z334 z335 z336 z337 z338 z339 z340 z341 z342 z343 z344 z345 z346 z347 z348 z349 z350 z351 z352 z353 z354 : Value) :
    Code.wp Tryd.prog (sfx 30 (Tryd.f5.body.getD .skip)) (bodyPost Tryd.prog Tryd.f5 fun e W' => e = .returned (.bool true) ∧ Below W.heap.size W W') { tmps := #[z0, z1, .pointer (some ⟨W.heap.size, 0, none⟩), .pointer (some ⟨W.heap.size + 1, 0, none⟩), z4, z5, z6, z7, z8, z9, z10, z11, .pointer (some ⟨gw, 0, none⟩), .pointer (some ⟨m.gm, 0, none⟩), .pointer (some ⟨g14, 0, none⟩), .int .i64 (n : Int), .slice vx n n, z17, z18, z19, .string st, z21, .slice vy n n, z23, .string st, z25, z26, z27, z28, z29, z30, z31, z32, z33, z34, z35, z36, z37, z38, z39, z40, z41, z42, z43, z44, z45, z46, z47, z48, z49, z50, z51, z52, z53, z54, z55, z56, z57, z58, z59, z60, z61, z62, z63, z64, z65, z66, z67, z68, z69, z70, z71, z72, z73, z74, z75, z76, z77, z78, z79, z80, z81, z82, z83, z84, z85, z86, z87, z88, z89, z90, z91, z92, z93, z94, z95, z96, z97, z98, z99, z100, z101, z102, z103, z104, z105, z106, z107, z108, z109, z110, z111, z112, z113, z114, z115, z116, z117, z118, z119, z120, z121, z122, z123, z124, z125, z126, z127, z128, z129, z130, z131, z132, z133, z134, z135, z136, z137, z138, z139, z140, z141, z142, z143, z144, z145, z146, z147, z148, z149, z150, z151, z152, z153, z154, z155, z156, z157, z158, z159, z160, z161, z162, z163, z164, z165, z166, z167, z168, z169, z170, z171, z172, z173, z174, z175, z176, z177, z178, z179, z180, z181, z182, z183, z184, z185, z186, z187, z188, z189, z190, z191, z192, z193, z194, z195, z196, z197, z198, z199, z200, z201, z202, z203, z204, z205, z206, z207, z208, z209, z210, z211, z212, z213, z214, z215, z216, z217, z218, z219, z220, z221, z222, z223, z224, z225, z226, z227, z228, z229, z230, z231, z232, z233, z234, z235, z236, z237, z238, z239, z240, z241, z242, z243, z244, z245, z246, z247, z248, z249, z250, z251, z252, z253, z254, z255, z256, z257, z258, z259, z260, z261, z262, z263, z264, z265, z266, z267, z268, z269, z270, z271, z272, z273, z274, z275, z276, z277, z278, z279, z280, z281, z282, z283, z284, z285, z286, z287, z288, z289, z290, z291, z292, z293, z294, z295, z296, z297, z298, z299, z300, z301, z302, z303, z304, z305, z306, z307, z308, z309, z310, z311, z312, z313, z314, z315, z316, z317, z318, z319, z320, z321, z322, z323, z324, z325, z326, z327, z328, z329, z330, z331, z332, z333, z334, z335, z336, z337, z338, z339, z340, z341, z342, z343, z344, z345, z346, z347, z348, z349, z350, z351, z352, z353, z354], defers := [] } w := by
  have n1 : (n : Int) ≤ 100 := by omega
  have HC := hid hC
  have HQ := hid hQ
  have hHl : H.length = 8 := by rw [← hH]; exact hmac_length _ _
  have HTg : Hid (sumW (xorL 1549556828 m.K ++ sumW (xorL 909522486 m.K ++ m.xs)) = H) := hid (by
    rw [← hH, hmx]
    exact tag_math _ (bytesD ks) xs (bytesD_bts _) hmK hC.wm)
  have HH := hid hH
  have HKw := hid hKw
  have HSt := hid hst
  have HK0 := hid hk
  clear hC hQ hH hKw hst hk hmK hmx
  refine sfx_walk 30 rfl (by simp only [sfx]; rfl) ?_
  go_upto_region 50 with (at_builtin; refine wpList_append_xg rfl _ _ rfl vx n gx (List.replicate n 1) rfl (((HK0.out.on (below_one _ _)).get 1 rfl).xg) (by simp) w.heap.size 3 rfl (at_mark w .u8 5 [3] (0, 0)) (by omega) ?_; intro gp cp w1 hc1 hm1 hr1 hb1; have HK1 := hid (HK0.out.on ((below_one _ _).trans (hb1.mono (by simp)))); have HP1 := hid hr1; clear hr1 hb1)
  go_upto_region 51 with (at_builtin; refine wpList_append_xg rfl _ _ rfl vy n gy (List.replicate n 2) rfl (((HK1.out.on (below_one _ _)).get 0 rfl).xg) (by simp) w1.heap.size 4 rfl (at_mark w1 .u8 5 [4] (0, 0)) (by omega) ?_; intro gq cq' w2 hc2 hm2 hr2 hb2; have HK2 := hid (HK1.out.on ((below_one _ _).trans (hb2.mono (by simp)))); have HP2 := hid (And.intro (HP1.out.on ((below_one _ _).trans (hb2.mono (by simp)))) hr2); clear hr2 hb2)
  clear HK0 HK1 HP1
  have HK4 := hid (HK2.out.on (Below.refl _ _).drew)
  have HP4 := hid (And.intro (HP2.out.1.on (Below.refl _ _).drew) (HP2.out.2.on (Below.refl _ _).drew))
  clear HK2 HP2
  refine wp_region_held_drew (S := fun w => KM W w cs cq (some m) [⟨gy, 5, .u8, cy, vy, List.replicate n 2⟩, ⟨gx, 5, .u8, cx, vx, List.replicate n 1⟩, ⟨g14, 26, .u32, 8, some ⟨g14, 0, none⟩, KY⟩, ⟨gw, 26, .u32, 8, some ⟨gw, 0, none⟩, H⟩]) (by kernel_rfl) HK4.out (fun hHeld => ?_)
  refine wpAnyH_take (i := 0) (oi := { dst := some 276, op := Op.load 26 (Operand.tmp 14), type := 26, pos := "outright.go:203", after := #[], guard := none }) (v := .agg (KY.map (Value.int .u32)).toArray) rfl (by kernel_rfl) (by kernel_rfl) (by kernel_rfl) (fun _ _ _ h => h) (yieldsIf_load_mid (by rfl) _ _ rfl _ _ rfl _ _ (fun w hSw => hSw.rng 2 rfl) Tryd.underlying26 rfl (by rw [List.length_map, hKl]; exact size26)) (by assumption) ?_
  simp only [Act.put, List.setIfInBounds_toArray, List.set_cons_zero, List.set_cons_succ]
  refine wpAnyH_take (i := 1) (oi := { dst := some 277, op := Op.fieldAddr 24 (Operand.tmp 3) 2, type := 0, pos := "outright.go:203", after := #[], guard := none }) (v := .pointer (some ⟨W.heap.size + 1, 2, none⟩)) rfl (by kernel_rfl) (by kernel_rfl) (by kernel_rfl) (fun _ _ _ h => h) (Or.inl ⟨by rfl, by intro w hSw; go_simp⟩) (by assumption) ?_
  simp only [Act.put, List.setIfInBounds_toArray, List.set_cons_zero, List.set_cons_succ]
  refine wpAnyH_take (i := 2) (oi := { dst := some 278, op := Op.load 22 (Operand.tmp 277), type := 22, pos := "outright.go:203", after := #[{ on := 1, ground := Ground.data }], guard := none }) (v := .slice ia il ic) rfl (by kernel_rfl) (by kernel_rfl) (by kernel_rfl) (fun _ _ _ h => h) (Or.inl ⟨by rfl, by intro w hSw; have hc := (hSw.BQ.cell 2).trans HQ.out.q2; go_simp⟩) (by assumption) ?_
  simp only [Act.put, List.setIfInBounds_toArray, List.set_cons_zero, List.set_cons_succ]
  refine wpAnyH_take (i := 4) (oi := { dst := some 280, op := Op.move (Operand.tmp 15), type := 3, pos := "outright.go:203", after := #[], guard := none }) (v := .int .i64 (n : Int)) rfl (by kernel_rfl) (by kernel_rfl) (by kernel_rfl) (fun _ _ _ h => h) (Or.inl ⟨by rfl, by intro w hSw; go_simp⟩) (by assumption) ?_
  simp only [Act.put, List.setIfInBounds_toArray, List.set_cons_zero, List.set_cons_succ]
  refine wpAnyH_ready (rs := [3]) (by kernel_rfl) (by simp) (AllReadyH.cons (o := { dst := some 279, op := Op.call { callee := Callee.value (Operand.func 8), args := #[Operand.tmp 278], argTypes := #[22] }, type := 22, pos := "outright.go:203", after := #[{ on := 2, ground := Ground.data }], guard := none }) rfl (fun KQ hK => ?_) AllReadyH.nil)
  go_simp
  refine (bytes_own _ ia il ic is HC.out.hil (HC.out.AI _ HK4.out.bw) HC.out.S5 (by have := HC.out.hin; omega)).mono ?_
  rintro e w5 ⟨vo5, vc5, rfl, _, a5, s5, hb5⟩
  have HK5 := hid (HK4.out.on hb5)
  have HA5 := hid (And.intro a5 s5)
  have HP5 := hid (And.intro (HP4.out.1.on hb5) (HP4.out.2.on hb5))
  clear a5 s5 hb5
  go_wp2_with fail
  refine hK.out _ _ HK5.out (fun hHeld => ?_)
  clear hK KQ
  try simp only [Act.put, List.setIfInBounds_toArray, List.set_cons_zero, List.set_cons_succ]
  refine wpAnyH_ready (rs := [5]) (by kernel_rfl) (by simp) (AllReadyH.cons (o := { dst := some 281, op := Op.call { callee := Callee.value (Operand.func 12), args := #[Operand.tmp 276, Operand.tmp 279, Operand.tmp 280], argTypes := #[26, 22, 3] }, type := 32, pos := "outright.go:203", after := #[{ on := 0, ground := Ground.data }, { on := 3, ground := Ground.data }, { on := 4, ground := Ground.data }, { on := 3, ground := Ground.chain }], guard := none }) rfl (fun KQ hK => ?_) AllReadyH.nil)
  go_simp
  refine (expand_any w5 HK5.out.tabs KY hKl HKw.out vo5 il vc5 is HC.out.hil HC.out.pi HA5.out.1 HA5.out.2 (by have := HC.out.hin; omega) n (by omega)).mono ?_
  rintro e w6 ⟨vz, rfl, oz, hb6⟩
  obtain ⟨gz, cz, rz, _⟩ := oz.row
  have HK6 := hid (HK5.out.on hb6)
  have HZ6 := hid rz
  have HP6 := hid (And.intro (HP5.out.1.on hb6) (HP5.out.2.on hb6))
  clear rz oz hb6
  go_wp2_with fail
  refine hK.out _ _ HK6.out (fun hHeld => ?_)
  clear hK KQ
  try simp only [Act.put, List.setIfInBounds_toArray, List.set_cons_zero, List.set_cons_succ]
  refine wpAnyH_take (i := 6) (oi := { dst := some 275, op := Op.move (Operand.tmp 281), type := 32, pos := "outright.go:203", after := #[{ on := 5, ground := Ground.data }], guard := none }) (v := .tuple #[.slice vz n n, .int .i64 0]) rfl (by kernel_rfl) (by kernel_rfl) (by kernel_rfl) (fun _ _ _ h => h) (Or.inl ⟨by rfl, by intro w hSw; go_simp⟩) (by assumption) ?_
  simp only [Act.put, List.setIfInBounds_toArray, List.set_cons_zero, List.set_cons_succ]
  refine wpAnyH_take (i := 7) (oi := { dst := some 282, op := Op.extract (Operand.tmp 275) 0, type := 22, pos := "outright.go:203", after := #[{ on := 6, ground := Ground.data }], guard := none }) (v := .slice vz n n) rfl (by kernel_rfl) (by kernel_rfl) (by kernel_rfl) (fun _ _ _ h => h) (Or.inl ⟨by rfl, by intro w hSw; go_simp⟩) (by assumption) ?_
  simp only [Act.put, List.setIfInBounds_toArray, List.set_cons_zero, List.set_cons_succ]
  refine wpAnyH_take (i := 8) (oi := { dst := some 283, op := Op.extract (Operand.tmp 275) 1, type := 31, pos := "outright.go:203", after := #[{ on := 6, ground := Ground.data }, { on := 9, ground := Ground.gcOnly Departure.lateStores }], guard := none }) (v := .int .i64 0) rfl (by kernel_rfl) (by kernel_rfl) (by kernel_rfl) (fun _ _ _ h => h) (Or.inl ⟨by rfl, by intro w hSw; go_simp⟩) (by assumption) ?_
  simp only [Act.put, List.setIfInBounds_toArray, List.set_cons_zero, List.set_cons_succ]
  refine wpAnyH_ready (rs := [9]) (by kernel_rfl) (by simp) (AllReadyH.cons (o := { dst := some 34, op := Op.assign (Operand.tmp 282), type := 22, pos := "outright.go:203", after := #[{ on := 7, ground := Ground.data }, { on := 5, ground := Ground.chain }, { on := 0, ground := Ground.phase }, { on := 1, ground := Ground.phase }, { on := 2, ground := Ground.phase }, { on := 3, ground := Ground.phase }, { on := 4, ground := Ground.phase }, { on := 5, ground := Ground.phase }, { on := 6, ground := Ground.phase }, { on := 7, ground := Ground.phase }, { on := 8, ground := Ground.textOnly Departure.lateStores }], guard := none }) rfl (fun KQ hK => ?_) AllReadyH.nil)
  go_simp
  refine hK.out _ _ HK6.out (fun hHeld => ?_)
  clear hK KQ
  try simp only [Act.put, List.setIfInBounds_toArray, List.set_cons_zero, List.set_cons_succ]
  refine wpAnyH_ready (rs := [10]) (by kernel_rfl) (by simp) (AllReadyH.cons (o := { dst := some 35, op := Op.assign (Operand.tmp 283), type := 31, pos := "outright.go:203", after := #[{ on := 8, ground := Ground.data }, { on := 9, ground := Ground.chain }, { on := 0, ground := Ground.phase }, { on := 1, ground := Ground.phase }, { on := 2, ground := Ground.phase }, { on := 3, ground := Ground.phase }, { on := 4, ground := Ground.phase }, { on := 5, ground := Ground.phase }, { on := 6, ground := Ground.phase }, { on := 7, ground := Ground.phase }, { on := 8, ground := Ground.phase }, { on := 9, ground := Ground.phase }], guard := none }) rfl (fun KQ hK => ?_) AllReadyH.nil)
  go_simp
  refine hK.out _ _ HK6.out (fun hHeld => ?_)
  clear hK KQ
  try simp only [Act.put, List.setIfInBounds_toArray, List.set_cons_zero, List.set_cons_succ]
  refine wpAnyH_done (by kernel_rfl) ?_ _
  clear hHeld HK4 HP4 HK5 HA5 HP5
  have HCv := hid (fun w (h : (⟨gz, 5, .u8, cz, vz, okm (bytesD KY) is n⟩ : Rz).ok w) => h.conv (n := n) (c := n) (okm_length _ _ _))
  rw [HSt.out] at HCv
  have k1 : n + 1 ≤ cp := hc1
  have k2 : n + 1 ≤ cq' := hc2
  go_upto_region 52 with fail
  go_wp2_with fail
  go_loopw [36] (fun i wr => ∃ j : Nat, j ≤ n ∧ i = .int .i64 (j : Int) ∧ w6 = wr) (fun i _ => n - (intOf i).toNat)
  case atStart => exact ⟨0, Nat.zero_le _, rfl, rfl⟩
  case round =>
    obtain ⟨j, hj, rfl, rfl⟩ := hrel
    by_cases hlt : j < n
    · have q1 : (j : Int) < (n : Int) := by omega
      obtain ⟨rfl, cx1⟩ := HK6.out.x 1 rfl hlt
      obtain ⟨rfl, cy1⟩ := HK6.out.x 0 rfl hlt
      have cp1 := HP6.out.1.cell j (by simp; omega)
      have cq1 := HP6.out.2.cell j (by simp; omega)
      rw [snoc_getD n j _ _ hlt] at cp1 cq1
      have q2 : (j : Int) < (n : Int) + 1 := by omega
      go_wp2_with fail
      go_roundw
      case measure => simp [intOf] <;> omega
      case rel => exact ⟨j + 1, by omega, by simp, trivial⟩
    · have hjn : j = n := by omega
      subst hjn
      have HS : Hid (∀ x, KM W x cs cq (some m) [⟨gy, 5, .u8, cy, vy, List.replicate j 2⟩, ⟨gx, 5, .u8, cx, vx, List.replicate j 1⟩, ⟨g14, 26, .u32, 8, some ⟨g14, 0, none⟩, KY⟩, ⟨gw, 26, .u32, 8, some ⟨gw, 0, none⟩, H⟩] ∧ Rw x gp (List.replicate j 1 ++ [3]) ∧ Rw x gq (List.replicate j 2 ++ [4]) ∧ (⟨gz, 5, .u8, cz, vz, okm (bytesD KY) is j⟩ : Rz).ok x → KM W x cs cq (some m) [⟨gy, 5, .u8, cy, vy, List.replicate j 2⟩, ⟨gx, 5, .u8, cx, vx, List.replicate j 1⟩, ⟨g14, 26, .u32, 8, some ⟨g14, 0, none⟩, KY⟩, ⟨gw, 26, .u32, 8, some ⟨gw, 0, none⟩, H⟩] ∧ x.cell? ⟨gp, j, none⟩ = some (.int .u8 3) ∧ x.cell? ⟨gq, j, none⟩ = some (.int .u8 4) ∧ (convert 22 9 (.slice vz j j)).run Tryd.prog x = .ok (.string st) x) := hid (fun x h => ⟨h.1, by rw [h.2.1.cell j (by simp), snoc_last], by rw [h.2.2.1.cell j (by simp), snoc_last], HCv.out x h.2.2.2⟩)
      have HST : Hid (∀ x x', KM W x cs cq (some m) [⟨gy, 5, .u8, cy, vy, List.replicate j 2⟩, ⟨gx, 5, .u8, cx, vx, List.replicate j 1⟩, ⟨g14, 26, .u32, 8, some ⟨g14, 0, none⟩, KY⟩, ⟨gw, 26, .u32, 8, some ⟨gw, 0, none⟩, H⟩] ∧ Rw x gp (List.replicate j 1 ++ [3]) ∧ Rw x gq (List.replicate j 2 ++ [4]) ∧ (⟨gz, 5, .u8, cz, vz, okm (bytesD KY) is j⟩ : Rz).ok x → Below x.heap.size x x' → KM W x' cs cq (some m) [⟨gy, 5, .u8, cy, vy, List.replicate j 2⟩, ⟨gx, 5, .u8, cx, vx, List.replicate j 1⟩, ⟨g14, 26, .u32, 8, some ⟨g14, 0, none⟩, KY⟩, ⟨gw, 26, .u32, 8, some ⟨gw, 0, none⟩, H⟩] ∧ Rw x' gp (List.replicate j 1 ++ [3]) ∧ Rw x' gq (List.replicate j 2 ++ [4]) ∧ (⟨gz, 5, .u8, cz, vz, okm (bytesD KY) is j⟩ : Rz).ok x') := hid (fun x x' h hb => ⟨h.1.on hb, h.2.1.on hb, h.2.2.1.on hb, h.2.2.2.on hb⟩)
      have HX6 := hid (And.intro HK6.out (And.intro HP6.out.1 (And.intro HP6.out.2 HZ6.out)))
      have e26 := eq26 H H hHl hHl
      rw [decide_eq_true rfl] at e26
      have q9 : ¬ ((j : Int) + 1 ≤ (j : Int)) := by omega
      go_upto_region 57 with fail
      have HX7 := hid (HST.out _ _ HX6.out (Below.refl _ _).drew)
      clear HX6 HK6 HP6 HZ6 HCv
      refine wp_region_held_drew (S := fun w => KM W w cs cq (some m) [⟨gy, 5, .u8, cy, vy, List.replicate j 2⟩, ⟨gx, 5, .u8, cx, vx, List.replicate j 1⟩, ⟨g14, 26, .u32, 8, some ⟨g14, 0, none⟩, KY⟩, ⟨gw, 26, .u32, 8, some ⟨gw, 0, none⟩, H⟩] ∧ w.cell? ⟨gp, j, none⟩ = some (.int .u8 3) ∧ w.cell? ⟨gq, j, none⟩ = some (.int .u8 4) ∧ (convert 22 9 (.slice vz j j)).run Tryd.prog w = .ok (.string st) w) (by kernel_rfl) (HS.out _ HX7.out) (fun hHeld => ?_)
      refine wpAnyH_take (i := 0) (oi := { dst := some 315, op := Op.move (Operand.tmp 32), type := 22, pos := "outright.go:209", after := #[], guard := none }) (v := .slice (some ⟨gp, 0, none⟩) (j + 1) cp) rfl (by kernel_rfl) (by kernel_rfl) (by kernel_rfl) (fun _ _ _ h => h) (Or.inl ⟨by rfl, by intro w hSw; go_simp⟩) (by assumption) ?_
      simp only [Act.put, List.setIfInBounds_toArray, List.set_cons_zero, List.set_cons_succ]
      refine wpAnyH_take (i := 1) (oi := { dst := some 316, op := Op.move (Operand.tmp 15), type := 3, pos := "outright.go:209", after := #[], guard := none }) (v := .int .i64 (j : Int)) rfl (by kernel_rfl) (by kernel_rfl) (by kernel_rfl) (fun _ _ _ h => h) (Or.inl ⟨by rfl, by intro w hSw; go_simp⟩) (by assumption) ?_
      simp only [Act.put, List.setIfInBounds_toArray, List.set_cons_zero, List.set_cons_succ]
      refine wpAnyH_take (i := 2) (oi := { dst := some 317, op := Op.indexAddr 22 (Operand.tmp 315) (Operand.tmp 316), type := 0, pos := "outright.go:209", after := #[{ on := 0, ground := Ground.data }, { on := 1, ground := Ground.data }], guard := none }) (v := .pointer (some ⟨gp, j, none⟩)) rfl (by kernel_rfl) (by kernel_rfl) (by kernel_rfl) (fun _ _ _ h => h) (Or.inl ⟨by rfl, by intro w hSw; go_simp⟩) (by assumption) ?_
      simp only [Act.put, List.setIfInBounds_toArray, List.set_cons_zero, List.set_cons_succ]
      refine wpAnyH_take (i := 3) (oi := { dst := some 318, op := Op.load 5 (Operand.tmp 317), type := 5, pos := "outright.go:209", after := #[{ on := 2, ground := Ground.data }], guard := none }) (v := .int .u8 3) rfl (by kernel_rfl) (by kernel_rfl) (by kernel_rfl) (fun _ _ _ h => h) (Or.inl ⟨by rfl, by intro w hSw; have hc := hSw.2.1; go_simp⟩) (by assumption) ?_
      simp only [Act.put, List.setIfInBounds_toArray, List.set_cons_zero, List.set_cons_succ]
      refine wpAnyH_take (i := 4) (oi := { dst := some 319, op := Op.binOp BinOp.eql 5 (Operand.tmp 318) (Operand.const (Value.int IntKind.u8 3)) 5, type := 4, pos := "outright.go:209", after := #[{ on := 3, ground := Ground.data }], guard := none }) (v := .bool true) rfl (by kernel_rfl) (by kernel_rfl) (by kernel_rfl) (fun _ _ _ h => h) (Or.inl ⟨by rfl, by intro w hSw; go_simp⟩) (by assumption) ?_
      simp only [Act.put, List.setIfInBounds_toArray, List.set_cons_zero, List.set_cons_succ]
      refine wpAnyH_take (i := 5) (oi := { dst := some 320, op := Op.move (Operand.tmp 319), type := 4, pos := "outright.go:209", after := #[{ on := 4, ground := Ground.data }], guard := none }) (v := .bool true) rfl (by kernel_rfl) (by kernel_rfl) (by kernel_rfl) (fun _ _ _ h => h) (Or.inl ⟨by rfl, by intro w hSw; go_simp⟩) (by assumption) ?_
      simp only [Act.put, List.setIfInBounds_toArray, List.set_cons_zero, List.set_cons_succ]
      refine wpAnyH_take (i := 6) (oi := { dst := some 321, op := Op.move (Operand.tmp 33), type := 22, pos := "outright.go:209", after := #[{ on := 5, ground := Ground.guard }], guard := some (5, true) }) (v := .slice (some ⟨gq, 0, none⟩) (j + 1) cq') rfl (by kernel_rfl) (by kernel_rfl) (by kernel_rfl) (fun _ _ _ h => h) (Or.inl ⟨by rfl, by intro w hSw; go_simp⟩) (by assumption) ?_
      simp only [Act.put, List.setIfInBounds_toArray, List.set_cons_zero, List.set_cons_succ]
      refine wpAnyH_take (i := 7) (oi := { dst := some 322, op := Op.move (Operand.tmp 15), type := 3, pos := "outright.go:209", after := #[{ on := 5, ground := Ground.guard }], guard := some (5, true) }) (v := .int .i64 (j : Int)) rfl (by kernel_rfl) (by kernel_rfl) (by kernel_rfl) (fun _ _ _ h => h) (Or.inl ⟨by rfl, by intro w hSw; go_simp⟩) (by assumption) ?_
      simp only [Act.put, List.setIfInBounds_toArray, List.set_cons_zero, List.set_cons_succ]
      refine wpAnyH_take (i := 8) (oi := { dst := some 323, op := Op.indexAddr 22 (Operand.tmp 321) (Operand.tmp 322), type := 0, pos := "outright.go:209", after := #[{ on := 6, ground := Ground.data }, { on := 7, ground := Ground.data }, { on := 5, ground := Ground.guard }], guard := some (5, true) }) (v := .pointer (some ⟨gq, j, none⟩)) rfl (by kernel_rfl) (by kernel_rfl) (by kernel_rfl) (fun _ _ _ h => h) (Or.inl ⟨by rfl, by intro w hSw; go_simp⟩) (by assumption) ?_
      simp only [Act.put, List.setIfInBounds_toArray, List.set_cons_zero, List.set_cons_succ]
      refine wpAnyH_take (i := 9) (oi := { dst := some 324, op := Op.load 5 (Operand.tmp 323), type := 5, pos := "outright.go:209", after := #[{ on := 8, ground := Ground.data }, { on := 5, ground := Ground.guard }], guard := some (5, true) }) (v := .int .u8 4) rfl (by kernel_rfl) (by kernel_rfl) (by kernel_rfl) (fun _ _ _ h => h) (Or.inl ⟨by rfl, by intro w hSw; have hc := hSw.2.2.1; go_simp⟩) (by assumption) ?_
      simp only [Act.put, List.setIfInBounds_toArray, List.set_cons_zero, List.set_cons_succ]
      refine wpAnyH_take (i := 10) (oi := { dst := some 325, op := Op.binOp BinOp.eql 5 (Operand.tmp 324) (Operand.const (Value.int IntKind.u8 4)) 5, type := 4, pos := "outright.go:209", after := #[{ on := 9, ground := Ground.data }, { on := 5, ground := Ground.guard }], guard := some (5, true) }) (v := .bool true) rfl (by kernel_rfl) (by kernel_rfl) (by kernel_rfl) (fun _ _ _ h => h) (Or.inl ⟨by rfl, by intro w hSw; go_simp⟩) (by assumption) ?_
      simp only [Act.put, List.setIfInBounds_toArray, List.set_cons_zero, List.set_cons_succ]
      refine wpAnyH_take (i := 11) (oi := { dst := some 326, op := Op.pick (Operand.tmp 320) (Operand.tmp 325) (Operand.const (Value.bool false)), type := 4, pos := "outright.go:209", after := #[{ on := 5, ground := Ground.data }, { on := 10, ground := Ground.data }], guard := none }) (v := .bool true) rfl (by kernel_rfl) (by kernel_rfl) (by kernel_rfl) (fun _ _ _ h => h) (Or.inl ⟨by rfl, by intro w hSw; go_simp⟩) (by assumption) ?_
      simp only [Act.put, List.setIfInBounds_toArray, List.set_cons_zero, List.set_cons_succ]
      refine wpAnyH_take (i := 12) (oi := { dst := some 327, op := Op.move (Operand.tmp 326), type := 4, pos := "outright.go:209", after := #[{ on := 11, ground := Ground.data }, { on := 5, ground := Ground.chain }], guard := none }) (v := .bool true) rfl (by kernel_rfl) (by kernel_rfl) (by kernel_rfl) (fun _ _ _ h => h) (Or.inl ⟨by rfl, by intro w hSw; go_simp⟩) (by assumption) ?_
      simp only [Act.put, List.setIfInBounds_toArray, List.set_cons_zero, List.set_cons_succ]
      refine wpAnyH_take (i := 13) (oi := { dst := some 328, op := Op.move (Operand.tmp 24), type := 9, pos := "outright.go:209", after := #[{ on := 12, ground := Ground.guard }], guard := some (12, true) }) (v := .string st) rfl (by kernel_rfl) (by kernel_rfl) (by kernel_rfl) (fun _ _ _ h => h) (Or.inl ⟨by rfl, by intro w hSw; go_simp⟩) (by assumption) ?_
      simp only [Act.put, List.setIfInBounds_toArray, List.set_cons_zero, List.set_cons_succ]
      refine wpAnyH_take (i := 14) (oi := { dst := some 329, op := Op.move (Operand.tmp 20), type := 9, pos := "outright.go:209", after := #[{ on := 12, ground := Ground.guard }], guard := some (12, true) }) (v := .string st) rfl (by kernel_rfl) (by kernel_rfl) (by kernel_rfl) (fun _ _ _ h => h) (Or.inl ⟨by rfl, by intro w hSw; go_simp⟩) (by assumption) ?_
      simp only [Act.put, List.setIfInBounds_toArray, List.set_cons_zero, List.set_cons_succ]
      refine wpAnyH_take (i := 15) (oi := { dst := some 330, op := Op.binOp BinOp.eql 9 (Operand.tmp 328) (Operand.tmp 329) 9, type := 4, pos := "outright.go:209", after := #[{ on := 13, ground := Ground.data }, { on := 14, ground := Ground.data }, { on := 12, ground := Ground.guard }], guard := some (12, true) }) (v := .bool true) rfl (by kernel_rfl) (by kernel_rfl) (by kernel_rfl) (fun _ _ _ h => h) (Or.inl ⟨by rfl, by intro w hSw; go_simp⟩) (by assumption) ?_
      simp only [Act.put, List.setIfInBounds_toArray, List.set_cons_zero, List.set_cons_succ]
      refine wpAnyH_take (i := 16) (oi := { dst := some 331, op := Op.pick (Operand.tmp 327) (Operand.tmp 330) (Operand.const (Value.bool false)), type := 4, pos := "outright.go:209", after := #[{ on := 12, ground := Ground.data }, { on := 15, ground := Ground.data }], guard := none }) (v := .bool true) rfl (by kernel_rfl) (by kernel_rfl) (by kernel_rfl) (fun _ _ _ h => h) (Or.inl ⟨by rfl, by intro w hSw; go_simp⟩) (by assumption) ?_
      simp only [Act.put, List.setIfInBounds_toArray, List.set_cons_zero, List.set_cons_succ]
      refine wpAnyH_take (i := 17) (oi := { dst := some 332, op := Op.move (Operand.tmp 331), type := 4, pos := "outright.go:209", after := #[{ on := 16, ground := Ground.data }, { on := 12, ground := Ground.chain }], guard := none }) (v := .bool true) rfl (by kernel_rfl) (by kernel_rfl) (by kernel_rfl) (fun _ _ _ h => h) (Or.inl ⟨by rfl, by intro w hSw; go_simp⟩) (by assumption) ?_
      simp only [Act.put, List.setIfInBounds_toArray, List.set_cons_zero, List.set_cons_succ]
      refine wpAnyH_take (i := 18) (oi := { dst := some 333, op := Op.move (Operand.tmp 34), type := 22, pos := "outright.go:209", after := #[{ on := 17, ground := Ground.guard }], guard := some (17, true) }) (v := .slice vz j j) rfl (by kernel_rfl) (by kernel_rfl) (by kernel_rfl) (fun _ _ _ h => h) (Or.inl ⟨by rfl, by intro w hSw; go_simp⟩) (by assumption) ?_
      simp only [Act.put, List.setIfInBounds_toArray, List.set_cons_zero, List.set_cons_succ]
      refine wpAnyH_take (i := 19) (oi := { dst := some 334, op := Op.convert 22 9 (Operand.tmp 333), type := 9, pos := "outright.go:209", after := #[{ on := 18, ground := Ground.data }, { on := 17, ground := Ground.guard }], guard := some (17, true) }) (v := .string st) rfl (by kernel_rfl) (by kernel_rfl) (by kernel_rfl) (fun _ _ _ h => h) (Or.inl ⟨by rfl, by intro w hSw; have hcv := hSw.2.2.2; go_simp⟩) (by assumption) ?_
      simp only [Act.put, List.setIfInBounds_toArray, List.set_cons_zero, List.set_cons_succ]
      refine wpAnyH_take (i := 20) (oi := { dst := some 335, op := Op.move (Operand.tmp 20), type := 9, pos := "outright.go:209", after := #[{ on := 17, ground := Ground.guard }], guard := some (17, true) }) (v := .string st) rfl (by kernel_rfl) (by kernel_rfl) (by kernel_rfl) (fun _ _ _ h => h) (Or.inl ⟨by rfl, by intro w hSw; go_simp⟩) (by assumption) ?_
      simp only [Act.put, List.setIfInBounds_toArray, List.set_cons_zero, List.set_cons_succ]
      refine wpAnyH_take (i := 21) (oi := { dst := some 336, op := Op.binOp BinOp.eql 9 (Operand.tmp 334) (Operand.tmp 335) 9, type := 4, pos := "outright.go:209", after := #[{ on := 19, ground := Ground.data }, { on := 20, ground := Ground.data }, { on := 17, ground := Ground.guard }], guard := some (17, true) }) (v := .bool true) rfl (by kernel_rfl) (by kernel_rfl) (by kernel_rfl) (fun _ _ _ h => h) (Or.inl ⟨by rfl, by intro w hSw; go_simp⟩) (by assumption) ?_
      simp only [Act.put, List.setIfInBounds_toArray, List.set_cons_zero, List.set_cons_succ]
      refine wpAnyH_take (i := 22) (oi := { dst := some 337, op := Op.pick (Operand.tmp 332) (Operand.tmp 336) (Operand.const (Value.bool false)), type := 4, pos := "outright.go:209", after := #[{ on := 17, ground := Ground.data }, { on := 21, ground := Ground.data }], guard := none }) (v := .bool true) rfl (by kernel_rfl) (by kernel_rfl) (by kernel_rfl) (fun _ _ _ h => h) (Or.inl ⟨by rfl, by intro w hSw; go_simp⟩) (by assumption) ?_
      simp only [Act.put, List.setIfInBounds_toArray, List.set_cons_zero, List.set_cons_succ]
      refine wpAnyH_take (i := 23) (oi := { dst := some 338, op := Op.move (Operand.tmp 337), type := 4, pos := "outright.go:209", after := #[{ on := 22, ground := Ground.data }, { on := 17, ground := Ground.chain }], guard := none }) (v := .bool true) rfl (by kernel_rfl) (by kernel_rfl) (by kernel_rfl) (fun _ _ _ h => h) (Or.inl ⟨by rfl, by intro w hSw; go_simp⟩) (by assumption) ?_
      simp only [Act.put, List.setIfInBounds_toArray, List.set_cons_zero, List.set_cons_succ]
      refine wpAnyH_take (i := 24) (oi := { dst := some 339, op := Op.move (Operand.tmp 13), type := 42, pos := "outright.go:209", after := #[{ on := 23, ground := Ground.guard }], guard := some (23, true) }) (v := .pointer (some ⟨m.gm, 0, none⟩)) rfl (by kernel_rfl) (by kernel_rfl) (by kernel_rfl) (fun _ _ _ h => h) (Or.inl ⟨by rfl, by intro w hSw; go_simp⟩) (by assumption) ?_
      simp only [Act.put, List.setIfInBounds_toArray, List.set_cons_zero, List.set_cons_succ]
      refine wpAnyH_take (i := 26) (oi := { dst := some 341, op := Op.load 26 (Operand.tmp 12), type := 26, pos := "outright.go:209", after := #[{ on := 23, ground := Ground.guard }], guard := some (23, true) }) (v := .agg (H.map (Value.int .u32)).toArray) rfl (by kernel_rfl) (by kernel_rfl) (by kernel_rfl) (fun _ _ _ h => h) (yieldsIf_load_mid (by rfl) _ _ rfl _ _ rfl _ _ (fun w hSw => hSw.1.rng 3 rfl) Tryd.underlying26 rfl (by rw [List.length_map, hHl]; exact size26)) (by assumption) ?_
      simp only [Act.put, List.setIfInBounds_toArray, List.set_cons_zero, List.set_cons_succ]
      refine wpAnyH_ready (rs := [25]) (by kernel_rfl) (by simp) (AllReadyH.cons (o := { dst := some 340, op := Op.call { callee := Callee.value (Operand.func 19), args := #[Operand.tmp 339], argTypes := #[42] }, type := 26, pos := "outright.go:209", after := #[{ on := 24, ground := Ground.data }, { on := 23, ground := Ground.chain }, { on := 23, ground := Ground.guard }], guard := some (23, true) }) rfl (fun KQ hK => ?_) AllReadyH.nil)
      go_simp
      refine (tag_mac _ HX7.out.1.tabs m.gm m.gi m.go m.K m.xs (HX7.out.1.MH m rfl).1).mono ?_
      rintro e w8 ⟨rfl, hb8⟩
      rw [HTg.out]
      have HX8 := hid (HST.out _ _ HX7.out hb8)
      clear hb8
      go_wp2_with fail
      refine hK.out _ _ (HS.out _ HX8.out) (fun hHeld => ?_)
      clear hK KQ
      try simp only [Act.put, List.setIfInBounds_toArray, List.set_cons_zero, List.set_cons_succ]
      refine wpAnyH_take (i := 27) (oi := { dst := some 342, op := Op.binOp BinOp.eql 26 (Operand.tmp 340) (Operand.tmp 341) 26, type := 4, pos := "outright.go:209", after := #[{ on := 25, ground := Ground.data }, { on := 26, ground := Ground.data }, { on := 23, ground := Ground.guard }], guard := some (23, true) }) (v := .bool true) rfl (by kernel_rfl) (by kernel_rfl) (by kernel_rfl) (fun _ _ _ h => h) (Or.inl ⟨by rfl, by intro w hSw; have he := e26; simp only [Ag]; go_simp⟩) (by assumption) ?_
      simp only [Act.put, List.setIfInBounds_toArray, List.set_cons_zero, List.set_cons_succ]
      refine wpAnyH_take (i := 28) (oi := { dst := some 343, op := Op.pick (Operand.tmp 338) (Operand.tmp 342) (Operand.const (Value.bool false)), type := 4, pos := "outright.go:209", after := #[{ on := 23, ground := Ground.data }, { on := 27, ground := Ground.data }], guard := none }) (v := .bool true) rfl (by kernel_rfl) (by kernel_rfl) (by kernel_rfl) (fun _ _ _ h => h) (Or.inl ⟨by rfl, by intro w hSw; go_simp⟩) (by assumption) ?_
      simp only [Act.put, List.setIfInBounds_toArray, List.set_cons_zero, List.set_cons_succ]
      refine wpAnyH_take (i := 29) (oi := { dst := some 344, op := Op.move (Operand.tmp 343), type := 4, pos := "outright.go:209", after := #[{ on := 28, ground := Ground.data }, { on := 25, ground := Ground.chain }], guard := none }) (v := .bool true) rfl (by kernel_rfl) (by kernel_rfl) (by kernel_rfl) (fun _ _ _ h => h) (Or.inl ⟨by rfl, by intro w hSw; go_simp⟩) (by assumption) ?_
      simp only [Act.put, List.setIfInBounds_toArray, List.set_cons_zero, List.set_cons_succ]
      refine wpAnyH_take (i := 30) (oi := { dst := some 345, op := Op.fieldAddr 39 (Operand.tmp 2) 0, type := 0, pos := "outright.go:209", after := #[{ on := 29, ground := Ground.guard }], guard := some (29, true) }) (v := .pointer (some ⟨W.heap.size, 0, none⟩)) rfl (by kernel_rfl) (by kernel_rfl) (by kernel_rfl) (fun _ _ _ h => h) (Or.inl ⟨by rfl, by intro w hSw; go_simp⟩) (by assumption) ?_
      simp only [Act.put, List.setIfInBounds_toArray, List.set_cons_zero, List.set_cons_succ]
      refine wpAnyH_take (i := 31) (oi := { dst := some 346, op := Op.load 35 (Operand.tmp 345), type := 35, pos := "outright.go:209", after := #[{ on := 30, ground := Ground.data }, { on := 29, ground := Ground.guard }], guard := some (29, true) }) (v := .slice ka kn kc) rfl (by kernel_rfl) (by kernel_rfl) (by kernel_rfl) (fun _ _ _ h => h) (Or.inl ⟨by rfl, by intro w hSw; have hc := (hSw.1.BC.cell 0).trans HQ.out.c0; go_simp⟩) (by assumption) ?_
      simp only [Act.put, List.setIfInBounds_toArray, List.set_cons_zero, List.set_cons_succ]
      refine wpAnyH_take (i := 33) (oi := { dst := some 348, op := Op.fieldAddr 39 (Operand.tmp 2) 1, type := 0, pos := "outright.go:209", after := #[{ on := 29, ground := Ground.guard }], guard := some (29, true) }) (v := .pointer (some ⟨W.heap.size, 1, none⟩)) rfl (by kernel_rfl) (by kernel_rfl) (by kernel_rfl) (fun _ _ _ h => h) (Or.inl ⟨by rfl, by intro w hSw; go_simp⟩) (by assumption) ?_
      simp only [Act.put, List.setIfInBounds_toArray, List.set_cons_zero, List.set_cons_succ]
      refine wpAnyH_take (i := 34) (oi := { dst := some 349, op := Op.load 35 (Operand.tmp 348), type := 35, pos := "outright.go:209", after := #[{ on := 33, ground := Ground.data }, { on := 29, ground := Ground.guard }], guard := some (29, true) }) (v := .slice ma mn mc) rfl (by kernel_rfl) (by kernel_rfl) (by kernel_rfl) (fun _ _ _ h => h) (Or.inl ⟨by rfl, by intro w hSw; have hc := (hSw.1.BC.cell 1).trans HQ.out.c1; go_simp⟩) (by assumption) ?_
      simp only [Act.put, List.setIfInBounds_toArray, List.set_cons_zero, List.set_cons_succ]
      refine wpAnyH_take (i := 37) (oi := { dst := some 352, op := Op.load 26 (Operand.tmp 12), type := 26, pos := "outright.go:209", after := #[{ on := 29, ground := Ground.guard }], guard := some (29, true) }) (v := .agg (H.map (Value.int .u32)).toArray) rfl (by kernel_rfl) (by kernel_rfl) (by kernel_rfl) (fun _ _ _ h => h) (yieldsIf_load_mid (by rfl) _ _ rfl _ _ rfl _ _ (fun w hSw => hSw.1.rng 3 rfl) Tryd.underlying26 rfl (by rw [List.length_map, hHl]; exact size26)) (by assumption) ?_
      simp only [Act.put, List.setIfInBounds_toArray, List.set_cons_zero, List.set_cons_succ]
      refine wpAnyH_ready (rs := [32]) (by kernel_rfl) (by simp) (AllReadyH.cons (o := { dst := some 347, op := Op.call { callee := Callee.value (Operand.func 15), args := #[Operand.tmp 346], argTypes := #[35] }, type := 35, pos := "outright.go:209", after := #[{ on := 31, ground := Ground.data }, { on := 29, ground := Ground.chain }, { on := 29, ground := Ground.guard }], guard := some (29, true) }) rfl (fun KQ hK => ?_) AllReadyH.nil)
      go_simp
      refine (words_own _ ka kn kc ks HC.out.hkl (HC.out.AK _ HX8.out.1.bw) HC.out.S1 (by have := HC.out.hkn; omega)).mono ?_
      rintro e w9 ⟨vo9, vc9, rfl, _, a9, _, hb9⟩
      have HX9 := hid (HST.out _ _ HX8.out hb9)
      have HA9 := hid a9
      clear a9 hb9
      go_wp2_with fail
      refine hK.out _ _ (HS.out _ HX9.out) (fun hHeld => ?_)
      clear hK KQ
      try simp only [Act.put, List.setIfInBounds_toArray, List.set_cons_zero, List.set_cons_succ]
      refine wpAnyH_ready (rs := [35]) (by kernel_rfl) (by simp) (AllReadyH.cons (o := { dst := some 350, op := Op.call { callee := Callee.value (Operand.func 15), args := #[Operand.tmp 349], argTypes := #[35] }, type := 35, pos := "outright.go:209", after := #[{ on := 34, ground := Ground.data }, { on := 32, ground := Ground.chain }, { on := 29, ground := Ground.guard }], guard := some (29, true) }) rfl (fun KQ hK => ?_) AllReadyH.nil)
      go_simp
      refine (words_own _ ma mn mc xs HC.out.hml (HC.out.AM _ HX9.out.1.bw) HC.out.S2 (by have := HC.out.hmn; omega)).mono ?_
      rintro e wa ⟨voa, vca, rfl, _, aa, _, hba⟩
      have HXa := hid (HST.out _ _ HX9.out hba)
      have HAa := hid (And.intro (HA9.out.below hba) aa)
      clear aa hba
      go_wp2_with fail
      refine hK.out _ _ (HS.out _ HXa.out) (fun hHeld => ?_)
      clear hK KQ
      try simp only [Act.put, List.setIfInBounds_toArray, List.set_cons_zero, List.set_cons_succ]
      refine wpAnyH_ready (rs := [36]) (by kernel_rfl) (by simp) (AllReadyH.cons (o := { dst := some 351, op := Op.call { callee := Callee.value (Operand.func 14), args := #[Operand.tmp 347, Operand.tmp 350], argTypes := #[35, 35] }, type := 26, pos := "outright.go:209", after := #[{ on := 32, ground := Ground.data }, { on := 35, ground := Ground.data }, { on := 35, ground := Ground.chain }, { on := 29, ground := Ground.guard }], guard := some (29, true) }) rfl (fun KQ hK => ?_) AllReadyH.nil)
      go_simp
      refine (macTag_any wa HXa.out.1.tabs vo9 kn vc9 ks HC.out.hkl HC.out.wk HAa.out.1 HC.out.hkn voa mn vca xs HC.out.hml HC.out.wm HAa.out.2 HC.out.hmn).mono ?_
      rintro e wb ⟨rfl, hbb⟩
      rw [HH.out]
      have HXb := hid (HST.out _ _ HXa.out hbb)
      clear hbb
      go_wp2_with fail
      refine hK.out _ _ (HS.out _ HXb.out) (fun hHeld => ?_)
      clear hK KQ
      try simp only [Act.put, List.setIfInBounds_toArray, List.set_cons_zero, List.set_cons_succ]
      refine wpAnyH_take (i := 38) (oi := { dst := some 353, op := Op.binOp BinOp.eql 26 (Operand.tmp 351) (Operand.tmp 352) 26, type := 4, pos := "outright.go:209", after := #[{ on := 36, ground := Ground.data }, { on := 37, ground := Ground.data }, { on := 29, ground := Ground.guard }], guard := some (29, true) }) (v := .bool true) rfl (by kernel_rfl) (by kernel_rfl) (by kernel_rfl) (fun _ _ _ h => h) (Or.inl ⟨by rfl, by intro w hSw; have he := e26; simp only [Ag]; go_simp⟩) (by assumption) ?_
      simp only [Act.put, List.setIfInBounds_toArray, List.set_cons_zero, List.set_cons_succ]
      refine wpAnyH_take (i := 39) (oi := { dst := some 354, op := Op.pick (Operand.tmp 344) (Operand.tmp 353) (Operand.const (Value.bool false)), type := 4, pos := "outright.go:209", after := #[{ on := 29, ground := Ground.data }, { on := 38, ground := Ground.data }], guard := none }) (v := .bool true) rfl (by kernel_rfl) (by kernel_rfl) (by kernel_rfl) (fun _ _ _ h => h) (Or.inl ⟨by rfl, by intro w hSw; go_simp⟩) (by assumption) ?_
      simp only [Act.put, List.setIfInBounds_toArray, List.set_cons_zero, List.set_cons_succ]
      refine wpAnyH_ready (rs := [40]) (by kernel_rfl) (by simp) (AllReadyH.cons (o := { dst := some 4, op := Op.assign (Operand.tmp 354), type := 4, pos := "outright.go:209", after := #[{ on := 39, ground := Ground.data }, { on := 36, ground := Ground.chain }, { on := 0, ground := Ground.phase }, { on := 1, ground := Ground.phase }, { on := 2, ground := Ground.phase }, { on := 3, ground := Ground.phase }, { on := 4, ground := Ground.phase }, { on := 5, ground := Ground.phase }, { on := 6, ground := Ground.phase }, { on := 7, ground := Ground.phase }, { on := 8, ground := Ground.phase }, { on := 9, ground := Ground.phase }, { on := 10, ground := Ground.phase }, { on := 11, ground := Ground.phase }, { on := 12, ground := Ground.phase }, { on := 13, ground := Ground.phase }, { on := 14, ground := Ground.phase }, { on := 15, ground := Ground.phase }, { on := 16, ground := Ground.phase }, { on := 17, ground := Ground.phase }, { on := 18, ground := Ground.phase }, { on := 19, ground := Ground.phase }, { on := 20, ground := Ground.phase }, { on := 21, ground := Ground.phase }, { on := 22, ground := Ground.phase }, { on := 23, ground := Ground.phase }, { on := 24, ground := Ground.phase }, { on := 25, ground := Ground.phase }, { on := 26, ground := Ground.phase }, { on := 27, ground := Ground.phase }, { on := 28, ground := Ground.phase }, { on := 29, ground := Ground.phase }, { on := 30, ground := Ground.phase }, { on := 31, ground := Ground.phase }, { on := 32, ground := Ground.phase }, { on := 33, ground := Ground.phase }, { on := 34, ground := Ground.phase }, { on := 35, ground := Ground.phase }, { on := 36, ground := Ground.phase }, { on := 37, ground := Ground.phase }, { on := 38, ground := Ground.phase }, { on := 39, ground := Ground.phase }], guard := none }) rfl (fun KQ hK => ?_) AllReadyH.nil)
      go_simp
      refine hK.out _ _ (HS.out _ HXb.out) (fun hHeld => ?_)
      clear hK KQ
      try simp only [Act.put, List.setIfInBounds_toArray, List.set_cons_zero, List.set_cons_succ]
      refine wpAnyH_done (by kernel_rfl) ?_ _
      clear hHeld
      go_wp2_with fail
      go_ret
      exact ⟨rfl, HXb.out.1.below⟩
end Go.Proofs.YtialckmoigcdeaaDoor
