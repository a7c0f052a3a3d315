/- MacKeeps, from the writing over of what was answered on. -/
import Derived.Test.YtialckmoigcdeaaDoorKe
import Derived.Deep.DeepCutAuto
import Derived.Deep.MidRow
namespace Go.Proofs.YtialckmoigcdeaaDoor
open Go.RowKit
attribute [-simp] Tryd.isAgg26 Tryd.sizeOf26 Tryd.zeroValue26
set_option maxRecDepth 100000
set_option maxHeartbeats 8000000
/-- The first j are u. -/
def fil (u : Int) (L : List Int) (j : Nat) : List Int := List.replicate j u ++ L.drop j
theorem fil_len {u : Int} {L : List Int} {j : Nat} (h : j ≤ L.length) : (fil u L j).length = L.length := by simp [fil]; omega
theorem fil_all (u : Int) (L : List Int) : fil u L L.length = List.replicate L.length u := by simp [fil]
/-- The first j are one more. -/
def incd (L : List Int) (j : Nat) : List Int := (L.take j).map inc ++ L.drop j
theorem incd_len {L : List Int} {j : Nat} (h : j ≤ L.length) : (incd L j).length = L.length := by simp [incd]; omega
theorem incd_all (L : List Int) : incd L L.length = L.map inc := by simp [incd]
theorem KM.fill {W w : World} {cs cq : List Value} {M : Option Mq} {Z : List Rz} (h : KM W w cs cq M Z) (i : Nat) {g cap j : Nat} {e : TypeId} {k : IntKind} {L : List Int} {u : Int} (hz : Z[i]? = some ⟨g, e, k, cap, some ⟨g, 0, none⟩, fil u L j⟩) (hj : j < L.length) : KM W (w.setCell ⟨g, j, none⟩ (.int k u)) cs cq M (Z.set i ⟨g, e, k, cap, some ⟨g, 0, none⟩, fil u L (j + 1)⟩) := by
  have := h.set i hz (by simp) j u
  simp only at this
  rw [show (fil u L j).set j u = fil u L (j + 1) from set_fill L u j hj] at this
  exact this
theorem KM.incs {W w : World} {cs cq : List Value} {M : Option Mq} {Z : List Rz} (h : KM W w cs cq M Z) (i : Nat) {g cap j : Nat} {L : List Int} (hz : Z[i]? = some ⟨g, 5, .u8, cap, some ⟨g, 0, none⟩, incd L j⟩) (hj : j < L.length) : KM W (w.setCell ⟨g, j, none⟩ (.int .u8 (inc (L.getD j 0)))) cs cq M (Z.set i ⟨g, 5, .u8, cap, some ⟨g, 0, none⟩, incd L (j + 1)⟩) := by
  have := h.set i hz (by simp) j (inc (L.getD j 0))
  simp only at this
  rw [show (incd L j).set j (inc (L.getD j 0)) = incd L (j + 1) from set_inc L j hj] at this
  exact this
theorem KM.fl {W w : World} {cs cq : List Value} {M : Option Mq} {Z : List Rz} (h : KM W w cs cq M Z) (i : Nat) {g cap j : Nat} {e : TypeId} {k : IntKind} {vo : Option Addr} {L : List Int} {u : Int} (hz : Z[i]? = some ⟨g, e, k, cap, vo, fil u L j⟩) (hj : j < L.length) : vo = some ⟨g, 0, none⟩ ∧ w.frozen? ⟨g, j, none⟩ = false ∧ ∃ y, w.cell? ⟨g, j, none⟩ = some (.int k y) := by
  obtain ⟨h1, h2⟩ := (h.get i hz).real (by show 0 < (fil u L j).length; rw [fil_len (by omega)]; omega)
  exact ⟨h1, h2.free j, _, h2.cell j (by show j < (fil u L j).length; rw [fil_len (by omega)]; omega)⟩
theorem inc_at {w : World} {g cap il : Nat} {is : List Int} (h : (⟨g, 5, .u8, cap, some ⟨g, 0, none⟩, (roomBD is 400).map inc⟩ : Rz).ok w) (hl : is.length = il) : At w .u8 (some ⟨g, 1, none⟩) (is.map inc) := by
  have := (h.own (by simp)).2.mid il
  rw [show ((((roomBD is 400).map inc).drop 1).take il) = is.map inc from inc_mid is il 400 hl] at this
  exact this
theorem keepD (W w : World) (cs cq : List Value) (ka : Option Addr) (kn kc : Nat) (ks : List Int) (ma : Option Addr) (mn mc : Nat) (xs : List Int) (sa : Option Addr) (sn sc : Nat) (ss : List Int) (ea : Option Addr) (en ec : Nat) (es : List Int) (ia : Option Addr) (il ic : Nat) (is : List Int) (N : Int) (hC : KC W ka kn kc ks ma mn mc xs sa sn sc ss ea en ec es ia il ic is) (hQ : KQ cs cq ka kn kc ma mn mc sa sn sc ea en ec ia il ic N) (m : Mq) (hmK : m.K = keyW (bytesD ks)) (hmx : m.xs = xs) (n : Nat) (hn : n ≤ 100) (gy cy gx cx g14 gw gI cI : Nat) (vy vx : Option Addr) (KY H E1 : List Int)
    (hk : KM W w cs cq (some m) [⟨gy, 5, .u8, cy, vy, E1⟩, ⟨gx, 5, .u8, cx, vx, E1⟩, ⟨g14, 26, .u32, 8, some ⟨g14, 0, none⟩, KY⟩, ⟨gw, 26, .u32, 8, some ⟨gw, 0, none⟩, H⟩, ⟨gI, 5, .u8, cI, some ⟨gI, 0, none⟩, roomBD is 400⟩]) (hH : hmac (bytesD ks) (bytesD xs) = H) (hKl : KY.length = 8) (hKw : Wds KY) (hE : okm (bytesD KY) is n = E1) (st : ByteArray) (hst : strOfNums E1 = st) (hcI : il + 401 ≤ cI) (_mI : (cI : Int) ≤ 9223372036854775807)
    (z0 z1 z4 z5 z6 z7 z8 z10 z11 z17 z18 z19 z21 z23 z25 z26 z27 z28 z29 z30 z31 z32 z33 z34 z35 z36 z37 z38 z39 z40 z41 z42 z43 z44 z45 z46 z47 z48 z49 z50 z51 z52 z53 z54 z55 z56 z57 z58 z59 z60 z61 z62 z63 z64 z65 z66 z67 z68 z69 z70 z71 z72 z73 z74 z75 z76 z77 z78 z79 z80 z81 z82 z83 z84 z85 z86 z87 z88 z89 z90 z91 z92 z93 z94 z95 z96 z97 z98 z99 z100 z101 z102 z103 z104 z105 z106 z107 z108 z109 z110 z111 z112 z113 z114 z115 z116 z117 z118 z119 z120 z121 z122 z123 z124 z125 z126 z127 z128 z129 z130 z131 z132 z133 z134 z135 z136 z137 z138 z139 z140 z141 z142 z143 z144 z145 z146 z147 z148 z149 z150 z151 z152 z153 z154 z155 z156 z157 z158 z159 z160 z161 z162 z163 z164 z165 z166 z167 z168 z169 z170 z171 z172 z173 z174 z175 z176 z177 z178 z179 z180 z181 z182 z183 z184 z185 z186 z187 z188 z189 z190 z191 z192 z193 z194 z195 z196 z197 z198 z199 z200 z201 z202 z203 z204 z205 z206 z207 z208 z209 z210 z211 z212 z213 z214 z215 z216 z217 z218 z219 z220 z221 z222 z223 z224 z225 z226 z227 z228 z229 z230 z231 z232 z233 z234 z235 z236 z237 z238 z239 z240 z241 z242 z243 z244 z245 z246 z247 z248 z249 z250 z251 z252 z253 z254 z255 z256 z257 z258 z259 z260 z261 z262 z263 z264 z265 z266 z267 z268 z269 z270 z271 z272 z273 z274 z275 z276 z277 z278 z279 z280 z281 z282 z283 z284 z285 z286 z287 z288 z289 z290 z291 z292 z293 z294 z295 z296 z297 z298 z299 z300 z301 z302 z303 z304 z305 z306 z307 z308 z309 z310 z311 z312 z313 z314 z315 z316 z317 z318 z319 z320 z321 z322 z323 z324 z325 z326 z327 z328 z329 z330 z331 z332 z333 z334 z335 z336 z337 z338 z339 z340 z341 z342 z343 z344 z345 z346 z347 z348 z349 z350 z351 z352 z353 z354 : Value) :
    Code.wp Tryd.prog (sfx 24 (Tryd.f5.body.getD .skip)) (bodyPost Tryd.prog Tryd.f5 fun e W' => e = .returned (.bool true) ∧ Below W.heap.size W W') { tmps := #[z0, z1, .pointer (some ⟨W.heap.size, 0, none⟩), .pointer (some ⟨W.heap.size + 1, 0, none⟩), z4, z5, z6, z7, z8, .slice (some ⟨gI, 0, none⟩) (il + 1 + 400) cI, z10, z11, .pointer (some ⟨gw, 0, none⟩), .pointer (some ⟨m.gm, 0, none⟩), .pointer (some ⟨g14, 0, none⟩), .int .i64 (n : Int), .slice vx n n, z17, z18, z19, .string st, z21, .slice vy n n, z23, .string st, z25, z26, z27, z28, z29, z30, z31, z32, z33, z34, z35, z36, z37, z38, z39, z40, z41, z42, z43, z44, z45, z46, z47, z48, z49, z50, z51, z52, z53, z54, z55, z56, z57, z58, z59, z60, z61, z62, z63, z64, z65, z66, z67, z68, z69, z70, z71, z72, z73, z74, z75, z76, z77, z78, z79, z80, z81, z82, z83, z84, z85, z86, z87, z88, z89, z90, z91, z92, z93, z94, z95, z96, z97, z98, z99, z100, z101, z102, z103, z104, z105, z106, z107, z108, z109, z110, z111, z112, z113, z114, z115, z116, z117, z118, z119, z120, z121, z122, z123, z124, z125, z126, z127, z128, z129, z130, z131, z132, z133, z134, z135, z136, z137, z138, z139, z140, z141, z142, z143, z144, z145, z146, z147, z148, z149, z150, z151, z152, z153, z154, z155, z156, z157, z158, z159, z160, z161, z162, z163, z164, z165, z166, z167, z168, z169, z170, z171, z172, z173, z174, z175, z176, z177, z178, z179, z180, z181, z182, z183, z184, z185, z186, z187, z188, z189, z190, z191, z192, z193, z194, z195, z196, z197, z198, z199, z200, z201, z202, z203, z204, z205, z206, z207, z208, z209, z210, z211, z212, z213, z214, z215, z216, z217, z218, z219, z220, z221, z222, z223, z224, z225, z226, z227, z228, z229, z230, z231, z232, z233, z234, z235, z236, z237, z238, z239, z240, z241, z242, z243, z244, z245, z246, z247, z248, z249, z250, z251, z252, z253, z254, z255, z256, z257, z258, z259, z260, z261, z262, z263, z264, z265, z266, z267, z268, z269, z270, z271, z272, z273, z274, z275, z276, z277, z278, z279, z280, z281, z282, z283, z284, z285, z286, z287, z288, z289, z290, z291, z292, z293, z294, z295, z296, z297, z298, z299, z300, z301, z302, z303, z304, z305, z306, z307, z308, z309, z310, z311, z312, z313, z314, z315, z316, z317, z318, z319, z320, z321, z322, z323, z324, z325, z326, z327, z328, z329, z330, z331, z332, z333, z334, z335, z336, z337, z338, z339, z340, z341, z342, z343, z344, z345, z346, z347, z348, z349, z350, z351, z352, z353, z354], defers := [] } w := by
  have n1 : (n : Int) ≤ 100 := by omega
  have i1 : il ≤ 4096 := hC.hin
  have i2 : (il : Int) ≤ 4096 := by omega
  have i3 : (il : Int) + 401 ≤ (cI : Int) := by omega
  have HC := hid hC
  have HQ := hid hQ
  have HH := hid (And.intro hH (And.intro hmK hmx))
  have HKw := hid hKw
  have HSt := hid hst
  have HE := hid hE
  have HEl : Hid (E1.length = n) := hid (by rw [← hE]; exact okm_length _ _ _)
  have HLr : Hid ((roomBD is 400).length = il + 1 + 400) := hid (by rw [roomBD_length, hC.hil])
  have HK0 := hid hk
  clear hC hQ hH hKw hst hk hmK hmx hE
  refine sfx_walk 24 rfl (by simp only [sfx]; rfl) ?_
  go_upto_region 33 with fail
  go_wp2_with fail
  go_loopw [25] (fun i wr => ∃ j : Nat, j ≤ n ∧ i = .int .i64 (j : Int) ∧ Hid (KM W wr cs cq (some m) [⟨gy, 5, .u8, cy, vy, E1⟩, ⟨gx, 5, .u8, cx, vx, fil 1 E1 j⟩, ⟨g14, 26, .u32, 8, some ⟨g14, 0, none⟩, KY⟩, ⟨gw, 26, .u32, 8, some ⟨gw, 0, none⟩, H⟩, ⟨gI, 5, .u8, cI, some ⟨gI, 0, none⟩, roomBD is 400⟩])) (fun i _ => n - (intOf i).toNat)
  case atStart => exact ⟨0, Nat.zero_le _, rfl, HK0⟩
  case round =>
    clear HK0
    obtain ⟨j, hj, rfl, HK⟩ := hrel
    by_cases hlt : j < n
    · have q1 : (j : Int) < (n : Int) := by omega
      obtain ⟨rfl, f1, y, c1⟩ := HK.out.fl 1 rfl (by rw [HEl.out]; exact hlt)
      go_wp2_with fail
      go_roundw
      case measure => simp [intOf] <;> omega
      case rel => exact ⟨j + 1, by omega, by simp, hid (HK.out.fill 1 rfl (by rw [HEl.out]; exact hlt))⟩
    · have hjn : j = n := by omega
      subst hjn
      have HK1 : Hid (KM W wr cs cq (some m) [⟨gy, 5, .u8, cy, vy, E1⟩, ⟨gx, 5, .u8, cx, vx, List.replicate j 1⟩, ⟨g14, 26, .u32, 8, some ⟨g14, 0, none⟩, KY⟩, ⟨gw, 26, .u32, 8, some ⟨gw, 0, none⟩, H⟩, ⟨gI, 5, .u8, cI, some ⟨gI, 0, none⟩, roomBD is 400⟩]) := hid (by have := fil_all 1 E1; rw [HEl.out] at this; rw [← this]; exact HK.out)
      clear HK
      go_wp2_with fail
      go_loopw [26] (fun i wr => ∃ t : Nat, t ≤ j ∧ i = .int .i64 (t : Int) ∧ Hid (KM W wr cs cq (some m) [⟨gy, 5, .u8, cy, vy, fil 2 E1 t⟩, ⟨gx, 5, .u8, cx, vx, List.replicate j 1⟩, ⟨g14, 26, .u32, 8, some ⟨g14, 0, none⟩, KY⟩, ⟨gw, 26, .u32, 8, some ⟨gw, 0, none⟩, H⟩, ⟨gI, 5, .u8, cI, some ⟨gI, 0, none⟩, roomBD is 400⟩])) (fun i _ => j - (intOf i).toNat)
      case atStart => exact ⟨0, Nat.zero_le _, rfl, HK1⟩
      case round =>
        clear HK1
        obtain ⟨t, ht, rfl, HK⟩ := hrel
        by_cases hlt : t < j
        · have q1 : (t : Int) < (j : Int) := by omega
          obtain ⟨rfl, f1, y, c1⟩ := HK.out.fl 0 rfl (by rw [HEl.out]; exact hlt)
          go_wp2_with fail
          go_roundw
          case measure => simp [intOf] <;> omega
          case rel => exact ⟨t + 1, by omega, by simp, hid (HK.out.fill 0 rfl (by rw [HEl.out]; exact hlt))⟩
        · have htn : t = j := by omega
          subst htn
          have HK1 : Hid (KM W wr cs cq (some m) [⟨gy, 5, .u8, cy, vy, List.replicate t 2⟩, ⟨gx, 5, .u8, cx, vx, List.replicate t 1⟩, ⟨g14, 26, .u32, 8, some ⟨g14, 0, none⟩, KY⟩, ⟨gw, 26, .u32, 8, some ⟨gw, 0, none⟩, H⟩, ⟨gI, 5, .u8, cI, some ⟨gI, 0, none⟩, roomBD is 400⟩]) := hid (by have := fil_all 2 E1; rw [HEl.out] at this; rw [← this]; exact HK.out)
          clear HK
          go_wp2_with fail
          obtain ⟨R, hR⟩ : ∃ R, roomBD is 400 = R := ⟨_, rfl⟩
          have HRm := hid hR
          rw [hR] at HK1 HLr
          clear hR
          go_loopw [27] (fun i wr => ∃ s : Nat, s ≤ il + 1 + 400 ∧ i = .int .i64 (s : Int) ∧ Hid (KM W wr cs cq (some m) [⟨gy, 5, .u8, cy, vy, List.replicate t 2⟩, ⟨gx, 5, .u8, cx, vx, List.replicate t 1⟩, ⟨g14, 26, .u32, 8, some ⟨g14, 0, none⟩, KY⟩, ⟨gw, 26, .u32, 8, some ⟨gw, 0, none⟩, H⟩, ⟨gI, 5, .u8, cI, some ⟨gI, 0, none⟩, incd R s⟩])) (fun i _ => il + 1 + 400 - (intOf i).toNat)
          case atStart => exact ⟨0, Nat.zero_le _, rfl, HK1⟩
          case round =>
            clear HK1
            obtain ⟨s, hs, rfl, HK⟩ := hrel
            by_cases hlt : s < il + 1 + 400
            · have q1 : (s : Int) < (il : Int) + 1 + 400 := by omega
              have hsl : s < R.length := by rw [HLr.out]; exact hlt
              have ox := ((HK.out.get 4 rfl).own (by simp)).2
              have f1 := ox.free s
              have c1 := ox.cell s (by show s < (incd R s).length; rw [incd_len (by omega)]; exact hsl)
              simp only at f1 c1
              rw [show (incd R s).getD s 0 = R.getD s 0 from inc_getD R s hsl] at c1
              have HI := hid (HK.out.incs 4 rfl hsl)
              obtain ⟨b, hb⟩ : ∃ b, R.getD s 0 = b := ⟨_, rfl⟩
              rw [hb] at HI c1
              clear hb ox
              obtain ⟨b1, hb1⟩ : ∃ c, inc b = c := ⟨_, rfl⟩
              have w1 : IntKind.wrap .u8 (b + 1) = b1 := hb1
              rw [hb1] at HI
              clear hb1
              go_wp2_with fail
              go_roundw
              case measure => simp [intOf] <;> omega
              case rel => exact ⟨s + 1, by omega, by simp, HI⟩
            · have hsn : s = il + 1 + 400 := by omega
              subst hsn
              have HK2 : Hid (KM W wr cs cq (some m) [⟨gy, 5, .u8, cy, vy, List.replicate t 2⟩, ⟨gx, 5, .u8, cx, vx, List.replicate t 1⟩, ⟨g14, 26, .u32, 8, some ⟨g14, 0, none⟩, KY⟩, ⟨gw, 26, .u32, 8, some ⟨gw, 0, none⟩, H⟩, ⟨gI, 5, .u8, cI, some ⟨gI, 0, none⟩, (roomBD is 400).map inc⟩]) := hid (by rw [HRm.out, ← incd_all, HLr.out]; exact HK.out)
              clear HK
              go_upto_region 45 with fail
              have HK4 := hid (HK2.out.on (Below.refl _ _).drew)
              clear HK2
              refine wp_region_held_drew (S := fun w => KM W w cs cq (some m) [⟨gy, 5, .u8, cy, vy, List.replicate t 2⟩, ⟨gx, 5, .u8, cx, vx, List.replicate t 1⟩, ⟨g14, 26, .u32, 8, some ⟨g14, 0, none⟩, KY⟩, ⟨gw, 26, .u32, 8, some ⟨gw, 0, none⟩, H⟩, ⟨gI, 5, .u8, cI, some ⟨gI, 0, none⟩, (roomBD is 400).map inc⟩]) (by kernel_rfl) HK4.out (fun hHeld => ?_)
              refine wpAnyH_take (i := 0) (oi := { dst := some 240, op := Op.load 26 (Operand.tmp 14), type := 26, pos := "outright.go:196", after := #[], guard := none }) (v := .agg (KY.map (Value.int .u32)).toArray) rfl (by kernel_rfl) (by kernel_rfl) (by kernel_rfl) (fun _ _ _ h => h) (yieldsIf_load_mid (by rfl) _ _ rfl _ _ rfl _ _ (fun w hSw => hSw.rng 2 rfl) Tryd.underlying26 rfl (by rw [List.length_map, hKl]; exact size26)) (by assumption) ?_
              simp only [Act.put, List.setIfInBounds_toArray, List.set_cons_zero, List.set_cons_succ]
              refine wpAnyH_take (i := 1) (oi := { dst := some 241, op := Op.move (Operand.tmp 9), type := 22, pos := "outright.go:196", after := #[], guard := none }) (v := .slice (some ⟨gI, 0, none⟩) (il + 1 + 400) cI) rfl (by kernel_rfl) (by kernel_rfl) (by kernel_rfl) (fun _ _ _ h => h) (Or.inl ⟨by rfl, by intro w hSw; go_simp⟩) (by assumption) ?_
              simp only [Act.put, List.setIfInBounds_toArray, List.set_cons_zero, List.set_cons_succ]
              refine wpAnyH_take (i := 2) (oi := { dst := some 242, op := Op.fieldAddr 24 (Operand.tmp 3) 2, type := 0, pos := "outright.go:196", after := #[], guard := none }) (v := .pointer (some ⟨W.heap.size + 1, 2, none⟩)) rfl (by kernel_rfl) (by kernel_rfl) (by kernel_rfl) (fun _ _ _ h => h) (Or.inl ⟨by rfl, by intro w hSw; go_simp⟩) (by assumption) ?_
              simp only [Act.put, List.setIfInBounds_toArray, List.set_cons_zero, List.set_cons_succ]
              refine wpAnyH_take (i := 3) (oi := { dst := some 243, op := Op.load 22 (Operand.tmp 242), type := 22, pos := "outright.go:196", after := #[{ on := 2, ground := Ground.data }], guard := none }) (v := .slice ia il ic) rfl (by kernel_rfl) (by kernel_rfl) (by kernel_rfl) (fun _ _ _ h => h) (Or.inl ⟨by rfl, by intro w hSw; have hc := (hSw.BQ.cell 2).trans HQ.out.q2; go_simp⟩) (by assumption) ?_
              simp only [Act.put, List.setIfInBounds_toArray, List.set_cons_zero, List.set_cons_succ]
              refine wpAnyH_take (i := 4) (oi := { dst := some 244, op := Op.call { callee := Callee.builtin Builtin.len, args := #[Operand.tmp 243], argTypes := #[22] }, type := 3, pos := "outright.go:196", after := #[{ on := 3, ground := Ground.data }], guard := none }) (v := .int .i64 (il : Int)) rfl (by kernel_rfl) (by kernel_rfl) (by kernel_rfl) (fun _ _ _ h => h) (Or.inl ⟨by rfl, by intro w hSw; go_simp⟩) (by assumption) ?_
              simp only [Act.put, List.setIfInBounds_toArray, List.set_cons_zero, List.set_cons_succ]
              refine wpAnyH_take (i := 5) (oi := { dst := some 245, op := Op.binOp BinOp.add 3 (Operand.const (Value.int IntKind.i64 1)) (Operand.tmp 244) 3, type := 3, pos := "outright.go:196", after := #[{ on := 4, ground := Ground.data }], guard := none }) (v := .int .i64 (1 + (il : Int))) rfl (by kernel_rfl) (by kernel_rfl) (by kernel_rfl) (fun _ _ _ h => h) (Or.inl ⟨by rfl, by intro w hSw; have q1 : IntKind.i64.wrap (1 + (il : Int)) = 1 + (il : Int) := (by rw [IntKind.wrap_i64]; omega); go_simp⟩) (by assumption) ?_
              simp only [Act.put, List.setIfInBounds_toArray, List.set_cons_zero, List.set_cons_succ]
              refine wpAnyH_take (i := 6) (oi := { dst := some 246, op := Op.slice 22 (Operand.tmp 241) (some (Operand.const (Value.int IntKind.i64 1))) (some (Operand.tmp 245)) none, type := 22, pos := "outright.go:196", after := #[{ on := 1, ground := Ground.data }, { on := 5, ground := Ground.data }], guard := none }) (v := .slice (some ⟨gI, 1, none⟩) il (cI - 1)) rfl (by kernel_rfl) (by kernel_rfl) (by kernel_rfl) (fun _ _ _ h => h) (Or.inl ⟨by rfl, by intro w hSw; have q1 : ¬ (cI < 1 + il) := (by omega); have q2 : ¬ (cI = 1) := (by omega); have q3 : (1 + (il : Int)).toNat = 1 + il := (by omega); have q4 : (0 : Int) ≤ 1 + (il : Int) := (by omega); have q5 : 1 + (il : Int) ≤ (cI : Int) := (by omega); have q6 : (1 : Int) ≤ 1 + (il : Int) := (by omega); go_simp⟩) (by assumption) ?_
              simp only [Act.put, List.setIfInBounds_toArray, List.set_cons_zero, List.set_cons_succ]
              refine wpAnyH_take (i := 7) (oi := { dst := some 247, op := Op.move (Operand.tmp 15), type := 3, pos := "outright.go:196", after := #[], guard := none }) (v := .int .i64 (t : Int)) rfl (by kernel_rfl) (by kernel_rfl) (by kernel_rfl) (fun _ _ _ h => h) (Or.inl ⟨by rfl, by intro w hSw; go_simp⟩) (by assumption) ?_
              simp only [Act.put, List.setIfInBounds_toArray, List.set_cons_zero, List.set_cons_succ]
              refine wpAnyH_ready (rs := [8]) (by kernel_rfl) (by simp) (AllReadyH.cons (o := { dst := some 248, op := Op.call { callee := Callee.value (Operand.func 12), args := #[Operand.tmp 240, Operand.tmp 246, Operand.tmp 247], argTypes := #[26, 22, 3] }, type := 32, pos := "outright.go:196", after := #[{ on := 0, ground := Ground.data }, { on := 6, ground := Ground.data }, { on := 7, ground := Ground.data }], guard := none }) rfl (fun KQ hK => ?_) AllReadyH.nil)
              go_simp
              refine (expand_any _ HK4.out.tabs KY hKl HKw.out (some ⟨gI, 1, none⟩) il (cI - 1) (is.map inc) (by rw [List.length_map]; exact HC.out.hil) (inc_bts is) (inc_at (HK4.out.get 4 rfl) HC.out.hil) (fun h => by cases h) (by have := HC.out.hin; omega) t (by omega)).mono ?_
              rintro e w5 ⟨vO, rfl, oz, hb5⟩
              obtain ⟨gO, cO, rO, _⟩ := oz.row
              have HK5 := hid (HK4.out.on hb5)
              have HO5 := hid rO
              clear rO oz hb5
              go_wp2_with fail
              refine hK.out _ _ HK5.out (fun hHeld => ?_)
              clear hK KQ
              try simp only [Act.put, List.setIfInBounds_toArray, List.set_cons_zero, List.set_cons_succ]
              refine wpAnyH_take (i := 9) (oi := { dst := some 239, op := Op.move (Operand.tmp 248), type := 32, pos := "outright.go:196", after := #[{ on := 8, ground := Ground.data }], guard := none }) (v := .tuple #[.slice vO t t, .int .i64 0]) rfl (by kernel_rfl) (by kernel_rfl) (by kernel_rfl) (fun _ _ _ h => h) (Or.inl ⟨by rfl, by intro w hSw; go_simp⟩) (by assumption) ?_
              simp only [Act.put, List.setIfInBounds_toArray, List.set_cons_zero, List.set_cons_succ]
              refine wpAnyH_take (i := 10) (oi := { dst := some 249, op := Op.extract (Operand.tmp 239) 0, type := 22, pos := "outright.go:196", after := #[{ on := 9, ground := Ground.data }], guard := none }) (v := .slice vO t t) rfl (by kernel_rfl) (by kernel_rfl) (by kernel_rfl) (fun _ _ _ h => h) (Or.inl ⟨by rfl, by intro w hSw; go_simp⟩) (by assumption) ?_
              simp only [Act.put, List.setIfInBounds_toArray, List.set_cons_zero, List.set_cons_succ]
              refine wpAnyH_take (i := 11) (oi := { dst := some 250, op := Op.extract (Operand.tmp 239) 1, type := 31, pos := "outright.go:196", after := #[{ on := 9, ground := Ground.data }, { on := 12, ground := Ground.gcOnly Departure.lateStores }], guard := none }) (v := .int .i64 0) rfl (by kernel_rfl) (by kernel_rfl) (by kernel_rfl) (fun _ _ _ h => h) (Or.inl ⟨by rfl, by intro w hSw; go_simp⟩) (by assumption) ?_
              simp only [Act.put, List.setIfInBounds_toArray, List.set_cons_zero, List.set_cons_succ]
              refine wpAnyH_ready (rs := [12]) (by kernel_rfl) (by simp) (AllReadyH.cons (o := { dst := some 28, op := Op.assign (Operand.tmp 249), type := 22, pos := "outright.go:196", after := #[{ on := 10, ground := Ground.data }, { on := 8, ground := Ground.chain }, { on := 0, ground := Ground.phase }, { on := 1, ground := Ground.phase }, { on := 2, ground := Ground.phase }, { on := 3, ground := Ground.phase }, { on := 4, ground := Ground.phase }, { on := 5, ground := Ground.phase }, { on := 6, ground := Ground.phase }, { on := 7, ground := Ground.phase }, { on := 8, ground := Ground.phase }, { on := 9, ground := Ground.phase }, { on := 10, ground := Ground.phase }, { on := 11, ground := Ground.textOnly Departure.lateStores }], guard := none }) rfl (fun KQ hK => ?_) AllReadyH.nil)
              go_simp
              refine hK.out _ _ HK5.out (fun hHeld => ?_)
              clear hK KQ
              try simp only [Act.put, List.setIfInBounds_toArray, List.set_cons_zero, List.set_cons_succ]
              refine wpAnyH_ready (rs := [13]) (by kernel_rfl) (by simp) (AllReadyH.cons (o := { dst := some 29, op := Op.assign (Operand.tmp 250), type := 31, pos := "outright.go:196", after := #[{ on := 11, ground := Ground.data }, { on := 12, ground := Ground.chain }, { on := 0, ground := Ground.phase }, { on := 1, ground := Ground.phase }, { on := 2, ground := Ground.phase }, { on := 3, ground := Ground.phase }, { on := 4, ground := Ground.phase }, { on := 5, ground := Ground.phase }, { on := 6, ground := Ground.phase }, { on := 7, ground := Ground.phase }, { on := 8, ground := Ground.phase }, { on := 9, ground := Ground.phase }, { on := 10, ground := Ground.phase }, { on := 11, ground := Ground.phase }, { on := 12, ground := Ground.phase }], guard := none }) rfl (fun KQ hK => ?_) AllReadyH.nil)
              go_simp
              refine hK.out _ _ HK5.out (fun hHeld => ?_)
              clear hK KQ
              try simp only [Act.put, List.setIfInBounds_toArray, List.set_cons_zero, List.set_cons_succ]
              refine wpAnyH_done (by kernel_rfl) ?_ _
              clear hHeld HK4
              go_upto_region 46 with fail
              have HK6 := hid (HK5.out.on (Below.refl _ _).drew)
              have HO6 := hid (HO5.out.on (Below.refl _ _).drew)
              clear HK5 HO5
              refine wp_region_held_drew (S := fun w => KM W w cs cq (some m) [⟨gy, 5, .u8, cy, vy, List.replicate t 2⟩, ⟨gx, 5, .u8, cx, vx, List.replicate t 1⟩, ⟨g14, 26, .u32, 8, some ⟨g14, 0, none⟩, KY⟩, ⟨gw, 26, .u32, 8, some ⟨gw, 0, none⟩, H⟩, ⟨gI, 5, .u8, cI, some ⟨gI, 0, none⟩, (roomBD is 400).map inc⟩]) (by kernel_rfl) HK6.out (fun hHeld => ?_)
              refine wpAnyH_take (i := 0) (oi := { dst := some 252, op := Op.load 26 (Operand.tmp 14), type := 26, pos := "outright.go:197", after := #[], guard := none }) (v := .agg (KY.map (Value.int .u32)).toArray) rfl (by kernel_rfl) (by kernel_rfl) (by kernel_rfl) (fun _ _ _ h => h) (yieldsIf_load_mid (by rfl) _ _ rfl _ _ rfl _ _ (fun w hSw => hSw.rng 2 rfl) Tryd.underlying26 rfl (by rw [List.length_map, hKl]; exact size26)) (by assumption) ?_
              simp only [Act.put, List.setIfInBounds_toArray, List.set_cons_zero, List.set_cons_succ]
              refine wpAnyH_take (i := 1) (oi := { dst := some 253, op := Op.move (Operand.tmp 9), type := 22, pos := "outright.go:197", after := #[], guard := none }) (v := .slice (some ⟨gI, 0, none⟩) (il + 1 + 400) cI) rfl (by kernel_rfl) (by kernel_rfl) (by kernel_rfl) (fun _ _ _ h => h) (Or.inl ⟨by rfl, by intro w hSw; go_simp⟩) (by assumption) ?_
              simp only [Act.put, List.setIfInBounds_toArray, List.set_cons_zero, List.set_cons_succ]
              refine wpAnyH_take (i := 2) (oi := { dst := some 254, op := Op.fieldAddr 24 (Operand.tmp 3) 2, type := 0, pos := "outright.go:197", after := #[], guard := none }) (v := .pointer (some ⟨W.heap.size + 1, 2, none⟩)) rfl (by kernel_rfl) (by kernel_rfl) (by kernel_rfl) (fun _ _ _ h => h) (Or.inl ⟨by rfl, by intro w hSw; go_simp⟩) (by assumption) ?_
              simp only [Act.put, List.setIfInBounds_toArray, List.set_cons_zero, List.set_cons_succ]
              refine wpAnyH_take (i := 3) (oi := { dst := some 255, op := Op.load 22 (Operand.tmp 254), type := 22, pos := "outright.go:197", after := #[{ on := 2, ground := Ground.data }], guard := none }) (v := .slice ia il ic) rfl (by kernel_rfl) (by kernel_rfl) (by kernel_rfl) (fun _ _ _ h => h) (Or.inl ⟨by rfl, by intro w hSw; have hc := (hSw.BQ.cell 2).trans HQ.out.q2; go_simp⟩) (by assumption) ?_
              simp only [Act.put, List.setIfInBounds_toArray, List.set_cons_zero, List.set_cons_succ]
              refine wpAnyH_take (i := 4) (oi := { dst := some 256, op := Op.call { callee := Callee.builtin Builtin.len, args := #[Operand.tmp 255], argTypes := #[22] }, type := 3, pos := "outright.go:197", after := #[{ on := 3, ground := Ground.data }], guard := none }) (v := .int .i64 (il : Int)) rfl (by kernel_rfl) (by kernel_rfl) (by kernel_rfl) (fun _ _ _ h => h) (Or.inl ⟨by rfl, by intro w hSw; go_simp⟩) (by assumption) ?_
              simp only [Act.put, List.setIfInBounds_toArray, List.set_cons_zero, List.set_cons_succ]
              refine wpAnyH_take (i := 5) (oi := { dst := some 257, op := Op.binOp BinOp.add 3 (Operand.const (Value.int IntKind.i64 1)) (Operand.tmp 256) 3, type := 3, pos := "outright.go:197", after := #[{ on := 4, ground := Ground.data }], guard := none }) (v := .int .i64 (1 + (il : Int))) rfl (by kernel_rfl) (by kernel_rfl) (by kernel_rfl) (fun _ _ _ h => h) (Or.inl ⟨by rfl, by intro w hSw; have q1 : IntKind.i64.wrap (1 + (il : Int)) = 1 + (il : Int) := (by rw [IntKind.wrap_i64]; omega); go_simp⟩) (by assumption) ?_
              simp only [Act.put, List.setIfInBounds_toArray, List.set_cons_zero, List.set_cons_succ]
              refine wpAnyH_take (i := 6) (oi := { dst := some 258, op := Op.slice 22 (Operand.tmp 253) (some (Operand.const (Value.int IntKind.i64 1))) (some (Operand.tmp 257)) none, type := 22, pos := "outright.go:197", after := #[{ on := 1, ground := Ground.data }, { on := 5, ground := Ground.data }], guard := none }) (v := .slice (some ⟨gI, 1, none⟩) il (cI - 1)) rfl (by kernel_rfl) (by kernel_rfl) (by kernel_rfl) (fun _ _ _ h => h) (Or.inl ⟨by rfl, by intro w hSw; have q1 : ¬ (cI < 1 + il) := (by omega); have q2 : ¬ (cI = 1) := (by omega); have q3 : (1 + (il : Int)).toNat = 1 + il := (by omega); have q4 : (0 : Int) ≤ 1 + (il : Int) := (by omega); have q5 : 1 + (il : Int) ≤ (cI : Int) := (by omega); have q6 : (1 : Int) ≤ 1 + (il : Int) := (by omega); go_simp⟩) (by assumption) ?_
              simp only [Act.put, List.setIfInBounds_toArray, List.set_cons_zero, List.set_cons_succ]
              refine wpAnyH_take (i := 8) (oi := { dst := some 260, op := Op.move (Operand.tmp 15), type := 3, pos := "outright.go:197", after := #[], guard := none }) (v := .int .i64 (t : Int)) rfl (by kernel_rfl) (by kernel_rfl) (by kernel_rfl) (fun _ _ _ h => h) (Or.inl ⟨by rfl, by intro w hSw; go_simp⟩) (by assumption) ?_
              simp only [Act.put, List.setIfInBounds_toArray, List.set_cons_zero, List.set_cons_succ]
              refine wpAnyH_ready (rs := [7]) (by kernel_rfl) (by simp) (AllReadyH.cons (o := { dst := some 259, op := Op.call { callee := Callee.value (Operand.func 8), args := #[Operand.tmp 258], argTypes := #[22] }, type := 22, pos := "outright.go:197", after := #[{ on := 6, ground := Ground.data }], guard := none }) rfl (fun KQ hK => ?_) AllReadyH.nil)
              go_simp
              refine (bytes_own _ (some ⟨gI, 1, none⟩) il (cI - 1) (is.map inc) (by rw [List.length_map]; exact HC.out.hil) (inc_at (HK6.out.get 4 rfl) HC.out.hil) (fun h => by cases h) (by have := HC.out.hin; omega)).mono ?_
              rintro e w7 ⟨vo7, vc7, rfl, _, a7, s7, hb7⟩
              have HK7 := hid (HK6.out.on hb7)
              have HO7 := hid (HO6.out.on hb7)
              have HA7 := hid (And.intro a7 s7)
              clear a7 s7 hb7
              go_wp2_with fail
              refine hK.out _ _ HK7.out (fun hHeld => ?_)
              clear hK KQ
              try simp only [Act.put, List.setIfInBounds_toArray, List.set_cons_zero, List.set_cons_succ]
              refine wpAnyH_ready (rs := [9]) (by kernel_rfl) (by simp) (AllReadyH.cons (o := { dst := some 261, op := Op.call { callee := Callee.value (Operand.func 12), args := #[Operand.tmp 252, Operand.tmp 259, Operand.tmp 260], argTypes := #[26, 22, 3] }, type := 32, pos := "outright.go:197", after := #[{ on := 0, ground := Ground.data }, { on := 7, ground := Ground.data }, { on := 8, ground := Ground.data }, { on := 7, ground := Ground.chain }], guard := none }) rfl (fun KQ hK => ?_) AllReadyH.nil)
              go_simp
              refine (expand_any w7 HK7.out.tabs KY hKl HKw.out vo7 il vc7 (is.map inc) (by rw [List.length_map]; exact HC.out.hil) (inc_bts is) HA7.out.1 HA7.out.2 (by have := HC.out.hin; omega) t (by omega)).mono ?_
              rintro e w8 ⟨vS, rfl, oz, hb8⟩
              obtain ⟨gS, cS, rS, _⟩ := oz.row
              have HK8 := hid (HK7.out.on hb8)
              have HO8 := hid (HO7.out.on hb8)
              have HS8 := hid rS
              clear rS oz hb8
              go_wp2_with fail
              refine hK.out _ _ HK8.out (fun hHeld => ?_)
              clear hK KQ
              try simp only [Act.put, List.setIfInBounds_toArray, List.set_cons_zero, List.set_cons_succ]
              refine wpAnyH_take (i := 10) (oi := { dst := some 251, op := Op.move (Operand.tmp 261), type := 32, pos := "outright.go:197", after := #[{ on := 9, ground := Ground.data }], guard := none }) (v := .tuple #[.slice vS t t, .int .i64 0]) rfl (by kernel_rfl) (by kernel_rfl) (by kernel_rfl) (fun _ _ _ h => h) (Or.inl ⟨by rfl, by intro w hSw; go_simp⟩) (by assumption) ?_
              simp only [Act.put, List.setIfInBounds_toArray, List.set_cons_zero, List.set_cons_succ]
              refine wpAnyH_take (i := 11) (oi := { dst := some 262, op := Op.extract (Operand.tmp 251) 0, type := 22, pos := "outright.go:197", after := #[{ on := 10, ground := Ground.data }], guard := none }) (v := .slice vS t t) rfl (by kernel_rfl) (by kernel_rfl) (by kernel_rfl) (fun _ _ _ h => h) (Or.inl ⟨by rfl, by intro w hSw; go_simp⟩) (by assumption) ?_
              simp only [Act.put, List.setIfInBounds_toArray, List.set_cons_zero, List.set_cons_succ]
              refine wpAnyH_take (i := 12) (oi := { dst := some 263, op := Op.extract (Operand.tmp 251) 1, type := 31, pos := "outright.go:197", after := #[{ on := 10, ground := Ground.data }, { on := 13, ground := Ground.gcOnly Departure.lateStores }], guard := none }) (v := .int .i64 0) rfl (by kernel_rfl) (by kernel_rfl) (by kernel_rfl) (fun _ _ _ h => h) (Or.inl ⟨by rfl, by intro w hSw; go_simp⟩) (by assumption) ?_
              simp only [Act.put, List.setIfInBounds_toArray, List.set_cons_zero, List.set_cons_succ]
              refine wpAnyH_ready (rs := [13]) (by kernel_rfl) (by simp) (AllReadyH.cons (o := { dst := some 30, op := Op.assign (Operand.tmp 262), type := 22, pos := "outright.go:197", after := #[{ on := 11, ground := Ground.data }, { on := 9, ground := Ground.chain }, { on := 0, ground := Ground.phase }, { on := 1, ground := Ground.phase }, { on := 2, ground := Ground.phase }, { on := 3, ground := Ground.phase }, { on := 4, ground := Ground.phase }, { on := 5, ground := Ground.phase }, { on := 6, ground := Ground.phase }, { on := 7, ground := Ground.phase }, { on := 8, ground := Ground.phase }, { on := 9, ground := Ground.phase }, { on := 10, ground := Ground.phase }, { on := 11, ground := Ground.phase }, { on := 12, ground := Ground.textOnly Departure.lateStores }], guard := none }) rfl (fun KQ hK => ?_) AllReadyH.nil)
              go_simp
              refine hK.out _ _ HK8.out (fun hHeld => ?_)
              clear hK KQ
              try simp only [Act.put, List.setIfInBounds_toArray, List.set_cons_zero, List.set_cons_succ]
              refine wpAnyH_ready (rs := [14]) (by kernel_rfl) (by simp) (AllReadyH.cons (o := { dst := some 31, op := Op.assign (Operand.tmp 263), type := 31, pos := "outright.go:197", after := #[{ on := 12, ground := Ground.data }, { on := 13, ground := Ground.chain }, { on := 0, ground := Ground.phase }, { on := 1, ground := Ground.phase }, { on := 2, ground := Ground.phase }, { on := 3, ground := Ground.phase }, { on := 4, ground := Ground.phase }, { on := 5, ground := Ground.phase }, { on := 6, ground := Ground.phase }, { on := 7, ground := Ground.phase }, { on := 8, ground := Ground.phase }, { on := 9, ground := Ground.phase }, { on := 10, ground := Ground.phase }, { on := 11, ground := Ground.phase }, { on := 12, ground := Ground.phase }, { on := 13, ground := Ground.phase }], guard := none }) rfl (fun KQ hK => ?_) AllReadyH.nil)
              go_simp
              refine hK.out _ _ HK8.out (fun hHeld => ?_)
              clear hK KQ
              try simp only [Act.put, List.setIfInBounds_toArray, List.set_cons_zero, List.set_cons_succ]
              refine wpAnyH_done (by kernel_rfl) ?_ _
              clear hHeld HK6 HO6 HK7 HO7 HA7
              obtain ⟨s2, hs2⟩ : ∃ s2, strOfNums (okm (bytesD KY) (is.map inc) t) = s2 := ⟨_, rfl⟩
              have v1 := HO8.out.conv (n := t) (c := t) (okm_length _ _ _)
              have v2 := HS8.out.conv (n := t) (c := t) (okm_length _ _ _)
              rw [hs2] at v1 v2
              clear hs2 HO8 HS8
              go_upto_if 268 with fail
              go_cut [4] (fun _ w => w8 = w)
              case first =>
                go_wp2_with fail
                go_meet
                exact rfl
              case rest =>
                obtain rfl := hcut
                exact (‹∀ (a : Act) (w : World), Code.wp Tryd.prog _ _ a w → _› _ _ (keepE W _ cs cq ka kn kc ks ma mn mc xs sa sn sc ss ea en ec es ia il ic is N HC.out HQ.out m HH.out.2.1 HH.out.2.2 t hn gy cy gx cx g14 gw vy vx KY H (HK8.out.sub (.cons_cons _ (.cons_cons _ (.cons_cons _ (.cons_cons _ (.cons _ .slnil)))))) HH.out.1 hKl HKw.out st (by rw [HE.out]; exact HSt.out) _ _ _ _ _ _ _ _ _ _ _ _ _ _ _ _ _ _ _ _ _ _ _ _ _ _ _ _ _ _ _ _ _ _ _ _ _ _ _ _ _ _ _ _ _ _ _ _ _ _ _ _ _ _ _ _ _ _ _ _ _ _ _ _ _ _ _ _ _ _ _ _ _ _ _ _ _ _ _ _ _ _ _ _ _ _ _ _ _ _ _ _ _ _ _ _ _ _ _ _ _ _ _ _ _ _ _ _ _ _ _ _ _ _ _ _ _ _ _ _ _ _ _ _ _ _ _ _ _ _ _ _ _ _ _ _ _ _ _ _ _ _ _ _ _ _ _ _ _ _ _ _ _ _ _ _ _ _ _ _ _ _ _ _ _ _ _ _ _ _ _ _ _ _ _ _ _ _ _ _ _ _ _ _ _ _ _ _ _ _ _ _ _ _ _ _ _ _ _ _ _ _ _ _ _ _ _ _ _ _ _ _ _ _ _ _ _ _ _ _ _ _ _ _ _ _ _ _ _ _ _ _ _ _ _ _ _ _ _ _ _ _ _ _ _ _ _ _ _ _ _ _ _ _ _ _ _ _ _ _ _ _ _ _ _ _ _ _ _ _ _ _ _ _ _ _ _ _ _ _ _ _ _ _ _ _ _ _ _ _ _ _ _ _ _ _ _ _ _ _ _ _ _ _ _ _ _ _ _ _ _ _ _ _ _ _ _ _ _ _ _ _ _ _ _ _ _ _ _ _ _ _ _ _ _ _ _ _ _ _ _ _ _ _ _))
end Go.Proofs.YtialckmoigcdeaaDoor
