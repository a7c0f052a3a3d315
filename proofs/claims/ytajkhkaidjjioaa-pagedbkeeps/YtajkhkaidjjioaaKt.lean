/- PagedbKeeps 4: from the lists of lists on. -/
import Derived.Test.YtajkhkaidjjioaaKq
import Derived.Test.YtajkhkaidjjioaaSx
namespace Go.Proofs.Ytajkhkaidjjioaa
open Go.RowKit
set_option maxRecDepth 100000
set_option maxHeartbeats 8000000
section
variable {W x x' : World} {fa : Dp} {m : DS} {vl vo vm vt v' u : Value} {ls os ms ts : List Value} {R D : List RowT}
theorem KR.appL (h : KR W x fa m ((⟨vl, ls, vo, os, vm, ms, vt, ts⟩ : H4).rows ++ R) D) (ht : Two2 x x' W.heap.size 32 1 vl v' ls.length 1 (ls ++ [u])) : KR W x' fa m ((⟨v', ls ++ [u], vo, os, vm, ms, vt, ts⟩ : H4).rows ++ R) D :=
  KR.app (Z1 := []) (Z2 := [⟨45, vo, os⟩, ⟨32, vm, ms⟩, ⟨45, vt, ts⟩] ++ R) h ht
theorem KR.appO (h : KR W x fa m ((⟨vl, ls, vo, os, vm, ms, vt, ts⟩ : H4).rows ++ R) D) (ht : Two2 x x' W.heap.size 45 1 vo v' os.length 1 (os ++ [u])) : KR W x' fa m ((⟨vl, ls, v', os ++ [u], vm, ms, vt, ts⟩ : H4).rows ++ R) D :=
  KR.app (Z1 := [⟨32, vl, ls⟩]) (Z2 := [⟨32, vm, ms⟩, ⟨45, vt, ts⟩] ++ R) h ht
theorem KR.appM (h : KR W x fa m ((⟨vl, ls, vo, os, vm, ms, vt, ts⟩ : H4).rows ++ R) D) (ht : Two2 x x' W.heap.size 32 1 vm v' ms.length 1 (ms ++ [u])) : KR W x' fa m ((⟨vl, ls, vo, os, v', ms ++ [u], vt, ts⟩ : H4).rows ++ R) D :=
  KR.app (Z1 := [⟨32, vl, ls⟩, ⟨45, vo, os⟩]) (Z2 := [⟨45, vt, ts⟩] ++ R) h ht
theorem KR.appT (h : KR W x fa m ((⟨vl, ls, vo, os, vm, ms, vt, ts⟩ : H4).rows ++ R) D) (ht : Two2 x x' W.heap.size 45 1 vt v' ts.length 1 (ts ++ [u])) : KR W x' fa m ((⟨vl, ls, vo, os, vm, ms, v', ts ++ [u]⟩ : H4).rows ++ R) D :=
  KR.app (Z1 := [⟨32, vl, ls⟩, ⟨45, vo, os⟩, ⟨32, vm, ms⟩]) (Z2 := R) h ht
theorem KR.oL (h : KR W x fa m ((⟨vl, ls, vo, os, vm, ms, vt, ts⟩ : H4).rows ++ R) D) : x.ownsRow W.heap.size 32 1 vl ls.length ls := h.own ⟨32, vl, ls⟩ (by simp [H4.rows])
theorem KR.oO (h : KR W x fa m ((⟨vl, ls, vo, os, vm, ms, vt, ts⟩ : H4).rows ++ R) D) : x.ownsRow W.heap.size 45 1 vo os.length os := h.own ⟨45, vo, os⟩ (by simp [H4.rows])
theorem KR.oM (h : KR W x fa m ((⟨vl, ls, vo, os, vm, ms, vt, ts⟩ : H4).rows ++ R) D) : x.ownsRow W.heap.size 32 1 vm ms.length ms := h.own ⟨32, vm, ms⟩ (by simp [H4.rows])
theorem KR.oT (h : KR W x fa m ((⟨vl, ls, vo, os, vm, ms, vt, ts⟩ : H4).rows ++ R) D) : x.ownsRow W.heap.size 45 1 vt ts.length ts := h.own ⟨45, vt, ts⟩ (by simp [H4.rows])
end
theorem KR.mark2 {W x : World} {p : Dp} {d : DS} {Z1 Z2 D : List RowT} {a : RowT} {e : TypeId} {g N vc j : Nat} {u : Value} {A : List Value} (h : KR W x p d (Z1 ++ a :: ⟨e, .slice (some ⟨g, 0, none⟩) N vc, wrm u A j⟩ :: Z2) D) (hN : A.length = N) (hj : j < N) :
    KR W (x.setCell ⟨g, j, none⟩ u) p d (Z1 ++ a :: ⟨e, .slice (some ⟨g, 0, none⟩) N vc, wrm u A (j + 1)⟩ :: Z2) D := by
  have := KR.markj (Z1 := Z1 ++ [a]) (Z2 := Z2) (by simpa using h) hN hj
  simpa using this
theorem ints_len (A : List Nat) : (ints A).length = A.length := by simp [ints]
theorem keepsT (W w : World) (p : Dp) (d : DS) (times : Int) (t0 : -9223372036854775808 ≤ times) (t1 : times ≤ 9223372036854775807) (NW NO : Nat) (hNW : 1 + 2 * d.m.ns = NW) (hLW : d.ws.length = NW) (hW1 : 1 ≤ NW ∧ NW ≤ 200) (hNO : (d.owned 3).length = NO) (h2 : 2 ≤ NO) (h64 : NO ≤ 64) (ko po fo : Option Addr) (kc pc fc : Nat)
    (hrg : ∀ y ∈ d.ws, 0 ≤ y ∧ y < 4294967296)
    (hK : KR W w p d [] [⟨27, .slice ko NW kc, u32s d.ws⟩, ⟨3, .slice po NO pc, ints (d.owned 3)⟩, ⟨3, .slice fo NO fc, ints (d.owned 3)⟩])
    (z0 z2 z3 z4 z5 z6 z7 z8 z9 z11 z12 z14 z15 z16 z17 z18 z19 z20 z21 z24 z25 z26 z27 z28 z29 z30 z31 z32 z33 z34 z35 z36 z37 z38 z39 z40 z41 z42 z43 z44 z45 z46 z47 z48 z49 z50 z51 z52 z53 z54 z55 z56 z57 z58 z59 z60 z61 z62 z63 z64 z65 z66 z67 z68 z69 z70 z71 z72 z73 z74 z75 z76 z77 z78 z79 z80 z81 z82 z83 z84 z85 z86 z87 z88 z89 z90 z91 z92 z93 z94 z95 z96 z97 z98 z99 z100 z101 z102 z103 z104 z105 z106 z107 z108 z109 z110 z111 z112 z113 z114 z115 z116 z117 z118 z119 z120 z121 z122 z123 z124 z125 z126 z127 z128 z129 z130 z131 z132 z133 z134 z135 z136 z137 z138 z139 z140 z141 z142 z143 z144 z145 z146 z147 z148 z149 z150 z151 z152 z153 z154 z155 z156 z157 z158 z159 z160 z161 z162 z163 z164 z165 z166 z167 z168 z169 z170 z171 z172 z173 z174 z175 z176 z177 z178 z179 z180 z181 z182 z183 z184 z185 z186 z187 z188 z189 z190 z191 z192 z193 z194 z195 z196 z197 z198 z199 z200 z201 z202 z203 z204 z205 z206 z207 z208 z209 z210 z211 z212 z213 z214 z215 z216 z217 z218 z219 z220 z221 z222 z223 z224 z225 z226 z227 z228 z229 z230 z231 z232 z233 z234 z235 z236 z237 z238 z239 z240 z241 z242 z243 z244 z245 z246 z247 z248 z249 z250 z251 z252 z253 z254 z255 z256 z257 z258 z259 z260 z261 z262 z263 z264 z265 z266 z267 z268 z269 z270 z271 z272 z273 z274 z275 z276 z277 z278 z279 z280 z281 z282 z283 z284 z285 z286 z287 z288 z289 z290 z291 z292 z293 z294 z295 z296 z297 z298 z299 z300 z301 z302 z303 z304 z305 z306 z307 z308 z309 z310 z311 z312 z313 z314 z315 z316 z317 z318 z319 z320 z321 z322 z323 z324 z325 z326 z327 z328 z329 z330 z331 z332 z333 z334 z335 z336 z337 z338 z339 z340 z341 z342 z343 z344 z345 z346 z347 z348 z349 z350 z351 z352 z353 z354 z355 z356 z357 z358 : Value) :
    Code.wp Try.prog (sfx 21 (Try.f4.body.getD .skip)) (bodyPost Try.prog Try.f4 fun x w' => x = .returned (.bool true) ∧ Below W.heap.size W w') { tmps := #[z0, .int .i64 times, z2, z3, z4, z5, z6, z7, z8, z9, .slice ko NW kc, z11, z12, ptr p.g, z14, z15, z16, z17, z18, z19, z20, z21, .slice po NO pc, .slice fo NO fc, z24, z25, z26, z27, z28, z29, z30, z31, z32, z33, z34, z35, z36, z37, z38, z39, z40, z41, z42, z43, z44, z45, z46, z47, z48, z49, z50, z51, z52, z53, z54, z55, z56, z57, z58, z59, z60, z61, z62, z63, z64, z65, z66, z67, z68, z69, z70, z71, z72, z73, z74, z75, z76, z77, z78, z79, z80, z81, z82, z83, z84, z85, z86, z87, z88, z89, z90, z91, z92, z93, z94, z95, z96, z97, z98, z99, z100, z101, z102, z103, z104, z105, z106, z107, z108, z109, z110, z111, z112, z113, z114, z115, z116, z117, z118, z119, z120, z121, z122, z123, z124, z125, z126, z127, z128, z129, z130, z131, z132, z133, z134, z135, z136, z137, z138, z139, z140, z141, z142, z143, z144, z145, z146, z147, z148, z149, z150, z151, z152, z153, z154, z155, z156, z157, z158, z159, z160, z161, z162, z163, z164, z165, z166, z167, z168, z169, z170, z171, z172, z173, z174, z175, z176, z177, z178, z179, z180, z181, z182, z183, z184, z185, z186, z187, z188, z189, z190, z191, z192, z193, z194, z195, z196, z197, z198, z199, z200, z201, z202, z203, z204, z205, z206, z207, z208, z209, z210, z211, z212, z213, z214, z215, z216, z217, z218, z219, z220, z221, z222, z223, z224, z225, z226, z227, z228, z229, z230, z231, z232, z233, z234, z235, z236, z237, z238, z239, z240, z241, z242, z243, z244, z245, z246, z247, z248, z249, z250, z251, z252, z253, z254, z255, z256, z257, z258, z259, z260, z261, z262, z263, z264, z265, z266, z267, z268, z269, z270, z271, z272, z273, z274, z275, z276, z277, z278, z279, z280, z281, z282, z283, z284, z285, z286, z287, z288, z289, z290, z291, z292, z293, z294, z295, z296, z297, z298, z299, z300, z301, z302, z303, z304, z305, z306, z307, z308, z309, z310, z311, z312, z313, z314, z315, z316, z317, z318, z319, z320, z321, z322, z323, z324, z325, z326, z327, z328, z329, z330, z331, z332, z333, z334, z335, z336, z337, z338, z339, z340, z341, z342, z343, z344, z345, z346, z347, z348, z349, z350, z351, z352, z353, z354, z355, z356, z357, z358], defers := [] } w := by
  have HW := hid (fun w (h : DB w p d) => words_any w p d h)
  have HO := hid (fun w (h : DB w p d) => owned_any w p d h 3)
  have HSW := hid (fun w ao bo (c c' : Nat) (hA : WL w ao NW d.ws) (hB : WL w bo NW d.ws) => sameWords_any w ao bo NW NW c c' d.ws d.ws hA hB (by omega))
  have HSN := hid (fun w ao bo (c c' : Nat) (hA : NL w ao (d.owned 3)) (hB : NL w bo (d.owned 3)) => sameNums_any w ao bo c c' (d.owned 3) hA hB (by omega))
  obtain ⟨T, T0, T1, hT⟩ := within_nat times 2 6 (by decide) (by decide) (by decide) t0 t1
  have HT := hid hT
  have HRg := hid hrg
  clear hT hrg t0 t1
  simp only [hNW, hNO, ptr, decide_true] at HW HO HSW HSN
  have HLi := hid (show (ints (d.owned 3)).length = NO by rw [ints_len, hNO])
  have HLw := hid (show (u32s d.ws).length = NW by rw [u32s_len, hLW])
  have HLo := hid hNO
  have HLl := hid hLW
  clear hNO hLW hNW
  generalize d.ws = L at *
  generalize d.owned 3 = O at *
  have N2 : (2 : Int) ≤ (NO : Int) := by omega
  have N3 : (NO : Int) ≤ 64 := by omega
  have N4 : (NW : Int) ≤ 200 := by omega
  have HN := hid (And.intro h2 (And.intro h64 hW1.1))
  have HW1 := hid hW1
  clear h2 h64 hW1
  have I0 := hid (KI.start (AW := u32s L) (AO := ints O) hK)
  clear hK
  have HFk : Hid (∀ w D h t, KI W w p d (u32s L) (ints O) [⟨27, .slice ko NW kc, u32s L⟩, ⟨3, .slice po NO pc, ints O⟩, ⟨3, .slice fo NO fc, ints O⟩] t D h → WL w ko NW L ∧ NL w po O ∧ NL w fo O) := hid (fun w D h t hi => by
    have r1 := hi.k.dn _ (hi.f ⟨27, .slice ko NW kc, u32s L⟩ (by simp))
    have r2 := hi.k.dn _ (hi.f ⟨3, .slice po NO pc, ints O⟩ (by simp))
    have r3 := hi.k.dn _ (hi.f ⟨3, .slice fo NO fc, ints O⟩ (by simp))
    unfold Rw at r1 r2 r3
    obtain ⟨a1, c1, e1, h1⟩ := row_wl r1 HRg.out
    rw [HLl.out] at e1 h1
    cases e1
    simp only [ints_len] at r2 r3
    obtain ⟨a2, c2, e2, h2⟩ := own_nl r2
    obtain ⟨a3, c3, e3, h3⟩ := own_nl r3
    cases e2
    cases e3
    exact ⟨h1, h2, h3⟩)
  refine sfx_walk 21 rfl (by simp only [sfx]; rfl) ?_
  go_upto_region 46 with fail
  go_loopw [24, 25, 26, 27, 28] (fun a b c e i wr => ∃ (t : Nat) (vl : Value) (ls : List Value) (vo : Value) (os : List Value) (vm : Value) (ms : List Value) (vt : Value) (ts : List Value) (D : List RowT), vl = a ∧ vo = b ∧ vm = c ∧ vt = e ∧ (t = 0 ∨ t = 2 ∨ t = 4 ∨ t = 6) ∧ i = .int .i64 (t : Int) ∧ Hid (KI W wr p d (u32s L) (ints O) [⟨27, .slice ko NW kc, u32s L⟩, ⟨3, .slice po NO pc, ints O⟩, ⟨3, .slice fo NO fc, ints O⟩] t D ⟨vl, ls, vo, os, vm, ms, vt, ts⟩)) (fun _ _ _ _ i _ => 8 - (intOf i).toNat)
  case atStart => exact ⟨0, _, [], _, [], _, [], _, [], _, rfl, rfl, rfl, rfl, .inl rfl, rfl, I0⟩
  case round =>
    obtain ⟨t, vl, ls, vo, os, vm, ms, vt, ts, D, rfl, rfl, rfl, rfl, ht, rfl, HI⟩ := hrel
    clear I0
    have ht6 : (t : Int) ≤ 6 := by omega
    by_cases hlt : t < T
    · have q1 : (t : Int) < (T : Int) := by omega
      have HT2 : Hid (t = 0 ∨ t = 2 ∨ t = 4) := hid (by omega)
      clear hlt ht
      go_upto_region 49 with (go_at_call 21; refine (HT.out _).mono ?_; rintro e wz ⟨rfl, hw⟩; subst wz)
      go_loopw [24, 25, 29] (fun a b i wr => ∃ (c : Nat) (vl2 : Value) (ls2 : List Value) (vo2 : Value) (os2 : List Value) (zs : List (Value × Value)), vl2 = a ∧ vo2 = b ∧ c ≤ 2 ∧ i = .int .i64 (c : Int) ∧ Hid (KH W wr p d (u32s L) (ints O) [⟨27, .slice ko NW kc, u32s L⟩, ⟨3, .slice po NO pc, ints O⟩, ⟨3, .slice fo NO fc, ints O⟩] t c zs D ⟨vl2, ls2, vo2, os2, vm, ms, vt, ts⟩)) (fun _ _ i _ => 2 - (intOf i).toNat)
      case atStart => exact ⟨0, _, _, _, _, [], rfl, rfl, by omega, rfl, hid HI.out.kh⟩
      case round =>
        obtain ⟨c, vl2, ls2, vo2, os2, zs, rfl, rfl, hc, rfl, HQ⟩ := hrel
        by_cases hlt : c < 2
        · have q3 : (c : Int) < 2 := by omega
          have HC := hid hlt
          clear hlt hc
          as_aux_lemma =>
            go_upto_region 52 with (go_at_call 9; refine (HW.out _ HQ.out.k.a).mono ?_; rintro e w5 ⟨gn, rfl, hcel, hge, hb⟩; have RW := hid (cel_own hcel hge HLw.out (by omega)); have K5 := hid (HQ.out.k.addZ hb (by rw [HLw.out]; exact RW.out)); have B5 := hid hb; clear hcel hge hb)
            go_upto_region 53 with (go_at_call 20; refine (HO.out _ K5.out.a).mono ?_; rintro e w6 ⟨v6, rfl, ho6, hb6⟩; have R6 := hid ho6; have K6 := hid (K5.out.addZ hb6 (by rw [HLi.out]; exact ho6)); have B6 := hid (below_on B5.out hb6); clear ho6 hb6)
            obtain ⟨vo6, vc6, hv6, _⟩ := own_form R6.out
            subst hv6
            have HWL : Hid (WL w6 (some ⟨gn, 0, none⟩) NW L ∧ NL w6 vo6 O) := hid (by
              have r1 := K6.out.own ⟨27, .slice (some ⟨gn, 0, none⟩) NW NW, u32s L⟩ (by simp)
              have r2 := K6.out.own ⟨3, .slice vo6 NO vc6, ints O⟩ (by simp)
              unfold Rw at r1 r2
              obtain ⟨a1, c1, e1, h1⟩ := row_wl r1 HRg.out
              rw [HLl.out] at e1 h1
              cases e1
              simp only [ints_len] at r2
              obtain ⟨a2, c2, e2, h2⟩ := own_nl r2
              cases e2
              exact ⟨h1, h2⟩)
            have HWK : Hid (WL w6 ko NW L ∧ NL w6 fo O) := hid (by
              have r1 := K6.out.dn _ (HQ.out.f ⟨27, .slice ko NW kc, u32s L⟩ (by simp))
              have r2 := K6.out.dn _ (HQ.out.f ⟨3, .slice fo NO fc, ints O⟩ (by simp))
              unfold Rw at r1 r2
              obtain ⟨a1, c1, e1, h1⟩ := row_wl r1 HRg.out
              rw [HLl.out] at e1 h1
              cases e1
              simp only [ints_len] at r2
              obtain ⟨a2, c2, e2, h2⟩ := own_nl r2
              cases e2
              exact ⟨h1, h2⟩)
            clear R6 RW K5 B5
            go_upto_region 55 with (first | (go_at_call 15; refine (HSW.out _ _ _ _ _ HWL.out.1 HWK.out.1).mono ?_; rintro e w7 ⟨rfl, hb7⟩; have K7 := hid (K6.out.on hb7); have N7 := hid (And.intro (HWL.out.2.on hb7) (HWK.out.2.on hb7)); clear hb7 K6 HWL HWK) | (go_at_call 22; refine (HSN.out _ _ _ _ _ N7.out.1 N7.out.2).mono ?_; rintro e w8 ⟨rfl, hb8⟩; have K8 := hid (K7.out.on hb8); clear hb8 K7 N7))
            simp only [List.append_assoc, List.cons_append, List.nil_append] at K8
            have HLs : Hid (ls2.length ≤ 1000000 ∧ os2.length ≤ 1000000) := hid (by have h1 := HQ.out.ll; have h2 := HQ.out.lo; simp only at h1 h2; omega)
            have K9 := hid (K8.out.on (below_one w8 (.cells #[.slice (some ⟨gn, 0, none⟩) NW NW] 32)))
            have C9 := hid (Cel.new w8 32 [.slice (some ⟨gn, 0, none⟩) NW NW])
            clear K8
            go_upto_region 56 with (at_builtin; refine appOne under47 inf32 rfl (by decide) rfl _ _ rfl rfl K9.out.oL K9.out.below.size rfl C9.out rfl HLs.out.1 ?_; intro va wa hta; have KA := hid (K9.out.appL hta); clear hta K9 C9)
            have KB := hid (KA.out.on (below_one wa (.cells #[.slice vo6 NO vc6] 45)))
            have CB := hid (Cel.new wa 45 [.slice vo6 NO vc6])
            clear KA
            go_wp2_with (at_builtin; refine appOne under48 inf45 rfl (by decide) rfl _ _ rfl rfl KB.out.oO KB.out.below.size rfl CB.out rfl HLs.out.2 ?_; intro vb wb htb; have KC := hid (KB.out.appO htb); clear htb KB CB)
            go_roundw
            case measure => have := HC.out; simp [intOf] <;> omega
            case rel => first | exact ⟨c + 1, _, _, _, _, _, rfl, rfl, HC.out, by simp, hid (HQ.out.next KC.out)⟩ | ((repeat apply Exists.intro); refine ⟨?_, rfl⟩; exact ⟨c + 1, _, _, _, _, _, rfl, rfl, HC.out, by simp, hid (HQ.out.next KC.out)⟩)
        · obtain rfl : c = 2 := by omega
          have J0 := hid HQ.out.kj
          clear hlt hc HQ HI
          go_upto_region 58 with fail
          go_loopw [26, 27, 32] (fun a b i wr => ∃ (c : Nat) (vm2 : Value) (ms2 : List Value) (vt2 : Value) (ts2 : List Value) (D2 : List RowT), vm2 = a ∧ vt2 = b ∧ c ≤ 2 ∧ i = .int .i64 ((t : Int) + (c : Int)) ∧ Hid (KJ W wr p d (u32s L) (ints O) [⟨27, .slice ko NW kc, u32s L⟩, ⟨3, .slice po NO pc, ints O⟩, ⟨3, .slice fo NO fc, ints O⟩] t c zs D2 ⟨vl2, ls2, vo2, os2, vm2, ms2, vt2, ts2⟩)) (fun _ _ i _ => t + 2 - (intOf i).toNat)
          case atStart => exact ⟨0, _, _, _, _, _, rfl, rfl, by omega, by simp, J0⟩
          case round =>
            obtain ⟨c, vm2, ms2, vt2, ts2, D2, rfl, rfl, hc, rfl, HJJ⟩ := hrel
            clear J0
            by_cases hlt : c < 2
            · as_aux_lemma =>
                have q4 : (t : Int) + (c : Int) < (t : Int) + 2 := by omega
                have w2 : IntKind.wrap .i64 ((t : Int) + 2) = (t : Int) + 2 := wr64 _ (by omega) (by omega)
                obtain ⟨⟨v, u⟩, hv⟩ : ∃ z, zs[c]? = some z := ⟨zs[c]'(by rw [HJJ.out.zl]; exact hlt), List.getElem?_eq_getElem _⟩
                have HC := hid (And.intro hlt hv)
                have q3 : (c : Int) < 2 := by omega
                have q3' : (0 : Int) ≤ (t : Int) + (c : Int) := by omega
                clear hlt hc hv
                have J1 := hid HJJ.out.k
                rw [wdrop HC.out.2] at J1
                simp only [pnd] at J1
                have hll : ls2.length = t + 2 := HJJ.out.ll
                have hlo : os2.length = t + 2 := HJJ.out.lo
                have o1 := J1.out.own ⟨27, v, u32s L⟩ (by simp)
                have o2 := J1.out.own ⟨3, u, ints O⟩ (by simp)
                unfold Rw at o1 o2
                simp only [HLw.out, HLi.out] at o1 o2
                obtain ⟨gv, vc, hvf, _⟩ := row_g o1 (by have := HN.out.2.2; omega)
                obtain ⟨gu, uc, huf, _⟩ := row_g o2 (by have := HN.out.1; omega)
                subst hvf huf
                obtain ⟨gl, lc, hlf, hlc⟩ := row_g J1.out.oL (by omega)
                obtain ⟨go, oc, hof, hoc⟩ := row_g J1.out.oO (by omega)
                rw [hll] at hlf
                rw [hlo] at hof
                subst hlf hof
                have chl := hlc _ _ (HJJ.out.al c _ HC.out.2)
                have cho := hoc _ _ (HJJ.out.ao c _ HC.out.2)
                simp only at chl cho
                have HMs : Hid (ms2.length ≤ 1000000 ∧ ts2.length ≤ 1000000) := hid (by have h1 := HJJ.out.lm; have h2 := HJJ.out.lt; simp only at h1 h2; omega)
                have hk1 : ((t : Int) + (c : Int)).toNat = t + c := by omega
                have hk4 : IntKind.wrap .i64 (-((t : Int) + (c : Int))) = -((t : Int) + (c : Int)) := wr64 _ (by omega) (by omega)
                have hk5 : IntKind.wrap .i64 (-((t : Int) + (c : Int)) - 1) = -((t : Int) + (c : Int)) - 1 := wr64 _ (by omega) (by omega)
                have hk6 : IntKind.wrap .i64 ((t : Int) + (c : Int) + 1) = (t : Int) + (c : Int) + 1 := wr64 _ (by omega) (by omega)
                have hk7 : IntKind.wrap .i64 ((t : Int) + (c : Int) + 900) = (t : Int) + (c : Int) + 900 := wr64 _ (by omega) (by omega)
                have hk8 : IntKind.wrap .u32 ((t : Int) + (c : Int) + 900) = (t : Int) + (c : Int) + 900 := wr32 _ (by omega) (by omega)
                have HMw : Hid (mw (t + c) = .int .u32 ((t : Int) + (c : Int) + 900)) := hid (by simp [mw])
                have HMi : Hid (mi (t + c) = .int .i64 (-((t : Int) + (c : Int)) - 1)) := hid (by simp [mi])
                clear o1 o2 hll hlo hlc hoc
                go_upto_region 63 with fail
                clear chl cho
                go_loopw [35] (fun i wr => ∃ (j : Nat), j ≤ NW ∧ i = .int .i64 (j : Int) ∧ Hid (KR W wr p d ((⟨.slice (some ⟨gl, 0, none⟩) (t + 2) lc, ls2, .slice (some ⟨go, 0, none⟩) (t + 2) oc, os2, vm2, ms2, vt2, ts2⟩ : H4).rows ++ ⟨27, .slice (some ⟨gv, 0, none⟩) NW vc, wrm (mw (t + c)) (u32s L) j⟩ :: ⟨3, .slice (some ⟨gu, 0, none⟩) NO uc, ints O⟩ :: pnd (u32s L) (ints O) (zs.drop (c + 1))) D2)) (fun i _ => NW - (intOf i).toNat)
                case atStart => exact ⟨0, by omega, rfl, J1⟩
                case round =>
                  obtain ⟨j, hj, rfl, KQ⟩ := hrel
                  clear J1
                  by_cases hlt : j < NW
                  · have q5 : (j : Int) < (NW : Int) := by omega
                    have HJ2 := hid hlt
                    have o1 := KQ.out.own ⟨27, .slice (some ⟨gv, 0, none⟩) NW vc, wrm (mw (t + c)) (u32s L) j⟩ (by simp)
                    unfold Rw at o1
                    simp only [wrm_len (mw (t + c)) (u32s L) j (by rw [HLw.out]; omega), HLw.out] at o1
                    have f1 := row_free o1 j
                    obtain ⟨y, hy⟩ : ∃ y, wr.cell? ⟨gv, j, none⟩ = some y := by
                      obtain ⟨y, hy⟩ : ∃ y, (wrm (mw (t + c)) (u32s L) j)[j]? = some y := ⟨(wrm (mw (t + c)) (u32s L) j)[j]'(by rw [wrm_len _ _ _ (by rw [HLw.out]; omega), HLw.out]; exact hlt), List.getElem?_eq_getElem _⟩
                      exact ⟨y, own_cell o1 hy⟩
                    have k8 := KQ.out.markj HLw.out hlt
                    rw [show wr.setCell ⟨gv, j, none⟩ (mw (t + c)) = wr.setCell ⟨gv, j, none⟩ (.int .u32 ((t : Int) + (c : Int) + 900)) by rw [HMw.out]] at k8
                    have K8 := hid k8
                    clear o1 hlt hj k8
                    go_wp2_with fail
                    go_roundw
                    case measure => have := HJ2.out; simp [intOf] <;> omega
                    case rel => exact ⟨j + 1, HJ2.out, by simp, K8⟩
                  · obtain rfl : NW = j := by omega
                    clear hlt hj
                    go_upto_region 67 with fail
                    have hw : wrm (mw (t + c)) (u32s L) NW = mrk (mw (t + c)) NW := by rw [← HLw.out]; exact wrm_all _ _
                    rw [hw] at KQ
                    clear hw
                    go_loopw [36] (fun i wr => ∃ (j : Nat), j ≤ NO ∧ i = .int .i64 (j : Int) ∧ Hid (KR W wr p d ((⟨.slice (some ⟨gl, 0, none⟩) (t + 2) lc, ls2, .slice (some ⟨go, 0, none⟩) (t + 2) oc, os2, vm2, ms2, vt2, ts2⟩ : H4).rows ++ ⟨27, .slice (some ⟨gv, 0, none⟩) NW vc, mrk (mw (t + c)) NW⟩ :: ⟨3, .slice (some ⟨gu, 0, none⟩) NO uc, wrm (mi (t + c)) (ints O) j⟩ :: pnd (u32s L) (ints O) (zs.drop (c + 1))) D2)) (fun i _ => NO - (intOf i).toNat)
                    case atStart => exact ⟨0, by omega, rfl, KQ⟩
                    case round =>
                      obtain ⟨j, hj, rfl, KP⟩ := hrel
                      clear KQ
                      by_cases hlt : j < NO
                      · have q5 : (j : Int) < (NO : Int) := by omega
                        have HJ2 := hid hlt
                        have o1 := KP.out.own ⟨3, .slice (some ⟨gu, 0, none⟩) NO uc, wrm (mi (t + c)) (ints O) j⟩ (by simp)
                        unfold Rw at o1
                        simp only [wrm_len (mi (t + c)) (ints O) j (by rw [HLi.out]; omega), HLi.out] at o1
                        have f1 := row_free o1 j
                        obtain ⟨y, hy⟩ : ∃ y, wr.cell? ⟨gu, j, none⟩ = some y := by
                          obtain ⟨y, hy⟩ : ∃ y, (wrm (mi (t + c)) (ints O) j)[j]? = some y := ⟨(wrm (mi (t + c)) (ints O) j)[j]'(by rw [wrm_len _ _ _ (by rw [HLi.out]; omega), HLi.out]; exact hlt), List.getElem?_eq_getElem _⟩
                          exact ⟨y, own_cell o1 hy⟩
                        have k8 := KP.out.mark2 HLi.out hlt
                        rw [show wr.setCell ⟨gu, j, none⟩ (mi (t + c)) = wr.setCell ⟨gu, j, none⟩ (.int .i64 (-((t : Int) + (c : Int)) - 1)) by rw [HMi.out]] at k8
                        have K8 := hid k8
                        clear o1 hlt hj k8
                        go_wp2_with fail
                        go_roundw
                        case measure => have := HJ2.out; simp [intOf] <;> omega
                        case rel => exact ⟨j + 1, HJ2.out, by simp, K8⟩
                      · obtain rfl : NO = j := by omega
                        clear hlt hj
                        go_upto_region 70 with fail
                        have hw : wrm (mi (t + c)) (ints O) NO = mrk (mi (t + c)) NO := by rw [← HLi.out]; exact wrm_all _ _
                        rw [hw] at KP
                        clear hw
                        have M1 := hid (KP.out.on (below_one wr (.cells #[.int .u32 ((t : Int) + (c : Int) + 900)] 27)))
                        have C1 := hid (Cel.new wr 27 [.int .u32 ((t : Int) + (c : Int) + 900)])
                        have O1 := hid (M1.out.own ⟨27, .slice (some ⟨gv, 0, none⟩) NW vc, mrk (mw (t + c)) NW⟩ (by simp))
                        unfold Rw at O1
                        simp only at O1
                        have HB1 : Hid ((mrk (mw (t + c)) NW).length ≤ 1000000) := hid (by rw [mrk_len]; omega)
                        have HB2 : Hid ((mrk (mi (t + c)) NO).length ≤ 1000000) := hid (by rw [mrk_len]; omega)
                        clear KP
                        go_upto_region 71 with (first | (at_builtin; refine appOne (v := .slice (some ⟨gv, 0, none⟩) NW vc) (hs := mrk (mw (t + c)) NW) (y := .int .u32 ((t : Int) + (c : Int) + 900)) (g := wr.heap.size) under24 inf27 rfl (by decide) rfl _ _ rfl rfl O1.out M1.out.below.size rfl C1.out rfl HB1.out ?_; intro v6 w6 ht6; have M2 := hid (M1.out.mv ht6); clear ht6 M1 O1 C1; rw [← HMw.out] at M2; rw [mrk_snoc] at M2; have o6 := M2.out.dn ⟨27, v6, mrk (mw (t + c)) (NW + 1)⟩ (by simp); unfold Rw at o6; simp only [mrk_len] at o6; obtain ⟨lo6, lc6, hlf, _⟩ := own_form o6; subst hlf; have M3 := hid (M2.out.on (below_one w6 (.cells #[.slice lo6 (NW + 1) lc6] 32))); have C3 := hid (Cel.new w6 32 [.slice lo6 (NW + 1) lc6]); clear M2 o6) | (at_builtin; refine appOne under47 inf32 rfl (by decide) rfl _ _ rfl rfl M3.out.oM M3.out.below.size rfl C3.out rfl HMs.out.1 ?_; intro g7 w7 ht7; have M4 := hid (M3.out.appM ht7); clear ht7 M3 C3))
                        have M5 := hid (M4.out.on (below_one w7 (.cells #[.int .i64 (-((t : Int) + (c : Int)) - 1)] 3)))
                        have C5 := hid (Cel.new w7 3 [.int .i64 (-((t : Int) + (c : Int)) - 1)])
                        have O5 := hid (M5.out.own ⟨3, .slice (some ⟨gu, 0, none⟩) NO uc, mrk (mi (t + c)) NO⟩ (by simp))
                        unfold Rw at O5
                        simp only at O5
                        clear M4
                        go_wp2_with (first | (at_builtin; refine appOne (v := .slice (some ⟨gu, 0, none⟩) NO uc) (hs := mrk (mi (t + c)) NO) (y := .int .i64 (-((t : Int) + (c : Int)) - 1)) (g := w7.heap.size) under45 info3 rfl (by decide) rfl _ _ rfl rfl O5.out M5.out.below.size rfl C5.out rfl HB2.out ?_; intro v8 w8 ht8; have M6 := hid (M5.out.mv ht8); clear ht8 M5 O5 C5; rw [← HMi.out] at M6; rw [mrk_snoc] at M6; have o8 := M6.out.dn ⟨3, v8, mrk (mi (t + c)) (NO + 1)⟩ (by simp); unfold Rw at o8; simp only [mrk_len] at o8; obtain ⟨lo8, lc8, hlf, _⟩ := own_form o8; subst hlf; have M7 := hid (M6.out.on (below_one w8 (.cells #[.slice lo8 (NO + 1) lc8] 45))); have C7 := hid (Cel.new w8 45 [.slice lo8 (NO + 1) lc8]); clear M6 o8) | (at_builtin; refine appOne under48 inf45 rfl (by decide) rfl _ _ rfl rfl M7.out.oT M7.out.below.size rfl C7.out rfl HMs.out.2 ?_; intro g9 w9 ht9; have M8 := hid (M7.out.appT ht9); clear ht9 M7 C7))
                        simp only [List.append_assoc, List.cons_append, List.nil_append] at M8
                        go_roundw
                        case measure => have := HC.out.1; simp [intOf] <;> omega
                        case rel => first | exact ⟨c + 1, _, _, _, _, _, rfl, rfl, HC.out.1, by simp [Int.add_assoc], hid (HJJ.out.next HC.out.2 (by rw [HLw.out, HLi.out]; exact M8.out))⟩ | ((repeat apply Exists.intro); refine ⟨?_, rfl⟩; exact ⟨c + 1, _, _, _, _, _, rfl, rfl, HC.out.1, by simp [Int.add_assoc], hid (HJJ.out.next HC.out.2 (by rw [HLw.out, HLi.out]; exact M8.out))⟩)
            · obtain rfl : c = 2 := by omega
              have I9 := hid HJJ.out.done
              clear hlt hc HJJ
              as_aux_lemma =>
                have k9 : KR W wr p d ((⟨vl2, ls2, vo2, os2, vm2, ms2, vt2, ts2⟩ : H4).rows ++ []) D2 := by rw [List.append_nil]; exact I9.out.k
                have l1 : ls2.length = t + 2 := I9.out.ll
                have l2 : os2.length = t + 2 := I9.out.lo
                have l3 : ms2.length = t + 2 := I9.out.lm
                have l4 : ts2.length = t + 2 := I9.out.lt
                obtain ⟨g1, c1, e1, hc1⟩ := row_g k9.oL (by omega)
                obtain ⟨g2, c2, e2, hc2⟩ := row_g k9.oO (by omega)
                obtain ⟨g3, c3, e3, hc3⟩ := row_g k9.oM (by omega)
                obtain ⟨g4, c4, e4, hc4⟩ := row_g k9.oT (by omega)
                rw [l1] at e1
                rw [l2] at e2
                rw [l3] at e3
                rw [l4] at e4
                subst e1 e2 e3 e4
                have HC1 := hid hc1
                have HC2 := hid hc2
                have HC3 := hid hc3
                have HC4 := hid hc4
                have w2 : IntKind.wrap .i64 ((t : Int) + 2) = (t : Int) + 2 := wr64 _ (by omega) (by omega)
                have w1' : IntKind.wrap .i64 ((t : Int) + 1) = (t : Int) + 1 := wr64 _ (by omega) (by omega)
                clear hc1 hc2 hc3 hc4 k9 l1 l2 l3 l4
                go_upto_region 73 with fail
                go_loopw [37] (fun i w => ∃ (k : Nat), k ≤ t + 2 ∧ i = .int .i64 (k : Int) ∧ wr = w) (fun i _ => t + 2 - (intOf i).toNat)
                case atStart => exact ⟨0, by omega, rfl, rfl⟩
                case round =>
                  obtain ⟨k, hk, rfl, rfl⟩ := hrel
                  by_cases hlt : k < t + 2
                  · have k1 : (k : Int) ≤ (t : Int) + 1 := by omega
                    have k2 : (k : Int) < (t : Int) + 2 := by omega
                    have HKl := hid hlt
                    obtain ⟨a, b, cc, ee, ha, hb, hcc, hee, da, db, dc, de⟩ := (I9.out.m k hlt).ex
                    have oa := I9.out.k.dn _ da
                    have ob := I9.out.k.dn _ db
                    have oc := I9.out.k.dn _ dc
                    have oe := I9.out.k.dn _ de
                    unfold Rw at oa ob oc oe
                    simp only [mrk_len, HLw.out, HLi.out] at oa ob oc oe
                    obtain ⟨ga, ca, ea, hca⟩ := row_g oa (by have := HN.out.2.2; omega)
                    obtain ⟨gb, cb, eb, hcb⟩ := row_g ob (by have := HN.out.1; omega)
                    obtain ⟨gc, cd, ec, hcd⟩ := row_g oc (by omega)
                    obtain ⟨ge, cf, ef, hcf⟩ := row_g oe (by omega)
                    subst ea eb ec ef
                    have x1 := HC1.out k _ ha
                    have x2 := HC2.out k _ hb
                    have x3 := HC3.out k _ hcc
                    have x4 := HC4.out k _ hee
                    have HWa := hid (fun j (hj : j < NW) => hca j _ (mrk_at (mw k) NW j hj))
                    have HWm := hid (fun j (hj : j < NW + 1) => hcd j _ (mrk_at (mw k) (NW + 1) j hj))
                    have HOa := hid (fun j (hj : j < NO) => hcb j _ (mrk_at (mi k) NO j hj))
                    have HOm := hid (fun j (hj : j < NO + 1) => hcf j _ (mrk_at (mi k) (NO + 1) j hj))
                    unfold mw at HWa HWm
                    unfold mi at HOa HOm
                    have hn1 : IntKind.wrap .i64 (-(k : Int)) = -(k : Int) := wr64 _ (by omega) (by omega)
                    have hn2 : IntKind.wrap .i64 (-(k : Int) - 1) = -(k : Int) - 1 := wr64 _ (by omega) (by omega)
                    have hn3 : IntKind.wrap .i64 ((k : Int) + 900) = (k : Int) + 900 := wr64 _ (by omega) (by omega)
                    have hn4 : IntKind.wrap .u32 ((k : Int) + 900) = (k : Int) + 900 := wr32 _ (by omega) (by omega)
                    clear ha hb hcc hee da db dc de oa ob oc oe hca hcb hcd hcf hlt hk
                    go_upto_region 76 with fail
                    go_loopw [38] (fun i w => ∃ (j : Nat), j ≤ NW + 1 ∧ i = .int .i64 (j : Int) ∧ wr = w) (fun i _ => NW + 1 - (intOf i).toNat)
                    case atStart => exact ⟨0, by omega, rfl, rfl⟩
                    case round =>
                      obtain ⟨j, hj, rfl, rfl⟩ := hrel
                      by_cases hlt : j < NW + 1
                      · have HJ3 := hid hlt
                        have cj := HWm.out j hlt
                        have j1 : (j : Int) ≤ (NW : Int) := by omega
                        have j2 : (j : Int) < (NW : Int) + 1 := by omega
                        by_cases hl2 : j < NW
                        · have j3 : (j : Int) < (NW : Int) := by omega
                          have cl := HWa.out j hl2
                          clear hlt hj hl2
                          go_wp2_with fail
                          go_roundw
                          case measure => have := HJ3.out; simp [intOf] <;> omega
                          case rel => first | exact ⟨j + 1, HJ3.out, by simp, trivial⟩ | exact ⟨j + 1, HJ3.out, by simp, rfl⟩ | ((repeat apply Exists.intro); refine ⟨?_, rfl⟩; first | exact ⟨j + 1, HJ3.out, by simp, trivial⟩ | exact ⟨j + 1, HJ3.out, by simp, rfl⟩)
                        · have j4 : (j : Int) = (NW : Int) := by omega
                          obtain rfl : j = NW := by omega
                          clear hlt hj hl2 j4
                          go_wp2_with fail
                          go_roundw
                          case measure => have := HJ3.out; simp [intOf] <;> omega
                          case rel => first | exact ⟨j + 1, HJ3.out, by simp, trivial⟩ | exact ⟨j + 1, HJ3.out, by simp, rfl⟩ | ((repeat apply Exists.intro); refine ⟨?_, rfl⟩; first | exact ⟨j + 1, HJ3.out, by simp, trivial⟩ | exact ⟨j + 1, HJ3.out, by simp, rfl⟩)
                      · obtain rfl : j = NW + 1 := by omega
                        clear hlt hj
                        have j5 : ¬ (((NW + 1 : Nat) : Int) ≤ (NW : Int)) := by omega
                        go_upto_region 81 with fail
                        go_loopw [39] (fun i w => ∃ (j : Nat), j ≤ NO + 1 ∧ i = .int .i64 (j : Int) ∧ wr = w) (fun i _ => NO + 1 - (intOf i).toNat)
                        case atStart => exact ⟨0, by omega, rfl, rfl⟩
                        case round =>
                          obtain ⟨j, hj, rfl, rfl⟩ := hrel
                          by_cases hlt : j < NO + 1
                          · have HJ3 := hid hlt
                            have cj := HOm.out j hlt
                            have j1 : (j : Int) ≤ (NO : Int) := by omega
                            have j2 : (j : Int) < (NO : Int) + 1 := by omega
                            by_cases hl2 : j < NO
                            · have j3 : (j : Int) < (NO : Int) := by omega
                              have cl := HOa.out j hl2
                              clear hlt hj hl2
                              go_wp2_with fail
                              go_roundw
                              case measure => have := HJ3.out; simp [intOf] <;> omega
                              case rel => first | exact ⟨j + 1, HJ3.out, by simp, trivial⟩ | exact ⟨j + 1, HJ3.out, by simp, rfl⟩ | ((repeat apply Exists.intro); refine ⟨?_, rfl⟩; first | exact ⟨j + 1, HJ3.out, by simp, trivial⟩ | exact ⟨j + 1, HJ3.out, by simp, rfl⟩)
                            · have j4 : (j : Int) = (NO : Int) := by omega
                              obtain rfl : j = NO := by omega
                              clear hlt hj hl2 j4
                              go_wp2_with fail
                              go_roundw
                              case measure => have := HJ3.out; simp [intOf] <;> omega
                              case rel => first | exact ⟨j + 1, HJ3.out, by simp, trivial⟩ | exact ⟨j + 1, HJ3.out, by simp, rfl⟩ | ((repeat apply Exists.intro); refine ⟨?_, rfl⟩; first | exact ⟨j + 1, HJ3.out, by simp, trivial⟩ | exact ⟨j + 1, HJ3.out, by simp, rfl⟩)
                          · obtain rfl : j = NO + 1 := by omega
                            clear hlt hj
                            have j5 : ¬ (((NO + 1 : Nat) : Int) ≤ (NO : Int)) := by omega
                            go_wp2_with fail
                            go_roundw
                            case measure => have := HKl.out; simp [intOf] <;> omega
                            case rel => first | exact ⟨k + 1, HKl.out, by simp, trivial⟩ | exact ⟨k + 1, HKl.out, by simp, rfl⟩ | ((repeat apply Exists.intro); refine ⟨?_, rfl⟩; first | exact ⟨k + 1, HKl.out, by simp, trivial⟩ | exact ⟨k + 1, HKl.out, by simp, rfl⟩)
                  · obtain rfl : k = t + 2 := by omega
                    clear hlt hk
                    have k5 : ¬ (((t + 2 : Nat) : Int) ≤ (t : Int) + 1) := by omega
                    go_wp2_with fail
                    go_roundw
                    case measure => have := HT2.out; simp [intOf] <;> omega
                    case rel => first | exact ⟨t + 2, _, _, _, _, _, _, _, _, _, rfl, rfl, rfl, rfl, (by have := HT2.out; omega), by simp, I9⟩ | ((repeat apply Exists.intro); refine ⟨?_, rfl⟩; exact ⟨t + 2, _, _, _, _, _, _, _, _, _, rfl, rfl, rfl, rfl, (by have := HT2.out; omega), by simp, I9⟩)
    · have q1 : ¬ ((t : Int) < (T : Int)) := by omega
      have HX := hid (HFk.out _ _ _ _ HI.out)
      clear hlt ht
      go_wp2_with (first | (go_at_call 21; refine (HT.out _).mono ?_; rintro e wz ⟨rfl, hw⟩; subst wz) | (go_at_call 22; refine (HSN.out _ _ _ _ _ HX.out.2.1 HX.out.2.2).mono ?_; rintro e w8 ⟨rfl, hb8⟩; have B8 := hid (below_on HI.out.k.below hb8); clear hb8))
      go_ret
      exact ⟨rfl, B8.out⟩
end Go.Proofs.Ytajkhkaidjjioaa
