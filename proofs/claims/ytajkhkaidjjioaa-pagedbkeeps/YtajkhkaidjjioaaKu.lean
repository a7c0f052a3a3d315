/- PagedbKeeps 4: from the words on. -/
import Derived.Test.YtajkhkaidjjioaaKt
import Derived.Test.YtajkhkaidjjioaaKv
namespace Go.Proofs.Ytajkhkaidjjioaa
open Go.RowKit
set_option maxHeartbeats 8000000
set_option maxRecDepth 100000
theorem own_tail {x : World} {B : Nat} {e : TypeId} {v : Value} {n : Nat} {xs : List Value} (h : x.ownsRow B e 1 v n xs) (hn : 0 < n) : ∃ g c, v = .slice (some ⟨g, 0, none⟩) n c ∧ n ≤ c := by
  rcases h.2 with ⟨_, h0⟩ | ⟨g, cap, cur, hv, _, _, hc, _⟩
  · omega
  · exact ⟨g, cap, hv, hc⟩
theorem row_hd {x : World} {B g n m c : Nat} {A B' : List Value} {L : List Int} (h : Rw x B ⟨27, .slice (some ⟨g, 0, none⟩) m c, A⟩) (hm : A.length = m) (hA : A = u32s L ++ B') (hn : L.length = n) (hr : ∀ y ∈ L, 0 ≤ y ∧ y < 4294967296) : WL x (some ⟨g, 0, none⟩) n L := by
  unfold Rw at h
  simp only [hm] at h
  exact head_wl h hA hn hr
/-- Both databases, beside the same rows. -/
structure K2 (W x : World) (p q : Dp) (d : DS) (Z D : List RowT) : Prop where
  k : KR W x p d Z D
  l : KR W x q d Z D
theorem K2.on {W x x' : World} {p q : Dp} {d : DS} {Z D : List RowT} (h : K2 W x p q d Z D) (hb : Below x.heap.size x x') : K2 W x' p q d Z D := ⟨h.k.on hb, h.l.on hb⟩
theorem K2.app {W x x' : World} {p q : Dp} {d : DS} {Z1 Z2 D : List RowT} {e : TypeId} {v v' u : Value} {A : List Value} (h : K2 W x p q d (Z1 ++ ⟨e, v, A⟩ :: Z2) D) (ht : Two2 x x' W.heap.size e 1 v v' A.length 1 (A ++ [u])) : K2 W x' p q d (Z1 ++ ⟨e, v', A ++ [u]⟩ :: Z2) D := ⟨h.k.app ht, h.l.app ht⟩
theorem K2.markj {W x : World} {p q : Dp} {d : DS} {Z1 Z2 D : List RowT} {e : TypeId} {g N vc j : Nat} {u : Value} {A : List Value} (h : K2 W x p q d (Z1 ++ ⟨e, .slice (some ⟨g, 0, none⟩) N vc, wrm u A j⟩ :: Z2) D) (hN : A.length = N) (hj : j < N) : K2 W (x.setCell ⟨g, j, none⟩ u) p q d (Z1 ++ ⟨e, .slice (some ⟨g, 0, none⟩) N vc, wrm u A (j + 1)⟩ :: Z2) D := ⟨h.k.markj hN hj, h.l.markj hN hj⟩
theorem mrk_split (u : Value) (a b : Nat) : mrk u (a + b) = mrk u a ++ mrk u b := by simp [mrk, List.replicate_append_replicate]
theorem keepsU (W w : World) (p : Dp) (d : DS) (times : Int) (t0 : -9223372036854775808 ≤ times) (t1 : times ≤ 9223372036854775807) (gk NW : Nat) (hNW : 1 + 2 * d.m.ns = NW) (hK : KR W w p d [] [⟨27, .slice (some ⟨gk, 0, none⟩) NW NW, u32s d.ws⟩]) (hV : KV d) (z0 z2 z3 z4 z5 z9 z11 z12 z13 z14 z15 z16 z17 z18 z19 z20 z21 z22 z23 z24 z25 z26 z27 z28 z29 z30 z31 z32 z33 z34 z35 z36 z37 z38 z39 z40 z41 z42 z43 z44 z45 z46 z47 z48 z49 z50 z51 z52 z53 z54 z55 z56 z57 z58 z59 z60 z61 z62 z63 z64 z65 z66 z67 z68 z69 z70 z71 z72 z73 z74 z75 z76 z77 z78 z79 z80 z81 z82 z83 z84 z85 z86 z87 z88 z89 z90 z91 z92 z93 z94 z95 z96 z97 z98 z99 z100 z101 z102 z103 z104 z105 z106 z107 z108 z109 z110 z111 z112 z113 z114 z115 z116 z117 z118 z119 z120 z121 z122 z123 z124 z125 z126 z127 z128 z129 z130 z131 z132 z133 z134 z135 z136 z137 z138 z139 z140 z141 z142 z143 z144 z145 z146 z147 z148 z149 z150 z151 z152 z153 z154 z155 z156 z157 z158 z159 z160 z161 z162 z163 z164 z165 z166 z167 z168 z169 z170 z171 z172 z173 z174 z175 z176 z177 z178 z179 z180 z181 z182 z183 z184 z185 z186 z187 z188 z189 z190 z191 z192 z193 z194 z195 z196 z197 z198 z199 z200 z201 z202 z203 z204 z205 z206 z207 z208 z209 z210 z211 z212 z213 z214 z215 z216 z217 z218 z219 z220 z221 z222 z223 z224 z225 z226 z227 z228 z229 z230 z231 z232 z233 z234 z235 z236 z237 z238 z239 z240 z241 z242 z243 z244 z245 z246 z247 z248 z249 z250 z251 z252 z253 z254 z255 z256 z257 z258 z259 z260 z261 z262 z263 z264 z265 z266 z267 z268 z269 z270 z271 z272 z273 z274 z275 z276 z277 z278 z279 z280 z281 z282 z283 z284 z285 z286 z287 z288 z289 z290 z291 z292 z293 z294 z295 z296 z297 z298 z299 z300 z301 z302 z303 z304 z305 z306 z307 z308 z309 z310 z311 z312 z313 z314 z315 z316 z317 z318 z319 z320 z321 z322 z323 z324 z325 z326 z327 z328 z329 z330 z331 z332 z333 z334 z335 z336 z337 z338 z339 z340 z341 z342 z343 z344 z345 z346 z347 z348 z349 z350 z351 z352 z353 z354 z355 z356 z357 z358 : Value) :
    Code.wp Try.prog (sfx 7 (Try.f4.body.getD .skip)) (bodyPost Try.prog Try.f4 fun x w' => x = .returned (.bool true) ∧ Below W.heap.size W w') { tmps := #[z0, .int .i64 times, z2, z3, z4, z5, ptr p.f.gm, .int .i64 0, .int .i64 0, z9, .slice (some ⟨gk, 0, none⟩) NW NW, z11, z12, z13, z14, z15, z16, z17, z18, z19, z20, z21, z22, z23, z24, z25, z26, z27, z28, z29, z30, z31, z32, z33, z34, z35, z36, z37, z38, z39, z40, z41, z42, z43, z44, z45, z46, z47, z48, z49, z50, z51, z52, z53, z54, z55, z56, z57, z58, z59, z60, z61, z62, z63, z64, z65, z66, z67, z68, z69, z70, z71, z72, z73, z74, z75, z76, z77, z78, z79, z80, z81, z82, z83, z84, z85, z86, z87, z88, z89, z90, z91, z92, z93, z94, z95, z96, z97, z98, z99, z100, z101, z102, z103, z104, z105, z106, z107, z108, z109, z110, z111, z112, z113, z114, z115, z116, z117, z118, z119, z120, z121, z122, z123, z124, z125, z126, z127, z128, z129, z130, z131, z132, z133, z134, z135, z136, z137, z138, z139, z140, z141, z142, z143, z144, z145, z146, z147, z148, z149, z150, z151, z152, z153, z154, z155, z156, z157, z158, z159, z160, z161, z162, z163, z164, z165, z166, z167, z168, z169, z170, z171, z172, z173, z174, z175, z176, z177, z178, z179, z180, z181, z182, z183, z184, z185, z186, z187, z188, z189, z190, z191, z192, z193, z194, z195, z196, z197, z198, z199, z200, z201, z202, z203, z204, z205, z206, z207, z208, z209, z210, z211, z212, z213, z214, z215, z216, z217, z218, z219, z220, z221, z222, z223, z224, z225, z226, z227, z228, z229, z230, z231, z232, z233, z234, z235, z236, z237, z238, z239, z240, z241, z242, z243, z244, z245, z246, z247, z248, z249, z250, z251, z252, z253, z254, z255, z256, z257, z258, z259, z260, z261, z262, z263, z264, z265, z266, z267, z268, z269, z270, z271, z272, z273, z274, z275, z276, z277, z278, z279, z280, z281, z282, z283, z284, z285, z286, z287, z288, z289, z290, z291, z292, z293, z294, z295, z296, z297, z298, z299, z300, z301, z302, z303, z304, z305, z306, z307, z308, z309, z310, z311, z312, z313, z314, z315, z316, z317, z318, z319, z320, z321, z322, z323, z324, z325, z326, z327, z328, z329, z330, z331, z332, z333, z334, z335, z336, z337, z338, z339, z340, z341, z342, z343, z344, z345, z346, z347, z348, z349, z350, z351, z352, z353, z354, z355, z356, z357, z358], defers := [] } w := by
  have hok := hK.a.ok
  have HSw : Hid (∀ w ao bo c c', WL w ao NW d.ws → WL w bo NW d.ws → Calls Try.prog 15 #[.slice ao NW c, .slice bo NW c'] w fun x w' => x = .returned (.bool true) ∧ Below w.heap.size w w') := hid (fun w ao bo c c' h h' => by have := sameWords_any w ao bo NW NW c c' d.ws d.ws h h' (by have := hV.ns; omega); rwa [show decide (d.ws = d.ws) = true from decide_eq_true rfl] at this)
  have HTm := hid (And.intro t0 t1)
  have HV := hid hV
  have HLl : Hid (d.ws.length = NW) := hid (by rw [DS.ws_len hok, hNW])
  have HLw : Hid ((u32s d.ws).length = NW) := hid (by rw [u32s_len, HLl.out])
  have HN17 : Hid (NW = 17) := hid (by rw [← hNW, hV.ns])
  have N1 : (NW : Int) ≤ 100 := by have := HN17.out; omega
  have N0 : (0 : Int) < (NW : Int) := by have := HN17.out; omega
  have HRg := hid (DS.ws_rg hok)
  have HOn := hid hV.owned
  have HLd2 := hid (fun w f (hw : Mem w f d.m) ao c (h : WL w ao NW d.ws) => by have := load_told w f d hw hok ao c (by rw [hNW]; exact h); rwa [hNW] at this)
  have HOd := hid (fun w p (h : DB w p d) => owned_any w p d h 3)
  have HMd := hid (fun w f (h : Mem w f d.m) => clone_any w f d.m h)
  have HLa2 := hid (fun w f (hm : Mem w f d.m) ao c (h : WL w ao NW (ones NW)) => load_any w f d.m hm hok.n64 ao NW c (ones NW) h)
  have HE := hid hNW
  have K5 := hid hK
  have R5 := hid (hK.dn ⟨27, .slice (some ⟨gk, 0, none⟩) NW NW, u32s d.ws⟩ (by simp))
  unfold Rw at R5
  simp only [ptr] at *
  clear hNW hK hV hok t0 t1
  have HLe : Hid ((u32s d.ws).length ≤ 1000000) := hid (by rw [HLw.out]; have := HN17.out; omega)
  refine sfx_walk 7 rfl (by simp only [sfx]; rfl) ?_
  go_upto_region 14 with (at_builtin; refine appAll under24 inf27 rfl (by decide) rfl _ _ rfl (u32s_one d.ws) rfl rfl R5.out HLe.out ?_; intro vw w6 ho6 hb6; have K6 := hid (K5.out.addZ hb6 ho6); clear ho6 hb6 K5 R5)
  simp only [List.nil_append] at K6
  go_upto_region 15 with fail
  go_loopw [11, 12] (fun a i wr => ∃ (j : Nat) (v : Value), v = a ∧ j ≤ 200 ∧ i = .int .i64 (j : Int) ∧ Hid (KR W wr p d [⟨27, v, u32s d.ws ++ mrk fb j⟩] [⟨27, .slice (some ⟨gk, 0, none⟩) NW NW, u32s d.ws⟩])) (fun _ i _ => 200 - (intOf i).toNat)
  case atStart => exact ⟨0, _, rfl, by omega, rfl, by simpa [mrk] using K6⟩
  case round =>
    obtain ⟨j, v, rfl, hj, rfl, HR⟩ := hrel
    clear K6
    by_cases hlt : j < 200
    · have q2 : (j : Int) < 200 := by omega
      have HJ := hid hlt
      clear hlt hj
      go_upto_region 17 with fail
      have K7 := hid (HR.out.on (below_one wr (.cells #[.int .u32 4276993775] 27)))
      have C7 := hid (Cel.new wr 27 [.int .u32 4276993775])
      have O7 := hid (K7.out.own ⟨27, v, u32s d.ws ++ mrk fb j⟩ (by simp))
      unfold Rw at O7
      simp only at O7
      have HL7 : Hid ((u32s d.ws ++ mrk fb j).length ≤ 1000000) := hid (by rw [List.length_append, HLw.out, mrk_len]; have := HN17.out; have := HJ.out; omega)
      go_wp2_with (at_builtin; refine appOne under24 inf27 rfl (by decide) rfl _ _ rfl rfl O7.out K7.out.below.size rfl C7.out rfl HL7.out ?_; intro v8 w8 ht8; have K8 := hid (KR.app (Z1 := []) (Z2 := []) K7.out ht8); clear ht8)
      go_roundw
      case measure => have := HJ.out; simp [intOf] <;> omega
      case rel => exact ⟨j + 1, _, rfl, HJ.out, by simp, hid (by have := K8.out; rw [List.append_assoc, show mrk fb j ++ [.int .u32 4276993775] = mrk fb (j + 1) from mrk_snoc fb j] at this; exact this)⟩
    · obtain rfl : j = 200 := by omega
      clear hlt hj
      have o8 := HR.out.own ⟨27, v, u32s d.ws ++ mrk fb 200⟩ (by simp)
      unfold Rw at o8
      simp only [List.length_append, HLw.out, mrk_len] at o8
      obtain ⟨gw, cw, hvf, hcw⟩ := own_tail o8 (by omega)
      subst hvf
      have HLA : Hid ((u32s d.ws ++ mrk fb 200).length = NW + 200) := hid (by rw [List.length_append, HLw.out, mrk_len])
      have HWw : Hid (∀ w q Z, KR W w q d (⟨27, .slice (some ⟨gw, 0, none⟩) (NW + 200) cw, u32s d.ws ++ mrk fb 200⟩ :: Z) [⟨27, .slice (some ⟨gk, 0, none⟩) NW NW, u32s d.ws⟩] → WL w (some ⟨gw, 0, none⟩) NW d.ws ∧ WL w (some ⟨gk, 0, none⟩) NW d.ws) := hid (fun w q Z h => by
        have a1 := h.own ⟨27, .slice (some ⟨gw, 0, none⟩) (NW + 200) cw, u32s d.ws ++ mrk fb 200⟩ (by simp)
        have a2 := h.dn ⟨27, .slice (some ⟨gk, 0, none⟩) NW NW, u32s d.ws⟩ (by simp)
        exact ⟨row_hd a1 HLA.out rfl HLl.out HRg.out, row_hd (B' := []) a2 HLw.out (by simp) HLl.out HRg.out⟩)
      have hsl2 : (NW : Int) ≤ (cw : Int) := by omega
      have hsl3 : NW ≤ cw := by omega
      have hsl4 : (0 : Int) ≤ (NW : Int) := by omega
      clear o8 hcw
      go_upto_region 18 with fail
      have KD := hid (HR.out.on (Below.refl _ _).drew)
      clear HR
      refine wp_region_held_drew (S := fun _ => True) (by kernel_rfl) trivial (fun hHeld => ?_)
      refine wpAnyH_take (i := 0) (oi := { dst := some 93, op := Op.move (Operand.tmp 6), type := 24, pos := "outright.go:253", after := #[], guard := none }) (v := .pointer (some ⟨p.f.gm, 0, none⟩)) rfl (by kernel_rfl) (by kernel_rfl) (by kernel_rfl) (fun _ _ _ h => h) (Or.inl ⟨by rfl, by intro w hSw; go_simp⟩) (by assumption) ?_
      simp only [Act.put, List.setIfInBounds_toArray, List.set_cons_zero, List.set_cons_succ]
      refine wpAnyH_take (i := 2) (oi := { dst := some 95, op := Op.move (Operand.tmp 11), type := 32, pos := "outright.go:253", after := #[], guard := none }) (v := .slice (some ⟨gw, 0, none⟩) (NW + 200) cw) rfl (by kernel_rfl) (by kernel_rfl) (by kernel_rfl) (fun _ _ _ h => h) (Or.inl ⟨by rfl, by intro w hSw; go_simp⟩) (by assumption) ?_
      simp only [Act.put, List.setIfInBounds_toArray, List.set_cons_zero, List.set_cons_succ]
      refine wpAnyH_take (i := 3) (oi := { dst := some 96, op := Op.move (Operand.tmp 10), type := 32, pos := "outright.go:253", after := #[], guard := none }) (v := .slice (some ⟨gk, 0, none⟩) NW NW) rfl (by kernel_rfl) (by kernel_rfl) (by kernel_rfl) (fun _ _ _ h => h) (Or.inl ⟨by rfl, by intro w hSw; go_simp⟩) (by assumption) ?_
      simp only [Act.put, List.setIfInBounds_toArray, List.set_cons_zero, List.set_cons_succ]
      refine wpAnyH_take (i := 4) (oi := { dst := some 97, op := Op.call { callee := Callee.builtin Builtin.len, args := #[Operand.tmp 96], argTypes := #[32] }, type := 3, pos := "outright.go:253", after := #[{ on := 3, ground := Ground.data }], guard := none }) (v := .int .i64 (NW : Int)) rfl (by kernel_rfl) (by kernel_rfl) (by kernel_rfl) (fun _ _ _ h => h) (Or.inl ⟨by rfl, by intro w hSw; go_simp⟩) (by assumption) ?_
      simp only [Act.put, List.setIfInBounds_toArray, List.set_cons_zero, List.set_cons_succ]
      refine wpAnyH_take (i := 5) (oi := { dst := some 98, op := Op.slice 32 (Operand.tmp 95) none (some (Operand.tmp 97)) none, type := 32, pos := "outright.go:253", after := #[{ on := 2, ground := Ground.data }, { on := 4, ground := Ground.data }], guard := none }) (v := .slice (some ⟨gw, 0, none⟩) NW cw) rfl (by kernel_rfl) (by kernel_rfl) (by kernel_rfl) (fun _ _ _ h => h) (Or.inl ⟨by rfl, by intro w hSw; go_simp⟩) (by assumption) ?_
      simp only [Act.put, List.setIfInBounds_toArray, List.set_cons_zero, List.set_cons_succ]
      refine wpAnyH_ready (rs := [1]) (by kernel_rfl) (by simp) (AllReadyH.cons (o := { dst := some 94, op := Op.call { callee := Callee.value (Operand.func 12), args := #[Operand.tmp 93], argTypes := #[24] }, type := 24, pos := "outright.go:253", after := #[{ on := 0, ground := Ground.data }], guard := none }) rfl (fun KQ hK => ?_) AllReadyH.nil)
      go_simp
      refine (HMd.out _ p.f KD.out.a.mem).mono ?_
      rintro e w9 ⟨f2, rfl, hnm⟩
      have K9 := hid (KD.out.on hnm.below)
      have NM := hid hnm
      clear hnm
      go_wp2_with fail
      refine hK.out _ _ trivial (fun hHeld => ?_)
      clear hK KQ
      try simp only [Act.put, List.setIfInBounds_toArray, List.set_cons_zero, List.set_cons_succ]
      refine wpAnyH_ready (rs := [6]) (by kernel_rfl) (by simp) (AllReadyH.cons (o := { dst := some 99, op := Op.call { callee := Callee.value (Operand.func 11), args := #[Operand.tmp 94, Operand.tmp 98], argTypes := #[24, 32] }, type := 35, pos := "outright.go:253", after := #[{ on := 1, ground := Ground.data }, { on := 5, ground := Ground.data }, { on := 1, ground := Ground.chain }], guard := none }) rfl (fun KQ hK => ?_) AllReadyH.nil)
      go_simp
      refine (HLd2.out _ f2 NM.out.mem _ _ (HWw.out _ _ _ K9.out).1).mono ?_
      rintro e wA ⟨g2, gw2, rfl, hdb, hg2, hgw2, hb2⟩
      have ND := hid (loaded_new NM.out hdb hg2 hgw2 hb2)
      have KA0 := hid KD.out
      have hbA := hid hb2
      clear hdb hg2 hgw2 hb2 KD
      go_wp2_with fail
      refine hK.out _ _ trivial (fun hHeld => ?_)
      clear hK KQ
      try simp only [Act.put, List.setIfInBounds_toArray, List.set_cons_zero, List.set_cons_succ]
      refine wpAnyH_take (i := 7) (oi := { dst := some 92, op := Op.move (Operand.tmp 99), type := 35, pos := "outright.go:253", after := #[{ on := 6, ground := Ground.data }], guard := none }) (v := .tuple #[.pointer (some ⟨g2, 0, none⟩), .int .i64 0]) rfl (by kernel_rfl) (by kernel_rfl) (by kernel_rfl) (fun _ _ _ h => h) (Or.inl ⟨by rfl, by intro w hSw; go_simp⟩) (by assumption) ?_
      simp only [Act.put, List.setIfInBounds_toArray, List.set_cons_zero, List.set_cons_succ]
      refine wpAnyH_take (i := 8) (oi := { dst := some 100, op := Op.extract (Operand.tmp 92) 0, type := 23, pos := "outright.go:253", after := #[{ on := 7, ground := Ground.data }], guard := none }) (v := .pointer (some ⟨g2, 0, none⟩)) rfl (by kernel_rfl) (by kernel_rfl) (by kernel_rfl) (fun _ _ _ h => h) (Or.inl ⟨by rfl, by intro w hSw; go_simp⟩) (by assumption) ?_
      simp only [Act.put, List.setIfInBounds_toArray, List.set_cons_zero, List.set_cons_succ]
      refine wpAnyH_take (i := 9) (oi := { dst := some 101, op := Op.extract (Operand.tmp 92) 1, type := 30, pos := "outright.go:253", after := #[{ on := 7, ground := Ground.data }, { on := 10, ground := Ground.gcOnly Departure.lateStores }], guard := none }) (v := .int .i64 0) rfl (by kernel_rfl) (by kernel_rfl) (by kernel_rfl) (fun _ _ _ h => h) (Or.inl ⟨by rfl, by intro w hSw; go_simp⟩) (by assumption) ?_
      simp only [Act.put, List.setIfInBounds_toArray, List.set_cons_zero, List.set_cons_succ]
      refine wpAnyH_ready (rs := [10]) (by kernel_rfl) (by simp) (AllReadyH.cons (o := { dst := some 13, op := Op.assign (Operand.tmp 100), type := 23, pos := "outright.go:253", after := #[{ on := 8, ground := Ground.data }, { on := 6, ground := Ground.chain }, { on := 0, ground := Ground.phase }, { on := 1, ground := Ground.phase }, { on := 2, ground := Ground.phase }, { on := 3, ground := Ground.phase }, { on := 4, ground := Ground.phase }, { on := 5, ground := Ground.phase }, { on := 6, ground := Ground.phase }, { on := 7, ground := Ground.phase }, { on := 8, ground := Ground.phase }, { on := 9, ground := Ground.textOnly Departure.lateStores }], guard := none }) rfl (fun KQ hK => ?_) AllReadyH.nil)
      go_simp
      refine hK.out _ _ trivial (fun hHeld => ?_)
      clear hK KQ
      try simp only [Act.put, List.setIfInBounds_toArray, List.set_cons_zero, List.set_cons_succ]
      refine wpAnyH_ready (rs := [11]) (by kernel_rfl) (by simp) (AllReadyH.cons (o := { dst := some 14, op := Op.assign (Operand.tmp 101), type := 30, pos := "outright.go:253", after := #[{ on := 9, ground := Ground.data }, { on := 10, ground := Ground.chain }, { on := 0, ground := Ground.phase }, { on := 1, ground := Ground.phase }, { on := 2, ground := Ground.phase }, { on := 3, ground := Ground.phase }, { on := 4, ground := Ground.phase }, { on := 5, ground := Ground.phase }, { on := 6, ground := Ground.phase }, { on := 7, ground := Ground.phase }, { on := 8, ground := Ground.phase }, { on := 9, ground := Ground.phase }, { on := 10, ground := Ground.phase }], guard := none }) rfl (fun KQ hK => ?_) AllReadyH.nil)
      go_simp
      refine hK.out _ _ trivial (fun hHeld => ?_)
      clear hK KQ
      try simp only [Act.put, List.setIfInBounds_toArray, List.set_cons_zero, List.set_cons_succ]
      refine wpAnyH_done (by kernel_rfl) ?_ _
      have K2A := hid (K2.mk (K9.out.on hbA.out) (KA0.out.other ND.out))
      clear K9 KA0 ND hbA NM
      generalize hqq : (⟨g2, gw2, f2⟩ : Dp) = q at *
      obtain rfl : q.g = g2 := by rw [← hqq]
      clear hqq
      skip
      go_upto_region 21 with (go_at_call 15; refine (HSw.out _ _ _ _ _ (HWw.out _ _ _ K2A.out.k).1 (HWw.out _ _ _ K2A.out.k).2).mono ?_; rintro e wB ⟨rfl, hb⟩; have K2B := hid (K2A.out.on hb); clear hb K2A)
      clear HWw HSw HLd2
      generalize hAA : u32s d.ws ++ mrk fb 200 = A at *
      have HAf : Hid (∀ j, NW ≤ j → j < NW + 200 → A[j]? = some (.int .u32 4276993775)) := hid (fun j h1 h2 => by
        rw [← hAA, List.getElem?_append_right (by rw [HLw.out]; exact h1), HLw.out]
        exact mrk_at fb 200 (j - NW) (by omega))
      clear hAA
      go_upto_region 22 with fail
      go_loopw [15] (fun i wr => ∃ (j : Nat), j ≤ NW + 200 ∧ i = .int .i64 (j : Int) ∧ Hid (K2 W wr p q d [⟨27, .slice (some ⟨gw, 0, none⟩) (NW + 200) cw, wrm (.int .u32 1) A j⟩] [⟨27, .slice (some ⟨gk, 0, none⟩) NW NW, u32s d.ws⟩])) (fun i _ => NW + 200 - (intOf i).toNat)
      case atStart => exact ⟨0, by omega, rfl, K2B⟩
      case round =>
        obtain ⟨j, hj, rfl, KQ⟩ := hrel
        clear K2B
        have hN2 : ((NW + 200 : Nat) : Int) = (NW : Int) + 200 := by omega
        by_cases hlt : j < NW + 200
        · have q5 : (j : Int) < ((NW + 200 : Nat) : Int) := by omega
          have HJ2 := hid hlt
          have o1 := KQ.out.k.own ⟨27, .slice (some ⟨gw, 0, none⟩) (NW + 200) cw, wrm (.int .u32 1) A j⟩ (by simp)
          unfold Rw at o1
          simp only [wrm_len (.int .u32 1) A j (by rw [HLA.out]; omega), HLA.out] at o1
          have f1 := row_free o1 j
          have K8 := hid (K2.markj (Z1 := []) KQ.out HLA.out hlt)
          by_cases hl2 : j < NW
          · have j1 : (j : Int) < (NW : Int) := by omega
            obtain ⟨y, hy⟩ : ∃ y, wr.cell? ⟨gw, j, none⟩ = some y := by
              obtain ⟨y, hy⟩ : ∃ y, (wrm (.int .u32 1) A j)[j]? = some y := ⟨(wrm (.int .u32 1) A j)[j]'(by rw [wrm_len _ _ _ (by rw [HLA.out]; omega), HLA.out]; exact hlt), List.getElem?_eq_getElem _⟩
              exact ⟨y, own_cell o1 hy⟩
            clear o1 hlt hj hl2 hN2
            go_wp2_with fail
            go_roundw
            case measure => have := HJ2.out; simp [intOf] <;> omega
            case rel => exact ⟨j + 1, HJ2.out, by simp, K8⟩
          · have j1 : (NW : Int) ≤ (j : Int) := by omega
            have hy : wr.cell? ⟨gw, j, none⟩ = some (.int .u32 4276993775) := own_cell o1 (by rw [wrm_at _ _ _ _ (Nat.le_refl _)]; exact HAf.out j (by omega) hlt)
            clear o1 hlt hj hl2 hN2
            go_wp2_with fail
            go_roundw
            case measure => have := HJ2.out; simp [intOf] <;> omega
            case rel => exact ⟨j + 1, HJ2.out, by simp, K8⟩
        · obtain rfl : j = NW + 200 := by omega
          clear hlt hj hN2
          have KE : Hid (K2 W wr p q d [⟨27, .slice (some ⟨gw, 0, none⟩) (NW + 200) cw, mrk (.int .u32 1) (NW + 200)⟩, ⟨27, .slice none 0 0, []⟩] [⟨27, .slice (some ⟨gk, 0, none⟩) NW NW, u32s d.ws⟩]) := hid (by
            have h1 : wrm (.int .u32 1) A (NW + 200) = mrk (.int .u32 1) (NW + 200) := by rw [← HLA.out]; exact wrm_all _ _
            have := KQ.out
            rw [h1] at this
            exact ⟨this.k.nilZ 27, this.l.nilZ 27⟩)
          clear KQ HAf HLA
          go_upto_region 29 with fail
          go_loopw [16, 17] (fun a i wr => ∃ (j : Nat) (v : Value), v = a ∧ j ≤ NW ∧ i = .int .i64 (j : Int) ∧ Hid (K2 W wr p q d [⟨27, .slice (some ⟨gw, 0, none⟩) (NW + 200) cw, mrk (.int .u32 1) (NW + 200)⟩, ⟨27, v, mrk (.int .u32 1) j⟩] [⟨27, .slice (some ⟨gk, 0, none⟩) NW NW, u32s d.ws⟩])) (fun _ i _ => NW - (intOf i).toNat)
          case atStart => exact ⟨0, _, rfl, by omega, rfl, KE⟩
          case round =>
            obtain ⟨j, v, rfl, hj, rfl, HR⟩ := hrel
            clear KE
            by_cases hlt : j < NW
            · have q2 : (j : Int) < (NW : Int) := by omega
              have HJ := hid hlt
              clear hlt hj
              go_upto_region 31 with fail
              have K7 := hid (HR.out.on (below_one wr (.cells #[.int .u32 1] 27)))
              have C7 := hid (Cel.new wr 27 [.int .u32 1])
              have O7 := hid (K7.out.k.own ⟨27, v, mrk (.int .u32 1) j⟩ (by simp))
              unfold Rw at O7
              simp only at O7
              have HL7 : Hid ((mrk (.int .u32 1) j).length ≤ 1000000) := hid (by rw [mrk_len]; have := HN17.out; have := HJ.out; omega)
              go_wp2_with (at_builtin; refine appOne under24 inf27 rfl (by decide) rfl _ _ rfl rfl O7.out K7.out.k.below.size rfl C7.out rfl HL7.out ?_; intro v8 w8 ht8; have K8 := hid (K2.app (Z1 := [⟨27, .slice (some ⟨gw, 0, none⟩) (NW + 200) cw, mrk (.int .u32 1) (NW + 200)⟩]) (Z2 := []) K7.out ht8); clear ht8)
              go_roundw
              case measure => have := HJ.out; simp [intOf] <;> omega
              case rel => first | exact ⟨j + 1, _, rfl, HJ.out, by simp, hid (by have := K8.out; rw [mrk_snoc] at this; exact this)⟩ | ((repeat apply Exists.intro); refine ⟨?_, rfl⟩; exact ⟨j + 1, _, rfl, HJ.out, by simp, hid (by have := K8.out; rw [mrk_snoc] at this; exact this)⟩)
            · obtain rfl : j = NW := by omega
              clear hlt hj
              have o8 := HR.out.k.own ⟨27, v, mrk (.int .u32 1) j⟩ (by simp)
              unfold Rw at o8
              simp only [mrk_len] at o8
              obtain ⟨go, co, hvf, hco⟩ := own_tail o8 (by have := HN17.out; omega)
              subst hvf
              clear o8
              have HWo : Hid (∀ w q Z D, KR W w q d (⟨27, .slice (some ⟨gw, 0, none⟩) (j + 200) cw, mrk (.int .u32 1) (j + 200)⟩ :: ⟨27, .slice (some ⟨go, 0, none⟩) j co, mrk (.int .u32 1) j⟩ :: Z) D → WL w (some ⟨gw, 0, none⟩) j (ones j) ∧ WL w (some ⟨go, 0, none⟩) j (ones j)) := hid (fun w q Z D h => by
                have a1 := h.own ⟨27, .slice (some ⟨gw, 0, none⟩) (j + 200) cw, mrk (.int .u32 1) (j + 200)⟩ (by simp)
                have a2 := h.own ⟨27, .slice (some ⟨go, 0, none⟩) j co, mrk (.int .u32 1) j⟩ (by simp)
                exact ⟨row_hd (B' := mrk (.int .u32 1) 200) a1 (mrk_len _ _) (by rw [ones_u, mrk_split]) (ones_len _) (ones_rg _), row_hd (B' := []) a2 (mrk_len _ _) (by rw [ones_u]; simp) (ones_len _) (ones_rg _)⟩)
              clear hco
              go_upto_region 32 with fail
              have KD := hid (HR.out.on (Below.refl _ _).drew)
              clear HR
              cases hok : ldok d.m.ns (ones j) with
              | true =>
                refine wp_region_held_drew (S := fun _ => True) (by kernel_rfl) trivial (fun hHeld => ?_)
                refine wpAnyH_take (i := 0) (oi := { dst := some 155, op := Op.move (Operand.tmp 6), type := 24, pos := "outright.go:267", after := #[], guard := none }) (v := .pointer (some ⟨p.f.gm, 0, none⟩)) rfl (by kernel_rfl) (by kernel_rfl) (by kernel_rfl) (fun _ _ _ h => h) (Or.inl ⟨by rfl, by intro w hSw; go_simp⟩) (by assumption) ?_
                simp only [Act.put, List.setIfInBounds_toArray, List.set_cons_zero, List.set_cons_succ]
                refine wpAnyH_take (i := 2) (oi := { dst := some 157, op := Op.move (Operand.tmp 11), type := 32, pos := "outright.go:267", after := #[], guard := none }) (v := .slice (some ⟨gw, 0, none⟩) (j + 200) cw) rfl (by kernel_rfl) (by kernel_rfl) (by kernel_rfl) (fun _ _ _ h => h) (Or.inl ⟨by rfl, by intro w hSw; go_simp⟩) (by assumption) ?_
                simp only [Act.put, List.setIfInBounds_toArray, List.set_cons_zero, List.set_cons_succ]
                refine wpAnyH_take (i := 3) (oi := { dst := some 158, op := Op.move (Operand.tmp 10), type := 32, pos := "outright.go:267", after := #[], guard := none }) (v := .slice (some ⟨gk, 0, none⟩) j j) rfl (by kernel_rfl) (by kernel_rfl) (by kernel_rfl) (fun _ _ _ h => h) (Or.inl ⟨by rfl, by intro w hSw; go_simp⟩) (by assumption) ?_
                simp only [Act.put, List.setIfInBounds_toArray, List.set_cons_zero, List.set_cons_succ]
                refine wpAnyH_take (i := 4) (oi := { dst := some 159, op := Op.call { callee := Callee.builtin Builtin.len, args := #[Operand.tmp 158], argTypes := #[32] }, type := 3, pos := "outright.go:267", after := #[{ on := 3, ground := Ground.data }], guard := none }) (v := .int .i64 (j : Int)) rfl (by kernel_rfl) (by kernel_rfl) (by kernel_rfl) (fun _ _ _ h => h) (Or.inl ⟨by rfl, by intro w hSw; go_simp⟩) (by assumption) ?_
                simp only [Act.put, List.setIfInBounds_toArray, List.set_cons_zero, List.set_cons_succ]
                refine wpAnyH_take (i := 5) (oi := { dst := some 160, op := Op.slice 32 (Operand.tmp 157) none (some (Operand.tmp 159)) none, type := 32, pos := "outright.go:267", after := #[{ on := 2, ground := Ground.data }, { on := 4, ground := Ground.data }], guard := none }) (v := .slice (some ⟨gw, 0, none⟩) j cw) rfl (by kernel_rfl) (by kernel_rfl) (by kernel_rfl) (fun _ _ _ h => h) (Or.inl ⟨by rfl, by intro w hSw; go_simp⟩) (by assumption) ?_
                simp only [Act.put, List.setIfInBounds_toArray, List.set_cons_zero, List.set_cons_succ]
                refine wpAnyH_ready (rs := [1]) (by kernel_rfl) (by simp) (AllReadyH.cons (o := { dst := some 156, op := Op.call { callee := Callee.value (Operand.func 12), args := #[Operand.tmp 155], argTypes := #[24] }, type := 24, pos := "outright.go:267", after := #[{ on := 0, ground := Ground.data }], guard := none }) rfl (fun KQ hK => ?_) AllReadyH.nil)
                go_simp
                refine (HMd.out _ p.f KD.out.k.a.mem).mono ?_
                rintro e w9 ⟨f4, rfl, hnm⟩
                have K9 := hid (KD.out.on hnm.below)
                have NM := hid hnm
                clear hnm
                go_wp2_with fail
                refine hK.out _ _ trivial (fun hHeld => ?_)
                clear hK KQ
                try simp only [Act.put, List.setIfInBounds_toArray, List.set_cons_zero, List.set_cons_succ]
                refine wpAnyH_ready (rs := [6]) (by kernel_rfl) (by simp) (AllReadyH.cons (o := { dst := some 161, op := Op.call { callee := Callee.value (Operand.func 11), args := #[Operand.tmp 156, Operand.tmp 160], argTypes := #[24, 32] }, type := 35, pos := "outright.go:267", after := #[{ on := 1, ground := Ground.data }, { on := 5, ground := Ground.data }, { on := 1, ground := Ground.chain }], guard := none }) rfl (fun KQ hK => ?_) AllReadyH.nil)
                go_simp
                refine (HLa2.out _ f4 NM.out.mem _ _ (HWo.out _ _ _ _ K9.out.k).1).mono ?_
                rintro e wF hh
                rcases hh with ⟨hbad, _⟩ | ⟨_, g5, gw5, rfl, _, _, _, hb2⟩
                (rw [hbad] at hok; cases hok)
                have KF := hid (K9.out.on hb2)
                clear hb2 K9 NM KD
                go_wp2_with fail
                refine hK.out _ _ trivial (fun hHeld => ?_)
                clear hK KQ
                try simp only [Act.put, List.setIfInBounds_toArray, List.set_cons_zero, List.set_cons_succ]
                refine wpAnyH_take (i := 7) (oi := { dst := some 154, op := Op.move (Operand.tmp 161), type := 35, pos := "outright.go:267", after := #[{ on := 6, ground := Ground.data }], guard := none }) (v := .tuple #[.pointer (some ⟨g5, 0, none⟩), .int .i64 0]) rfl (by kernel_rfl) (by kernel_rfl) (by kernel_rfl) (fun _ _ _ h => h) (Or.inl ⟨by rfl, by intro w hSw; go_simp⟩) (by assumption) ?_
                simp only [Act.put, List.setIfInBounds_toArray, List.set_cons_zero, List.set_cons_succ]
                refine wpAnyH_take (i := 8) (oi := { dst := some 162, op := Op.extract (Operand.tmp 154) 0, type := 23, pos := "outright.go:267", after := #[{ on := 7, ground := Ground.data }], guard := none }) (v := .pointer (some ⟨g5, 0, none⟩)) rfl (by kernel_rfl) (by kernel_rfl) (by kernel_rfl) (fun _ _ _ h => h) (Or.inl ⟨by rfl, by intro w hSw; go_simp⟩) (by assumption) ?_
                simp only [Act.put, List.setIfInBounds_toArray, List.set_cons_zero, List.set_cons_succ]
                refine wpAnyH_take (i := 9) (oi := { dst := some 163, op := Op.extract (Operand.tmp 154) 1, type := 30, pos := "outright.go:267", after := #[{ on := 7, ground := Ground.data }, { on := 10, ground := Ground.gcOnly Departure.lateStores }], guard := none }) (v := .int .i64 0) rfl (by kernel_rfl) (by kernel_rfl) (by kernel_rfl) (fun _ _ _ h => h) (Or.inl ⟨by rfl, by intro w hSw; go_simp⟩) (by assumption) ?_
                simp only [Act.put, List.setIfInBounds_toArray, List.set_cons_zero, List.set_cons_succ]
                refine wpAnyH_ready (rs := [10]) (by kernel_rfl) (by simp) (AllReadyH.cons (o := { dst := some 18, op := Op.assign (Operand.tmp 162), type := 23, pos := "outright.go:267", after := #[{ on := 8, ground := Ground.data }, { on := 6, ground := Ground.chain }, { on := 0, ground := Ground.phase }, { on := 1, ground := Ground.phase }, { on := 2, ground := Ground.phase }, { on := 3, ground := Ground.phase }, { on := 4, ground := Ground.phase }, { on := 5, ground := Ground.phase }, { on := 6, ground := Ground.phase }, { on := 7, ground := Ground.phase }, { on := 8, ground := Ground.phase }, { on := 9, ground := Ground.textOnly Departure.lateStores }], guard := none }) rfl (fun KQ hK => ?_) AllReadyH.nil)
                go_simp
                refine hK.out _ _ trivial (fun hHeld => ?_)
                clear hK KQ
                try simp only [Act.put, List.setIfInBounds_toArray, List.set_cons_zero, List.set_cons_succ]
                refine wpAnyH_ready (rs := [11]) (by kernel_rfl) (by simp) (AllReadyH.cons (o := { dst := some 19, op := Op.assign (Operand.tmp 163), type := 30, pos := "outright.go:267", after := #[{ on := 9, ground := Ground.data }, { on := 10, ground := Ground.chain }, { on := 0, ground := Ground.phase }, { on := 1, ground := Ground.phase }, { on := 2, ground := Ground.phase }, { on := 3, ground := Ground.phase }, { on := 4, ground := Ground.phase }, { on := 5, ground := Ground.phase }, { on := 6, ground := Ground.phase }, { on := 7, ground := Ground.phase }, { on := 8, ground := Ground.phase }, { on := 9, ground := Ground.phase }, { on := 10, ground := Ground.phase }], guard := none }) rfl (fun KQ hK => ?_) AllReadyH.nil)
                go_simp
                refine hK.out _ _ trivial (fun hHeld => ?_)
                clear hK KQ
                try simp only [Act.put, List.setIfInBounds_toArray, List.set_cons_zero, List.set_cons_succ]
                refine wpAnyH_done (by kernel_rfl) ?_ _
                go_upto_region 34 with (first | (go_at_call 12; refine (HMd.out _ p.f KF.out.k.a.mem).mono ?_; rintro e wG ⟨f6, rfl, hnm⟩; have KG := hid (KF.out.on hnm.below); have NM2 := hid hnm; clear hnm KF) | (go_at_call 11; refine (HLa2.out _ f6 NM2.out.mem _ _ (HWo.out _ _ _ _ KG.out.k).2).mono ?_; rintro e wH hh; rcases hh with ⟨hbad, _⟩ | ⟨_, g7, gw7, rfl, _, _, _, hb7⟩; (rw [hbad] at hok; cases hok); have KH := hid (KG.out.on hb7); clear hb7 KG NM2))
                clear hok
                go_upto_region 36 with fail
                clear HLa2 HMd
                go_upto_region 37 with (go_at_call 20; refine (HOd.out _ q KH.out.l.a).mono ?_; rintro e wI ⟨vp, rfl, hop, hbp⟩; have KI1 := hid (KH.out.l.addD hbp (by rw [ints_len]; exact hop)); have RP := hid (own_mono hop KH.out.l.below.size); clear hop hbp KH)
                obtain ⟨po, pc, hpf, _⟩ := own_form RP.out
                subst hpf
                go_upto_region 38 with fail
                have HO1 : Hid (∀ u ∈ ints (d.owned 3), u.oneCell' = true) := hid (fun u hu => by unfold ints at hu; rw [List.mem_map] at hu; obtain ⟨k, _, rfl⟩ := hu; rfl)
                have HO2 : Hid ((ints (d.owned 3)).length ≤ 1000000) := hid (by rw [ints_len]; have := HOn.out; omega)
                go_cut [23] (fun v w => ∃ fo fc, v = .slice fo (d.owned 3).length fc ∧ Hid (KR W w q d [] [⟨27, .slice (some ⟨gk, 0, none⟩) j j, u32s d.ws⟩, ⟨3, .slice po (d.owned 3).length pc, ints (d.owned 3)⟩, ⟨3, .slice fo (d.owned 3).length fc, ints (d.owned 3)⟩]))
                case first =>
                  go_wp2_with (at_builtin; refine appAll under45 info3 rfl (by decide) rfl _ _ rfl HO1.out rfl rfl (by rw [ints_len]; exact RP.out) HO2.out ?_; intro vf wJ hof hbf; have KJ1 := hid (KI1.out.addD hbf hof); have RF := hid (own_mono hof KI1.out.below.size); clear hof hbf KI1)
                  rw [ints_len] at RF
                  obtain ⟨fo, fc, hff, _⟩ := own_form RF.out
                  subst hff
                  have K0 := KJ1.out.none
                  simp only [List.cons_append, List.nil_append] at K0
                  go_meet
                  exact ⟨fo, fc, rfl, hid K0⟩
                case rest =>
                  obtain ⟨fo, fc, rfl, HKf⟩ := hcut
                  exact (‹∀ (a : Act) (w : World), Code.wp Try.prog _ _ a w → _› _ _ (keepsT W _ q d times HTm.out.1 HTm.out.2 j (d.owned 3).length HE.out HLl.out (by have := HN17.out; omega) rfl HOn.out.1 HOn.out.2 (some ⟨gk, 0, none⟩) po fo j pc fc HRg.out HKf.out _ _ _ _ _ _ _ _ _ _ _ _ _ _ _ _ _ _ _ _ _ _ _ _ _ _ _ _ _ _ _ _ _ _ _ _ _ _ _ _ _ _ _ _ _ _ _ _ _ _ _ _ _ _ _ _ _ _ _ _ _ _ _ _ _ _ _ _ _ _ _ _ _ _ _ _ _ _ _ _ _ _ _ _ _ _ _ _ _ _ _ _ _ _ _ _ _ _ _ _ _ _ _ _ _ _ _ _ _ _ _ _ _ _ _ _ _ _ _ _ _ _ _ _ _ _ _ _ _ _ _ _ _ _ _ _ _ _ _ _ _ _ _ _ _ _ _ _ _ _ _ _ _ _ _ _ _ _ _ _ _ _ _ _ _ _ _ _ _ _ _ _ _ _ _ _ _ _ _ _ _ _ _ _ _ _ _ _ _ _ _ _ _ _ _ _ _ _ _ _ _ _ _ _ _ _ _ _ _ _ _ _ _ _ _ _ _ _ _ _ _ _ _ _ _ _ _ _ _ _ _ _ _ _ _ _ _ _ _ _ _ _ _ _ _ _ _ _ _ _ _ _ _ _ _ _ _ _ _ _ _ _ _ _ _ _ _ _ _ _ _ _ _ _ _ _ _ _ _ _ _ _ _ _ _ _ _ _ _ _ _ _ _ _ _ _ _ _ _ _ _ _ _ _ _ _ _ _ _ _ _ _ _ _ _ _ _ _ _ _ _ _ _ _ _ _ _ _ _ _ _ _ _ _ _ _ _ _ _ _ _ _ _ _ _ _ _ _ _ _ _ _ _ _))

              | false =>
                refine wp_region_held_drew (S := fun _ => True) (by kernel_rfl) trivial (fun hHeld => ?_)
                refine wpAnyH_take (i := 0) (oi := { dst := some 155, op := Op.move (Operand.tmp 6), type := 24, pos := "outright.go:267", after := #[], guard := none }) (v := .pointer (some ⟨p.f.gm, 0, none⟩)) rfl (by kernel_rfl) (by kernel_rfl) (by kernel_rfl) (fun _ _ _ h => h) (Or.inl ⟨by rfl, by intro w hSw; go_simp⟩) (by assumption) ?_
                simp only [Act.put, List.setIfInBounds_toArray, List.set_cons_zero, List.set_cons_succ]
                refine wpAnyH_take (i := 2) (oi := { dst := some 157, op := Op.move (Operand.tmp 11), type := 32, pos := "outright.go:267", after := #[], guard := none }) (v := .slice (some ⟨gw, 0, none⟩) (j + 200) cw) rfl (by kernel_rfl) (by kernel_rfl) (by kernel_rfl) (fun _ _ _ h => h) (Or.inl ⟨by rfl, by intro w hSw; go_simp⟩) (by assumption) ?_
                simp only [Act.put, List.setIfInBounds_toArray, List.set_cons_zero, List.set_cons_succ]
                refine wpAnyH_take (i := 3) (oi := { dst := some 158, op := Op.move (Operand.tmp 10), type := 32, pos := "outright.go:267", after := #[], guard := none }) (v := .slice (some ⟨gk, 0, none⟩) j j) rfl (by kernel_rfl) (by kernel_rfl) (by kernel_rfl) (fun _ _ _ h => h) (Or.inl ⟨by rfl, by intro w hSw; go_simp⟩) (by assumption) ?_
                simp only [Act.put, List.setIfInBounds_toArray, List.set_cons_zero, List.set_cons_succ]
                refine wpAnyH_take (i := 4) (oi := { dst := some 159, op := Op.call { callee := Callee.builtin Builtin.len, args := #[Operand.tmp 158], argTypes := #[32] }, type := 3, pos := "outright.go:267", after := #[{ on := 3, ground := Ground.data }], guard := none }) (v := .int .i64 (j : Int)) rfl (by kernel_rfl) (by kernel_rfl) (by kernel_rfl) (fun _ _ _ h => h) (Or.inl ⟨by rfl, by intro w hSw; go_simp⟩) (by assumption) ?_
                simp only [Act.put, List.setIfInBounds_toArray, List.set_cons_zero, List.set_cons_succ]
                refine wpAnyH_take (i := 5) (oi := { dst := some 160, op := Op.slice 32 (Operand.tmp 157) none (some (Operand.tmp 159)) none, type := 32, pos := "outright.go:267", after := #[{ on := 2, ground := Ground.data }, { on := 4, ground := Ground.data }], guard := none }) (v := .slice (some ⟨gw, 0, none⟩) j cw) rfl (by kernel_rfl) (by kernel_rfl) (by kernel_rfl) (fun _ _ _ h => h) (Or.inl ⟨by rfl, by intro w hSw; go_simp⟩) (by assumption) ?_
                simp only [Act.put, List.setIfInBounds_toArray, List.set_cons_zero, List.set_cons_succ]
                refine wpAnyH_ready (rs := [1]) (by kernel_rfl) (by simp) (AllReadyH.cons (o := { dst := some 156, op := Op.call { callee := Callee.value (Operand.func 12), args := #[Operand.tmp 155], argTypes := #[24] }, type := 24, pos := "outright.go:267", after := #[{ on := 0, ground := Ground.data }], guard := none }) rfl (fun KQ hK => ?_) AllReadyH.nil)
                go_simp
                refine (HMd.out _ p.f KD.out.k.a.mem).mono ?_
                rintro e w9 ⟨f4, rfl, hnm⟩
                have K9 := hid (KD.out.on hnm.below)
                have NM := hid hnm
                clear hnm
                go_wp2_with fail
                refine hK.out _ _ trivial (fun hHeld => ?_)
                clear hK KQ
                try simp only [Act.put, List.setIfInBounds_toArray, List.set_cons_zero, List.set_cons_succ]
                refine wpAnyH_ready (rs := [6]) (by kernel_rfl) (by simp) (AllReadyH.cons (o := { dst := some 161, op := Op.call { callee := Callee.value (Operand.func 11), args := #[Operand.tmp 156, Operand.tmp 160], argTypes := #[24, 32] }, type := 35, pos := "outright.go:267", after := #[{ on := 1, ground := Ground.data }, { on := 5, ground := Ground.data }, { on := 1, ground := Ground.chain }], guard := none }) rfl (fun KQ hK => ?_) AllReadyH.nil)
                go_simp
                refine (HLa2.out _ f4 NM.out.mem _ _ (HWo.out _ _ _ _ K9.out.k).1).mono ?_
                rintro e wF hh
                rcases hh with ⟨_, rfl, hb2⟩ | ⟨hbad, _⟩
                rotate_left
                (rw [hbad] at hok; cases hok)
                have KF := hid (K9.out.on hb2)
                clear hb2 K9 NM KD
                go_wp2_with fail
                refine hK.out _ _ trivial (fun hHeld => ?_)
                clear hK KQ
                try simp only [Act.put, List.setIfInBounds_toArray, List.set_cons_zero, List.set_cons_succ]
                refine wpAnyH_take (i := 7) (oi := { dst := some 154, op := Op.move (Operand.tmp 161), type := 35, pos := "outright.go:267", after := #[{ on := 6, ground := Ground.data }], guard := none }) (v := .tuple #[.pointer none, .int .i64 110]) rfl (by kernel_rfl) (by kernel_rfl) (by kernel_rfl) (fun _ _ _ h => h) (Or.inl ⟨by rfl, by intro w hSw; go_simp⟩) (by assumption) ?_
                simp only [Act.put, List.setIfInBounds_toArray, List.set_cons_zero, List.set_cons_succ]
                refine wpAnyH_take (i := 8) (oi := { dst := some 162, op := Op.extract (Operand.tmp 154) 0, type := 23, pos := "outright.go:267", after := #[{ on := 7, ground := Ground.data }], guard := none }) (v := .pointer none) rfl (by kernel_rfl) (by kernel_rfl) (by kernel_rfl) (fun _ _ _ h => h) (Or.inl ⟨by rfl, by intro w hSw; go_simp⟩) (by assumption) ?_
                simp only [Act.put, List.setIfInBounds_toArray, List.set_cons_zero, List.set_cons_succ]
                refine wpAnyH_take (i := 9) (oi := { dst := some 163, op := Op.extract (Operand.tmp 154) 1, type := 30, pos := "outright.go:267", after := #[{ on := 7, ground := Ground.data }, { on := 10, ground := Ground.gcOnly Departure.lateStores }], guard := none }) (v := .int .i64 110) rfl (by kernel_rfl) (by kernel_rfl) (by kernel_rfl) (fun _ _ _ h => h) (Or.inl ⟨by rfl, by intro w hSw; go_simp⟩) (by assumption) ?_
                simp only [Act.put, List.setIfInBounds_toArray, List.set_cons_zero, List.set_cons_succ]
                refine wpAnyH_ready (rs := [10]) (by kernel_rfl) (by simp) (AllReadyH.cons (o := { dst := some 18, op := Op.assign (Operand.tmp 162), type := 23, pos := "outright.go:267", after := #[{ on := 8, ground := Ground.data }, { on := 6, ground := Ground.chain }, { on := 0, ground := Ground.phase }, { on := 1, ground := Ground.phase }, { on := 2, ground := Ground.phase }, { on := 3, ground := Ground.phase }, { on := 4, ground := Ground.phase }, { on := 5, ground := Ground.phase }, { on := 6, ground := Ground.phase }, { on := 7, ground := Ground.phase }, { on := 8, ground := Ground.phase }, { on := 9, ground := Ground.textOnly Departure.lateStores }], guard := none }) rfl (fun KQ hK => ?_) AllReadyH.nil)
                go_simp
                refine hK.out _ _ trivial (fun hHeld => ?_)
                clear hK KQ
                try simp only [Act.put, List.setIfInBounds_toArray, List.set_cons_zero, List.set_cons_succ]
                refine wpAnyH_ready (rs := [11]) (by kernel_rfl) (by simp) (AllReadyH.cons (o := { dst := some 19, op := Op.assign (Operand.tmp 163), type := 30, pos := "outright.go:267", after := #[{ on := 9, ground := Ground.data }, { on := 10, ground := Ground.chain }, { on := 0, ground := Ground.phase }, { on := 1, ground := Ground.phase }, { on := 2, ground := Ground.phase }, { on := 3, ground := Ground.phase }, { on := 4, ground := Ground.phase }, { on := 5, ground := Ground.phase }, { on := 6, ground := Ground.phase }, { on := 7, ground := Ground.phase }, { on := 8, ground := Ground.phase }, { on := 9, ground := Ground.phase }, { on := 10, ground := Ground.phase }], guard := none }) rfl (fun KQ hK => ?_) AllReadyH.nil)
                go_simp
                refine hK.out _ _ trivial (fun hHeld => ?_)
                clear hK KQ
                try simp only [Act.put, List.setIfInBounds_toArray, List.set_cons_zero, List.set_cons_succ]
                refine wpAnyH_done (by kernel_rfl) ?_ _
                go_upto_region 34 with (first | (go_at_call 12; refine (HMd.out _ p.f KF.out.k.a.mem).mono ?_; rintro e wG ⟨f6, rfl, hnm⟩; have KG := hid (KF.out.on hnm.below); have NM2 := hid hnm; clear hnm KF) | (go_at_call 11; refine (HLa2.out _ f6 NM2.out.mem _ _ (HWo.out _ _ _ _ KG.out.k).2).mono ?_; rintro e wH hh; rcases hh with ⟨_, rfl, hb7⟩ | ⟨hbad, _⟩; rotate_left; (rw [hbad] at hok; cases hok); have KH := hid (KG.out.on hb7); clear hb7 KG NM2))
                clear hok
                go_upto_region 36 with fail
                clear HLa2 HMd
                go_upto_region 37 with (go_at_call 20; refine (HOd.out _ q KH.out.l.a).mono ?_; rintro e wI ⟨vp, rfl, hop, hbp⟩; have KI1 := hid (KH.out.l.addD hbp (by rw [ints_len]; exact hop)); have RP := hid (own_mono hop KH.out.l.below.size); clear hop hbp KH)
                obtain ⟨po, pc, hpf, _⟩ := own_form RP.out
                subst hpf
                go_upto_region 38 with fail
                have HO1 : Hid (∀ u ∈ ints (d.owned 3), u.oneCell' = true) := hid (fun u hu => by unfold ints at hu; rw [List.mem_map] at hu; obtain ⟨k, _, rfl⟩ := hu; rfl)
                have HO2 : Hid ((ints (d.owned 3)).length ≤ 1000000) := hid (by rw [ints_len]; have := HOn.out; omega)
                go_cut [23] (fun v w => ∃ fo fc, v = .slice fo (d.owned 3).length fc ∧ Hid (KR W w q d [] [⟨27, .slice (some ⟨gk, 0, none⟩) j j, u32s d.ws⟩, ⟨3, .slice po (d.owned 3).length pc, ints (d.owned 3)⟩, ⟨3, .slice fo (d.owned 3).length fc, ints (d.owned 3)⟩]))
                case first =>
                  go_wp2_with (at_builtin; refine appAll under45 info3 rfl (by decide) rfl _ _ rfl HO1.out rfl rfl (by rw [ints_len]; exact RP.out) HO2.out ?_; intro vf wJ hof hbf; have KJ1 := hid (KI1.out.addD hbf hof); have RF := hid (own_mono hof KI1.out.below.size); clear hof hbf KI1)
                  rw [ints_len] at RF
                  obtain ⟨fo, fc, hff, _⟩ := own_form RF.out
                  subst hff
                  have K0 := KJ1.out.none
                  simp only [List.cons_append, List.nil_append] at K0
                  go_meet
                  exact ⟨fo, fc, rfl, hid K0⟩
                case rest =>
                  obtain ⟨fo, fc, rfl, HKf⟩ := hcut
                  exact (‹∀ (a : Act) (w : World), Code.wp Try.prog _ _ a w → _› _ _ (keepsT W _ q d times HTm.out.1 HTm.out.2 j (d.owned 3).length HE.out HLl.out (by have := HN17.out; omega) rfl HOn.out.1 HOn.out.2 (some ⟨gk, 0, none⟩) po fo j pc fc HRg.out HKf.out _ _ _ _ _ _ _ _ _ _ _ _ _ _ _ _ _ _ _ _ _ _ _ _ _ _ _ _ _ _ _ _ _ _ _ _ _ _ _ _ _ _ _ _ _ _ _ _ _ _ _ _ _ _ _ _ _ _ _ _ _ _ _ _ _ _ _ _ _ _ _ _ _ _ _ _ _ _ _ _ _ _ _ _ _ _ _ _ _ _ _ _ _ _ _ _ _ _ _ _ _ _ _ _ _ _ _ _ _ _ _ _ _ _ _ _ _ _ _ _ _ _ _ _ _ _ _ _ _ _ _ _ _ _ _ _ _ _ _ _ _ _ _ _ _ _ _ _ _ _ _ _ _ _ _ _ _ _ _ _ _ _ _ _ _ _ _ _ _ _ _ _ _ _ _ _ _ _ _ _ _ _ _ _ _ _ _ _ _ _ _ _ _ _ _ _ _ _ _ _ _ _ _ _ _ _ _ _ _ _ _ _ _ _ _ _ _ _ _ _ _ _ _ _ _ _ _ _ _ _ _ _ _ _ _ _ _ _ _ _ _ _ _ _ _ _ _ _ _ _ _ _ _ _ _ _ _ _ _ _ _ _ _ _ _ _ _ _ _ _ _ _ _ _ _ _ _ _ _ _ _ _ _ _ _ _ _ _ _ _ _ _ _ _ _ _ _ _ _ _ _ _ _ _ _ _ _ _ _ _ _ _ _ _ _ _ _ _ _ _ _ _ _ _ _ _ _ _ _ _ _ _ _ _ _ _ _ _ _ _ _ _ _ _ _ _ _ _ _ _ _ _ _ _))

end Go.Proofs.Ytajkhkaidjjioaa
