/- WalkLocal (6): is the word one of the two? -/
import Derived.Test.YtmmphmdmocfnpaaP6a
namespace Go.Proofs.Ytmmphmdmocfnpaa
open Go.RowKit
set_option maxHeartbeats 8000000
set_option maxRecDepth 100000
theorem local_t1 (W b w : World) (f : Fp) (m : MS) (g4 g5 b10 b13 : Nat) (l va a : Int) (ps : Bool) (pp po pv : Int) (hL : LC W b w f m g4 g5 l va a ps pp po pv) (hU : m.U) (va0 : 0 ≤ va) (va1 : va < 4294967296) (pv0 : 0 ≤ pv) (pv1 : pv < 4294967296) (h10 : Cel w b10 35 [.bool (m.wk l va).s, .int .i64 (m.wk l va).p, .bool (m.wk l va).wr, .bool (m.wk l va).ex]) (h13 : Cel w b13 33 [.bool (m.trS l va a), .int .i64 (m.trP l va a)]) (l10 : b.heap.size ≤ b10) (l13 : b.heap.size ≤ b13) (K : Act → World → Prop) (hK : ∀ a w, Code.wp Try.prog (sfx 12 (Try.f6.body.getD .skip)) (bodyPost Try.prog Try.f6 fun x w' => x = .returned (.bool true) ∧ Below W.heap.size W w') a w → K a w) (z0 z1 z2 z3 z6 z8 z9 z12 z18 z19 z20 z21 z22 z23 z24 z25 z26 z27 z28 z29 z30 z31 z32 z33 z34 z35 z36 z37 z38 z39 z40 z41 z42 z43 z44 z45 z46 z47 z48 z49 z50 z51 z52 z53 z54 z55 z56 z57 z58 z59 z60 z61 z62 z63 z64 z65 z66 z67 z68 z69 z70 z71 z72 z73 z74 z75 z76 z77 z78 z79 z80 z81 z82 z83 z84 z85 z86 z87 z88 z89 z90 z91 z92 z93 z94 z95 z96 z97 z98 z99 z100 z101 z102 z103 z104 z105 z106 z107 z108 z109 z110 z111 z112 z113 z114 z115 z116 z117 z118 z119 z120 z121 z122 z123 z124 z125 z126 z127 z128 z129 z130 z131 z132 z133 z134 z135 z136 z137 z138 z139 z140 z141 z142 z143 z144 z145 z146 z147 z148 z149 z150 z151 z152 z153 z154 z155 z156 z157 z158 z159 z160 z161 z162 z163 z164 z165 z166 z167 z168 z169 z170 z171 z172 z173 z174 z175 z176 z177 z178 z179 z180 z181 z182 z183 z184 z185 z186 z187 z188 z189 z190 z191 z192 z193 z194 z195 z196 z197 z198 z199 z200 z201 z202 z203 z204 z205 z206 z207 z208 z209 z210 z211 z212 z213 z214 z215 : Value) :
    Code.wp Try.prog (hdx 11 (Try.f6.body.getD .skip)) (Exit.then K (bodyPost Try.prog Try.f6 fun x w' => x = .returned (.bool true) ∧ Below W.heap.size W w')) { tmps := #[z0, z1, z2, z3, .pointer (some ⟨g4, 0, none⟩), .pointer (some ⟨g5, 0, none⟩), z6, .pointer (some ⟨f.gm, 0, none⟩), z8, z9, .pointer (some ⟨b10, 0, none⟩), .int .i64 (m.wkE l va), z12, .pointer (some ⟨b13, 0, none⟩), .int .i64 (m.trO l va a), .int .i64 (m.trE l va a), .int .i64 (spI va), .int .i64 (spJ va), z18, z19, z20, z21, z22, z23, z24, z25, z26, z27, z28, z29, z30, z31, z32, z33, z34, z35, z36, z37, z38, z39, z40, z41, z42, z43, z44, z45, z46, z47, z48, z49, z50, z51, z52, z53, z54, z55, z56, z57, z58, z59, z60, z61, z62, z63, z64, z65, z66, z67, z68, z69, z70, z71, z72, z73, z74, z75, z76, z77, z78, z79, z80, z81, z82, z83, z84, z85, z86, z87, z88, z89, z90, z91, z92, z93, z94, z95, z96, z97, z98, z99, z100, z101, z102, z103, z104, z105, z106, z107, z108, z109, z110, z111, z112, z113, z114, z115, z116, z117, z118, z119, z120, z121, z122, z123, z124, z125, z126, z127, z128, z129, z130, z131, z132, z133, z134, z135, z136, z137, z138, z139, z140, z141, z142, z143, z144, z145, z146, z147, z148, z149, z150, z151, z152, z153, z154, z155, z156, z157, z158, z159, z160, z161, z162, z163, z164, z165, z166, z167, z168, z169, z170, z171, z172, z173, z174, z175, z176, z177, z178, z179, z180, z181, z182, z183, z184, z185, z186, z187, z188, z189, z190, z191, z192, z193, z194, z195, z196, z197, z198, z199, z200, z201, z202, z203, z204, z205, z206, z207, z208, z209, z210, z211, z212, z213, z214, z215], defers := [] } w := by
  have HL := hid hL
  have H10 := hid h10
  have H13 := hid h13
  have HL10 := hid l10
  have HL13 := hid l13
  have HU := hid hU
  have VA : Hid (0 ≤ va ∧ va < 4294967296) := hid ⟨va0, va1⟩
  have PV : Hid (0 ≤ pv ∧ pv < 4294967296) := hid ⟨pv0, pv1⟩
  have hw := hU.word true l (spI va)
  have HP := hid (peek_any w f m hL.rd.mem true l (spI va))
  have HQ := hid (fun W => pf_any W (m.word true l (spI va)) hw.1 hw.2)
  have HX := hid (@wk_local m hL.rd.mem.ns0 ps pp po pv l va)
  clear hL h10 h13 l10 l13 hU hw va0 va1 pv0 pv1
  refine hd_walk 11 rfl (by simp only [hdx, sfx]; rfl) (by simp only [sfx]; rfl) hK ?_
  clear hK
  intro hK
  unfold fr ptr at HP
  have c0 := HL.out.c4.cell 0
  have c1 := HL.out.c4.cell 1
  have c2 := HL.out.c4.cell 2
  simp only [List.getElem?_cons_zero, List.getElem?_cons_succ] at c0 c1 c2
  go_wp2_with fail
  refine HP.out.mono ?_
  rintro x w2 ⟨rfl, hb2⟩
  have HL2 := hid (HL.out.on hb2)
  have H102 := hid (H10.out.on hb2)
  have H132 := hid (H13.out.on hb2)
  clear hb2 HL H10 H13 c0 c1 c2 HP
  go_wp2_with fail
  refine (HQ.out _).mono ?_
  rintro x wx ⟨rfl, rfl⟩
  clear HQ
  have c0 := HL2.out.c4.cell 0
  have c1 := HL2.out.c4.cell 1
  have c2 := HL2.out.c4.cell 2
  simp only [List.getElem?_cons_zero, List.getElem?_cons_succ] at c0 c1 c2
  have d0 := HL2.out.c5.cell 0
  have d1 := HL2.out.c5.cell 1
  have d2 := HL2.out.c5.cell 2
  have d3 := HL2.out.c5.cell 3
  simp only [List.getElem?_cons_zero, List.getElem?_cons_succ] at d0 d1 d2 d3
  generalize hpe : pfE (m.word true l (spI va)) = no at *
  generalize hpt : pf (m.word true l (spI va)) = tb at *
  clear hpe hpt
  cases ps
  · by_cases hn : no = 0
    · subst hn
      go_upto_region 20 with fail
      exact local_t2 W b wx f m g4 g5 b10 b13 l va a _ pp po pv HL2.out HU.out VA.out.1 VA.out.2 PV.out.1 PV.out.2 H102.out H132.out HL10.out HL13.out (HX.out (fun h => by cases h.1) (fun h => by cases h.2.1)) _ ‹∀ (a : Act) (w : World), Code.wp Try.prog _ _ a w → _› _ _ _ _ _ _ _ _ _ _ _ _ _ _ _ _ _ _ _ _ _ _ _ _ _ _ _ _ _ _ _ _ _ _ _ _ _ _ _ _ _ _ _ _ _ _ _ _ _ _ _ _ _ _ _ _ _ _ _ _ _ _ _ _ _ _ _ _ _ _ _ _ _ _ _ _ _ _ _ _ _ _ _ _ _ _ _ _ _ _ _ _ _ _ _ _ _ _ _ _ _ _ _ _ _ _ _ _ _ _ _ _ _ _ _ _ _ _ _ _ _ _ _ _ _ _ _ _ _ _ _ _ _ _ _ _ _ _ _ _ _ _ _ _ _ _ _ _ _ _ _ _ _ _ _ _ _ _ _ _ _ _ _ _ _ _ _ _ _ _ _ _ _ _ _ _ _ _ _ _ _ _ _ _ _ _ _ _ _ _ _ _ _ _ _ _ _ _ _ _ _ _ _ _ _ _ _ _
    · have hnb : (no == 0) = false := by simp [hn]
      go_upto_region 20 with fail
      exact local_t2 W b wx f m g4 g5 b10 b13 l va a _ pp po pv HL2.out HU.out VA.out.1 VA.out.2 PV.out.1 PV.out.2 H102.out H132.out HL10.out HL13.out (HX.out (fun h => by cases h.1) (fun h => by cases h.2.1)) _ ‹∀ (a : Act) (w : World), Code.wp Try.prog _ _ a w → _› _ _ _ _ _ _ _ _ _ _ _ _ _ _ _ _ _ _ _ _ _ _ _ _ _ _ _ _ _ _ _ _ _ _ _ _ _ _ _ _ _ _ _ _ _ _ _ _ _ _ _ _ _ _ _ _ _ _ _ _ _ _ _ _ _ _ _ _ _ _ _ _ _ _ _ _ _ _ _ _ _ _ _ _ _ _ _ _ _ _ _ _ _ _ _ _ _ _ _ _ _ _ _ _ _ _ _ _ _ _ _ _ _ _ _ _ _ _ _ _ _ _ _ _ _ _ _ _ _ _ _ _ _ _ _ _ _ _ _ _ _ _ _ _ _ _ _ _ _ _ _ _ _ _ _ _ _ _ _ _ _ _ _ _ _ _ _ _ _ _ _ _ _ _ _ _ _ _ _ _ _ _ _ _ _ _ _ _ _ _ _ _ _ _ _ _ _ _ _ _ _ _ _ _ _ _ _ _
  · by_cases h1 : pp = l ∧ po = spI va
    · obtain ⟨rfl, rfl⟩ := h1
      by_cases hn : no = 0
      · subst hn
        go_wp2_with fail
        all_goals go_returns
        all_goals exact ⟨rfl, HL2.out.below⟩
      · have hnb : (no == 0) = false := by simp [hn]
        go_wp2_with fail
        all_goals go_returns
        all_goals exact ⟨rfl, HL2.out.below⟩
    · have h1c : pp ≠ l ∨ (pp = l ∧ po ≠ spI va) := by
        by_cases e : pp = l
        · exact .inr ⟨e, fun e2 => h1 ⟨e, e2⟩⟩
        · exact .inl e
      by_cases h2 : no = 0 ∧ pp = tb ∧ po = spJ va
      · obtain ⟨rfl, rfl, rfl⟩ := h2
        rcases h1c with hp | ⟨rfl, ho⟩
        · have e1 : (pp == l) = false := by simp [hp]
          go_wp2_with fail
          all_goals go_returns
          all_goals exact ⟨rfl, HL2.out.below⟩
        · have e1 : (spJ va == spI va) = false := by simp [ho]
          go_wp2_with fail
          all_goals go_returns
          all_goals exact ⟨rfl, HL2.out.below⟩
      · have HF : Hid (¬ (true = true ∧ pp = l ∧ po = spI va)) := hid (fun h => h1 h.2)
        have HG : Hid (¬ (no = 0 ∧ true = true ∧ pp = tb ∧ po = spJ va)) := hid (fun h => h2 ⟨h.1, h.2.2⟩)
        have h2c : no ≠ 0 ∨ (no = 0 ∧ pp ≠ tb) ∨ (no = 0 ∧ pp = tb ∧ po ≠ spJ va) := by
          by_cases e : no = 0
          · by_cases e2 : pp = tb
            · exact .inr (.inr ⟨e, e2, fun e3 => h2 ⟨e, e2, e3⟩⟩)
            · exact .inr (.inl ⟨e, e2⟩)
          · exact .inl e
        clear h1 h2
        have HX2 := hid (HX.out HF.out HG.out)
        clear HX HF HG
        generalize hi : spI va = i at *
        generalize hj : spJ va = j at *
        have F1 : pp ≠ l → (pp == l) = false := fun h => by simp [h]
        have F2 : po ≠ i → (po == i) = false := fun h => by simp [h]
        have F3 : no ≠ 0 → (no == 0) = false := fun h => by simp [h]
        have F4 : pp ≠ tb → (pp == tb) = false := fun h => by simp [h]
        have F5 : po ≠ j → (po == j) = false := fun h => by simp [h]
        rcases h1c with hp | ⟨hpl, ho⟩
        · have e1 := F1 hp
          clear F1 F2
          rcases h2c with hn | ⟨hn, hq⟩ | ⟨hn, hq, hr⟩
          · have e3 := F3 hn
            clear F3 F4 F5
            go_upto_region 20 with fail
            exact local_t2 W b wx f m g4 g5 b10 b13 l va a _ pp po pv HL2.out HU.out VA.out.1 VA.out.2 PV.out.1 PV.out.2 H102.out H132.out HL10.out HL13.out HX2.out _ ‹∀ (a : Act) (w : World), Code.wp Try.prog _ _ a w → _› _ _ _ _ _ _ _ _ _ _ _ _ _ _ _ _ _ _ _ _ _ _ _ _ _ _ _ _ _ _ _ _ _ _ _ _ _ _ _ _ _ _ _ _ _ _ _ _ _ _ _ _ _ _ _ _ _ _ _ _ _ _ _ _ _ _ _ _ _ _ _ _ _ _ _ _ _ _ _ _ _ _ _ _ _ _ _ _ _ _ _ _ _ _ _ _ _ _ _ _ _ _ _ _ _ _ _ _ _ _ _ _ _ _ _ _ _ _ _ _ _ _ _ _ _ _ _ _ _ _ _ _ _ _ _ _ _ _ _ _ _ _ _ _ _ _ _ _ _ _ _ _ _ _ _ _ _ _ _ _ _ _ _ _ _ _ _ _ _ _ _ _ _ _ _ _ _ _ _ _ _ _ _ _ _ _ _ _ _ _ _ _ _ _ _ _ _ _ _ _ _ _ _ _ _ _ _ _
          · have e3 : (no == 0) = true := by simp [hn]
            have e4 := F4 hq
            clear F3 F4 F5 hn
            go_upto_region 20 with fail
            exact local_t2 W b wx f m g4 g5 b10 b13 l va a _ pp po pv HL2.out HU.out VA.out.1 VA.out.2 PV.out.1 PV.out.2 H102.out H132.out HL10.out HL13.out HX2.out _ ‹∀ (a : Act) (w : World), Code.wp Try.prog _ _ a w → _› _ _ _ _ _ _ _ _ _ _ _ _ _ _ _ _ _ _ _ _ _ _ _ _ _ _ _ _ _ _ _ _ _ _ _ _ _ _ _ _ _ _ _ _ _ _ _ _ _ _ _ _ _ _ _ _ _ _ _ _ _ _ _ _ _ _ _ _ _ _ _ _ _ _ _ _ _ _ _ _ _ _ _ _ _ _ _ _ _ _ _ _ _ _ _ _ _ _ _ _ _ _ _ _ _ _ _ _ _ _ _ _ _ _ _ _ _ _ _ _ _ _ _ _ _ _ _ _ _ _ _ _ _ _ _ _ _ _ _ _ _ _ _ _ _ _ _ _ _ _ _ _ _ _ _ _ _ _ _ _ _ _ _ _ _ _ _ _ _ _ _ _ _ _ _ _ _ _ _ _ _ _ _ _ _ _ _ _ _ _ _ _ _ _ _ _ _ _ _ _ _ _ _ _ _ _ _ _
          · have e3 : (no == 0) = true := by simp [hn]
            have e4 : (pp == tb) = true := by simp [hq]
            have e5 := F5 hr
            clear F3 F4 F5 hn hq
            go_upto_region 20 with fail
            exact local_t2 W b wx f m g4 g5 b10 b13 l va a _ pp po pv HL2.out HU.out VA.out.1 VA.out.2 PV.out.1 PV.out.2 H102.out H132.out HL10.out HL13.out HX2.out _ ‹∀ (a : Act) (w : World), Code.wp Try.prog _ _ a w → _› _ _ _ _ _ _ _ _ _ _ _ _ _ _ _ _ _ _ _ _ _ _ _ _ _ _ _ _ _ _ _ _ _ _ _ _ _ _ _ _ _ _ _ _ _ _ _ _ _ _ _ _ _ _ _ _ _ _ _ _ _ _ _ _ _ _ _ _ _ _ _ _ _ _ _ _ _ _ _ _ _ _ _ _ _ _ _ _ _ _ _ _ _ _ _ _ _ _ _ _ _ _ _ _ _ _ _ _ _ _ _ _ _ _ _ _ _ _ _ _ _ _ _ _ _ _ _ _ _ _ _ _ _ _ _ _ _ _ _ _ _ _ _ _ _ _ _ _ _ _ _ _ _ _ _ _ _ _ _ _ _ _ _ _ _ _ _ _ _ _ _ _ _ _ _ _ _ _ _ _ _ _ _ _ _ _ _ _ _ _ _ _ _ _ _ _ _ _ _ _ _ _ _ _ _ _ _ _
        · have e0 : (pp == l) = true := by simp [hpl]
          have e1 := F2 ho
          clear F1 F2 hpl
          rcases h2c with hn | ⟨hn, hq⟩ | ⟨hn, hq, hr⟩
          · have e3 := F3 hn
            clear F3 F4 F5
            go_upto_region 20 with fail
            exact local_t2 W b wx f m g4 g5 b10 b13 l va a _ pp po pv HL2.out HU.out VA.out.1 VA.out.2 PV.out.1 PV.out.2 H102.out H132.out HL10.out HL13.out HX2.out _ ‹∀ (a : Act) (w : World), Code.wp Try.prog _ _ a w → _› _ _ _ _ _ _ _ _ _ _ _ _ _ _ _ _ _ _ _ _ _ _ _ _ _ _ _ _ _ _ _ _ _ _ _ _ _ _ _ _ _ _ _ _ _ _ _ _ _ _ _ _ _ _ _ _ _ _ _ _ _ _ _ _ _ _ _ _ _ _ _ _ _ _ _ _ _ _ _ _ _ _ _ _ _ _ _ _ _ _ _ _ _ _ _ _ _ _ _ _ _ _ _ _ _ _ _ _ _ _ _ _ _ _ _ _ _ _ _ _ _ _ _ _ _ _ _ _ _ _ _ _ _ _ _ _ _ _ _ _ _ _ _ _ _ _ _ _ _ _ _ _ _ _ _ _ _ _ _ _ _ _ _ _ _ _ _ _ _ _ _ _ _ _ _ _ _ _ _ _ _ _ _ _ _ _ _ _ _ _ _ _ _ _ _ _ _ _ _ _ _ _ _ _ _ _ _ _
          · have e3 : (no == 0) = true := by simp [hn]
            have e4 := F4 hq
            clear F3 F4 F5 hn
            go_upto_region 20 with fail
            exact local_t2 W b wx f m g4 g5 b10 b13 l va a _ pp po pv HL2.out HU.out VA.out.1 VA.out.2 PV.out.1 PV.out.2 H102.out H132.out HL10.out HL13.out HX2.out _ ‹∀ (a : Act) (w : World), Code.wp Try.prog _ _ a w → _› _ _ _ _ _ _ _ _ _ _ _ _ _ _ _ _ _ _ _ _ _ _ _ _ _ _ _ _ _ _ _ _ _ _ _ _ _ _ _ _ _ _ _ _ _ _ _ _ _ _ _ _ _ _ _ _ _ _ _ _ _ _ _ _ _ _ _ _ _ _ _ _ _ _ _ _ _ _ _ _ _ _ _ _ _ _ _ _ _ _ _ _ _ _ _ _ _ _ _ _ _ _ _ _ _ _ _ _ _ _ _ _ _ _ _ _ _ _ _ _ _ _ _ _ _ _ _ _ _ _ _ _ _ _ _ _ _ _ _ _ _ _ _ _ _ _ _ _ _ _ _ _ _ _ _ _ _ _ _ _ _ _ _ _ _ _ _ _ _ _ _ _ _ _ _ _ _ _ _ _ _ _ _ _ _ _ _ _ _ _ _ _ _ _ _ _ _ _ _ _ _ _ _ _ _ _ _ _
          · have e3 : (no == 0) = true := by simp [hn]
            have e4 : (pp == tb) = true := by simp [hq]
            have e5 := F5 hr
            clear F3 F4 F5 hn hq
            go_upto_region 20 with fail
            exact local_t2 W b wx f m g4 g5 b10 b13 l va a _ pp po pv HL2.out HU.out VA.out.1 VA.out.2 PV.out.1 PV.out.2 H102.out H132.out HL10.out HL13.out HX2.out _ ‹∀ (a : Act) (w : World), Code.wp Try.prog _ _ a w → _› _ _ _ _ _ _ _ _ _ _ _ _ _ _ _ _ _ _ _ _ _ _ _ _ _ _ _ _ _ _ _ _ _ _ _ _ _ _ _ _ _ _ _ _ _ _ _ _ _ _ _ _ _ _ _ _ _ _ _ _ _ _ _ _ _ _ _ _ _ _ _ _ _ _ _ _ _ _ _ _ _ _ _ _ _ _ _ _ _ _ _ _ _ _ _ _ _ _ _ _ _ _ _ _ _ _ _ _ _ _ _ _ _ _ _ _ _ _ _ _ _ _ _ _ _ _ _ _ _ _ _ _ _ _ _ _ _ _ _ _ _ _ _ _ _ _ _ _ _ _ _ _ _ _ _ _ _ _ _ _ _ _ _ _ _ _ _ _ _ _ _ _ _ _ _ _ _ _ _ _ _ _ _ _ _ _ _ _ _ _ _ _ _ _ _ _ _ _ _ _ _ _ _ _ _ _ _ _
end Go.Proofs.Ytmmphmdmocfnpaa
