/- WalkBack (3): its loop. -/
import Derived.Test.YtmmphmdmocfnpaaW4
namespace Go.Proofs.Ytmmphmdmocfnpaa
open Go.RowKit
set_option maxHeartbeats 8000000
set_option maxRecDepth 100000
theorem b2_vals (b : Bool) (n : Int) : b2 b n = 0 ∧ b = false ∨ b2 b n = n ∧ b = true := by cases b <;> simp [b2]
theorem fld_code (m : Mp) (h : Pg m.p) : fldM m.code = m := by
  obtain ⟨s, p, wr, ex⟩ := m
  obtain ⟨p0, p1⟩ := h
  simp only at p0 p1
  unfold fldM Mp.code b2
  simp only [Mp.mk.injEq]
  cases s <;> cases wr <;> cases ex <;> simp <;> omega
theorem code_range (m : Mp) (h : Pg m.p) : 0 < m.code ∧ m.code < 4294967296 := by
  obtain ⟨s, p, wr, ex⟩ := m
  obtain ⟨p0, p1⟩ := h
  simp only at p0 p1
  unfold Mp.code b2
  cases s <;> cases wr <;> cases ex <;> simp <;> omega
theorem ps_enc (m : Mp) (h : m.err = 0) : m.enc = m.code ∧ ps m.code = m ∧ psE m.code = 0 := by
  have hp : Pg m.p := by unfold Mp.err at h; by_cases hp : Pg m.p; exact hp; rw [if_neg hp] at h; cases h
  have h1 := fld_code m hp
  have h2 := code_range m hp
  have h3 : PsOk m.code := by unfold PsOk; rw [h1]; exact ⟨h, rfl⟩
  refine ⟨by unfold Mp.enc; rw [if_pos h], by unfold ps; rw [if_pos h3, h1], by unfold psE; rw [if_neg (by omega), if_pos h3]⟩
theorem pf_first (p : Int) (h : Pg p) : pf (256 * p + 1) = p ∧ pfE (256 * p + 1) = 0 := by
  obtain ⟨p0, p1⟩ := h
  have e : (256 * p + 1) / 256 = p := by omega
  have h3 : PfOk (256 * p + 1) := by unfold PfOk; rw [e]; exact ⟨⟨p0, p1⟩, rfl⟩
  exact ⟨by unfold pf; rw [if_pos h3, e], by unfold pfE; rw [if_neg (by omega), if_pos h3]⟩
theorem join_split (v : Int) (h0 : 0 ≤ v) : jE (spI v) (spJ v) (spO v) = 0 ∧ (spE v = 0 ∧ VaOk v ∧ jW (spI v) (spJ v) (spO v) = v ∨ spE v = 91 ∧ ¬ VaOk v ∧ jW (spI v) (spJ v) (spO v) = 0) := by
  by_cases h : VaOk v
  · have hj : JoinOk (spI v) (spJ v) (spO v) := by unfold JoinOk spI spJ spO; simp only [if_pos h]; unfold VaOk at h; omega
    refine ⟨by unfold jE; rw [if_pos hj], .inl ⟨by unfold spE; rw [if_pos h], h, ?_⟩⟩
    unfold jW; rw [if_pos hj]; unfold spI spJ spO; simp only [if_pos h]; unfold VaOk at h; omega
  · have e : spI v = 0 ∧ spJ v = 0 ∧ spO v = 0 := by unfold spI spJ spO; simp [h]
    rw [e.1, e.2.1, e.2.2]
    exact ⟨by decide, .inr ⟨by unfold spE; rw [if_neg h], h, by decide⟩⟩
theorem pf_back (v : Int) : pfE v = 0 ∧ Pg (pf v) ∧ fW (pf v) = v ∧ fE (pf v) = 0 ∧ ¬ v = 0 ∨ pfE v = 92 ∧ pf v = 0 ∧ v = 0 ∨ pfE v = 90 ∧ pf v = 0 ∧ ¬ v = 0 := by
  by_cases h0 : v = 0
  · subst h0; exact .inr (.inl (by decide))
  · by_cases h : PfOk v
    · refine .inl ⟨by unfold pfE; rw [if_neg h0, if_pos h], by unfold pf; rw [if_pos h]; exact h.1, ?_, ?_, h0⟩
      · unfold pf fW; rw [if_pos h, if_pos h.1]; exact h.2
      · unfold pf fE; rw [if_pos h, if_pos h.1]
    · exact .inr (.inr ⟨by unfold pfE; rw [if_neg h0, if_neg h], by unfold pf; rw [if_neg h], h0⟩)
theorem ps_back (v : Int) : psE v = 0 ∧ (ps v).enc = v ∧ (ps v).err = 0 ∧ ((ps v).ex && !(ps v).s) = false ∧ ¬ v = 0 ∨ psE v = 92 ∧ ps v = Mp.z ∧ v = 0 ∨ psE v = 90 ∧ ps v = Mp.z ∧ ¬ v = 0 := by
  by_cases h0 : v = 0
  · subst h0; exact .inr (.inl (by decide))
  · by_cases h : PsOk v
    · have e : ps v = fldM v := by unfold ps; rw [if_pos h]
      rw [e]
      refine .inl ⟨by unfold psE; rw [if_neg h0, if_pos h], by unfold Mp.enc; rw [if_pos h.1]; exact h.2, h.1, ?_, h0⟩
      have h1 := h.1
      unfold Mp.err at h1
      by_cases hp : Pg (fldM v).p
      · rw [if_pos hp] at h1
        cases hx : (fldM v).ex && !(fldM v).s
        · rfl
        · rw [hx] at h1; simp at h1
      · rw [if_neg hp] at h1; cases h1
    · exact .inr (.inr ⟨by unfold psE; rw [if_neg h0, if_neg h], by unfold ps; rw [if_neg h], h0⟩)
def sfx : Nat → Code → Code
  | n + 1, .seq _ b => sfx n b
  | _, c => c
def hdx (n : Nat) (c : Code) : Code := match sfx n c with
  | .seq x _ => x
  | c => c
theorem hd_walk {body : Option Code} (n : Nat) {code x y : Code} {Q : Exit → Act → World → Prop} {K : Act → World → Prop} {a : Act} {w : World} (h : body = some code) (h' : hdx n code = x) (h2 : sfx (n + 1) code = y)
    (hK : ∀ a w, Code.wp Try.prog (sfx (n + 1) (body.getD .skip)) Q a w → K a w) (hw : (∀ a w, Code.wp Try.prog y Q a w → K a w) → Code.wp Try.prog x (Exit.then K Q) a w) : Code.wp Try.prog (hdx n (body.getD .skip)) (Exit.then K Q) a w := by
  subst h' h2
  rw [h] at hK ⊢
  exact hw hK
theorem chain4c {w w3 : World} {g : Nat} {a b c d : Value} (h : Cel w g 35 [a, b, c, d]) (x y z t : Value) (e : (((w.setCell ⟨g, 0, none⟩ x).setCell ⟨g, 1, none⟩ y).setCell ⟨g, 2, none⟩ z).setCell ⟨g, 3, none⟩ t = w3) : Cel w3 g 35 [x, y, z, t] ∧ ButL [g] w w3 := by
  rw [← e]
  exact ⟨(((h.setCell 0 x).setCell 1 y).setCell 2 z).setCell 3 t, (((ButL.setCell w g 0 x (by simp)).trans (.setCell _ g 1 y (by simp))).trans (.setCell _ g 2 z (by simp))).trans (.setCell _ g 3 t (by simp))⟩
theorem back_d (W w : World) (va v : Int) (s : Bool) (p : Int) (g : Nat) (m : Mp) (hc4 : Cel w g 35 [.bool m.s, .int .i64 m.p, .bool m.wr, .bool m.ex]) (hb4 : Below W.heap.size W w) (hg : W.heap.size ≤ g) (K : Act → World → Prop) (hK : ∀ a w, Code.wp Try.prog (sfx 11 (Try.f3.body.getD .skip)) (bodyPost Try.prog Try.f3 fun x w' => x = .returned (.bool true) ∧ Below W.heap.size W w') a w → K a w) (z4 z5 z6 z7 z8 z9 z10 z11 z12 z13 z14 z15 z16 z18 z19 z20 z21 z22 z23 z24 z25 z26 z27 z28 z29 z30 z31 z32 z33 z34 z35 z36 z37 z38 z39 z40 z41 z42 z43 z44 z45 z46 z47 z48 z49 z50 z51 z52 z53 z54 z55 z56 z57 z58 z59 z60 z61 z62 z63 z64 z65 z66 z67 z68 z69 z70 z71 z72 z73 z74 z75 z76 z77 z78 z79 z80 z81 z82 z83 z84 z85 z86 z87 z88 z89 z90 z91 z92 z93 z94 z95 z96 z97 z98 z99 z100 z101 z102 z103 z104 z105 z106 z107 z108 z109 z110 z111 z112 z113 z114 z115 z116 z117 z118 z119 z120 z121 z122 z123 z124 z125 z126 z127 z128 z129 z130 z131 z132 z133 z134 z135 z136 z137 z138 z139 z140 z141 z142 z143 z144 z145 z146 z147 z148 z149 z150 z151 z152 z153 z154 z155 z156 z157 z158 z159 z160 z161 z162 z163 z164 z165 z166 z167 z168 z169 z170 z171 z172 z173 z174 z175 z176 z177 z178 z179 z180 z181 z182 z183 z184 z185 z186 z187 z188 z189 z190 z191 z192 z193 z194 z195 z196 z197 z198 z199 z200 z201 z202 z203 z204 z205 z206 z207 z208 z209 z210 z211 z212 z213 z214 z215 z216 z217 z218 z219 z220 z221 z222 z223 z224 z225 z226 z227 z228 z229 z230 z231 z232 z233 z234 z235 z236 z237 z238 z239 z240 z241 z242 z243 z244 : Value) :
    Code.wp Try.prog (hdx 10 (Try.f3.body.getD .skip)) (Exit.then K (bodyPost Try.prog Try.f3 fun x w' => x = .returned (.bool true) ∧ Below W.heap.size W w')) { tmps := #[.int .u32 va, .int .u32 v, .bool s, .int .i64 p, z4, z5, z6, z7, z8, z9, z10, z11, z12, z13, z14, z15, z16, .pointer (some ⟨g, 0, none⟩), z18, z19, z20, z21, z22, z23, z24, z25, z26, z27, z28, z29, z30, z31, z32, z33, z34, z35, z36, z37, z38, z39, z40, z41, z42, z43, z44, z45, z46, z47, z48, z49, z50, z51, z52, z53, z54, z55, z56, z57, z58, z59, z60, z61, z62, z63, z64, z65, z66, z67, z68, z69, z70, z71, z72, z73, z74, z75, z76, z77, z78, z79, z80, z81, z82, z83, z84, z85, z86, z87, z88, z89, z90, z91, z92, z93, z94, z95, z96, z97, z98, z99, z100, z101, z102, z103, z104, z105, z106, z107, z108, z109, z110, z111, z112, z113, z114, z115, z116, z117, z118, z119, z120, z121, z122, z123, z124, z125, z126, z127, z128, z129, z130, z131, z132, z133, z134, z135, z136, z137, z138, z139, z140, z141, z142, z143, z144, z145, z146, z147, z148, z149, z150, z151, z152, z153, z154, z155, z156, z157, z158, z159, z160, z161, z162, z163, z164, z165, z166, z167, z168, z169, z170, z171, z172, z173, z174, z175, z176, z177, z178, z179, z180, z181, z182, z183, z184, z185, z186, z187, z188, z189, z190, z191, z192, z193, z194, z195, z196, z197, z198, z199, z200, z201, z202, z203, z204, z205, z206, z207, z208, z209, z210, z211, z212, z213, z214, z215, z216, z217, z218, z219, z220, z221, z222, z223, z224, z225, z226, z227, z228, z229, z230, z231, z232, z233, z234, z235, z236, z237, z238, z239, z240, z241, z242, z243, z244], defers := [] } w := by
  have HC4 := hid hc4
  have HB4 := hid hb4
  have HG := hid hg
  clear hc4 hb4 hg
  refine hd_walk 10 rfl (by simp only [hdx, sfx]; rfl) (by simp only [sfx]; rfl) hK ?_
  clear hK
  intro hK
  by_cases hp : Pg p
  · have HF : Hid (∀ W, Calls Try.prog 13 #[.int .i64 p] W fun x W' => x = .returned (.tuple #[.int .u32 (256 * p + 1), .int .i64 0]) ∧ W' = W) := hid fun W => by
      have := first_any W p
      unfold fW fE at this
      rw [if_pos hp, if_pos hp] at this
      exact this
    have HQ : Hid (∀ W, Calls Try.prog 12 #[.int .u32 (256 * p + 1)] W fun x W' => x = .returned (.tuple #[.int .i64 p, .int .i64 0]) ∧ W' = W) := hid fun W => by
      have := pf_any W (256 * p + 1) (by have := hp.1; omega) (by have := hp.2; omega)
      rw [(pf_first p hp).1, (pf_first p hp).2] at this
      exact this
    have HP := hid hp
    obtain ⟨p0, p1⟩ := hp
    go_wp2_with fail
    refine (HF.out _).mono ?_
    rintro x w5 ⟨rfl, rfl⟩
    go_wp2_with fail
    refine (HQ.out _).mono ?_
    rintro x w5 ⟨rfl, rfl⟩
    clear HF HQ
    go_wp2_with fail
    go_loopw [19] (fun i wr => ∃ k : Nat, k ≤ 4 ∧ i = .int .i64 (k : Int) ∧ Hid (∃ m : Mp, Cel wr g 35 [.bool m.s, .int .i64 m.p, .bool m.wr, .bool m.ex]) ∧ Hid (Below W.heap.size W wr)) (fun i _ => 4 - (intOf i).toNat)
    case atStart => exact ⟨0, by decide, rfl, hid ⟨m, HC4.out⟩, HB4⟩
    case round =>
      obtain ⟨k, hk, rfl, HCx, HBx⟩ := hrel
      have HCx' := HCx.out
      obtain ⟨m0, hcm⟩ := HCx'
      have HC5 := hid hcm
      clear hcm HCx HC4 HB4
      by_cases hlt : k < 4
      · have c1 : (k : Int) < 4 := by omega
        obtain ⟨a0, a1, a2, a3⟩ := cel4 HC5.out
        have f0 := HC5.out.free 0
        have f1 := HC5.out.free 1
        have f2 := HC5.out.free 2
        have f3 := HC5.out.free 3
        obtain ⟨bw, hbw⟩ : ∃ b : Bool, b = decide ((k : Int) % 2 = 1) := ⟨_, rfl⟩
        obtain ⟨be, hbe⟩ : ∃ b : Bool, b = decide (1 < (k : Int)) := ⟨_, rfl⟩
        have g1 : ((k : Int) % 2 == 1) = bw := by subst hbw; rfl
        have g2 : decide (1 < (k : Int)) = be := by rw [hbe]
        have HW : Hid (be = true ↔ 1 < (k : Int)) := hid (by rw [hbe]; simp)
        clear hbw hbe
        have HS := hid (fun W => second_any W ⟨s, p, bw, be⟩)
        have HE : Hid ((Mp.mk s p bw be).err = if be && !s then 1 else 0) := hid (by unfold Mp.err; rw [if_pos HP.out])
        have HZ := hid (ps_enc ⟨s, p, bw, be⟩)
        have HN : Hid ((Mp.mk s p bw be).err = 1 → (Mp.mk s p bw be).enc = 0) := hid (fun h => by unfold Mp.enc; rw [h]; rfl)
        have HCR := hid (code_range ⟨s, p, bw, be⟩ HP.out)
        generalize (Mp.mk s p bw be).err = er at *
        generalize (Mp.mk s p bw be).enc = en at *
        generalize hcd : (Mp.mk s p bw be).code = cd at *
        clear hcd
        unfold Mp.v at HS
        go_upto_region 23 with fail
        generalize hX3 : World.setCell _ _ _ = w9
        have HC6 := chain4c HC5.out _ _ _ _ hX3
        have HB6 := hid (HBx.out.trans (HC6.2.below (B := W.heap.size) (by simp; exact HG.out) HBx.out.size))
        have HD6 := hid HC6.1
        clear HC6 hX3 HBx HC5 a0 a1 a2 a3 f0 f1 f2 f3
        have a0 := HD6.out.cell 0
        have a1 := HD6.out.cell 1
        have a2 := HD6.out.cell 2
        have a3 := HD6.out.cell 3
        simp only [List.getElem?_cons_zero, List.getElem?_cons_succ] at a0 a1 a2 a3
        go_wp2_with fail
        refine (HS.out _).mono ?_
        rintro x w10 ⟨rfl, hb10⟩
        have HD7 := hid (HD6.out.on hb10)
        have HB7 := hid (below_on HB6.out hb10)
        clear hb10 HD6 HB6 HS a0 a1 a2 a3
        cases hbs : be && !s with
        | true =>
          obtain ⟨rfl, rfl⟩ : be = true ∧ s = false := by cases be <;> cases s <;> simp_all
          have hee : er = 1 := by rw [HE.out]; rfl
          have hen : en = 0 := HN.out hee
          subst hee hen
          have hps := hid (ps_any w10 0 (by decide) (by decide))
          rw [show ps 0 = Mp.z by decide, show psE 0 = 92 by decide] at hps
          unfold Mp.z Mp.v at hps
          have h1k := HW.out.1 rfl
          go_wp2_with fail
          refine hps.out.mono ?_
          rintro x w11 ⟨rfl, hb11⟩
          have HD8 := hid ((HD7.out.on hb11).on (below_one _ (.cells #[.bool false, .int .i64 0, .bool false, .bool false] 35)))
          have HB8 := hid ((below_on HB7.out hb11).trans ((below_one _ (.cells #[.bool false, .int .i64 0, .bool false, .bool false] 35)).mono (below_on HB7.out hb11).size))
          clear hb11 HD7 HB7 hps
          go_wp2_with fail
          go_roundw
          case measure => simp [intOf] <;> omega
          case rel => exact ⟨k + 1, by omega, by simp, hid ⟨⟨false, p, bw, true⟩, HD8.out⟩, HB8⟩
        | false =>
          have hee : er = 0 := by rw [HE.out, hbs]; rfl
          subst hee
          obtain ⟨z1, z2, z3⟩ := HZ.out rfl
          have hen : en = cd := z1
          subst hen
          have hps := hid (ps_any w10 en (by have := HCR.out.1; omega) HCR.out.2)
          rw [z2, z3] at hps
          unfold Mp.v at hps
          clear z1 z2 z3 HZ HN HE
          go_wp2_with fail
          refine hps.out.mono ?_
          rintro x w11 ⟨rfl, hb11⟩
          have HD8 := hid ((HD7.out.on hb11).on (below_one _ (.cells #[.bool s, .int .i64 p, .bool bw, .bool be] 35)))
          have HD9 := hid (Cel.new w11 35 [.bool s, .int .i64 p, .bool bw, .bool be])
          have HB8 := hid ((below_on HB7.out hb11).trans ((below_one _ (.cells #[.bool s, .int .i64 p, .bool bw, .bool be] 35)).mono (below_on HB7.out hb11).size))
          clear hb11 HD7 HB7 hps
          have a0 := HD8.out.cell 0
          have a1 := HD8.out.cell 1
          have a2 := HD8.out.cell 2
          have a3 := HD8.out.cell 3
          simp only [List.getElem?_cons_zero, List.getElem?_cons_succ] at a0 a1 a2 a3
          cases s
          · have hbe : be = false := by simpa using hbs
            subst hbe
            have h1k : ¬ 1 < (k : Int) := fun h => by have := HW.out.2 h; cases this
            go_wp2_with fail
            go_roundw
            case measure => simp [intOf] <;> omega
            case rel => exact ⟨k + 1, by omega, by simp, hid ⟨⟨false, p, bw, false⟩, HD8.out⟩, HB8⟩
          · go_wp2_with fail
            go_roundw
            case measure => simp [intOf] <;> omega
            case rel => exact ⟨k + 1, by omega, by simp, hid ⟨⟨true, p, bw, be⟩, HD8.out⟩, HB8⟩
      · have hqe : k = 4 := by omega
        subst hqe
        go_wp2_with fail
        go_returns
        exact ⟨rfl, HBx.out⟩
  · have HF : Hid (∀ W, Calls Try.prog 13 #[.int .i64 p] W fun x W' => x = .returned (.tuple #[.int .u32 0, .int .i64 4]) ∧ W' = W) := hid fun W => by
      have := first_any W p
      unfold fW fE at this
      rw [if_neg hp, if_neg hp] at this
      exact this
    have HQ := hid (fun W => pf_any W 0 (by decide) (by decide))
    rw [show pf 0 = 0 by decide, show pfE 0 = 92 by decide] at HQ
    have h' : p < 0 ∨ (0 ≤ p ∧ 63 < p) := by unfold Pg at hp; omega
    clear hp
    go_wp2_with fail
    refine (HF.out _).mono ?_
    rintro x w5 ⟨rfl, rfl⟩
    go_wp2_with fail
    refine (HQ.out _).mono ?_
    rintro x w5 ⟨rfl, rfl⟩
    rcases h' with h | ⟨h1, h⟩
    all_goals go_wp2_with fail
    all_goals go_returns
    all_goals exact ⟨rfl, HB4.out⟩
end Go.Proofs.Ytmmphmdmocfnpaa
