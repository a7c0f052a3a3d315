/- The law's alike 27. -/
import Derived.Test.YtnmdhnbgikbpoaaK2
import Derived.Test.YtnmdhnbgikbpoaaL2
namespace Go.Proofs.Ytnmdhnbgikbpoaa
open Go.RowKit
theorem list_ext_wd {A B : List Int} (hl : A.length = B.length) (h : ∀ j, j < A.length → wd A j = wd B j) : A = B := by
  apply List.ext_getElem hl
  intro i h1 h2
  have := h i h1
  unfold wd at this
  rw [List.getD_eq_getElem?_getD, List.getElem?_eq_getElem h1, List.getD_eq_getElem?_getD, List.getElem?_eq_getElem h2] at this
  exact this
theorem list_ext_zp {A B : List (List Int)} (hl : A.length = B.length) (h : ∀ j, j < A.length → zp A j = zp B j) : A = B := by
  apply List.ext_getElem hl
  intro i h1 h2
  have := h i h1
  unfold zp at this
  rw [List.getD_eq_getElem?_getD, List.getElem?_eq_getElem h1, List.getD_eq_getElem?_getD, List.getElem?_eq_getElem h2] at this
  exact this
theorem M4.word {m : MS} (h : M4 m) (F O : Nat) (hF : F < 4) (hO : O < 1024) : m.word (decide ((F : Int) % 4 < 2)) ((F : Int) % 2) (O : Int) = wd (zp m.P F) O := by
  unfold MS.word
  rw [h.at]
  have e : ((F : Int) % 4).toNat = F := by omega
  rw [e]
  simp only [if_pos (show In (O : Int) from ⟨by omega, by omega⟩)]
  rfl
set_option maxRecDepth 40000 in
set_option maxHeartbeats 4000000 in
theorem alike_any (w : World) (f : Fp) (m : MS) (h : Mem w f m) (h4 : M4 m) (f' : Fp) (m' : MS) (h' : Mem w f' m') (h4' : M4 m') :
    Calls Try.prog 27 #[ptr f.gm, ptr f'.gm] w fun x w' => x = .returned (.bool (decide (m.P = m'.P))) ∧ Below w.heap.size w w' := by
  have H := hid h
  have H' := hid h'
  have G := hid h4
  have G' := hid h4'
  clear h h' h4 h4'
  simp only [ptr]
  go_enter Try.func27, Try.ntmps27
  go_wp2_with fail
  go_loopw [5, 6] (fun i _ wr => ∃ F : Nat, F ≤ 4 ∧ i = .int .i64 (F : Int) ∧ Hid (∀ k, k < F → zp m.P k = zp m'.P k) ∧ Hid (Below w.heap.size w wr)) (fun i _ _ => 4 - (intOf i).toNat)
  case atStart => exact ⟨0, Nat.zero_le _, rfl, hid (fun k hk => by omega), hid (Below.refl _ _)⟩
  case round =>
    obtain ⟨F, hF, rfl, HT, HB⟩ := hrel
    by_cases hlt : F < 4
    · have c1 : (F : Int) < 4 := by omega
      go_wp2_with fail
      go_loopw [6] (fun i wr => ∃ O : Nat, O ≤ 1024 ∧ i = .int .i64 (O : Int) ∧ Hid (∀ k, k < O → wd (zp m.P F) k = wd (zp m'.P F) k) ∧ Hid (Below w.heap.size w wr)) (fun i _ => 1024 - (intOf i).toNat)
      case atStart => exact ⟨0, Nat.zero_le _, rfl, hid (fun k hk => by omega), HB⟩
      case round =>
        obtain ⟨O, hO, rfl, HT2, HB2⟩ := hrel
        clear HB
        by_cases hlo : O < 1024
        · have c2 : (O : Int) < 1024 := by omega
          have W1 := hid (G.out.word F O hlt hlo)
          have W2 := hid (G'.out.word F O hlt hlo)
          go_wp2_with fail
          refine (in_any2 _ _).mono ?_
          rintro x w1 ⟨rfl, hb1⟩
          have HB3 := hid (below_on HB2.out hb1)
          clear hb1 HB2
          simp only [fr]
          go_wp2_with fail
          refine (peek_any _ f m (H.out.on HB3.out) _ _ _).mono ?_
          rintro x w2 ⟨rfl, hb1⟩
          have HB4 := hid (below_on HB3.out hb1)
          clear hb1 HB3
          rw [W1.out]
          go_wp2_with fail
          refine (in_any2 _ _).mono ?_
          rintro x w3 ⟨rfl, hb1⟩
          have HB5 := hid (below_on HB4.out hb1)
          clear hb1 HB4
          simp only [fr]
          go_wp2_with fail
          refine (peek_any _ f' m' (H'.out.on HB5.out) _ _ _).mono ?_
          rintro x w4 ⟨rfl, hb1⟩
          have HB6 := hid (below_on HB5.out hb1)
          clear hb1 HB5
          rw [W2.out]
          clear W1 W2
          have HE : Hid (wd (zp m.P F) O = wd (zp m'.P F) O → ∀ k, k < O + 1 → wd (zp m.P F) k = wd (zp m'.P F) k) := hid (fun he k hk => by
            by_cases e : k = O
            · rw [e]; exact he
            · exact HT2.out k (by omega))
          have HN : Hid (wd (zp m.P F) O ≠ wd (zp m'.P F) O → decide (m.P = m'.P) = false) := hid (fun he => by rw [decide_eq_false_iff_not]; intro e; exact he (by rw [e]))
          generalize wd (zp m.P F) O = u1 at *
          generalize wd (zp m'.P F) O = u2 at *
          by_cases he : u1 = u2
          · have HE2 := hid (HE.out he)
            clear HE HN
            subst he
            go_wp2_with fail
            go_roundw
            case measure => simp [intOf] <;> omega
            case rel => exact ⟨O + 1, by omega, by go_num, HE2, HB6⟩
          · have HN2 := hid (HN.out he)
            clear HE HN
            go_wp2_with fail
            go_ret
            exact ⟨ret_bool HN2.out.symm, HB6.out⟩
        · obtain rfl : O = 1024 := by omega
          have HP : Hid (zp m.P F = zp m'.P F) := hid (by
            have a1 := H.out.full F (by rw [G.out.len]; exact hlt)
            have a2 := H'.out.full F (by rw [G'.out.len]; exact hlt)
            refine list_ext_wd (a1.trans a2.symm) (fun j hj => HT2.out j ?_)
            have : (zp m.P F).length = 1024 := a1
            omega)
          have HT3 : Hid (∀ k, k < F + 1 → zp m.P k = zp m'.P k) := hid (fun k hk => by
            by_cases e : k = F
            · rw [e]; exact HP.out
            · exact HT.out k (by omega))
          clear HT2 HP HT
          go_wp2_with fail
          go_roundw
          case measure => simp [intOf] <;> omega
          case rel => exact ⟨F + 1, by omega, by go_num, HT3, HB2⟩
    · obtain rfl : F = 4 := by omega
      have HP : Hid (decide (m.P = m'.P) = true) := hid (by
        have e := list_ext_zp (A := m.P) (B := m'.P) (by rw [G.out.len, G'.out.len]) (fun j hj => HT.out j (by rw [G.out.len] at hj; exact hj))
        simp [e])
      go_wp2_with fail
      go_ret
      exact ⟨ret_bool HP.out.symm, HB.out⟩
end Go.Proofs.Ytnmdhnbgikbpoaa
