/- The document's Name (36). -/
import Derived.Test.YtbjinmlelchmgaaGreatDoorRf1RfE
import Derived.Test.YtbjinmlelchmgaaGreatDoorTens
namespace Go.Proofs.YtbjinmlelchmgaaGreatDoor
open Go.RowKit
set_option maxHeartbeats 2000000 in
theorem rname_any (W : World) (s : ByteArray) (hs : s.size ≤ 1000000000) :
    Calls Tryz.prog 36 #[.string s] W fun e W' => e = .returned (.int .i64 (if T.name s.data.toList then 0 else 42)) ∧ W = W' := by
  obtain ⟨r0, hr0⟩ : ∃ r0 : Int, (if T.name s.data.toList then (0 : Int) else 42) = r0 := ⟨_, rfl⟩
  rw [hr0]
  have b0 : (s.size : Int) ≤ 1000000000 := by omega
  by_cases h0 : s.size = 0
  · have hse := emp s h0
    have HR : Hid ((42 : Int) = r0) := hid (by rw [← hr0, hse]; rfl)
    clear hr0 hs h0 b0
    subst hse
    go_enter Tryz.func36, Tryz.ntmps36
    go_wp2_with fail
    go_ret
    exact ⟨ret_int HR.out, rfl⟩
  · have hlt : 0 < s.size := by omega
    obtain ⟨n1, n2, n3⟩ := ne_nil s hlt
    have b1 : (0 : Int) < (s.size : Int) := by omega
    by_cases h24 : s.size ≤ 24
    · have b2 : (s.size : Int) ≤ 24 := by omega
      have HR : Hid ((if T.isLet s[0] && s.data.toList.all T.okc then (0 : Int) else 42) = r0) := hid (by
        rw [← hr0]
        unfold T.name
        rw [n3, size_list, decide_eq_true (show 1 ≤ s.size from hlt), decide_eq_true h24]
        simp)
      clear hr0 h0 n3 hs
      go_enter Tryz.func36, Tryz.ntmps36
      go_wp2_with fail
      go_loopw [3] (fun i wr => ∃ k : Nat, k ≤ s.size ∧ i = .int .i64 k ∧ Hid ((s.data.toList.take k).all T.okc = true ∧ (0 < k → T.isLet s[0] = true)) ∧ W = wr) (fun i _ => s.size - (intOf i).toNat)
      case atStart => exact ⟨0, Nat.zero_le _, rfl, hid ⟨by simp, fun h => by omega⟩, rfl⟩
      case round =>
        obtain ⟨k, hk, rfl, HI, rfl⟩ := hrel
        by_cases hk2 : k < s.size
        · have c1 : (k : Int) < (s.size : Int) := by omega
          have hc := s[k].toNat_lt
          have hgo : T.okc s[k] = true → (k = 0 → T.isLet s[0] = true) → Hid ((s.data.toList.take (k + 1)).all T.okc = true ∧ (0 < k + 1 → T.isLet s[0] = true)) := fun h1 h2 => hid ⟨by rw [take_snoc s k hk2, List.all_append, HI.out.1]; simp [h1], fun _ => by
            rcases Nat.eq_zero_or_pos k with h | h
            · exact h2 h
            · exact HI.out.2 h⟩
          have hbad : (T.okc s[k] = false ∨ (k = 0 ∧ T.isLet s[k] = false)) → Hid ((42 : Int) = r0) := fun h => hid (by
            rw [← HR.out]
            rcases h with h | ⟨h1, h2⟩
            · rw [all_at s _ k hk2 h]; simp
            · subst h1; rw [h2]; rfl)
          by_cases hl : 97 ≤ s[k].toNat ∧ s[k].toNat ≤ 122
          · have g1 : (97 : Int) ≤ s[k].toNat := by omega
            have g2 : (s[k].toNat : Int) ≤ 122 := by omega
            have HN := hgo (by simp [T.okc, T.isLet, hl]) (fun h => by subst h; simp [T.isLet, hl])
            have hx : ((s[k].toNat : Int) == 95) = false := by simp; omega
            have g3 : (57 : Int) < s[k].toNat := by omega
            have g4 : (48 : Int) ≤ s[k].toNat := by omega
            have g5 : decide ((s[k].toNat : Int) ≤ 57) = false := decide_eq_false (by omega)
            clear hgo hbad hl hc HI
            go_wp2_with fail
            go_roundw
            case measure => simp [intOf]; omega
            case rel => exact ⟨k + 1, by omega, by go_num, HN, trivial⟩
          · have hsm : (decide ((97 : Int) ≤ s[k].toNat) = false) ∨ ((97 : Int) ≤ s[k].toNat ∧ decide ((s[k].toNat : Int) ≤ 122) = false) := by
              by_cases h : 97 ≤ s[k].toNat
              · exact .inr ⟨by omega, decide_eq_false (by omega)⟩
              · exact .inl (decide_eq_false (by omega))
            have hnl : T.isLet s[k] = false := by simp [T.isLet]; omega
            by_cases ho : (48 ≤ s[k].toNat ∧ s[k].toNat ≤ 57) ∨ s[k].toNat = 95
            · have hok : T.okc s[k] = true := by simp [T.okc, T.isDig]; omega
              have hot : ((48 : Int) ≤ s[k].toNat ∧ (s[k].toNat : Int) ≤ 57) ∨ ((48 : Int) ≤ s[k].toNat ∧ decide ((s[k].toNat : Int) ≤ 57) = false ∧ ((s[k].toNat : Int) == 95) = true) := by
                rcases ho with h | h
                · exact .inl ⟨by omega, by omega⟩
                · exact .inr ⟨by omega, decide_eq_false (by omega), by simp; omega⟩
              rcases Nat.eq_zero_or_pos k with hz | hz
              · have HF := hbad (.inr ⟨hz, hnl⟩)
                subst hz
                clear hgo hbad hl hc HI hok hnl ho
                rcases hsm with hsm | ⟨hs1, hsm⟩
                all_goals rcases hot with ⟨o1, o2⟩ | ⟨o1, o2, o3⟩
                all_goals
                  go_wp2_with fail
                  go_ret
                  exact ⟨ret_int HF.out, rfl⟩
              · have HN := hgo hok (fun h => by omega)
                have kz : ((k : Int) == 0) = false := by simp; omega
                clear hgo hbad hl hc HI hok hnl ho hz
                rcases hsm with hsm | ⟨hs1, hsm⟩
                all_goals rcases hot with ⟨o1, o2⟩ | ⟨o1, o2, o3⟩
                all_goals
                  go_wp2_with fail
                  go_roundw
                  case measure => simp [intOf]; omega
                  case rel => exact ⟨k + 1, by omega, by go_num, HN, trivial⟩
            · have HF := hbad (.inl (by simp [T.okc, hnl, T.isDig]; omega))
              have hx : ((s[k].toNat : Int) == 95) = false := by simp; omega
              have hot : (decide ((48 : Int) ≤ s[k].toNat) = false) ∨ ((48 : Int) ≤ s[k].toNat ∧ decide ((s[k].toNat : Int) ≤ 57) = false) := by
                by_cases h : 48 ≤ s[k].toNat
                · exact .inr ⟨by omega, decide_eq_false (by omega)⟩
                · exact .inl (decide_eq_false (by omega))
              have kz : ((k : Int) == 0) = true ∨ ((k : Int) == 0) = false := by cases ((k : Int) == 0) <;> simp
              clear hgo hbad hl hc HI hnl ho
              rcases hsm with hsm | ⟨hs1, hsm⟩
              all_goals rcases hot with o1 | ⟨o1, o2⟩
              all_goals rcases kz with kz | kz
              all_goals
                go_wp2_with fail
                go_ret
                exact ⟨ret_int HF.out, rfl⟩
        · obtain rfl : k = s.size := by omega
          have HF : Hid ((0 : Int) = r0) := hid (by
            rw [← HR.out]
            have := HI.out
            rw [take_size] at this
            rw [this.1, this.2 hlt]
            rfl)
          clear hk hk2 HI
          go_wp2_with fail
          go_ret
          exact ⟨ret_int HF.out, rfl⟩
    · have b2 : (24 : Int) < (s.size : Int) := by omega
      have HR : Hid ((42 : Int) = r0) := hid (by
        rw [← hr0]
        unfold T.name
        rw [size_list, decide_eq_false h24]
        simp)
      clear hr0 h0 n3 h24
      go_enter Tryz.func36, Tryz.ntmps36
      go_wp2_with fail
      go_ret
      exact ⟨ret_int HR.out, rfl⟩
end Go.Proofs.YtbjinmlelchmgaaGreatDoor
