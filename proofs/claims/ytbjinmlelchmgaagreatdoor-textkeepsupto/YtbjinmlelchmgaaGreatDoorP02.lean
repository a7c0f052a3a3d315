import Derived.Test.YtbjinmlelchmgaaGreatDoorP01
namespace Go.Proofs.YtbjinmlelchmgaaGreatDoor
open Go.RowKit

theorem itself_any (c : UInt8) (w : World) : Calls Tryz.prog 50 #[.int .u8 (c.toNat : Int)] w fun e w' => e = .returned (.bool (T.itself c)) ∧ w = w' := by
  have hc := c.toNat_lt
  go_enter Tryz.func50, Tryz.ntmps50
  go_wp2
  all_goals go_ret
  all_goals exact ⟨ret_bool (by rw [Bool.eq_iff_iff]; simp [T.itself]; omega), rfl⟩
theorem digit_any (c : UInt8) (w : World) : Calls Tryz.prog 66 #[.int .u8 (c.toNat : Int)] w fun e w' => e = .returned (.bool (T.isDig c)) ∧ w = w' := by
  have hc := c.toNat_lt
  go_enter Tryz.func66, Tryz.ntmps66
  go_wp2
  all_goals go_ret
  all_goals exact ⟨ret_bool (by rw [Bool.eq_iff_iff]; simp [T.isDig]; omega), rfl⟩
theorem gap_any (c : UInt8) (w : World) : Calls Tryz.prog 87 #[.int .u8 (c.toNat : Int)] w fun e w' => e = .returned (.bool (T.isGap c)) ∧ w = w' := by
  have hc := c.toNat_lt
  go_enter Tryz.func87, Tryz.ntmps87
  go_wp2
  all_goals go_ret
  all_goals exact ⟨ret_bool (by rw [Bool.eq_iff_iff]; simp [T.isGap]; omega), rfl⟩
theorem hexValue_some (c : UInt8) (n : Nat) (h : T.hexV c = some n) (w : World) : Calls Tryz.prog 82 #[.int .u8 (c.toNat : Int)] w fun e w' => e = .returned (.tuple #[.int .u8 (n : Int), .bool true]) ∧ w = w' := by
  have hc := c.toNat_lt
  unfold T.hexV at h
  have h1 : T.isDig c = true ∨ (T.isDig c = false ∧ (97 : Int) ≤ c.toNat ∧ (c.toNat : Int) ≤ 102) := by
    split at h
    · left; assumption
    · split at h
      · rename_i h1 h2; right; simp at h2; exact ⟨by simpa using h1, by omega, by omega⟩
      · simp at h
  rcases h1 with h1 | ⟨h1, h2, h3⟩
  · simp [h1] at h
    have h4 := h1
    simp [T.isDig] at h4
    have hn : ((c.toNat : Int) - 48) = (n : Int) := by omega
    have b1 : (48 : Int) ≤ c.toNat := by omega
    have b2 : (c.toNat : Int) ≤ 57 := by omega
    clear h h4 hc
    go_enter Tryz.func82, Tryz.ntmps82
    go_wp2_with (go_at_call 66; refine (digit_any c _).mono ?_; rintro e w' ⟨rfl, rfl⟩)
    go_ret2
    exact ⟨rfl, rfl⟩
  · have h5 : (decide (97 ≤ c.toNat) && decide (c.toNat ≤ 102)) = true := by simp; omega
    simp [h1, h5] at h
    have hn : ((c.toNat : Int) - 97 + 10) = (n : Int) := by omega
    clear h h5 hc
    go_enter Tryz.func82, Tryz.ntmps82
    go_wp2_with (go_at_call 66; refine (digit_any c _).mono ?_; rintro e w' ⟨rfl, rfl⟩)
    go_ret2
    exact ⟨rfl, rfl⟩
theorem hexValue_none (c : UInt8) (h : T.hexV c = none) (w : World) : Calls Tryz.prog 82 #[.int .u8 (c.toNat : Int)] w fun e w' => e = .returned (.tuple #[.int .u8 0, .bool false]) ∧ w = w' := by
  have hc := c.toNat_lt
  unfold T.hexV at h
  have h1 : T.isDig c = false ∧ ((c.toNat : Int) < 97 ∨ (102 : Int) < c.toNat) := by
    split at h
    · simp at h
    · split at h
      · simp at h
      · rename_i h1 h2; simp at h2; exact ⟨by simpa using h1, by omega⟩
  obtain ⟨h1, h2⟩ := h1
  clear h hc
  rcases h2 with h2 | h2
  · go_enter Tryz.func82, Tryz.ntmps82
    go_wp2_with (go_at_call 66; refine (digit_any c _).mono ?_; rintro e w' ⟨rfl, rfl⟩)
    go_ret2
    exact ⟨rfl, rfl⟩
  · have h3 : (97 : Int) ≤ c.toNat := by omega
    go_enter Tryz.func82, Tryz.ntmps82
    go_wp2_with (go_at_call 66; refine (digit_any c _).mono ?_; rintro e w' ⟨rfl, rfl⟩)
    go_ret2
    exact ⟨rfl, rfl⟩
end Go.Proofs.YtbjinmlelchmgaaGreatDoor
