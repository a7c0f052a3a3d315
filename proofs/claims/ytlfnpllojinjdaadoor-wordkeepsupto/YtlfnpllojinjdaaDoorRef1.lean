/- The document's answers of layer 1, as the package wardenref01 reckons them: contracts of its numbers. -/
import Derived.Test.YtlfnpllojinjdaaDoorFields
import Derived.Test.YtlfnpllojinjdaaDoorSumsPre
namespace Go.Proofs.YtlfnpllojinjdaaDoor
open Go.RowKit

theorem pow62 (k : Nat) (h : k ≤ 62) : (2 : Int) ^ k ≤ 4611686018427387904 := by
  have := M.two_le h
  have e : (2 : Int) ^ 62 = 4611686018427387904 := by decide
  omega
theorem two_any (W : World) (n : Int) (n0 : 0 ≤ n) (n1 : n ≤ 62) :
    Calls Tryd.prog 42 #[.int .i64 n] W fun e W' => e = .returned (.int .i64 (2 ^ n.toNat)) ∧ W = W' := by
  obtain ⟨m, rfl⟩ := Int.eq_ofNat_of_zero_le n0
  rw [Int.toNat_natCast]
  go_enter Tryd.func42, Tryd.ntmps42
  go_wp2
  go_loop [3, 4] (fun p i => ∃ k : Nat, k ≤ m ∧ i = .int .i64 k ∧ p = .int .i64 (2 ^ k)) (fun _ i => m - (intOf i).toNat)
  case atStart => exact ⟨0, Nat.zero_le _, rfl, rfl⟩
  case round =>
    obtain ⟨k, hk, rfl, rfl⟩ := hrel
    by_cases hlt : k < m
    · have h1 := pow62 (k + 1) (by omega)
      have h2 := M.two_pos k
      have h3 : (2 : Int) ^ (k + 1) = 2 * 2 ^ k := by rw [Int.pow_succ]; omega
      rw [h3] at h1
      have H3 : Hid _ := h3
      clear h3
      go_wp2
      go_round
      case rel => exact ⟨k + 1, by omega, by go_num, by rw [H3.out]⟩
      case measure => simp [intOf]; omega
    · obtain rfl : k = m := by omega
      go_wp2
      go_ret
      exact ⟨rfl, rfl⟩
theorem bit_any (W : World) (w i : Int) (w0 : 0 ≤ w) (w1 : w < 4294967296) (i0 : 0 ≤ i) (i1 : i ≤ 62) :
    Calls Tryd.prog 62 #[.int .u32 w, .int .i64 i] W fun e W' => e = .returned (.int .i64 (w / 2 ^ i.toNat % 2)) ∧ W = W' := by
  have h2 := M.two_pos i.toNat
  have h3 := pow62 i.toNat (by omega)
  have h4 : 0 ≤ w / 2 ^ i.toNat := Int.ediv_nonneg w0 (by omega)
  go_enter Tryd.func62, Tryd.ntmps62
  go_wp2_with (first | (go_at_call 42; refine (two_any _ _ i0 i1).mono ?_; rintro e w' ⟨rfl, rfl⟩))
  go_ret
  exact ⟨rfl, rfl⟩
theorem may_yes (W : World) (lo n : Int) (h0 : 1 ≤ n) (h1 : 0 ≤ lo) (h2 : lo ≤ 32 - n) :
    Calls Tryd.prog 61 #[.int .i64 lo, .int .i64 n] W fun e W' => e = .returned (.bool true) ∧ W = W' := by
  have h3 : n ≤ 32 := by omega
  have h4 : lo ≤ 31 := by omega
  have h5 : lo + n ≤ 32 := by omega
  go_enter Tryd.func61, Tryd.ntmps61
  go_wp2
  go_ret
  exact ⟨rfl, rfl⟩
theorem may_no (W : World) (lo n : Int) (h : ¬ (1 ≤ n ∧ 0 ≤ lo ∧ lo ≤ 32 - n)) :
    Calls Tryd.prog 61 #[.int .i64 lo, .int .i64 n] W fun e W' => e = .returned (.bool false) ∧ W = W' := by
  rcases (show n < 1 ∨ (1 ≤ n ∧ 32 < n) ∨ (1 ≤ n ∧ n ≤ 32 ∧ lo < 0) ∨ (1 ≤ n ∧ n ≤ 32 ∧ 0 ≤ lo ∧ 31 < lo) ∨ (1 ≤ n ∧ n ≤ 32 ∧ 0 ≤ lo ∧ lo ≤ 31 ∧ 32 < lo + n) by omega) with c | ⟨c1, c2⟩ | ⟨c1, c2, c3⟩ | ⟨c1, c2, c3, c4⟩ | ⟨c1, c2, c3, c4, c5⟩
  all_goals clear h
  all_goals
    go_enter Tryd.func61, Tryd.ntmps61
    go_wp2
    go_ret
    exact ⟨ret_bool (by simp; try omega), rfl⟩

theorem fld_succ (w : Int) (lo k : Nat) : M.Fld w lo (k + 1) = M.Fld w lo k + w / 2 ^ (lo + k) % 2 * 2 ^ k := by
  unfold M.Fld
  rw [Int.pow_succ, mod_mul _ _ _ (M.two_pos k) (by decide), M.div_div, Int.mul_comm]
theorem pow32 (k : Nat) (h : k ≤ 32) : (2 : Int) ^ k ≤ 4294967296 := by
  have := M.two_le h
  have := M.two_32
  omega
set_option maxHeartbeats 400000 in
theorem rfield_yes (W : World) (w lo n : Int) (w0 : 0 ≤ w) (w1 : w < 4294967296) (h0 : 1 ≤ n) (h1 : 0 ≤ lo) (h2 : lo ≤ 32 - n) :
    Calls Tryd.prog 48 #[.int .u32 w, .int .i64 lo, .int .i64 n] W fun e W' => e = .returned (.int .u32 (M.Fld w lo.toNat n.toNat)) ∧ W = W' := by
  obtain ⟨l, rfl⟩ := Int.eq_ofNat_of_zero_le h1
  obtain ⟨m, rfl⟩ := Int.eq_ofNat_of_zero_le (show 0 ≤ n by omega)
  rw [Int.toNat_natCast, Int.toNat_natCast]
  go_enter Tryd.func48, Tryd.ntmps48
  go_wp2_with (first | (go_at_call 61; refine (may_yes _ _ _ h0 h1 h2).mono ?_; rintro e w' ⟨rfl, rfl⟩))
  go_loop [7, 8] (fun r i => ∃ k : Nat, k ≤ m ∧ i = .int .i64 k ∧ r = .int .i64 (M.Fld w l k)) (fun _ i => m - (intOf i).toNat)
  case atStart => exact ⟨0, Nat.zero_le _, rfl, by simp [M.Fld, Int.emod_one]⟩
  case round =>
    obtain ⟨k, hk, rfl, rfl⟩ := hrel
    by_cases hlt : k < m
    · obtain ⟨f0, _, f1⟩ := M.fld_bounds w l k (by omega)
      have HS : Hid _ := fld_succ w l k
      have b0 : 0 ≤ w / 2 ^ (l + k) % 2 ∧ w / 2 ^ (l + k) % 2 ≤ 1 := by omega
      have p0 := M.two_pos k
      have p1 := pow32 k (by omega)
      have m0 : 0 ≤ w / 2 ^ (l + k) % 2 * 2 ^ k := Int.mul_nonneg b0.1 (by omega)
      have m1 : w / 2 ^ (l + k) % 2 * 2 ^ k ≤ 1 * 2 ^ k := Int.mul_le_mul_of_nonneg_right b0.2 (by omega)
      rw [Int.one_mul] at m1
      go_wp2_with (first | (go_at_call 62; refine (bit_any _ _ _ w0 w1 (by omega) (by omega)).mono ?_; rintro e w' ⟨rfl, rfl⟩) | (go_at_call 42; refine (two_any _ _ (by omega) (by omega)).mono ?_; rintro e w' ⟨rfl, rfl⟩))
      go_round
      case rel => exact ⟨k + 1, by omega, by go_num, by rw [HS.out]⟩
      case measure => simp [intOf]; omega
    · obtain rfl : k = m := by omega
      obtain ⟨f0, _, f1⟩ := M.fld_bounds w l k (by omega)
      go_wp2
      go_ret
      exact ⟨rfl, rfl⟩
theorem rfield_no (W : World) (w lo n : Int) (h : ¬ (1 ≤ n ∧ 0 ≤ lo ∧ lo ≤ 32 - n)) :
    Calls Tryd.prog 48 #[.int .u32 w, .int .i64 lo, .int .i64 n] W fun e W' => e = .returned (.int .u32 0) ∧ W = W' := by
  have H : Hid _ := h
  clear h
  go_enter Tryd.func48, Tryd.ntmps48
  go_wp2_with (first | (go_at_call 61; refine (may_no _ _ _ H.out).mono ?_; rintro e w' ⟨rfl, rfl⟩))
  go_ret
  exact ⟨rfl, rfl⟩
theorem setF_succ (w : Int) (lo k : Nat) (v : Int) : M.SetF w lo (k + 1) v = M.SetF w lo k v + (v / 2 ^ k % 2 - w / 2 ^ (lo + k) % 2) * 2 ^ (lo + k) := by
  unfold M.SetF
  rw [fld_succ, Int.pow_succ, mod_mul v _ _ (M.two_pos k) (by decide), M.two_add]
  generalize (2 : Int) ^ lo = A
  generalize (2 : Int) ^ k = B
  grind
end Go.Proofs.YtlfnpllojinjdaaDoor
