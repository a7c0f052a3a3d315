import Derived.Test.YtlfnpllojinjdaaDoorRef1
namespace Go.Proofs.YtlfnpllojinjdaaDoor
open Go.RowKit

theorem bitdiff (a b : Int) (p : Int) (hp : 0 < p) (hp1 : p ≤ 4294967296) : -4294967296 ≤ (a % 2 - b % 2) * p ∧ (a % 2 - b % 2) * p ≤ 4294967296 := by
  rcases (show a % 2 - b % 2 = -1 ∨ a % 2 - b % 2 = 0 ∨ a % 2 - b % 2 = 1 by omega) with e | e | e <;> rw [e] <;> omega
set_option maxHeartbeats 400000 in
theorem rset_yes (W : World) (w lo n v : Int) (w0 : 0 ≤ w) (w1 : w < 4294967296) (v0 : 0 ≤ v) (v1 : v < 4294967296) (h0 : 1 ≤ n) (h1 : 0 ≤ lo) (h2 : lo ≤ 32 - n) :
    Calls Tryd.prog 49 #[.int .u32 w, .int .i64 lo, .int .i64 n, .int .u32 v] W fun e W' => e = .returned (.int .u32 (M.SetF w lo.toNat n.toNat v)) ∧ W = W' := by
  obtain ⟨l, rfl⟩ := Int.eq_ofNat_of_zero_le h1
  obtain ⟨m, rfl⟩ := Int.eq_ofNat_of_zero_le (show 0 ≤ n by omega)
  rw [Int.toNat_natCast, Int.toNat_natCast]
  go_enter Tryd.func49, Tryd.ntmps49
  go_wp2_with (first | (go_at_call 61; refine (may_yes _ _ _ h0 h1 h2).mono ?_; rintro e w' ⟨rfl, rfl⟩))
  go_loop [9, 10] (fun r i => ∃ k : Nat, k ≤ m ∧ i = .int .i64 k ∧ r = .int .i64 (M.SetF w l k v)) (fun _ i => m - (intOf i).toNat)
  case atStart => exact ⟨0, Nat.zero_le _, rfl, by simp [M.SetF, M.Fld, Int.emod_one]⟩
  case round =>
    obtain ⟨k, hk, rfl, rfl⟩ := hrel
    by_cases hlt : k < m
    · obtain ⟨f0, f1⟩ := M.setF_bounds w l k v w0 w1 (by omega)
      have HS : Hid _ := setF_succ w l k v
      obtain ⟨m0, m1⟩ := bitdiff (v / 2 ^ k) (w / 2 ^ (l + k)) (2 ^ (l + k)) (M.two_pos _) (pow32 _ (by omega))
      go_wp2_with (first | (go_at_call 62; refine (bit_any _ _ _ (by omega) (by omega) (by omega) (by omega)).mono ?_; rintro e w' ⟨rfl, rfl⟩) | (go_at_call 42; refine (two_any _ _ (by omega) (by omega)).mono ?_; rintro e w' ⟨rfl, rfl⟩))
      go_round
      case rel => exact ⟨k + 1, by omega, by go_num, by rw [HS.out]⟩
      case measure => simp [intOf]; omega
    · obtain rfl : k = m := by omega
      obtain ⟨f0, f1⟩ := M.setF_bounds w l k v w0 w1 (by omega)
      go_wp2
      go_ret
      exact ⟨rfl, rfl⟩
theorem rset_no (W : World) (w lo n v : Int) (h : ¬ (1 ≤ n ∧ 0 ≤ lo ∧ lo ≤ 32 - n)) :
    Calls Tryd.prog 49 #[.int .u32 w, .int .i64 lo, .int .i64 n, .int .u32 v] W fun e W' => e = .returned (.int .u32 w) ∧ W = W' := by
  have H : Hid _ := h
  clear h
  go_enter Tryd.func49, Tryd.ntmps49
  go_wp2_with (first | (go_at_call 61; refine (may_no _ _ _ H.out).mono ?_; rintro e w' ⟨rfl, rfl⟩))
  go_ret
  exact ⟨rfl, rfl⟩
theorem ext_by_bits (w : Int) (m : Nat) (h1 : 1 ≤ m) : M.Fld w 0 (m - 1) - w / 2 ^ (m - 1) % 2 * 2 ^ (m - 1) = M.Ext w m := by
  obtain ⟨k, rfl⟩ : ∃ k, m = k + 1 := ⟨m - 1, by omega⟩
  have hp := M.two_pos k
  have hs : (2 : Int) ^ (k + 1) = 2 ^ k * 2 := Int.pow_succ 2 k
  have hm := mod_mul w (2 ^ k) 2 hp (by decide)
  have l0 := Int.emod_nonneg w (show (2 : Int) ^ k ≠ 0 by omega)
  have l1 := Int.emod_lt_of_pos w hp
  unfold M.Ext M.Fld
  rw [Nat.add_sub_cancel, hs, hm, Int.pow_zero, Int.ediv_one]
  generalize w % 2 ^ k = r at *
  generalize w / 2 ^ k = q at *
  generalize (2 : Int) ^ k = A at *
  rcases (show q % 2 = 0 ∨ q % 2 = 1 by omega) with e | e
  · rw [e, if_pos (by omega)]; omega
  · rw [e, if_neg (by omega)]; omega
set_option maxHeartbeats 400000 in
theorem rext_yes (W : World) (w n : Int) (w0 : 0 ≤ w) (w1 : w < 4294967296) (h0 : 1 ≤ n) (h1 : n ≤ 32) :
    Calls Tryd.prog 50 #[.int .u32 w, .int .i64 n] W fun e W' => e = .returned (.int .i32 (M.Ext w n.toNat)) ∧ W = W' := by
  obtain ⟨m, rfl⟩ : ∃ m : Nat, n = (m : Int) + 1 := ⟨(n - 1).toNat, by omega⟩
  rw [show ((m : Int) + 1).toNat = m + 1 by omega]
  have HX : Hid _ := ext_by_bits w (m + 1) (by omega)
  have HB : Hid _ := (M.ext_eq w (m + 1) (by omega) (by omega)).2
  rw [Nat.add_sub_cancel] at HX
  generalize M.Ext w (m + 1) = E at *
  go_enter Tryd.func50, Tryd.ntmps50
  go_wp2
  go_loop [5, 6] (fun r i => ∃ k : Nat, k ≤ m ∧ i = .int .i64 k ∧ r = .int .i64 (M.Fld w 0 k)) (fun _ i => m - (intOf i).toNat)
  case atStart => exact ⟨0, Nat.zero_le _, rfl, by simp [M.Fld, Int.emod_one]⟩
  case round =>
    obtain ⟨k, hk, rfl, rfl⟩ := hrel
    obtain ⟨f0, _, f1⟩ := M.fld_bounds w 0 k (by omega)
    have b0 : 0 ≤ w / 2 ^ k % 2 ∧ w / 2 ^ k % 2 ≤ 1 := by omega
    have p0 := M.two_pos k
    have p1 := pow32 k (by omega)
    have m0 : 0 ≤ w / 2 ^ k % 2 * 2 ^ k := Int.mul_nonneg b0.1 (by omega)
    have m1 : w / 2 ^ k % 2 * 2 ^ k ≤ 1 * 2 ^ k := Int.mul_le_mul_of_nonneg_right b0.2 (by omega)
    rw [Int.one_mul] at m1
    by_cases hlt : k < m
    · have hs := fld_succ w 0 k
      rw [Nat.zero_add] at hs
      have HS : Hid _ := hs
      clear hs
      go_wp2_with (first | (go_at_call 62; refine (bit_any _ _ _ w0 w1 (by omega) (by omega)).mono ?_; rintro e w' ⟨rfl, rfl⟩) | (go_at_call 42; refine (two_any _ _ (by omega) (by omega)).mono ?_; rintro e w' ⟨rfl, rfl⟩))
      go_round
      case rel => exact ⟨k + 1, by omega, by go_num, by rw [HS.out]⟩
      case measure => simp [intOf]; omega
    · obtain rfl : k = m := by omega
      have HW : Hid (∀ y, y = M.Fld w 0 k - w / 2 ^ k % 2 * 2 ^ k → wrap32 y = E) := fun y hy => by
        have h1 := HX.out
        have h2 := HB.out
        rw [hy, h1]; unfold wrap32; omega
      go_wp2_with (first | (go_at_call 62; refine (bit_any _ _ _ w0 w1 (by omega) (by omega)).mono ?_; rintro e w' ⟨rfl, rfl⟩) | (go_at_call 42; refine (two_any _ _ (by omega) (by omega)).mono ?_; rintro e w' ⟨rfl, rfl⟩))
      go_ret
      exact ⟨ret_int (HW.out _ rfl), rfl⟩
theorem rext_no (W : World) (w n : Int) (h : ¬ (1 ≤ n ∧ n ≤ 32)) :
    Calls Tryd.prog 50 #[.int .u32 w, .int .i64 n] W fun e W' => e = .returned (.int .i32 0) ∧ W = W' := by
  rcases (show n < 1 ∨ (1 ≤ n ∧ 32 < n) by omega) with c | ⟨c1, c2⟩
  all_goals clear h
  all_goals
    go_enter Tryd.func50, Tryd.ntmps50
    go_wp2
    go_ret
    exact ⟨rfl, rfl⟩
end Go.Proofs.YtlfnpllojinjdaaDoor
