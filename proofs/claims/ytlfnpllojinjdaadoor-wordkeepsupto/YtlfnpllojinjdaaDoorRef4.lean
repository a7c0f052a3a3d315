import Derived.Test.YtlfnpllojinjdaaDoorRef3
import Derived.Test.YtlfnpllojinjdaaDoorLists
namespace Go.Proofs.YtlfnpllojinjdaaDoor
open Go.RowKit

/-- The bits below t, each at its place when turned by k. -/
def RP (w : Int) (k t : Nat) : Int := if t ≤ k then w % 2 ^ t * 2 ^ (32 - k) else w % 2 ^ k * 2 ^ (32 - k) + w % 2 ^ t / 2 ^ k
theorem mod_succ (w : Int) (t : Nat) : w % 2 ^ (t + 1) = w % 2 ^ t + 2 ^ t * (w / 2 ^ t % 2) := by
  rw [Int.pow_succ, mod_mul _ _ _ (M.two_pos t) (by decide)]
theorem rp_succ (w : Int) (k t : Nat) (hk : k ≤ 31) (ht : t < 32) : RP w k (t + 1) = RP w k t + w / 2 ^ t % 2 * 2 ^ ((t + 32 - k) % 32) := by
  unfold RP
  rcases Nat.lt_trichotomy t k with h | h | h
  · rw [if_pos (by omega), if_pos (by omega), mod_succ, show (t + 32 - k) % 32 = t + (32 - k) by omega, M.two_add]
    generalize (2 : Int) ^ t = A
    generalize (2 : Int) ^ (32 - k) = B
    grind
  · subst h
    rw [if_neg (by omega), if_pos (by omega), mod_succ, show (t + 32 - t) % 32 = 0 by omega, Int.pow_zero]
    have hp := M.two_pos t
    have l0 := Int.emod_nonneg w (show (2 : Int) ^ t ≠ 0 by omega)
    have l1 := Int.emod_lt_of_pos w hp
    rw [Int.add_mul_ediv_left _ _ (by omega), Int.ediv_eq_zero_of_lt l0 l1]
    omega
  · rw [if_neg (by omega), if_neg (by omega), mod_succ, show (t + 32 - k) % 32 = t - k by omega]
    have e : (2 : Int) ^ t = 2 ^ k * 2 ^ (t - k) := by rw [← M.two_add, show k + (t - k) = t by omega]
    have hp := M.two_pos k
    rw [show w % 2 ^ t + 2 ^ t * (w / 2 ^ t % 2) = w % 2 ^ t + 2 ^ k * (2 ^ (t - k) * (w / 2 ^ t % 2)) by rw [← Int.mul_assoc, ← e], Int.add_mul_ediv_left _ _ (by omega)]
    grind
theorem rp_end (w : Int) (k : Nat) (hk : k ≤ 31) (w0 : 0 ≤ w) (w1 : w < 4294967296) : RP w k 32 = M.Rot w k := by
  unfold RP M.Rot
  rw [if_neg (by omega), M.two_32, Int.emod_eq_of_lt w0 w1]
  omega
theorem rp_zero (w : Int) (k : Nat) : RP w k 0 = 0 := by simp [RP, Int.emod_one]
theorem rp_bd (w : Int) (k : Nat) (hk : k ≤ 31) : ∀ t : Nat, t ≤ 32 → 0 ≤ RP w k t ∧ RP w k t ≤ 4294967296 * t := by
  intro t
  induction t with
  | zero => intro _; rw [rp_zero]; omega
  | succ t ih =>
    intro h
    have h1 := ih (by omega)
    rw [rp_succ w k t hk (by omega)]
    have p0 := M.two_pos ((t + 32 - k) % 32)
    have p1 := pow32 ((t + 32 - k) % 32) (by omega)
    rcases (show w / 2 ^ t % 2 = 0 ∨ w / 2 ^ t % 2 = 1 by omega) with e | e <;> rw [e] <;> omega
set_option maxHeartbeats 800000 in
theorem rrot_any (W : World) (w n : Int) (w0 : 0 ≤ w) (w1 : w < 4294967296) :
    Calls Tryd.prog 54 #[.int .u32 w, .int .i64 n] W fun e W' => e = .returned (.int .u32 (M.Rot w (n % 32).toNat)) ∧ W = W' := by
  obtain ⟨k, hk⟩ := Int.eq_ofNat_of_zero_le (Int.emod_nonneg n (show (32 : Int) ≠ 0 by decide))
  have hk31 : k ≤ 31 := by omega
  rw [hk, Int.toNat_natCast]
  have RE := rp_end w k hk31 w0 w1
  have H : Hid (∀ fr : Int, fr = RP w k 32 → fr % 4294967296 = M.Rot w k) := fun y hy => by
    rw [hy, RE]
    have := M.rot_bounds w k w0 w1 (by omega)
    exact Int.emod_eq_of_lt this.1 this.2.1
  have HZ : Hid _ := rp_zero w k
  have BD : Hid _ := rp_bd w k hk31
  have SU : Hid (∀ t, t < 32 → _) := fun t ht => rp_succ w k t hk31 ht
  generalize M.Rot w k = R at *
  clear RE
  have hc : n.tmod 32 = k ∨ (n.tmod 32 = (k : Int) - 32 ∧ 0 < k ∧ n < 0) := by
    rw [Int.tmod_eq_emod]
    split <;> omega
  have d1 : decide ((k : Int) - 32 < 0) = true := decide_eq_true (by omega)
  have d2 : decide ((k : Int) < 0) = false := decide_eq_false (by omega)
  rcases hc with ht | ⟨ht, hkp, hneg⟩
  all_goals
    go_enter Tryd.func54, Tryd.ntmps54
    go_wp2
    go_loop [6, 7] (fun r i => ∃ t : Nat, t ≤ 32 ∧ i = .int .i64 t ∧ r = .int .i64 (RP w k t)) (fun _ i => 32 - (intOf i).toNat)
    case atStart => exact ⟨0, Nat.zero_le _, rfl, by rw [HZ.out]⟩
    case round =>
      obtain ⟨t, hle, rfl, rfl⟩ := hrel
      obtain ⟨b0, b1⟩ := BD.out t hle
      by_cases hlt : t < 32
      · have HS : Hid _ := SU.out t hlt
        have hE : (((t : Int) - (k : Int)) % 32).toNat = (t + 32 - k) % 32 := by omega
        have p0 := M.two_pos ((t + 32 - k) % 32)
        have p1 := pow32 ((t + 32 - k) % 32) (by omega)
        have c0 : 0 ≤ w / 2 ^ t % 2 ∧ w / 2 ^ t % 2 ≤ 1 := by omega
        have m0 : 0 ≤ w / 2 ^ t % 2 * 2 ^ ((t + 32 - k) % 32) := Int.mul_nonneg c0.1 (by omega)
        have m1 : w / 2 ^ t % 2 * 2 ^ ((t + 32 - k) % 32) ≤ 1 * 2 ^ ((t + 32 - k) % 32) := Int.mul_le_mul_of_nonneg_right c0.2 (by omega)
        rw [Int.one_mul] at m1
        go_wp2_with (first | (go_at_call 62; refine (bit_any _ _ _ w0 w1 (by omega) (by omega)).mono ?_; rintro e w' ⟨rfl, rfl⟩) | (go_at_call 42; refine (two_any _ _ (by omega) (by omega)).mono ?_; rintro e w' ⟨rfl, rfl⟩))
        go_round
        case rel => exact ⟨t + 1, by omega, by go_num, by rw [HS.out]⟩
        case measure => simp [intOf]; omega
      · obtain rfl : t = 32 := by omega
        go_wp2
        go_ret
        exact ⟨ret_int (H.out _ rfl), rfl⟩
theorem radd_any (W : World) (a b c : Int) (ha0 : 0 ≤ a) (ha : a < 4294967296) (hb0 : 0 ≤ b) (hb : b < 4294967296) (hc0 : 0 ≤ c) (hc : c < 4294967296) :
    Calls Tryd.prog 55 #[.int .u32 a, .int .u32 b, .int .u32 c] W fun e W' => e = .returned (.tuple #[.int .u32 ((a + b + c % 2) % 4294967296), .int .u32 ((a + b + c % 2) / 4294967296)]) ∧ W = W' := by
  have T32 : Hid (∀ w, Calls Tryd.prog 42 #[.int .i64 32] w fun e W' => e = .returned (.int .i64 4294967296) ∧ w = W') := fun w => two_any w 32 (by decide) (by decide)
  by_cases h : 4294967296 ≤ a + b + c % 2
  · have H : Hid (∀ y : Int, y = a + b + c % 2 - 4294967296 → Ending.returned (.tuple #[.int .u32 y, .int .u32 1]) = .returned (.tuple #[.int .u32 ((a + b + c % 2) % 4294967296), .int .u32 ((a + b + c % 2) / 4294967296)])) := fun y hy => by
      rw [hy, show (a + b + c % 2) % 4294967296 = a + b + c % 2 - 4294967296 by omega, show (a + b + c % 2) / 4294967296 = 1 by omega]
    go_enter Tryd.func55, Tryd.ntmps55
    go_wp2_with (first | (go_at_call 42; refine (T32.out _).mono ?_; rintro e w' ⟨rfl, rfl⟩))
    go_ret2
    exact ⟨H.out _ (by first | rfl | omega), rfl⟩
  · have H : Hid (Ending.returned (.tuple #[.int .u32 (a + b + c % 2), .int .u32 0]) = .returned (.tuple #[.int .u32 ((a + b + c % 2) % 4294967296), .int .u32 ((a + b + c % 2) / 4294967296)])) := by
      show _ = _
      rw [show (a + b + c % 2) % 4294967296 = a + b + c % 2 by omega, show (a + b + c % 2) / 4294967296 = 0 by omega]
    go_enter Tryd.func55, Tryd.ntmps55
    go_wp2_with (first | (go_at_call 42; refine (T32.out _).mono ?_; rintro e w' ⟨rfl, rfl⟩))
    go_ret2
    exact ⟨H.out, rfl⟩
theorem rdiv_any (W : World) (a b : Int) (ha0 : 0 ≤ a) (ha : a < 4294967296) (hb0 : 0 ≤ b) (hb : b < 4294967296) :
    Calls Tryd.prog 56 #[.int .u32 a, .int .u32 b] W fun e W' => e = .returned (.int .u32 (if b = 0 then 4294967295 else a / b)) ∧ W = W' := by
  by_cases h : b = 0
  · subst h
    go_enter Tryd.func56, Tryd.ntmps56
    go_wp2
    go_ret
    exact ⟨rfl, rfl⟩
  · have h' : (b == 0) = false := by simpa using h
    have d0 : 0 ≤ a / b := Int.ediv_nonneg ha0 hb0
    have d1 : a / b ≤ a := Int.ediv_le_self b ha0
    go_enter Tryd.func56, Tryd.ntmps56
    go_wp2
    go_ret
    exact ⟨rfl, rfl⟩
theorem rless_any (W : World) (a b : Int) (ha0 : 0 ≤ a) (ha : a < 4294967296) (hb0 : 0 ≤ b) (hb : b < 4294967296) :
    Calls Tryd.prog 57 #[.int .u32 a, .int .u32 b] W fun e W' => e = .returned (.bool (decide (wrap32 a < wrap32 b))) ∧ W = W' := by
  go_enter Tryd.func57, Tryd.ntmps57
  go_wp2_with (first | (go_at_call 63; refine (signed_any _ _ (by omega) (by omega)).mono ?_; rintro e w' ⟨rfl, rfl⟩))
  go_ret
  exact ⟨rfl, rfl⟩
theorem roverlap_any (W : World) (a n b m : Int) (ha0 : 0 ≤ a) (ha : a < 4294967296) (hb0 : 0 ≤ b) (hb : b < 4294967296) (hn0 : 0 ≤ n) (hn : n < 4294967296) (hm0 : 0 ≤ m) (hm : m < 4294967296) :
    Calls Tryd.prog 58 #[.int .u32 a, .int .u32 n, .int .u32 b, .int .u32 m] W fun e W' => e = .returned (.bool (decide (a < a + n ∧ a < b + m ∧ b < a + n ∧ b < b + m))) ∧ W = W' := by
  by_cases h1 : a < b
  all_goals by_cases h2 : 0 < n
  all_goals by_cases h3 : 0 < m
  all_goals
    go_enter Tryd.func58, Tryd.ntmps58
    go_wp2
    all_goals go_ret
    all_goals exact ⟨ret_bool (Bool.eq_iff_iff.2 (by simp only [decide_eq_true_eq, Bool.and_eq_true, Bool.false_eq_true, false_iff]; omega)), rfl⟩
end Go.Proofs.YtlfnpllojinjdaaDoor
