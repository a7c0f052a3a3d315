/- The document's answers of layer 1, as the package wardenref01 reckons them: contracts of its numbers. The document's sum 30. -/
import Derived.Test.YteldpapacdbbiaaGreatDoorICore
import Derived.Test.YteldpapacdbbiaaGreatDoorE1E2E3
import Derived.Test.YteldpapacdbbiaaGreatDoorC2
namespace Go.Proofs.YteldpapacdbbiaaGreatDoor.Z
open Go.RowKit
def Lf (a b : Int) : Int := a * 2 ^ min b.toNat 32 % 4294967296
def Rt (a b : Int) : Int := a / 2 ^ min b.toNat 32
def Ar (a b : Int) : Int := wrap32 a / 2 ^ min b.toNat 32 % 4294967296
theorem ret_int {k : IntKind} {a b : Int} (h : a = b) : Ending.returned (.int k a) = .returned (.int k b) := by rw [h]

theorem pow62 (k : Nat) (h : k ≤ 62) : (2 : Int) ^ k ≤ 4611686018427387904 := by
  have := M.two_le h
  have e : (2 : Int) ^ 62 = 4611686018427387904 := by decide
  omega
theorem two_any (W : World) (n : Int) (n0 : 0 ≤ n) (n1 : n ≤ 62) :
    Calls Tryz.prog 92 #[.int .i64 n] W fun e W' => e = .returned (.int .i64 (2 ^ n.toNat)) ∧ W = W' := by
  obtain ⟨m, rfl⟩ := Int.eq_ofNat_of_zero_le n0
  rw [Int.toNat_natCast]
  go_enter Tryz.func92, Tryz.ntmps92
  go_wp2
  go_loop [3, 4] (fun p i => ∃ k : Nat, k ≤ m ∧ i = .int .i64 k ∧ p = .int .i64 (2 ^ k)) (fun _ i => m - (intOf i).toNat)
  case atStart => exact ⟨0, Nat.zero_le _, rfl, rfl⟩
  case round =>
    obtain ⟨k, hk, rfl, rfl⟩ := hrel
    by_cases hlt : k < m
    · have h1 := pow62 (k + 1) (by omega)
      have h2 := M.two_pos k
      have h3 : (2 : Int) ^ (k + 1) = 2 * 2 ^ k := by rw [Int.pow_succ]; omega
      rw [h3] at h1
      have H3 : Hid _ := h3
      clear h3
      go_wp2
      go_round
      case rel => exact ⟨k + 1, by omega, by go_num, by rw [H3.out]⟩
      case measure => simp [intOf]; omega
    · obtain rfl : k = m := by omega
      go_wp2
      go_ret
      exact ⟨rfl, rfl⟩
end Go.Proofs.YteldpapacdbbiaaGreatDoor.Z
namespace Go.Proofs.YteldpapacdbbiaaGreatDoor.Z
open Go.RowKit

theorem two32 : (2 : Int) ^ (32 : Int).toNat = 4294967296 := by decide
theorem two31 : (2 : Int) ^ (31 : Int).toNat = 2147483648 := by decide
theorem signed_any (W : World) (w : Int) (w0 : 0 ≤ w) (w1 : w < 4294967296) :
    Calls Tryz.prog 67 #[.int .u32 w] W fun e W' => e = .returned (.int .i64 (wrap32 w)) ∧ W = W' := by
  by_cases h : w < 2147483648
  · have e : Hid (w = wrap32 w) := by show w = wrap32 w; unfold wrap32; omega
    have T31 : Hid (∀ w, Calls Tryz.prog 92 #[.int .i64 31] w fun e W' => e = .returned (.int .i64 2147483648) ∧ w = W') := fun w => two_any w 31 (by decide) (by decide)
    go_enter Tryz.func67, Tryz.ntmps67
    go_wp2_with (first | (go_at_call 92; refine (T31.out _).mono ?_; rintro e w' ⟨rfl, rfl⟩))
    go_ret
    exact ⟨ret_int e.out, rfl⟩
  · have e : Hid (w - 4294967296 = wrap32 w) := by show w - 4294967296 = wrap32 w; unfold wrap32; omega
    have T31 : Hid (∀ w, Calls Tryz.prog 92 #[.int .i64 31] w fun e W' => e = .returned (.int .i64 2147483648) ∧ w = W') := fun w => two_any w 31 (by decide) (by decide)
    have T32 : Hid (∀ w, Calls Tryz.prog 92 #[.int .i64 32] w fun e W' => e = .returned (.int .i64 4294967296) ∧ w = W') := fun w => two_any w 32 (by decide) (by decide)
    go_enter Tryz.func67, Tryz.ntmps67
    go_wp2_with fail
    refine (T31.out _).mono ?_; rintro e w' ⟨rfl, rfl⟩
    go_wp2_with fail
    refine (T32.out _).mono ?_; rintro e w' ⟨rfl, rfl⟩
    go_wp2
    go_ret
    exact ⟨ret_int e.out, rfl⟩
theorem wrapped_any (W : World) (n : Int) (n0 : -4294967296 < n) (n1 : n < 4294967296) :
    Calls Tryz.prog 94 #[.int .i64 n] W fun e W' => e = .returned (.int .u32 (n % 4294967296)) ∧ W = W' := by
  have T32 : Hid (∀ w, Calls Tryz.prog 92 #[.int .i64 32] w fun e W' => e = .returned (.int .i64 4294967296) ∧ w = W') := fun w => two_any w 32 (by decide) (by decide)
  by_cases h : 0 ≤ n
  · have ht : n.tmod 4294967296 = n := Int.tmod_eq_of_lt h n1
    have he : Hid (n = n % 4294967296) := (Int.emod_eq_of_lt h n1).symm
    go_enter Tryz.func94, Tryz.ntmps94
    go_wp2_with (first | (go_at_call 92; refine (T32.out _).mono ?_; rintro e w' ⟨rfl, rfl⟩))
    go_ret
    exact ⟨ret_int (by first | exact he.out | rfl | omega), rfl⟩
  · have ht : n.tmod 4294967296 = n := by
      obtain ⟨m, rfl⟩ : ∃ m, n = -m := ⟨-n, by omega⟩
      rw [Int.neg_tmod, Int.tmod_eq_of_lt (by omega) (by omega)]
    have he : Hid (n + 4294967296 = n % 4294967296) := by show _ = _; omega
    have hneg : n < 0 := by omega
    clear h
    go_enter Tryz.func94, Tryz.ntmps94
    go_wp2_with fail
    refine (T32.out _).mono ?_; rintro e w' ⟨rfl, rfl⟩
    go_wp2_with fail
    refine (T32.out _).mono ?_; rintro e w' ⟨rfl, rfl⟩
    go_wp2
    go_ret
    exact ⟨ret_int (by first | exact he.out | rfl | omega), rfl⟩
theorem half_any (W : World) (n : Int) (n0 : -4294967296 ≤ n) (n1 : n ≤ 4294967296) :
    Calls Tryz.prog 93 #[.int .i64 n] W fun e W' => e = .returned (.int .i64 (n / 2)) ∧ W = W' := by
  by_cases h : n % 2 = 0
  · have ht : n.tmod 2 = 0 := by rw [Int.tmod_eq_emod]; split <;> omega
    have hd : n.tdiv 2 = n / 2 := by rw [Int.tdiv_eq_ediv]; split <;> omega
    clear h
    go_enter Tryz.func93, Tryz.ntmps93
    go_wp2
    go_ret
    exact ⟨rfl, rfl⟩
  · have ht : (n.tmod 2 != 0) = true := by rw [bne_iff_ne, Int.tmod_eq_emod]; split <;> omega
    have hd : (n - 1).tdiv 2 = n / 2 := by rw [Int.tdiv_eq_ediv]; split <;> omega
    have hd2 : (n - 1) / 2 = n / 2 := by omega
    have ht2 : (n % 2 != 0) = true := by rw [bne_iff_ne]; exact h
    clear h
    go_enter Tryz.func93, Tryz.ntmps93
    go_wp2
    go_ret
    exact ⟨ret_int (by first | rfl | omega), rfl⟩
theorem shl_succ (w : Int) (k : Nat) : 2 * (w * 2 ^ k % 4294967296) % 4294967296 = w * 2 ^ (k + 1) % 4294967296 := by
  rw [Int.pow_succ, ← Int.mul_assoc]
  generalize w * 2 ^ k = x
  omega
set_option maxRecDepth 20000 in
set_option maxHeartbeats 400000 in
theorem rleft_any (W : World) (w n : Int) (w0 : 0 ≤ w) (w1 : w < 4294967296) (n0 : 0 ≤ n) (n1 : n < 4294967296) :
    Calls Tryz.prog 63 #[.int .u32 w, .int .u32 n] W fun e W' => e = .returned (.int .u32 (Lf w n)) ∧ W = W' := by
  have T32 : Hid (∀ w, Calls Tryz.prog 92 #[.int .i64 32] w fun e W' => e = .returned (.int .i64 4294967296) ∧ w = W') := fun w => two_any w 32 (by decide) (by decide)
  obtain ⟨m, rfl⟩ := Int.eq_ofNat_of_zero_le n0
  go_enter Tryz.func63, Tryz.ntmps63
  go_wp2
  go_loop [5, 6] (fun r i => ∃ k : Nat, k ≤ m ∧ k ≤ 32 ∧ i = .int .u32 k ∧ r = .int .i64 (w * 2 ^ k % 4294967296)) (fun _ i => 32 - (intOf i).toNat)
  case atStart => exact ⟨0, Nat.zero_le _, by decide, rfl, by simp; omega⟩
  case round =>
    obtain ⟨k, hk, hk2, rfl, rfl⟩ := hrel
    have HS : Hid _ := shl_succ w k
    have b0 : 0 ≤ w * 2 ^ k % 4294967296 ∧ w * 2 ^ k % 4294967296 < 4294967296 := by omega
    by_cases hlt : k < m
    · by_cases hlt2 : k < 32
      · have a1 : (k : Int) < (m : Int) := by omega
        have a2 : (k : Int) < 32 := by omega
        have a3 : (k : Int) + 1 < 4294967296 := by omega
        have HH : Hid (k < m ∧ k < 32) := ⟨hlt, hlt2⟩
        clear hk hk2 hlt hlt2 n1 n0
        go_wp2_with (first | (go_at_call 92; refine (T32.out _).mono ?_; rintro e w' ⟨rfl, rfl⟩))
        go_round
        case rel => exact ⟨k + 1, by have := HH.out; omega, by have := HH.out; omega, by go_num, by rw [HS.out]⟩
        case measure => have := HH.out; simp [intOf]; omega
      · obtain rfl : k = 32 := by omega
        have a1 : (32 : Int) < (m : Int) := by omega
        have HE : Hid (∀ y, y = w * 2 ^ 32 % 4294967296 → y = Lf w (m : Int)) := fun y hy => by rw [hy]; unfold Lf; rw [Int.toNat_natCast, Nat.min_eq_right (by omega)]
        clear hk hk2 hlt hlt2 n1 n0
        go_wp2
        go_ret
        exact ⟨ret_int (HE.out _ (by first | rfl | omega)), rfl⟩
    · obtain rfl : k = m := by omega
      have HE : Hid (∀ y, y = w * 2 ^ k % 4294967296 → y = Lf w (k : Int)) := fun y hy => by rw [hy]; unfold Lf; rw [Int.toNat_natCast, Nat.min_eq_left (by omega)]
      go_wp2
      go_ret
      exact ⟨ret_int (HE.out _ (by first | rfl | omega)), rfl⟩
theorem shr_succ (w : Int) (k : Nat) : w / 2 ^ k / 2 = w / 2 ^ (k + 1) := by rw [M.div_div, Int.pow_succ]; simp
set_option maxRecDepth 20000 in
set_option maxHeartbeats 400000 in
theorem rright_any (W : World) (w n : Int) (w0 : 0 ≤ w) (w1 : w < 4294967296) (n0 : 0 ≤ n) (n1 : n < 4294967296) :
    Calls Tryz.prog 64 #[.int .u32 w, .int .u32 n] W fun e W' => e = .returned (.int .u32 (Rt w n)) ∧ W = W' := by
  obtain ⟨m, rfl⟩ := Int.eq_ofNat_of_zero_le n0
  go_enter Tryz.func64, Tryz.ntmps64
  go_wp2
  go_loop [5, 6] (fun r i => ∃ k : Nat, k ≤ m ∧ k ≤ 32 ∧ i = .int .u32 k ∧ r = .int .i64 (w / 2 ^ k)) (fun _ i => 32 - (intOf i).toNat)
  case atStart => exact ⟨0, Nat.zero_le _, by decide, rfl, by simp⟩
  case round =>
    obtain ⟨k, hk, hk2, rfl, rfl⟩ := hrel
    have HS : Hid _ := shr_succ w k
    have b0 := M.div_bounds w k w0 w1
    by_cases hlt : k < m
    · by_cases hlt2 : k < 32
      · have a1 : (k : Int) < (m : Int) := by omega
        have a2 : (k : Int) < 32 := by omega
        have a3 : (k : Int) + 1 < 4294967296 := by omega
        have HH : Hid (k < m ∧ k < 32) := ⟨hlt, hlt2⟩
        clear hk hk2 hlt hlt2 n1 n0
        generalize w / 2 ^ k = q at *
        go_wp2
        go_round
        case rel => exact ⟨k + 1, by have := HH.out; omega, by have := HH.out; omega, by go_num, by rw [← HS.out]⟩
        case measure => have := HH.out; simp [intOf]; omega
      · obtain rfl : k = 32 := by omega
        have a1 : (32 : Int) < (m : Int) := by omega
        have HE : Hid (∀ y, y = w / 2 ^ 32 → y = Rt w (m : Int)) := fun y hy => by rw [hy]; unfold Rt; rw [Int.toNat_natCast, Nat.min_eq_right (by omega)]
        clear hk hk2 hlt hlt2 n1 n0
        go_wp2
        go_ret
        exact ⟨ret_int (HE.out _ (by first | rfl | omega)), rfl⟩
    · obtain rfl : k = m := by omega
      have HE : Hid (∀ y, y = w / 2 ^ k → y = Rt w (k : Int)) := fun y hy => by rw [hy]; unfold Rt; rw [Int.toNat_natCast, Nat.min_eq_left (by omega)]
      go_wp2
      go_ret
      exact ⟨ret_int (HE.out _ (by first | rfl | omega)), rfl⟩
set_option maxRecDepth 20000 in
set_option maxHeartbeats 400000 in
theorem rarith_any (W : World) (w n : Int) (w0 : 0 ≤ w) (w1 : w < 4294967296) (n0 : 0 ≤ n) (n1 : n < 4294967296) :
    Calls Tryz.prog 65 #[.int .u32 w, .int .u32 n] W fun e W' => e = .returned (.int .u32 (Ar w n)) ∧ W = W' := by
  obtain ⟨m, rfl⟩ := Int.eq_ofNat_of_zero_le n0
  have hz : -2147483648 ≤ wrap32 w ∧ wrap32 w < 2147483648 := by unfold wrap32; omega
  have bd : ∀ k : Nat, -2147483648 ≤ wrap32 w / 2 ^ k ∧ wrap32 w / 2 ^ k < 2147483648 := fun k => by
    have hp := M.two_pos k
    constructor
    · apply Int.le_ediv_of_mul_le hp
      have : (-2147483648) * (2 : Int) ^ k ≤ -2147483648 * 1 := by omega
      omega
    · apply Int.ediv_lt_of_lt_mul hp
      have : 2147483648 * 1 ≤ 2147483648 * (2 : Int) ^ k := by omega
      omega
  have BD : Hid _ := bd
  clear bd
  go_enter Tryz.func65, Tryz.ntmps65
  go_wp2_with (first | (go_at_call 67; refine (signed_any _ _ w0 w1).mono ?_; rintro e w' ⟨rfl, rfl⟩))
  go_loop [5, 6] (fun r i => ∃ k : Nat, k ≤ m ∧ k ≤ 32 ∧ i = .int .u32 k ∧ r = .int .i64 (wrap32 w / 2 ^ k)) (fun _ i => 32 - (intOf i).toNat)
  case atStart => exact ⟨0, Nat.zero_le _, by decide, rfl, by simp⟩
  case round =>
    obtain ⟨k, hk, hk2, rfl, rfl⟩ := hrel
    have HS : Hid _ := shr_succ (wrap32 w) k
    obtain ⟨b0, b1⟩ := BD.out k
    by_cases hlt : k < m
    · by_cases hlt2 : k < 32
      · have a1 : (k : Int) < (m : Int) := by omega
        have a2 : (k : Int) < 32 := by omega
        have a3 : (k : Int) + 1 < 4294967296 := by omega
        have HH : Hid (k < m ∧ k < 32) := ⟨hlt, hlt2⟩
        clear hk hk2 hlt hlt2 n1 n0
        go_wp2_with (first | (go_at_call 93; refine (half_any _ _ (by omega) (by omega)).mono ?_; rintro e w' ⟨rfl, rfl⟩))
        go_round
        case rel => exact ⟨k + 1, by have := HH.out; omega, by have := HH.out; omega, by go_num, by rw [HS.out]⟩
        case measure => have := HH.out; simp [intOf]; omega
      · obtain rfl : k = 32 := by omega
        have a1 : (32 : Int) < (m : Int) := by omega
        have HE : Hid (wrap32 w / 2 ^ 32 % 4294967296 = Ar w (m : Int)) := by show _ = _; unfold Ar; rw [Int.toNat_natCast, Nat.min_eq_right (by omega)]
        clear hk hk2 hlt hlt2 n1 n0
        go_wp2_with (first | (go_at_call 94; refine (wrapped_any _ _ (by omega) (by omega)).mono ?_; rintro e w' ⟨rfl, rfl⟩))
        go_ret
        exact ⟨ret_int HE.out, rfl⟩
    · obtain rfl : k = m := by omega
      have HE : Hid (wrap32 w / 2 ^ k % 4294967296 = Ar w (k : Int)) := by show _ = _; unfold Ar; rw [Int.toNat_natCast, Nat.min_eq_left (by omega)]
      go_wp2_with (first | (go_at_call 94; refine (wrapped_any _ _ (by omega) (by omega)).mono ?_; rintro e w' ⟨rfl, rfl⟩))
      go_ret
      exact ⟨ret_int HE.out, rfl⟩
end Go.Proofs.YteldpapacdbbiaaGreatDoor.Z
namespace Go.Proofs.YteldpapacdbbiaaGreatDoor.Z
open Go.RowKit

set_option maxHeartbeats 800000 in
theorem rdiv_any (W : World) (a b : Int) (ha0 : 0 ≤ a) (ha : a < 4294967296) (hb0 : 0 ≤ b) (hb : b < 4294967296) :
    Calls Tryz.prog 62 #[.int .u32 a, .int .u32 b] W fun e W' => e = .returned (.int .u32 (if b = 0 then 4294967295 else a / b)) ∧ W = W' := by
  by_cases h : b = 0
  · subst h
    go_enter Tryz.func62, Tryz.ntmps62
    go_wp2
    go_ret
    exact ⟨rfl, rfl⟩
  · have h' : (b == 0) = false := by simpa using h
    have d0 : 0 ≤ a / b := Int.ediv_nonneg ha0 hb0
    have d1 : a / b ≤ a := Int.ediv_le_self b ha0
    go_enter Tryz.func62, Tryz.ntmps62
    go_wp2
    go_ret
    exact ⟨rfl, rfl⟩
end Go.Proofs.YteldpapacdbbiaaGreatDoor.Z
namespace Go.Proofs.YteldpapacdbbiaaGreatDoor
open Go.RowKit
set_option maxHeartbeats 8000000
set_option maxRecDepth 100000
theorem rsum_any (W : World) (op v ra b c : Int) (b0 : 0 ≤ b) (b1 : b < 4294967296) (c0 : 0 ≤ c) (c1 : c < 4294967296) (h1 : 4 ≤ op) (h2 : op ≤ 13) :
    Calls Tryz.prog 30 #[.int .i64 op, .int .u32 b, .int .u32 c] W fun e W' => e = .returned (.int .u32 (sumO op v ra b c)) ∧ W = W' := by
  have HDv : Hid (∀ W, Calls Tryz.prog 62 #[.int .u32 b, .int .u32 c] W fun e W' => e = .returned (.int .u32 (dvV b c)) ∧ W = W') := hid (fun W => Z.rdiv_any W b c b0 b1 c0 c1)
  have HLf := hid (fun W => Z.rleft_any W b c b0 b1 c0 c1)
  have HRt := hid (fun W => Z.rright_any W b c b0 b1 c0 c1)
  have HAr := hid (fun W => Z.rarith_any W b c b0 b1 c0 c1)
  have ho : op = 4 ∨ op = 5 ∨ op = 6 ∨ op = 7 ∨ op = 8 ∨ op = 9 ∨ op = 10 ∨ op = 11 ∨ op = 12 ∨ op = 13 := by omega
  clear h1 h2
  rcases ho with rfl | rfl | rfl | rfl | rfl | rfl | rfl | rfl | rfl | rfl
  · go_enter Tryz.func30, Tryz.ntmps30
    go_wp2_with fail
    go_ret
    exact ⟨by simp [sumO], rfl⟩
  · go_enter Tryz.func30, Tryz.ntmps30
    go_wp2_with fail
    go_ret
    exact ⟨by simp [sumO], rfl⟩
  · go_enter Tryz.func30, Tryz.ntmps30
    go_wp2_with fail
    go_ret
    exact ⟨by simp [sumO], rfl⟩
  · go_enter Tryz.func30, Tryz.ntmps30
    go_wp2_with (go_at_call 62; refine (HDv.out _).mono ?_; rintro e w1 ⟨rfl, rfl⟩)
    go_ret
    exact ⟨by simp [sumO], rfl⟩
  · go_enter Tryz.func30, Tryz.ntmps30
    go_wp2_with fail
    go_ret
    exact ⟨by simp [sumO], rfl⟩
  · go_enter Tryz.func30, Tryz.ntmps30
    go_wp2_with fail
    go_ret
    exact ⟨by simp [sumO], rfl⟩
  · go_enter Tryz.func30, Tryz.ntmps30
    go_wp2_with fail
    go_ret
    exact ⟨by simp [sumO], rfl⟩
  · go_enter Tryz.func30, Tryz.ntmps30
    go_wp2_with (go_at_call 63; refine (HLf.out _).mono ?_; rintro e w1 ⟨rfl, rfl⟩)
    go_ret
    exact ⟨by simp [sumO, Z.Lf], rfl⟩
  · go_enter Tryz.func30, Tryz.ntmps30
    go_wp2_with (go_at_call 64; refine (HRt.out _).mono ?_; rintro e w1 ⟨rfl, rfl⟩)
    go_ret
    exact ⟨by simp [sumO, Z.Rt], rfl⟩
  · go_enter Tryz.func30, Tryz.ntmps30
    go_wp2_with (go_at_call 65; refine (HAr.out _).mono ?_; rintro e w1 ⟨rfl, rfl⟩)
    go_ret
    exact ⟨by simp [sumO, Z.Ar], rfl⟩
end Go.Proofs.YteldpapacdbbiaaGreatDoor
