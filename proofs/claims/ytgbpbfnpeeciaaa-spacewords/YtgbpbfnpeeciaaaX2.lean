/- head 7, SpaceWords 3. -/
import Derived.Test.YtgbpbfnpeeciaaaX1
namespace Go.Proofs.Ytgbpbfnpeeciaaa
open Go.RowKit
set_option maxRecDepth 100000
set_option maxHeartbeats 4000000
theorem built_h26 : Try.prog.built 26 [(0, .int .u32 20480), (1, .bool true)] = some #[.int .u32 20480, .bool true, .bool false] := by kernel_rfl
theorem head_any (W : World) : Calls Try.prog 7 #[] W fun x W' => x = .returned (.bool true) ∧ Below W.heap.size W W' := by
  have HW := hid (fun W => word_any W ⟨20480, true, false⟩ (by decide) (by decide))
  have HP := hid (fun W => parse_any W 20482 (by decide) (by decide))
  rw [show (Gm.mk 20480 true false).w = 20483 by decide, show (Gm.mk 20480 true false).e = 0 by decide] at HW
  rw [gP_neg (w := 20482) (by decide), show gPE 20482 = 142 by decide] at HP
  simp only [Gm.v, Gm.z] at HW HP
  go_enter Try.func7, Try.ntmps7
  go_upto_region 2 with (first | (go_at_call 8; refine (HW.out _).mono ?_; rintro x w2 ⟨rfl, hb⟩; have HB1 := hid hb; clear hb))
  go_upto_region 3 with (first | (go_at_call 9; refine (HP.out _).mono ?_; rintro x w3 ⟨rfl, hb⟩; have HB2 := hid (below_on HB1.out hb); clear hb))
  have HB3 := hid (below_on HB2.out (below_one w3 (.cells #[.int .u32 0, .bool false, .bool false] 26)))
  go_wp2_with fail
  go_returns
  exact ⟨rfl, HB3.out⟩
theorem and_low12 (v : Int) (h0 : 0 ≤ v) (h1 : v < 4294967296) : bits .and .u32 v 4095 = v % 4096 := by
  rw [u32_and _ _ h0 h1 (by decide) (by decide)]
  obtain ⟨x, rfl⟩ := Int.eq_ofNat_of_zero_le h0
  have : ((x : Int).toNat &&& Int.toNat 4095) = x % 4096 := by
    rw [Int.toNat_natCast]
    exact Nat.and_two_pow_sub_one_eq_mod x 12
  rw [this]
  omega
theorem and_high (v : Int) (h0 : 0 ≤ v) (h1 : v < 4294967296) : bits .and .u32 v 4294963200 = v - v % 4096 := by
  rw [u32_and _ _ h0 h1 (by decide) (by decide)]
  obtain ⟨x, rfl⟩ := Int.eq_ofNat_of_zero_le h0
  rw [Int.toNat_natCast, show Int.toNat 4294963200 = 4294963200 from rfl]
  have a1 : (x &&& 4294963200) >>> 12 = (x >>> 12) &&& (4294963200 >>> 12) := Nat.shiftRight_and_distrib
  have a2 : (x &&& 4294963200) % 2 ^ 12 = (x % 2 ^ 12) &&& (4294963200 % 2 ^ 12) := Nat.and_mod_two_pow
  rw [show (4294963200 : Nat) >>> 12 = 2 ^ 20 - 1 from rfl, Nat.and_two_pow_sub_one_eq_mod, Nat.shiftRight_eq_div_pow, Nat.shiftRight_eq_div_pow] at a1
  rw [show (4294963200 : Nat) % 2 ^ 12 = 0 from rfl, Nat.and_zero] at a2
  omega
theorem and_mid (v : Int) (h0 : 0 ≤ v) (h1 : v < 4294967296) (h : 8 ≤ v % 4096) : bits .and .u32 v 4088 ≠ 0 := by
  rw [u32_and _ _ h0 h1 (by decide) (by decide)]
  obtain ⟨x, rfl⟩ := Int.eq_ofNat_of_zero_le h0
  rw [Int.toNat_natCast, show Int.toNat 4088 = 4088 from rfl]
  have a1 : (x &&& 4088) >>> 3 = (x >>> 3) &&& (4088 >>> 3) := Nat.shiftRight_and_distrib
  rw [show (4088 : Nat) >>> 3 = 2 ^ 9 - 1 from rfl, Nat.and_two_pow_sub_one_eq_mod, Nat.shiftRight_eq_div_pow, Nat.shiftRight_eq_div_pow] at a1
  omega
theorem Gm.back {m : Gm} (h : m.Ok) (h0 : 0 ≤ m.va) : Gw m.w ∧ gG m.w = m ∧ m.w - m.w % 4096 = m.va ∧ m.w % 2 = 1 ∧ 0 ≤ m.w ∧ m.w < 4294967296 ∧ decide (m.w / 2 % 2 = 1) = m.wr ∧ decide (m.w / 4 % 2 = 1) = m.ex := by
  rw [Gm.w, if_pos h]
  obtain ⟨a, b⟩ := h
  obtain ⟨va, wr, ex⟩ := m
  simp only at *
  unfold gG Gw
  cases wr <;> cases ex <;> simp only [b2, if_true, Bool.false_eq_true, if_false, Int.add_zero, Gm.mk.injEq, decide_eq_true_eq, decide_eq_false_iff_not] <;> omega
end Go.Proofs.Ytgbpbfnpeeciaaa
