import Derived.Test.YtlfnpllojinjdaaDoorHead
namespace Go.Proofs.YtlfnpllojinjdaaDoor
open Go.RowKit

def Lf (a b : Int) : Int := a * 2 ^ min b.toNat 32 % 4294967296
def Rt (a b : Int) : Int := a / 2 ^ min b.toNat 32
def Ar (a b : Int) : Int := wrap32 a / 2 ^ min b.toNat 32 % 4294967296
theorem left_f (W : World) (a b : Int) (hb0 : 0 ≤ b) : Calls Tryd.prog 24 #[.int .u32 a, .int .u32 b] W fun e W' => e = .returned (.int .u32 (Lf a b)) ∧ W = W' := left_any W a b hb0
theorem right_f (W : World) (a b : Int) (hb0 : 0 ≤ b) : Calls Tryd.prog 23 #[.int .u32 a, .int .u32 b] W fun e W' => e = .returned (.int .u32 (Rt a b)) ∧ W = W' := right_any W a b hb0
theorem arith_f (W : World) (a b : Int) (hb0 : 0 ≤ b) : Calls Tryd.prog 27 #[.int .u32 a, .int .u32 b] W fun e W' => e = .returned (.int .u32 (Ar a b)) ∧ W = W' := arith_any W a b hb0
theorem rotate_f (W : World) (a b : Int) (k : Nat) (ha0 : 0 ≤ a) (ha : a < 4294967296) (hk : b % 32 = k) : Calls Tryd.prog 25 #[.int .u32 a, .int .i64 b] W fun e W' => e = .returned (.int .u32 (M.Rot a k)) ∧ W = W' := by
  have := rotate_any W a b ha0 ha
  rwa [hk, Int.toNat_natCast] at this
theorem lf_bounds (a b : Int) : 0 ≤ Lf a b ∧ Lf a b < 4294967296 := by unfold Lf; omega

/-- A field is the word moved up, then down. -/
theorem mod_mul (w A B : Int) (h1 : 0 < A) (h2 : 0 < B) : w % (A * B) = w % A + A * (w / A % B) := by
  have e1 := Int.emod_add_mul_ediv w A
  have e2 := Int.emod_add_mul_ediv (w / A) B
  have l0 := Int.emod_nonneg w (show A ≠ 0 by omega)
  have l1 := Int.emod_lt_of_pos w h1
  have b0 := Int.emod_nonneg (w / A) (show B ≠ 0 by omega)
  have b1 := Int.emod_lt_of_pos (w / A) h2
  have e3 : w = (w % A + A * (w / A % B)) + (A * B) * (w / A / B) := by grind
  conv => lhs; rw [e3]
  rw [Int.add_mul_emod_self_left]
  apply Int.emod_eq_of_lt
  · have := Int.mul_nonneg (Int.le_of_lt h1) b0
    omega
  · have : A * (w / A % B + 1) ≤ A * B := Int.mul_le_mul_of_nonneg_left (by omega) (by omega)
    rw [Int.mul_add] at this
    omega
theorem fld_moves (w : Int) (l m : Nat) (_h0 : 0 ≤ w) (h : l + m ≤ 32) : Rt (Lf w (32 - l - m : Nat)) (32 - m : Nat) = M.Fld w l m := by
  unfold Rt Lf M.Fld
  rw [Int.toNat_natCast, Int.toNat_natCast, Nat.min_eq_left (by omega), Nat.min_eq_left (by omega)]
  have e := M.shl_mod w (l + m) h
  rw [show 32 - (l + m) = 32 - l - m by omega] at e
  rw [e, show 32 - m = (32 - l - m) + l by omega, M.div_div, Int.mul_ediv_cancel _ (Int.ne_of_gt (M.two_pos _)), Int.add_comm l m |> fun _ => M.two_add l m]
  have h1 := M.two_pos l
  have h2 := M.two_pos m
  generalize (2 : Int) ^ l = A at *
  generalize (2 : Int) ^ m = B at *
  have l0 := Int.emod_nonneg w (show A ≠ 0 by omega)
  have l1 := Int.emod_lt_of_pos w h1
  rw [mod_mul w A B h1 h2, Int.add_mul_ediv_left _ _ (by omega), Int.ediv_eq_zero_of_lt l0 l1, Int.zero_add]
theorem fld_low_set (w v : Int) (l m : Nat) : M.Fld (M.SetF w l m v) 0 l = M.Fld w 0 l := by
  have := (M.setF_parts w l m v).1
  simpa [M.Fld] using this
theorem fld_high_set (w v : Int) (l m u : Nat) : M.Fld (M.SetF w l m v) (l + m) u = M.Fld w (l + m) u := by
  have := (M.setF_parts w l m v).2.2.2
  unfold M.Fld
  rw [M.div_div, M.div_div, this]
theorem fld_set (w v : Int) (l m : Nat) : M.Fld (M.SetF w l m v) l m = M.Fld v 0 m := by
  have := (M.setF_parts w l m v).2.2.1
  rw [this]
  simp [M.Fld]
theorem rot_back' (w : Int) (l : Nat) (h0 : 0 ≤ w) (h1 : w < 4294967296) (hl : l ≤ 31) : M.Rot (M.Rot w l) ((32 - l) % 32) = w := by
  rcases Nat.eq_zero_or_pos l with rfl | h
  · rw [show (32 - 0) % 32 = 0 from rfl, M.rot_zero, M.rot_zero]
  · rw [Nat.mod_eq_of_lt (by omega)]
    exact M.rot_back w l h0 h1 (by omega)
theorem rot_low' (w : Int) (l : Nat) (hl : l ≤ 31) : M.Fld (M.Rot w l) 0 1 = M.Fld w l 1 := by
  have := M.rot_low w l hl
  simpa [M.Fld] using this
theorem ext_fld (w : Int) (m : Nat) (hm : m ≤ 32) : M.Fld (M.Ext w m % 4294967296) 0 m = M.Fld w 0 m := by
  have e := M.split32 hm
  simp only [M.Fld, Int.pow_zero, Int.ediv_one]
  rw [← e, Int.emod_emod_of_dvd _ (Int.dvd_mul_right _ _)]
  unfold M.Ext
  split
  · exact Int.emod_emod _ _
  · rw [Int.sub_emod_right, Int.emod_emod]
theorem ext_sign' (w : Int) (m : Nat) (h1 : 1 ≤ m) : (decide (M.Ext w m < 0)) = (M.Fld w (m - 1) 1 == 1) := by
  obtain ⟨k, rfl⟩ : ∃ k, m = k + 1 := ⟨m - 1, by omega⟩
  have hp := M.two_pos k
  have hs : (2 : Int) ^ (k + 1) = 2 ^ k * 2 := Int.pow_succ 2 k
  have hm := mod_mul w (2 ^ k) 2 hp (by decide)
  have l0 := Int.emod_nonneg w (show (2 : Int) ^ k ≠ 0 by omega)
  have l1 := Int.emod_lt_of_pos w hp
  rw [Nat.add_sub_cancel]
  unfold M.Ext M.Fld
  rw [Nat.add_sub_cancel, hs, hm, show (2 : Int) ^ 1 = 2 from rfl]
  generalize w % 2 ^ k = r at *
  generalize w / 2 ^ k = q at *
  generalize (2 : Int) ^ k = A at *
  rcases (show q % 2 = 0 ∨ q % 2 = 1 by omega) with e | e
  · rw [e]; simp; rw [if_pos l1]; exact l0
  · rw [e]; simp; rw [if_neg (by omega)]; omega
theorem ext_arith (w : Int) (m : Nat) (h1 : 1 ≤ m) (hm : m ≤ 32) : Ar (Lf w (32 - m : Nat)) (32 - m : Nat) = M.Ext w m % 4294967296 := by
  unfold Ar Lf
  rw [Int.toNat_natCast, Nat.min_eq_left (by omega), M.shl_mod w m hm]
  obtain ⟨k, rfl⟩ : ∃ k, m = k + 1 := ⟨m - 1, by omega⟩
  have hp := M.two_pos k
  have hc := M.two_pos (32 - (k + 1))
  have hs : (2 : Int) ^ (k + 1) = 2 ^ k * 2 := Int.pow_succ 2 k
  have e := M.split32 hm
  have m0 := Int.emod_nonneg w (show (2 : Int) ^ (k + 1) ≠ 0 by omega)
  have m1 := Int.emod_lt_of_pos w (show (0 : Int) < 2 ^ (k + 1) by omega)
  unfold M.Ext
  rw [Nat.add_sub_cancel]
  generalize w % 2 ^ (k + 1) = t at *
  rw [hs] at e m1 ⊢
  generalize (2 : Int) ^ (32 - (k + 1)) = C at *
  generalize (2 : Int) ^ k = A at *
  have hAC : A * C = 2147483648 := by
    have : A * 2 * C = 2 * (A * C) := by grind
    omega
  have y0 := Int.mul_nonneg m0 (Int.le_of_lt hc)
  by_cases ht : t < A
  · rw [if_pos ht]
    have y1 : (t + 1) * C ≤ A * C := Int.mul_le_mul_of_nonneg_right (by omega) (by omega)
    rw [Int.add_mul] at y1
    have : wrap32 (t * C) = t * C := by unfold wrap32; omega
    rw [this, Int.mul_ediv_cancel _ (by omega)]
  · rw [if_neg ht]
    have y1 : A * C ≤ t * C := Int.mul_le_mul_of_nonneg_right (by omega) (by omega)
    have y2 : (t + 1) * C ≤ A * 2 * C := Int.mul_le_mul_of_nonneg_right (by omega) (by omega)
    rw [Int.add_mul] at y2
    have : wrap32 (t * C) = (t - A * 2) * C := by unfold wrap32; rw [Int.sub_mul, e]; omega
    rw [this, Int.mul_ediv_cancel _ (by omega)]
end Go.Proofs.YtlfnpllojinjdaaDoor
