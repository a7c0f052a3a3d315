/- The document's ten (67), Tens (37), Minus (41). -/
import Derived.Test.YtncnogndopgknaaDoorDg
import Derived.Test.YtncnogndopgknaaDoorFmt
namespace Go.Proofs.YtncnogndopgknaaDoor
open Go.RowKit
theorem bapp (x : UInt8) (t : List UInt8) : (⟨#[x]⟩ : ByteArray) ++ ⟨t.toArray⟩ = ⟨(x :: t).toArray⟩ := by
  apply ByteArray.ext
  rw [ByteArray.data_append]
  simp
theorem hexD_ten : ∀ d < 10, T.hexD d = UInt8.ofNat (48 + d) := by decide
theorem ret_txt {a b : List UInt8} (h : a = b) : Ending.returned (.string ⟨a.toArray⟩) = .returned (.string ⟨b.toArray⟩) := by rw [h]
def left (m : Nat) (t : List UInt8) : List UInt8 := if m = 0 then t else Lib.decDigits m ++ t
theorem left_step (m : Nat) (h : m ≠ 0) (t : List UInt8) : left m t = left (m / 10) (T.hexD (m % 10) :: t) := by
  rw [hexD_ten _ (by omega)]
  unfold left
  rw [if_neg h, Lib.decDigits]
  by_cases h10 : m < 10
  · rw [dif_pos h10, if_pos (by omega)]
    have : m % 10 = m := by omega
    rw [this]
    rfl
  · rw [dif_neg h10, if_neg (by omega), List.append_assoc]
    rfl
theorem left_first (u : Nat) : Lib.decDigits u = left (u / 10) [T.hexD (u % 10)] := by
  rcases Nat.eq_zero_or_pos u with h | h
  · subst h; unfold left; rw [if_pos (by decide), Lib.decDigits]; rfl
  · have := left_step u (by omega) []
    rw [← this]
    unfold left
    rw [if_neg (by omega), List.append_nil]
theorem dec_len (u : Nat) (h : u ≤ 4294967296) : (Lib.decDigits u).length ≤ 10 := by
  rw [Lib.decDigits_length]
  exact T.nDigits_le 9 u (by omega)
theorem left_len (k : Nat) (t R : List UInt8) (h : left k t = R) (hR : R.length ≤ 10) : t.length ≤ 10 := by
  unfold left at h
  split at h
  · rw [h]; exact hR
  · rw [← h, List.length_append] at hR; omega
theorem ten_any (W : World) (u : Nat) (hu : u ≤ 4294967296) (U : Int) (hU : U = (u : Int)) :
    Calls Tryd.prog 26 #[.int .i64 U] W fun e W' => e = .returned (.string ⟨(Lib.decDigits u).toArray⟩) ∧ W = W' := by
  subst hU
  obtain ⟨R, hR⟩ : ∃ R, Lib.decDigits u = R := ⟨_, rfl⟩
  have HRL : Hid (R.length ≤ 10) := hid (by rw [← hR]; exact dec_len u hu)
  rw [hR]
  have HR : Hid (left (u / 10) [T.hexD (u % 10)] = R) := hid (by rw [← hR, left_first])
  obtain ⟨d, hd⟩ : ∃ d, u % 10 = d := ⟨_, rfl⟩
  obtain ⟨m, hm⟩ : ∃ m, u / 10 = m := ⟨_, rfl⟩
  have e1 : (u : Int) % 10 = (d : Int) := by omega
  have e2 : (u : Int) / 10 = (m : Int) := by omega
  have u0 : 0 ≤ (u : Int) := by omega
  have u1 : (u : Int) ≤ 4294967296 := by omega
  have d1 : (d : Int) < 10 := by omega
  have m1 : (m : Int) ≤ 4294967296 := by omega
  have x1 : (⟨#[48, 49, 50, 51, 52, 53, 54, 55, 56, 57, 97, 98, 99, 100, 101, 102]⟩ : ByteArray).extract d (d + 1) = ⟨#[T.hexD d]⟩ := dig_ext d (by omega)
  rw [hd, hm] at HR
  clear hR hu hd hm
  go_enter Tryd.func26, Tryd.ntmps26
  go_wp2_with fail
  clear e1 e2 x1 u0 u1
  go_loopw [0, 3] (fun n s wr => ∃ (k : Nat) (t : List UInt8), n = .int .i64 (k : Int) ∧ s = .string ⟨t.toArray⟩ ∧ (k : Int) ≤ 4294967296 ∧ Hid (left k t = R) ∧ W = wr) (fun n _ _ => (intOf n).toNat)
  case atStart => exact ⟨m, [T.hexD d], rfl, rfl, m1, HR, rfl⟩
  case round =>
    clear HR m1 d1
    obtain ⟨k, t, rfl, rfl, k1, HL, rfl⟩ := hrel
    by_cases hk : k = 0
    · subst hk
      have HF : Hid (t = R) := hid (by have := HL.out; unfold left at this; rw [if_pos rfl] at this; exact this)
      clear HL
      go_wp2_with fail
      go_ret
      exact ⟨ret_txt HF.out, rfl⟩
    · have k0 : (0 : Int) < (k : Int) := by omega
      obtain ⟨d, hd⟩ : ∃ d, k % 10 = d := ⟨_, rfl⟩
      obtain ⟨m, hm⟩ : ∃ m, k / 10 = m := ⟨_, rfl⟩
      have HN : Hid (left m (T.hexD d :: t) = R) := hid (by rw [← hd, ← hm, ← left_step k hk t]; exact HL.out)
      have e1 : (k : Int) % 10 = (d : Int) := by omega
      have e2 : (k : Int) / 10 = (m : Int) := by omega
      have d1 : (d : Int) < 10 := by omega
      have x1 : (⟨#[48, 49, 50, 51, 52, 53, 54, 55, 56, 57, 97, 98, 99, 100, 101, 102]⟩ : ByteArray).extract d (d + 1) = ⟨#[T.hexD d]⟩ := dig_ext d (by omega)
      have x2 := bapp (T.hexD d) t
      have HM : Hid ((m : Int) ≤ 4294967296 ∧ m < k) := ⟨by omega, by omega⟩
      have hz : t.length ≤ 10 := left_len k t R HL.out HRL.out
      clear hd hm HL hk
      go_wp2_with fail
      go_roundw
      case measure => have := HM.out.2; simp [intOf]; omega
      case rel => exact ⟨m, T.hexD d :: t, rfl, rfl, HM.out.1, HN, trivial⟩
theorem rTens_any (W : World) (u : Nat) (hu : u ≤ 4294967295) :
    Calls Tryd.prog 15 #[.int .u32 (u : Int)] W fun e W' => e = .returned (.string ⟨(Lib.decDigits u).toArray⟩) ∧ W = W' := by
  have HT := hid (ten_any W u (by omega) u rfl)
  have u1 : (u : Int) ≤ 4294967295 := by omega
  go_enter Tryd.func15, Tryd.ntmps15
  go_wp2_with (go_at_call 26; refine HT.out.mono ?_; rintro e w1 ⟨rfl, rfl⟩)
  go_ret
  exact ⟨rfl, rfl⟩
theorem rMinus_any (W : World) (n : Int) (h0 : -2147483648 ≤ n) (h1 : n ≤ 2147483647) :
    Calls Tryd.prog 31 #[.int .i32 n] W fun e W' => e = .returned (.string ⟨(Lib.itoa n).toArray⟩) ∧ W = W' := by
  by_cases hn : n < 0
  · have HT := hid (ten_any W n.natAbs (by omega) (-n) (by omega))
    have HR : Hid ((45 :: Lib.decDigits n.natAbs) = Lib.itoa n) := hid (by unfold Lib.itoa; rw [if_pos hn])
    have x2 := bapp 45 (Lib.decDigits n.natAbs)
    have hz := dec_len n.natAbs (by omega)
    generalize Lib.decDigits n.natAbs = t at *
    go_enter Tryd.func31, Tryd.ntmps31
    go_wp2_with (go_at_call 26; refine HT.out.mono ?_; rintro e w1 ⟨rfl, rfl⟩)
    go_ret
    exact ⟨ret_txt HR.out, rfl⟩
  · have hn' : 0 ≤ n := by omega
    have HT := hid (ten_any W n.toNat (by omega) n (by omega))
    have HR : Hid (Lib.decDigits n.toNat = Lib.itoa n) := hid (by unfold Lib.itoa; rw [if_neg hn])
    generalize Lib.decDigits n.toNat = t at *
    clear hn
    go_enter Tryd.func31, Tryd.ntmps31
    go_wp2_with (go_at_call 26; refine HT.out.mono ?_; rintro e w1 ⟨rfl, rfl⟩)
    go_ret
    exact ⟨ret_txt HR.out, rfl⟩
end Go.Proofs.YtncnogndopgknaaDoor
