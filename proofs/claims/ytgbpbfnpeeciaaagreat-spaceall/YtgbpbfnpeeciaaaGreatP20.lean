import Derived.Test.YtgbpbfnpeeciaaaGreatP01
import Derived.Laws.BitsAllLaws
namespace Go.Proofs.YtgbpbfnpeeciaaaGreat
open Go.RowKit
theorem two_nat (n : Nat) : ((2 ^ n : Nat) : Int) = 2 ^ n := by push_cast; rfl
theorem or_eq (a b : Int) (k : Nat) (ha : 0 ≤ a) (hb : 0 ≤ b) (hb2 : b < 2 ^ k) (h : a * 2 ^ k < 4294967296) (hb3 : b < 4294967296) : bits .or .u32 (a * 2 ^ k) b = a * 2 ^ k + b := by
  have hp : (0 : Int) < 2 ^ k := Int.pow_pos (by decide)
  have h0 : 0 ≤ a * 2 ^ k := Int.mul_nonneg ha (by omega)
  rw [u32_or _ _ h0 h hb hb3]
  obtain ⟨x, rfl⟩ := Int.eq_ofNat_of_zero_le ha
  obtain ⟨y, rfl⟩ := Int.eq_ofNat_of_zero_le hb
  have hy : y < 2 ^ k := by have := two_nat k; omega
  have e : ((x : Int) * 2 ^ k).toNat = 2 ^ k * x := by rw [← two_nat, ← Int.natCast_mul, Int.toNat_natCast, Nat.mul_comm]
  rw [e, Int.toNat_natCast, ← Nat.two_pow_add_eq_or_of_lt hy x]
  push_cast
  rw [Int.mul_comm]
theorem and_bit (a : Int) (k : Nat) (ha : 0 ≤ a) (h : a < 4294967296) (hk : k < 32) : bits .and .u32 a (2 ^ k) = a / 2 ^ k % 2 * 2 ^ k := by
  have hp : (0 : Int) < 2 ^ k := Int.pow_pos (by decide)
  have hq : (2 : Nat) ^ k < 2 ^ 32 := Nat.pow_lt_pow_right (by decide) hk
  have hq2 := two_nat k
  rw [u32_and _ _ ha h (by omega) (by omega)]
  obtain ⟨x, rfl⟩ := Int.eq_ofNat_of_zero_le ha
  rw [← two_nat, Int.toNat_natCast, Int.toNat_natCast]
  have hbit : x.testBit k = decide (x / 2 ^ k % 2 = 1) := Nat.testBit_eq_decide_div_mod_eq
  rcases Nat.mod_two_eq_zero_or_one (x / 2 ^ k) with h0 | h1
  · have : (x : Int) / ((2 ^ k : Nat) : Int) % 2 = 0 := by omega
    have e : x &&& 2 ^ k = 0 := by
      apply Nat.eq_of_testBit_eq
      intro i
      rw [Nat.testBit_and, Nat.testBit_two_pow]
      by_cases hi : k = i
      · subst hi; simp [hbit, h0]
      · simp [hi]
    rw [this, e]; simp
  · have : (x : Int) / ((2 ^ k : Nat) : Int) % 2 = 1 := by omega
    have e : x &&& 2 ^ k = 2 ^ k := by
      apply Nat.eq_of_testBit_eq
      intro i
      rw [Nat.testBit_and, Nat.testBit_two_pow]
      by_cases hi : k = i
      · subst hi; simp [hbit, h1]
      · simp [hi]
    rw [this, e]; simp
theorem w_below_any (W : World) (n l : Int) (b : Bool) (hb : decide (0 ≤ n ∧ n < l) = b) :
    Calls Tryz.prog 110 #[.int .i64 n, .int .i64 l] W fun x W' => x = .returned (.bool b) ∧ W' = W := by
  go_enter Tryz.func110, Tryz.ntmps110
  by_cases h : 0 ≤ n
  · by_cases h2 : n < l
    · have e : b = true := by rw [← hb]; simp [h, h2]
      subst e
      clear hb
      go_wp2_with fail
      go_ret
      exact ⟨rfl, rfl⟩
    · have e : b = false := by rw [← hb]; simp [h]; omega
      subst e
      clear hb
      go_wp2_with fail
      go_ret
      exact ⟨rfl, rfl⟩
  · have e : b = false := by rw [← hb, decide_eq_false (by omega)]
    subst e
    clear hb
    go_wp2_with fail
    go_ret
    exact ⟨rfl, rfl⟩
theorem bit_any (W : World) (s : Bool) (b : Int) :
    Calls Tryz.prog 115 #[.bool s, .int .u32 b] W fun x W' => x = .returned (.int .u32 (if s then b else 0)) ∧ W' = W := by
  cases s
  all_goals go_enter Tryz.func115, Tryz.ntmps115
  all_goals go_wp2_with fail
  all_goals go_ret
  all_goals exact ⟨rfl, rfl⟩
theorem number_any (W : World) (v : Int) (h0 : 0 ≤ v) (h1 : v < 4294967296) :
    Calls Tryz.prog 127 #[.int .u32 v] W fun x W' => x = .returned (.int .i64 (v / 256)) ∧ W' = W := by
  go_enter Tryz.func127, Tryz.ntmps127
  go_wp2_with fail
  go_ret
  exact ⟨rfl, rfl⟩
def VaOk (v : Int) : Prop := v < 1073741824 ∧ v % 4 = 0
instance (v : Int) : Decidable (VaOk v) := by unfold VaOk; exact inferInstance
def spI (v : Int) : Int := if VaOk v then v / 4194304 else 0
def spJ (v : Int) : Int := if VaOk v then v / 4096 % 1024 else 0
def spO (v : Int) : Int := if VaOk v then v / 4 % 1024 else 0
def spE (v : Int) : Int := if VaOk v then 0 else 91
theorem split_any (W : World) (v : Int) (h0 : 0 ≤ v) (h1 : v < 4294967296) :
    Calls Tryz.prog 111 #[.int .u32 v] W fun x W' => x = .returned (.tuple #[.int .i64 (spI v), .int .i64 (spJ v), .int .i64 (spO v), .int .i64 (spE v)]) ∧ W' = W := by
  unfold spI spJ spO spE
  by_cases h : VaOk v
  · simp only [if_pos h]
    obtain ⟨a, b⟩ := h
    go_enter Tryz.func111, Tryz.ntmps111
    go_wp2_with fail
    go_returns
    exact ⟨rfl, rfl⟩
  · simp only [if_neg h]
    have h' : 1073741824 ≤ v ∨ v % 4 ≠ 0 := by unfold VaOk at h; omega
    clear h
    go_enter Tryz.func111, Tryz.ntmps111
    by_cases h2 : 1073741824 ≤ v
    · go_wp2_with fail
      go_returns
      exact ⟨rfl, rfl⟩
    · have h3 : v % 4 ≠ 0 := by omega
      go_wp2_with fail
      go_returns
      exact ⟨rfl, rfl⟩
def Pg (p : Int) : Prop := 0 ≤ p ∧ p < 64
instance (v : Int) : Decidable (Pg v) := by unfold Pg; exact inferInstance
def fW (p : Int) : Int := if Pg p then 256 * p + 1 else 0
def fE (p : Int) : Int := if Pg p then 0 else 4
theorem first_any (W : World) (p : Int) :
    Calls Tryz.prog 82 #[.int .i64 p] W fun x W' => x = .returned (.tuple #[.int .u32 (fW p), .int .i64 (fE p)]) ∧ W' = W := by
  unfold fW fE
  by_cases h : Pg p
  · simp only [if_pos h]
    have HB := hid (w_below_any W p 64 true (decide_eq_true h))
    obtain ⟨h0, h1⟩ := h
    have e2 := or_eq p 1 8 h0 (by decide) (by decide) (by omega) (by decide)
    simp only [Int.reducePow] at e2
    have e3 : p * 256 + 1 = 256 * p + 1 := by omega
    rw [e3] at e2
    clear e3
    go_enter Tryz.func82, Tryz.ntmps82
    go_wp2_with (first | (go_at_call 110; refine HB.out.mono ?_; rintro x w1 ⟨rfl, rfl⟩))
    go_returns
    simp
  · simp only [if_neg h]
    have HB := hid (w_below_any W p 64 false (decide_eq_false h))
    clear h
    go_enter Tryz.func82, Tryz.ntmps82
    go_wp2_with (first | (go_at_call 110; refine HB.out.mono ?_; rintro x w1 ⟨rfl, rfl⟩))
    go_returns
    exact ⟨rfl, rfl⟩
def JoinOk (i j o : Int) : Prop := (0 ≤ i ∧ i < 256) ∧ (0 ≤ j ∧ j < 1024) ∧ (0 ≤ o ∧ o < 1024)
instance (i j o : Int) : Decidable (JoinOk i j o) := by unfold JoinOk; exact inferInstance
def jW (i j o : Int) : Int := if JoinOk i j o then i * 4194304 + j * 4096 + o * 4 else 0
def jE (i j o : Int) : Int := if JoinOk i j o then 0 else 4
set_option maxHeartbeats 4000000 in
def PfOk (v : Int) : Prop := Pg (v / 256) ∧ 256 * (v / 256) + 1 = v
instance (v : Int) : Decidable (PfOk v) := by unfold PfOk; exact inferInstance
def pfE (v : Int) : Int := if v = 0 then 92 else if PfOk v then 0 else 90
def pf (v : Int) : Int := if PfOk v then v / 256 else 0
def fnV (k : Nat) : Value := .func (.func k) #[] #[]
set_option maxHeartbeats 4000000 in
theorem told_any (W : World) (v : Int) (h0 : 0 ≤ v) (h1 : v < 4294967296) :
    Calls Tryz.prog 126 #[.int .u32 v, fnV 127, fnV 82] W fun x W' => x = .returned (.tuple #[.int .i64 (pf v), .int .i64 (pfE v)]) ∧ W' = W := by
  have HN := hid (number_any W v h0 h1)
  have HF := hid (first_any W (v / 256))
  unfold pf pfE
  unfold fnV
  by_cases hv : v = 0
  · subst hv
    clear HN HF h0 h1
    rw [if_neg (by unfold PfOk; decide), if_pos rfl]
    go_enter Tryz.func126, Tryz.ntmps126
    go_wp2_with fail
    go_returns
    exact ⟨rfl, rfl⟩
  · rw [if_neg hv]
    unfold fW fE at HF
    by_cases hp : Pg (v / 256)
    · simp only [if_pos hp] at HF
      by_cases he : 256 * (v / 256) + 1 = v
      · simp only [if_pos (show PfOk v from ⟨hp, he⟩)]
        rw [he] at HF
        clear hp
        go_enter Tryz.func126, Tryz.ntmps126
        go_wp2_with fail
        refine HN.out.mono ?_
        rintro x w1 ⟨rfl, rfl⟩
        go_wp2_with fail
        refine HF.out.mono ?_
        rintro x w1 ⟨rfl, rfl⟩
        go_wp2_with fail
        go_returns
        exact ⟨rfl, rfl⟩
      · simp only [if_neg (show ¬ PfOk v from fun h => he h.2)]
        obtain ⟨p1, p2⟩ := hp
        go_enter Tryz.func126, Tryz.ntmps126
        go_wp2_with fail
        refine HN.out.mono ?_
        rintro x w1 ⟨rfl, rfl⟩
        go_wp2_with fail
        refine HF.out.mono ?_
        rintro x w1 ⟨rfl, rfl⟩
        go_wp2_with fail
        go_returns
        exact ⟨rfl, rfl⟩
    · simp only [if_neg hp] at HF
      simp only [if_neg (show ¬ PfOk v from fun h => hp h.1)]
      clear hp
      go_enter Tryz.func126, Tryz.ntmps126
      go_wp2_with fail
      refine HN.out.mono ?_
      rintro x w1 ⟨rfl, rfl⟩
      go_wp2_with fail
      refine HF.out.mono ?_
      rintro x w1 ⟨rfl, rfl⟩
      go_wp2_with fail
      go_returns
      exact ⟨rfl, rfl⟩
theorem pf_any (W : World) (v : Int) (h0 : 0 ≤ v) (h1 : v < 4294967296) :
    Calls Tryz.prog 119 #[.int .u32 v] W fun x W' => x = .returned (.tuple #[.int .i64 (pf v), .int .i64 (pfE v)]) ∧ W' = W := by
  have HT := hid (told_any W v h0 h1)
  unfold fnV at HT
  generalize pf v = A at *
  generalize pfE v = B at *
  go_enter Tryz.func119, Tryz.ntmps119
  go_wp2_with fail
  refine HT.out.mono ?_
  rintro x w1 ⟨rfl, rfl⟩
  go_wp2_with fail
  go_returns
  exact ⟨rfl, rfl⟩
end Go.Proofs.YtgbpbfnpeeciaaaGreat
