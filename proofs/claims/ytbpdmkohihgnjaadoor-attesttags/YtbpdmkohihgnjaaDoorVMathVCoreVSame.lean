/- Plain mathematics of words of 32 bits: no program. The contracts of the leaves of package word: fields, moves, sums. -/
import Derived.Laws.BitsAllLaws
import Derived.WalkKit
import Derived.Test.YtbpdmkohihgnjaaDoorChecked
import Derived.WalkSpells
import Derived.WalkLawsBesides
import Derived.Deep.QuietTactic
import Derived.BigQuiet
import Derived.Handy
namespace Go.Proofs.YtbpdmkohihgnjaaDoor.V.M
open Go.RowKit

theorem two_pos (n : Nat) : (0 : Int) < 2 ^ n := Int.pow_pos (by decide)
theorem two_nat (n : Nat) : ((2 ^ n : Nat) : Int) = 2 ^ n := by push_cast; rfl
theorem two_le {a b : Nat} (h : a ≤ b) : (2 : Int) ^ a ≤ 2 ^ b := by
  have := Nat.pow_le_pow_right (n := 2) (by decide) h
  have h1 := two_nat a; have h2 := two_nat b
  omega
theorem two_32 : (2 : Int) ^ 32 = 4294967296 := by decide
theorem two_add (a b : Nat) : (2 : Int) ^ (a + b) = 2 ^ a * 2 ^ b := Int.pow_add 2 a b
theorem split32 {lo : Nat} (h : lo ≤ 32) : (2 : Int) ^ lo * 2 ^ (32 - lo) = 4294967296 := by
  rw [← two_add, show lo + (32 - lo) = 32 by omega]; decide

/-- The lowest n bits. -/
theorem and_low (x : Int) (n : Nat) (h0 : 0 ≤ x) (h1 : x < 4294967296) (hn : n ≤ 32) : bits .and .u32 x (2 ^ n - 1) = x % 2 ^ n := by
  have hp := two_pos n
  have hq := two_le hn
  have h32 := two_32
  rw [u32_and x _ h0 h1 (by omega) (by omega)]
  obtain ⟨a, rfl⟩ := Int.eq_ofNat_of_zero_le h0
  have e : ((2 : Int) ^ n - 1).toNat = 2 ^ n - 1 := by have := two_nat n; omega
  rw [e, Int.toNat_natCast, Nat.and_two_pow_sub_one_eq_mod]
  push_cast; rfl

def Fld (w : Int) (lo n : Nat) : Int := w / 2 ^ lo % 2 ^ n
theorem fld_bounds (w : Int) (lo n : Nat) (hn : n ≤ 32) : 0 ≤ Fld w lo n ∧ Fld w lo n < 2 ^ n ∧ Fld w lo n < 4294967296 := by
  have hp := two_pos n
  have hq := two_le hn
  have h32 := two_32
  have a := Int.emod_nonneg (w / 2 ^ lo) (show (2 : Int) ^ n ≠ 0 by omega)
  have b := Int.emod_lt_of_pos (w / 2 ^ lo) hp
  unfold Fld; omega
theorem div_bounds (w : Int) (lo : Nat) (h0 : 0 ≤ w) (h1 : w < 4294967296) : 0 ≤ w / 2 ^ lo ∧ w / 2 ^ lo < 4294967296 := by
  have hp := two_pos lo
  refine ⟨Int.ediv_nonneg h0 (by omega), ?_⟩
  have := Int.ediv_le_self (2 ^ lo) h0
  omega
theorem cut_eq (w : Int) (lo n : Nat) (h0 : 0 ≤ w) (h1 : w < 4294967296) (hn : n ≤ 32) : bits .and .u32 (w / 2 ^ lo) (2 ^ n - 1) = Fld w lo n := by
  have := div_bounds w lo h0 h1
  exact and_low _ n this.1 this.2 hn

/-- A field that is laid. -/
def SetF (w : Int) (lo n : Nat) (v : Int) : Int := w + (v % 2 ^ n - Fld w lo n) * 2 ^ lo

theorem parts (w A B : Int) (hA : 0 < A) (hB : 0 < B) (v : Int) : let x := w + (v % B - w / A % B) * A
    x % A = w % A ∧ x / A = w / A / B * B + v % B ∧ x / A % B = v % B ∧ x / A / B = w / A / B := by
  intro x
  have e1 := Int.emod_add_mul_ediv w A
  have e2 := Int.emod_add_mul_ediv (w / A) B
  have l0 := Int.emod_nonneg w (show A ≠ 0 by omega)
  have l1 := Int.emod_lt_of_pos w hA
  have v0 := Int.emod_nonneg v (show B ≠ 0 by omega)
  have v1 := Int.emod_lt_of_pos v hB
  have hx : x = w % A + A * (w / A / B * B + v % B) := by
    show w + (v % B - w / A % B) * A = _
    generalize w / A % B = m at *
    generalize w / A / B = h at *
    generalize v % B = u at *
    generalize w % A = l at *
    generalize hq : w / A = q at *
    subst e2
    rw [← e1]
    grind
  have x1 : x % A = w % A := by rw [hx, Int.add_mul_emod_self_left, Int.emod_emod]
  have x2 : x / A = w / A / B * B + v % B := by
    rw [hx, Int.add_mul_ediv_left _ _ (by omega), Int.ediv_eq_zero_of_lt l0 l1, Int.zero_add]
  refine ⟨x1, x2, ?_, ?_⟩
  · rw [x2, Int.add_comm, Int.add_mul_emod_self_right, Int.emod_emod]
  · rw [x2, Int.add_comm, Int.add_mul_ediv_right _ _ (by omega), Int.ediv_eq_zero_of_lt v0 v1, Int.zero_add]

theorem setF_parts (w : Int) (lo n : Nat) (v : Int) : SetF w lo n v % 2 ^ lo = w % 2 ^ lo ∧ SetF w lo n v / 2 ^ lo = w / 2 ^ lo / 2 ^ n * 2 ^ n + v % 2 ^ n ∧
    Fld (SetF w lo n v) lo n = v % 2 ^ n ∧ SetF w lo n v / 2 ^ lo / 2 ^ n = w / 2 ^ lo / 2 ^ n := parts w (2 ^ lo) (2 ^ n) (two_pos _) (two_pos _) v
theorem div_div (w : Int) (a b : Nat) : w / 2 ^ (a + b) = w / 2 ^ a / 2 ^ b := by
  rw [two_add, Int.ediv_ediv_of_nonneg (Int.le_of_lt (two_pos a))]
theorem setF_bounds (w : Int) (lo n : Nat) (v : Int) (h0 : 0 ≤ w) (h1 : w < 4294967296) (h : lo + n ≤ 32) : 0 ≤ SetF w lo n v ∧ SetF w lo n v < 4294967296 := by
  obtain ⟨p1, p2, _, p4⟩ := setF_parts w lo n v
  rw [← div_div, ← div_div] at p4
  have hp := two_pos (lo + n)
  have e := split32 h
  have hr := two_pos (32 - (lo + n))
  have a1 : 0 ≤ w / 2 ^ (lo + n) := Int.ediv_nonneg h0 (by omega)
  have a2 : w / 2 ^ (lo + n) < 2 ^ (32 - (lo + n)) := by
    apply Int.ediv_lt_of_lt_mul hp
    rw [Int.mul_comm]; omega
  rw [← p4] at a1 a2
  constructor
  · exact (Int.ediv_nonneg_iff_of_pos hp).1 a1
  · have := Int.lt_mul_of_ediv_lt hp a2
    rw [Int.mul_comm] at this; omega
theorem setF_back (w : Int) (lo n : Nat) (v : Int) : SetF (SetF w lo n v) lo n (Fld w lo n) = w := by
  obtain ⟨p1, p2, p3, p4⟩ := setF_parts w lo n v
  have hp := two_pos n
  have m0 := Int.emod_nonneg (w / 2 ^ lo) (show (2 : Int) ^ n ≠ 0 by omega)
  have m1 := Int.emod_lt_of_pos (w / 2 ^ lo) hp
  have e : Fld w lo n % 2 ^ n = Fld w lo n := Int.emod_eq_of_lt m0 m1
  rw [show SetF (SetF w lo n v) lo n (Fld w lo n) = SetF w lo n v + (Fld w lo n % 2 ^ n - Fld (SetF w lo n v) lo n) * 2 ^ lo from rfl, e, p3]
  unfold SetF
  grind

/-- The machine's way of laying a field. -/
theorem nat_set (w v lo n : Nat) (hw : w < 2 ^ 32) (h : lo + n ≤ 32) :
    (w &&& (4294967295 - (2 ^ n - 1) * 2 ^ lo)) ||| ((v * 2 ^ lo % 4294967296) &&& ((2 ^ n - 1) * 2 ^ lo)) = 2 ^ (lo + n) * (w / 2 ^ (lo + n)) + (2 ^ lo * (v % 2 ^ n) + w % 2 ^ lo) := by
  have hlow : w % 2 ^ lo < 2 ^ lo := Nat.mod_lt _ (Nat.two_pow_pos _)
  have hv : v % 2 ^ n < 2 ^ n := Nat.mod_lt _ (Nat.two_pow_pos _)
  have hmid : 2 ^ lo * (v % 2 ^ n) + w % 2 ^ lo < 2 ^ (lo + n) := by
    rw [Nat.pow_add]
    have h1 : 2 ^ lo * (v % 2 ^ n + 1) ≤ 2 ^ lo * 2 ^ n := Nat.mul_le_mul_left _ hv
    rw [Nat.mul_add, Nat.mul_one] at h1
    omega
  have hM : ∀ i, ((2 ^ n - 1) * 2 ^ lo).testBit i = (decide (lo ≤ i) && decide (i < lo + n)) := by
    intro i
    rw [Nat.testBit_mul_two_pow, Nat.testBit_two_pow_sub_one]
    by_cases h1 : lo ≤ i <;> simp [h1]
    omega
  have hMle : (2 ^ n - 1) * 2 ^ lo < 2 ^ 32 := by
    have : 2 ^ n * 2 ^ lo ≤ 2 ^ 32 := by rw [← Nat.pow_add]; exact Nat.pow_le_pow_right (by decide) (by omega)
    have h1 : 0 < 2 ^ lo := Nat.two_pow_pos _
    have h2 : 0 < 2 ^ n := Nat.two_pow_pos _
    rw [Nat.sub_mul]
    omega
  apply Nat.eq_of_testBit_eq
  intro i
  rw [show (4294967295 : Nat) = 2 ^ 32 - 1 from rfl, show (4294967296 : Nat) = 2 ^ 32 from rfl]
  rw [show 2 ^ 32 - 1 - (2 ^ n - 1) * 2 ^ lo = 2 ^ 32 - ((2 ^ n - 1) * 2 ^ lo + 1) by omega]
  rw [Nat.testBit_two_pow_mul_add _ hmid, Nat.testBit_two_pow_mul_add _ hlow, Nat.testBit_or, Nat.testBit_and, Nat.testBit_and, Nat.testBit_two_pow_sub_succ hMle, hM, Nat.testBit_mod_two_pow, Nat.testBit_mod_two_pow, Nat.testBit_mod_two_pow, Nat.testBit_mul_two_pow, Nat.testBit_div_two_pow]
  have hbig : 32 ≤ i → w.testBit i = false := fun hi => Nat.testBit_lt_two_pow (Nat.lt_of_lt_of_le hw (Nat.pow_le_pow_right (by decide) hi))
  by_cases h1 : i < lo
  · have : i < lo + n := by omega
    have : i < 32 := by omega
    have : ¬ lo ≤ i := by omega
    simp [*]
  · by_cases h2 : i < lo + n
    · have : i < 32 := by omega
      have : lo ≤ i := by omega
      have : i - lo < n := by omega
      simp [*]
    · have : lo ≤ i := by omega
      have e : i - (lo + n) + (lo + n) = i := by omega
      by_cases h3 : i < 32
      · simp [*]
      · have := hbig (by omega)
        simp [*]

theorem setF_eq (w : Int) (lo n : Nat) (v : Int) (h0 : 0 ≤ w) (h1 : w < 4294967296) (v0 : 0 ≤ v) (v1 : v < 4294967296) (h : lo + n ≤ 32) :
    bits .or .u32 (bits .andNot .u32 w ((2 ^ n - 1) * 2 ^ lo % 4294967296)) (bits .and .u32 (v * 2 ^ lo % 4294967296) ((2 ^ n - 1) * 2 ^ lo % 4294967296)) = SetF w lo n v := by
  obtain ⟨w, rfl⟩ := Int.eq_ofNat_of_zero_le h0
  obtain ⟨v, rfl⟩ := Int.eq_ofNat_of_zero_le v0
  have hM : (2 ^ n - 1) * 2 ^ lo < 2 ^ 32 := by
    have : 2 ^ n * 2 ^ lo ≤ 2 ^ 32 := by rw [← Nat.pow_add]; exact Nat.pow_le_pow_right (by decide) (by omega)
    have h1 : 0 < 2 ^ lo := Nat.two_pow_pos _
    have h2 : 0 < 2 ^ n := Nat.two_pow_pos _
    rw [Nat.sub_mul]
    omega
  have e1 : ((2 : Int) ^ n - 1) * 2 ^ lo % 4294967296 = (((2 ^ n - 1) * 2 ^ lo : Nat) : Int) := by
    have h2 : 0 < 2 ^ n := Nat.two_pow_pos _
    have : ((2 ^ n - 1 : Nat) : Int) = 2 ^ n - 1 := by rw [← two_nat]; omega
    rw [← this, ← two_nat lo, ← Int.natCast_mul]
    omega
  have e2 : (v : Int) * 2 ^ lo % 4294967296 = ((v * 2 ^ lo % 4294967296 : Nat) : Int) := by
    rw [Int.natCast_emod, Int.natCast_mul, two_nat]; rfl
  rw [e1, e2, u32_andNot_nat w _ (by omega) (by omega), u32_and_nat _ _ (by omega) (by omega)]
  have hlt1 : w &&& (4294967295 - (2 ^ n - 1) * 2 ^ lo) < 4294967296 := Nat.lt_of_le_of_lt Nat.and_le_left (by omega)
  have hlt2 : (v * 2 ^ lo % 4294967296) &&& ((2 ^ n - 1) * 2 ^ lo) < 4294967296 := Nat.lt_of_le_of_lt Nat.and_le_right (by omega)
  rw [u32_or_nat _ _ hlt1 hlt2, nat_set w v lo n (by omega) h]
  obtain ⟨p1, p2, p3, p4⟩ := setF_parts w lo n v
  have e := Int.emod_add_mul_ediv (SetF w lo n v) (2 ^ lo)
  rw [p1, p2, ← div_div] at e
  rw [← e]
  push_cast
  rw [two_add]
  generalize (2 : Int) ^ lo = A
  generalize (2 : Int) ^ n = B
  grind

/-- Turned to the right. -/
def Rot (w : Int) (k : Nat) : Int := w / 2 ^ k + w % 2 ^ k * 2 ^ (32 - k)
theorem shl_mod (w : Int) (k : Nat) (hk : k ≤ 32) : w * 2 ^ (32 - k) % 4294967296 = w % 2 ^ k * 2 ^ (32 - k) := by
  rw [← split32 hk, Int.mul_comm, Int.mul_comm (2 ^ k), Int.mul_emod_mul_of_pos _ _ (two_pos _), Int.mul_comm]
theorem rot_bounds (w : Int) (k : Nat) (h0 : 0 ≤ w) (h1 : w < 4294967296) (hk : k ≤ 32) : 0 ≤ Rot w k ∧ Rot w k < 4294967296 ∧ w / 2 ^ k < 2 ^ (32 - k) := by
  have hp := two_pos k
  have hq := two_pos (32 - k)
  have e := split32 hk
  have a1 : 0 ≤ w / 2 ^ k := Int.ediv_nonneg h0 (by omega)
  have a2 : w / 2 ^ k < 2 ^ (32 - k) := by
    apply Int.ediv_lt_of_lt_mul hp
    rw [Int.mul_comm]; omega
  have b0 := Int.emod_nonneg w (show (2 : Int) ^ k ≠ 0 by omega)
  have b1 := Int.emod_lt_of_pos w hp
  unfold Rot
  generalize w % 2 ^ k = r at *
  generalize w / 2 ^ k = q at *
  generalize (2 : Int) ^ (32 - k) = C at *
  generalize (2 : Int) ^ k = A at *
  have c0 : 0 ≤ r * C := Int.mul_nonneg b0 (by omega)
  have c1 : (r + 1) * C ≤ A * C := Int.mul_le_mul_of_nonneg_right (by omega) (by omega)
  have c2 : (r + 1) * C = r * C + C := by grind
  omega
theorem rot_eq (w : Int) (k : Nat) (h0 : 0 ≤ w) (h1 : w < 4294967296) (hk : k ≤ 31) : bits .or .u32 (w / 2 ^ k) (w * 2 ^ (32 - k) % 4294967296) = Rot w k := by
  obtain ⟨a1, a2⟩ := div_bounds w k h0 h1
  have a3 := (rot_bounds w k h0 h1 (by omega)).2.2
  have hc := Int.emod_nonneg (w * 2 ^ (32 - k)) (show (4294967296 : Int) ≠ 0 by decide)
  have hd := Int.emod_lt_of_pos (w * 2 ^ (32 - k)) (show (0 : Int) < 4294967296 by decide)
  rw [u32_or _ _ a1 a2 hc hd]
  rw [shl_mod w k (by omega)] at hc ⊢
  have hp := two_pos k
  have b0 := Int.emod_nonneg w (show (2 : Int) ^ k ≠ 0 by omega)
  unfold Rot
  obtain ⟨q, hq⟩ := Int.eq_ofNat_of_zero_le a1
  obtain ⟨r, hr⟩ := Int.eq_ofNat_of_zero_le b0
  rw [hq] at a3 ⊢
  rw [hr]
  rw [← two_nat] at a3 ⊢
  rw [← Int.natCast_mul, Int.toNat_natCast, Int.toNat_natCast, Nat.or_comm, nat_join (32 - k) _ _ (Nat.mul_mod_left _ _) (by omega)]
  omega
theorem rot_back (w : Int) (k : Nat) (h0 : 0 ≤ w) (h1 : w < 4294967296) (hk : k ≤ 32) : Rot (Rot w k) (32 - k) = w := by
  have hp := two_pos k
  have hq := two_pos (32 - k)
  have a1 : 0 ≤ w / 2 ^ k := Int.ediv_nonneg h0 (by omega)
  have a3 := (rot_bounds w k h0 h1 (by omega)).2.2
  have e := Int.emod_add_mul_ediv w (2 ^ k)
  have d1 : Rot w k / 2 ^ (32 - k) = w % 2 ^ k := by
    unfold Rot
    rw [Int.add_mul_ediv_right _ _ (by omega), Int.ediv_eq_zero_of_lt a1 a3, Int.zero_add]
  have d2 : Rot w k % 2 ^ (32 - k) = w / 2 ^ k := by
    unfold Rot
    rw [Int.add_mul_emod_self_right, Int.emod_eq_of_lt a1 a3]
  rw [show Rot (Rot w k) (32 - k) = Rot w k / 2 ^ (32 - k) + Rot w k % 2 ^ (32 - k) * 2 ^ (32 - (32 - k)) from rfl, d1, d2, show 32 - (32 - k) = k by omega, Int.mul_comm]
  exact e
theorem rot_zero (w : Int) : Rot w 0 = w := by unfold Rot; simp [Int.emod_one]
theorem rot_low (w : Int) (k : Nat) (hk : k ≤ 31) : Rot w k % 2 = w / 2 ^ k % 2 := by
  unfold Rot
  rw [show 32 - k = (31 - k) + 1 by omega, Int.pow_succ, ← Int.mul_assoc, Int.add_mul_emod_self_right]

/-- As a number with a sign. -/
def Ext (w : Int) (n : Nat) : Int := if w % 2 ^ n < 2 ^ (n - 1) then w % 2 ^ n else w % 2 ^ n - 2 ^ n
theorem nat_xor_bit (k m : Nat) (h : m < 2 ^ (k + 1)) : m ^^^ 2 ^ k = if m < 2 ^ k then m + 2 ^ k else m - 2 ^ k := by
  have hx : ∀ r, r < 2 ^ k → r ^^^ 2 ^ k = r + 2 ^ k := by
    intro r hr
    rw [← nat_join k (2 ^ k) r (by simp) hr |>.trans (Nat.add_comm _ _), Nat.or_comm]
    apply Nat.eq_of_testBit_eq
    intro i
    rw [Nat.testBit_xor, Nat.testBit_or, Nat.testBit_two_pow]
    by_cases hi : k = i
    · subst hi
      rw [Nat.testBit_lt_two_pow hr]; simp
    · simp [hi]
  split
  · exact hx m ‹_›
  · have h2 : m - 2 ^ k < 2 ^ k := by rw [Nat.pow_succ] at h; omega
    have := hx _ h2
    rw [show m - 2 ^ k + 2 ^ k = m by omega] at this
    rw [← this, Nat.xor_assoc, Nat.xor_self, Nat.xor_zero, this]
theorem ext_sign (n : Nat) (h1 : 1 ≤ n) (hn : n ≤ 32) : bits .xor .u32 (2 ^ n - 1) (2 ^ (n - 1) - 1) = 2 ^ (n - 1) := by
  obtain ⟨k, rfl⟩ : ∃ k, n = k + 1 := ⟨n - 1, by omega⟩
  have hp := two_pos k
  have hq := two_le hn
  have hs : (2 : Int) ^ (k + 1) = 2 ^ k * 2 := Int.pow_succ 2 k
  have h32 := two_32
  rw [Nat.add_sub_cancel, u32_xor _ _ (by omega) (by omega) (by omega) (by omega)]
  have e1 : ((2 : Int) ^ (k + 1) - 1).toNat = 2 ^ (k + 1) - 1 := by have := two_nat (k + 1); omega
  have e2 : ((2 : Int) ^ k - 1).toNat = 2 ^ k - 1 := by have := two_nat k; omega
  rw [e1, e2, ← two_nat]
  congr 1
  apply Nat.eq_of_testBit_eq
  intro i
  rw [Nat.testBit_xor, Nat.testBit_two_pow_sub_one, Nat.testBit_two_pow_sub_one, Nat.testBit_two_pow]
  by_cases a : i < k
  · have : i < k + 1 := by omega
    have : ¬ k = i := by omega
    simp [*]
  · by_cases b : i = k
    · subst b; simp
    · have : ¬ i < k + 1 := by omega
      have : ¬ k = i := by omega
      simp [*]
theorem ext_eq (w : Int) (n : Nat) (h1n : 1 ≤ n) (hn : n ≤ 32) :
    wrap32 ((bits .xor .u32 (w % 2 ^ n) (2 ^ (n - 1)) - 2 ^ (n - 1)) % 4294967296) = Ext w n ∧ -2147483648 ≤ Ext w n ∧ Ext w n < 2147483648 := by
  obtain ⟨k, rfl⟩ : ∃ k, n = k + 1 := ⟨n - 1, by omega⟩
  rw [Nat.add_sub_cancel]
  have hp := two_pos k
  have hq := two_le hn
  have hs : (2 : Int) ^ (k + 1) = 2 ^ k * 2 := Int.pow_succ 2 k
  have h32 := two_32
  have m0 := Int.emod_nonneg w (show (2 : Int) ^ (k + 1) ≠ 0 by omega)
  have m1 := Int.emod_lt_of_pos w (show (0 : Int) < 2 ^ (k + 1) by omega)
  rw [u32_xor _ _ m0 (by omega) (by omega) (by omega)]
  have e2 : ((2 : Int) ^ k).toNat = 2 ^ k := by have := two_nat k; omega
  have em : (w % 2 ^ (k + 1)).toNat < 2 ^ (k + 1) := by have := two_nat (k + 1); omega
  rw [e2, nat_xor_bit k _ em]
  unfold Ext
  rw [Nat.add_sub_cancel]
  have h2 := two_nat k
  generalize w % 2 ^ (k + 1) = m at *
  simp only [wrap32]
  by_cases hm : m < 2 ^ k
  · rw [if_pos hm, if_pos (by omega)]
    omega
  · rw [if_neg hm, if_neg (by omega)]
    omega
end Go.Proofs.YtbpdmkohihgnjaaDoor.V.M
namespace Go.Proofs.YtbpdmkohihgnjaaDoor.V
open Go.RowKit

/-- The table of masks lies where its initialiser laid it. -/
def Tab (W : World) : Prop := ∀ i : Nat, i ≤ 32 → W.cell? ⟨0, i, none⟩ = some (.int .u32 (2 ^ i - 1))
theorem Tab.drewN {W : World} (h : Tab W) (k : Nat) : Tab (W.drewN k) := fun i hi => (World.cell?_drewN W k _).trans (h i hi)
theorem Tab.below {W w : World} {B : Nat} (h : Tab W) (hb : Below B W w) (hB : 0 < B) : Tab w := fun i hi => (hb.cell (p := ⟨0, i, none⟩) hB).trans (h i hi)
theorem ret_int {k : IntKind} {a b : Int} (h : a = b) : Ending.returned (.int k a) = .returned (.int k b) := by rw [h]
theorem ret_bool {a b : Bool} (h : a = b) : Ending.returned (.bool a) = .returned (.bool b) := by rw [h]

theorem cut_any (W : World) (hT : Tab W) (w lo n : Int) (w0 : 0 ≤ w) (w1 : w < 4294967296) (l0 : 0 ≤ lo) (n0 : 0 ≤ n) (hn : n ≤ 32) (l1 : lo ≤ 31) :
    Calls Tryd.prog 41 #[.int .u32 w, .int .i64 lo, .int .i64 n] W fun e W' => e = .returned (.int .u32 (M.Fld w lo.toNat n.toNat)) ∧ ∃ k, W' = W.drewN k := by
  obtain ⟨l, rfl⟩ := Int.eq_ofNat_of_zero_le l0
  obtain ⟨m, rfl⟩ := Int.eq_ofNat_of_zero_le n0
  have h := hT m (by omega)
  have H : Hid (bits .and .u32 (w / 2 ^ l) (2 ^ m - 1) = M.Fld w l m) := M.cut_eq w l m w0 w1 (by omega)
  clear hT
  go_enter Tryd.func41, Tryd.ntmps41
  go_wp2
  go_quiet (fail)
  go_wp2
  go_ret
  exact ⟨ret_int (by rw [Int.toNat_natCast, Int.toNat_natCast]; exact H.out), _, rfl⟩

end Go.Proofs.YtbpdmkohihgnjaaDoor.V
namespace Go.Proofs.YtbpdmkohihgnjaaDoor.V
open Go.RowKit

theorem ret_bool_int {k : IntKind} {a b : Bool} {n : Int} (h : a = b) : Ending.returned (.tuple #[.bool a, .int k n]) = .returned (.tuple #[.bool b, .int k n]) := by rw [h]
theorem or_xor_zero (p x y : Int) (p0 : 0 ≤ p) (p1 : p < 4294967296) (x0 : 0 ≤ x) (x1 : x < 4294967296) (y0 : 0 ≤ y) (y1 : y < 4294967296) :
    0 ≤ bits .or .u32 p (bits .xor .u32 x y) ∧ bits .or .u32 p (bits .xor .u32 x y) < 4294967296 ∧ (bits .or .u32 p (bits .xor .u32 x y) = 0 ↔ p = 0 ∧ x = y) := by
  obtain ⟨p, rfl⟩ := Int.eq_ofNat_of_zero_le p0
  obtain ⟨x, rfl⟩ := Int.eq_ofNat_of_zero_le x0
  obtain ⟨y, rfl⟩ := Int.eq_ofNat_of_zero_le y0
  have hx : x ^^^ y < 4294967296 := Nat.xor_lt_two_pow (n := 32) (by omega) (by omega)
  have ho : p ||| (x ^^^ y) < 4294967296 := Nat.or_lt_two_pow (n := 32) (by omega) (by omega)
  rw [u32_xor_nat _ _ (by omega) (by omega), u32_or_nat _ _ (by omega) hx]
  refine ⟨by omega, by omega, ?_⟩
  rw [show ((p ||| (x ^^^ y) : Nat) : Int) = 0 ↔ p ||| (x ^^^ y) = 0 by omega, Nat.or_eq_zero_iff]
  have e : x ^^^ y = 0 ↔ x = y := by
    constructor
    · intro h
      have h2 : x ^^^ y ^^^ y = 0 ^^^ y := by rw [h]
      rwa [Nat.xor_assoc, Nat.xor_self, Nat.xor_zero, Nat.zero_xor] at h2
    · rintro rfl; exact Nat.xor_self _
  rw [e]
  omega

/-- The cells from ⟨b, off⟩ on hold these numbers. -/
def Row (W : World) (k : IntKind) (b off : Nat) (xs : List Int) : Prop := ∀ i, i < xs.length → W.cell? ⟨b, off + i, none⟩ = some (.int k (xs.getD i 0))
/-- All are words. -/
def Wds (xs : List Int) : Prop := ∀ i, 0 ≤ xs.getD i 0 ∧ xs.getD i 0 < 4294967296
theorem Row.drewN {W : World} {k : IntKind} {b off : Nat} {xs : List Int} (h : Row W k b off xs) (d : Nat) : Row (W.drewN d) k b off xs := fun i hi => (World.cell?_drewN W d _).trans (h i hi)
theorem Row.below {W w : World} {B : Nat} {k : IntKind} {b off : Nat} {xs : List Int} (h : Row W k b off xs) (hb : Below B W w) (hB : b < B) : Row w k b off xs := fun i hi => (hb.cell (p := ⟨b, off + i, none⟩) hB).trans (h i hi)

theorem take_same (xs ys : List Int) (n k : Nat) (hx : xs.length = n) (hy : ys.length = n) (hk : k < n) : xs.take (k + 1) = ys.take (k + 1) ↔ xs.take k = ys.take k ∧ xs.getD k 0 = ys.getD k 0 := by
  rw [List.take_succ_eq_append_getElem (by omega), List.take_succ_eq_append_getElem (by omega)]
  have e1 : xs.getD k 0 = xs[k] := by simp [List.getD_eq_getElem?_getD, show k < xs.length by omega]
  have e2 : ys.getD k 0 = ys[k] := by simp [List.getD_eq_getElem?_getD, show k < ys.length by omega]
  rw [e1, e2]
  constructor
  · intro h
    obtain ⟨a, b⟩ := List.append_inj' h rfl
    exact ⟨a, by simpa using b⟩
  · rintro ⟨a, b⟩
    rw [a, b]

theorem same_unlike (W : World) (ao bo : Option Addr) (n m ca cb : Nat) (h : n ≠ m) :
    Calls Tryd.prog 64 #[.slice ao n ca, .slice bo m cb] W fun e W' => e = .returned (.tuple #[.bool false, .int .i64 0]) ∧ W = W' := by
  have h' : (((n : Int) != (m : Int))) = true := by simp; omega
  go_enter Tryd.func64, Tryd.ntmps64
  go_wp2
  go_ret2
  exact ⟨rfl, rfl⟩

theorem same_like (W : World) (b1 o1 b2 o2 : Nat) (n c1 c2 : Nat) (xs ys : List Int) (hx : xs.length = n) (hy : ys.length = n) (wx : Wds xs) (wy : Wds ys) (h1 : Row W .u32 b1 o1 xs) (h2 : Row W .u32 b2 o2 ys) (hn : n ≤ 140737488351232) :
    Calls Tryd.prog 64 #[.slice (some ⟨b1, o1, none⟩) n c1, .slice (some ⟨b2, o2, none⟩) n c2] W fun e W' => e = .returned (.tuple #[.bool (decide (xs = ys)), .int .i64 n]) ∧ ∃ k, W' = W.drewN k := by
  go_enter Tryd.func64, Tryd.ntmps64
  go_wp2
  go_loopw [5, 6, 15] (fun l p i wr => ∃ k : Nat, k ≤ n ∧ i = .int .i64 k ∧ l = .int .i64 k ∧ (∃ q : Int, p = .int .u32 q ∧ 0 ≤ q ∧ q < 4294967296 ∧ (q = 0 ↔ xs.take k = ys.take k)) ∧ ∃ d, wr = W.drewN d) (fun _ _ i _ => n - (intOf i).toNat)
  case atStart => exact ⟨0, Nat.zero_le _, rfl, rfl, ⟨0, rfl, by decide, by decide, by simp⟩, 0, rfl⟩
  case round =>
    obtain ⟨k, hk, rfl, rfl, ⟨q, rfl, q0, q1, hq⟩, d, rfl⟩ := hrel
    have HQ : Hid (q = 0 ↔ xs.take k = ys.take k) := hq
    clear hq
    by_cases hlt : k < n
    · have g1 := h1 k (by omega)
      have g2 := h2 k (by omega)
      have HX := or_xor_zero q _ _ q0 q1 (wx k).1 (wx k).2 (wy k).1 (wy k).2
      have HT := take_same xs ys n k hx hy hlt
      generalize xs.getD k 0 = x at *
      generalize ys.getD k 0 = y at *
      have HH : Hid (0 ≤ bits .or .u32 q (bits .xor .u32 x y) ∧ bits .or .u32 q (bits .xor .u32 x y) < 4294967296 ∧ (bits .or .u32 q (bits .xor .u32 x y) = 0 ↔ xs.take (k + 1) = ys.take (k + 1))) := by
        refine ⟨HX.1, HX.2.1, ?_⟩
        rw [HX.2.2, HT, HQ.out]
      clear HX HT HQ
      go_wp2
      go_quiet (fail)
      go_wp2
      go_roundw
      case rel => exact ⟨k + 1, by omega, by go_num, by go_num, ⟨_, rfl, HH.out.1, HH.out.2.1, HH.out.2.2⟩, _, rfl⟩
      case measure => simp [intOf]; omega
    · obtain rfl : k = n := by omega
      have HQ' : Hid (∀ x : Bool, x = (q == 0) → x = decide (xs = ys)) := by
        intro x hx'
        have := HQ.out
        rw [List.take_of_length_le (by omega), List.take_of_length_le (by omega)] at this
        rw [hx', Bool.eq_iff_iff, beq_iff_eq, this, decide_eq_true_eq]
      clear HQ
      go_wp2
      go_ret2
      exact ⟨ret_bool_int (HQ'.out _ rfl), _, rfl⟩
end Go.Proofs.YtbpdmkohihgnjaaDoor.V
