import Derived.OrdersHeld
import Derived.WalkKit
import Derived.WalkSpells
import Derived.WalkLawsBesides
import Derived.Laws.BitsAllLaws
import Derived.ProofKit
import Derived.Test.YtncnogndopgknaaGreatDoorChecked
import Derived.Deep.QuietTactic
import Derived.BigQuiet
import Derived.BigRegion
import Derived.Handy
import Derived.Deep.RegionWith
import Derived.Deep.RegionHeld3
import Derived.Deep.MidRow
import Derived.Deep.DrawnRows
import Derived.Lib.AppendStr
import Derived.Lib.UnsafeStr
import Derived.Laws.IdiomStrings
import Derived.Laws.AppendOwnNone
import Derived.Defers
import Derived.Recover
namespace Go.Proofs.YtncnogndopgknaaGreatDoor
open Go.RowKit
theorem tk {P : Program} {md : Region.Mode} {ops : Array Oper} {Q : Exit → Act → World → Prop} {S : World → Prop} (i : Nat) (oi : Oper) (v : Value) {fuel : Nat} {listed : Array Bool} {a : Act} {w : World}
    (h : wpAnyH P md ops Q S fuel (listed.setIfInBounds i true) (a.put oi.dst v) w) (hi : ops[i]? = some oi := by rfl) (hs : Region.noSelect ops = true := by kernel_rfl) (hf : Region.free md ops listed i = true := by kernel_rfl) (hr : (Region.ready md ops listed).contains i = true := by kernel_rfl)
    (hQ : ∀ c a w, Q (.panic c) (a.put oi.dst v) w → Q (.panic c) a w := by exact fun _ _ _ h => h) (hy : YieldsIf P ops S oi v a := by exact Or.inl ⟨by rfl, by intro w hSw; go_simp⟩) (hS : S w := by assumption) : wpAnyH P md ops Q S (fuel + 1) listed a w :=
  wpAnyH_take hi hs hf hr hQ hy hS h
end Go.Proofs.YtncnogndopgknaaGreatDoor
namespace Go.Proofs.YtncnogndopgknaaGreatDoor.M
open Go.RowKit

theorem two_pos (n : Nat) : (0 : Int) < 2 ^ n := Int.pow_pos (by decide)
theorem two_nat (n : Nat) : ((2 ^ n : Nat) : Int) = 2 ^ n := by push_cast; rfl
theorem two_le {a b : Nat} (h : a ≤ b) : (2 : Int) ^ a ≤ 2 ^ b := by
  have := Nat.pow_le_pow_right (n := 2) (by decide) h
  have h1 := two_nat a; have h2 := two_nat b
  omega
theorem two_32 : (2 : Int) ^ 32 = 4294967296 := by decide
theorem two_add (a b : Nat) : (2 : Int) ^ (a + b) = 2 ^ a * 2 ^ b := Int.pow_add 2 a b
theorem split32 {lo : Nat} (h : lo ≤ 32) : (2 : Int) ^ lo * 2 ^ (32 - lo) = 4294967296 := by
  rw [← two_add, show lo + (32 - lo) = 32 by omega]; decide

theorem and_low (x : Int) (n : Nat) (h0 : 0 ≤ x) (h1 : x < 4294967296) (hn : n ≤ 32) : bits .and .u32 x (2 ^ n - 1) = x % 2 ^ n := by
  have hp := two_pos n
  have hq := two_le hn
  have h32 := two_32
  rw [u32_and x _ h0 h1 (by omega) (by omega)]
  obtain ⟨a, rfl⟩ := Int.eq_ofNat_of_zero_le h0
  have e : ((2 : Int) ^ n - 1).toNat = 2 ^ n - 1 := by have := two_nat n; omega
  rw [e, Int.toNat_natCast, Nat.and_two_pow_sub_one_eq_mod]
  push_cast; rfl

def Fld (w : Int) (lo n : Nat) : Int := w / 2 ^ lo % 2 ^ n
theorem fld_bounds (w : Int) (lo n : Nat) (hn : n ≤ 32) : 0 ≤ Fld w lo n ∧ Fld w lo n < 2 ^ n ∧ Fld w lo n < 4294967296 := by
  have hp := two_pos n
  have hq := two_le hn
  have h32 := two_32
  have a := Int.emod_nonneg (w / 2 ^ lo) (show (2 : Int) ^ n ≠ 0 by omega)
  have b := Int.emod_lt_of_pos (w / 2 ^ lo) hp
  unfold Fld; omega
theorem div_bounds (w : Int) (lo : Nat) (h0 : 0 ≤ w) (h1 : w < 4294967296) : 0 ≤ w / 2 ^ lo ∧ w / 2 ^ lo < 4294967296 := by
  have hp := two_pos lo
  refine ⟨Int.ediv_nonneg h0 (by omega), ?_⟩
  have := Int.ediv_le_self (2 ^ lo) h0
  omega
theorem cut_eq (w : Int) (lo n : Nat) (h0 : 0 ≤ w) (h1 : w < 4294967296) (hn : n ≤ 32) : bits .and .u32 (w / 2 ^ lo) (2 ^ n - 1) = Fld w lo n := by
  have := div_bounds w lo h0 h1
  exact and_low _ n this.1 this.2 hn

def SetF (w : Int) (lo n : Nat) (v : Int) : Int := w + (v % 2 ^ n - Fld w lo n) * 2 ^ lo

theorem parts (w A B : Int) (hA : 0 < A) (hB : 0 < B) (v : Int) : let x := w + (v % B - w / A % B) * A
    x % A = w % A ∧ x / A = w / A / B * B + v % B ∧ x / A % B = v % B ∧ x / A / B = w / A / B := by
  intro x
  have e1 := Int.emod_add_mul_ediv w A
  have e2 := Int.emod_add_mul_ediv (w / A) B
  have l0 := Int.emod_nonneg w (show A ≠ 0 by omega)
  have l1 := Int.emod_lt_of_pos w hA
  have v0 := Int.emod_nonneg v (show B ≠ 0 by omega)
  have v1 := Int.emod_lt_of_pos v hB
  have hx : x = w % A + A * (w / A / B * B + v % B) := by
    show w + (v % B - w / A % B) * A = _
    generalize w / A % B = m at *
    generalize w / A / B = h at *
    generalize v % B = u at *
    generalize w % A = l at *
    generalize hq : w / A = q at *
    subst e2
    rw [← e1]
    grind
  have x1 : x % A = w % A := by rw [hx, Int.add_mul_emod_self_left, Int.emod_emod]
  have x2 : x / A = w / A / B * B + v % B := by
    rw [hx, Int.add_mul_ediv_left _ _ (by omega), Int.ediv_eq_zero_of_lt l0 l1, Int.zero_add]
  refine ⟨x1, x2, ?_, ?_⟩
  · rw [x2, Int.add_comm, Int.add_mul_emod_self_right, Int.emod_emod]
  · rw [x2, Int.add_comm, Int.add_mul_ediv_right _ _ (by omega), Int.ediv_eq_zero_of_lt v0 v1, Int.zero_add]

theorem setF_parts (w : Int) (lo n : Nat) (v : Int) : SetF w lo n v % 2 ^ lo = w % 2 ^ lo ∧ SetF w lo n v / 2 ^ lo = w / 2 ^ lo / 2 ^ n * 2 ^ n + v % 2 ^ n ∧
    Fld (SetF w lo n v) lo n = v % 2 ^ n ∧ SetF w lo n v / 2 ^ lo / 2 ^ n = w / 2 ^ lo / 2 ^ n := parts w (2 ^ lo) (2 ^ n) (two_pos _) (two_pos _) v
theorem div_div (w : Int) (a b : Nat) : w / 2 ^ (a + b) = w / 2 ^ a / 2 ^ b := by
  rw [two_add, Int.ediv_ediv_of_nonneg (Int.le_of_lt (two_pos a))]
theorem setF_bounds (w : Int) (lo n : Nat) (v : Int) (h0 : 0 ≤ w) (h1 : w < 4294967296) (h : lo + n ≤ 32) : 0 ≤ SetF w lo n v ∧ SetF w lo n v < 4294967296 := by
  obtain ⟨p1, p2, _, p4⟩ := setF_parts w lo n v
  rw [← div_div, ← div_div] at p4
  have hp := two_pos (lo + n)
  have e := split32 h
  have hr := two_pos (32 - (lo + n))
  have a1 : 0 ≤ w / 2 ^ (lo + n) := Int.ediv_nonneg h0 (by omega)
  have a2 : w / 2 ^ (lo + n) < 2 ^ (32 - (lo + n)) := by
    apply Int.ediv_lt_of_lt_mul hp
    rw [Int.mul_comm]; omega
  rw [← p4] at a1 a2
  constructor
  · exact (Int.ediv_nonneg_iff_of_pos hp).1 a1
  · have := Int.lt_mul_of_ediv_lt hp a2
    rw [Int.mul_comm] at this; omega
theorem nat_set (w v lo n : Nat) (hw : w < 2 ^ 32) (h : lo + n ≤ 32) :
    (w &&& (4294967295 - (2 ^ n - 1) * 2 ^ lo)) ||| ((v * 2 ^ lo % 4294967296) &&& ((2 ^ n - 1) * 2 ^ lo)) = 2 ^ (lo + n) * (w / 2 ^ (lo + n)) + (2 ^ lo * (v % 2 ^ n) + w % 2 ^ lo) := by
  have hlow : w % 2 ^ lo < 2 ^ lo := Nat.mod_lt _ (Nat.two_pow_pos _)
  have hv : v % 2 ^ n < 2 ^ n := Nat.mod_lt _ (Nat.two_pow_pos _)
  have hmid : 2 ^ lo * (v % 2 ^ n) + w % 2 ^ lo < 2 ^ (lo + n) := by
    rw [Nat.pow_add]
    have h1 : 2 ^ lo * (v % 2 ^ n + 1) ≤ 2 ^ lo * 2 ^ n := Nat.mul_le_mul_left _ hv
    rw [Nat.mul_add, Nat.mul_one] at h1
    omega
  have hM : ∀ i, ((2 ^ n - 1) * 2 ^ lo).testBit i = (decide (lo ≤ i) && decide (i < lo + n)) := by
    intro i
    rw [Nat.testBit_mul_two_pow, Nat.testBit_two_pow_sub_one]
    by_cases h1 : lo ≤ i <;> simp [h1]
    omega
  have hMle : (2 ^ n - 1) * 2 ^ lo < 2 ^ 32 := by
    have : 2 ^ n * 2 ^ lo ≤ 2 ^ 32 := by rw [← Nat.pow_add]; exact Nat.pow_le_pow_right (by decide) (by omega)
    have h1 : 0 < 2 ^ lo := Nat.two_pow_pos _
    have h2 : 0 < 2 ^ n := Nat.two_pow_pos _
    rw [Nat.sub_mul]
    omega
  apply Nat.eq_of_testBit_eq
  intro i
  rw [show (4294967295 : Nat) = 2 ^ 32 - 1 from rfl, show (4294967296 : Nat) = 2 ^ 32 from rfl]
  rw [show 2 ^ 32 - 1 - (2 ^ n - 1) * 2 ^ lo = 2 ^ 32 - ((2 ^ n - 1) * 2 ^ lo + 1) by omega]
  rw [Nat.testBit_two_pow_mul_add _ hmid, Nat.testBit_two_pow_mul_add _ hlow, Nat.testBit_or, Nat.testBit_and, Nat.testBit_and, Nat.testBit_two_pow_sub_succ hMle, hM, Nat.testBit_mod_two_pow, Nat.testBit_mod_two_pow, Nat.testBit_mod_two_pow, Nat.testBit_mul_two_pow, Nat.testBit_div_two_pow]
  have hbig : 32 ≤ i → w.testBit i = false := fun hi => Nat.testBit_lt_two_pow (Nat.lt_of_lt_of_le hw (Nat.pow_le_pow_right (by decide) hi))
  by_cases h1 : i < lo
  · have : i < lo + n := by omega
    have : i < 32 := by omega
    have : ¬ lo ≤ i := by omega
    simp [*]
  · by_cases h2 : i < lo + n
    · have : i < 32 := by omega
      have : lo ≤ i := by omega
      have : i - lo < n := by omega
      simp [*]
    · have : lo ≤ i := by omega
      have e : i - (lo + n) + (lo + n) = i := by omega
      by_cases h3 : i < 32
      · simp [*]
      · have := hbig (by omega)
        simp [*]

theorem setF_eq (w : Int) (lo n : Nat) (v : Int) (h0 : 0 ≤ w) (h1 : w < 4294967296) (v0 : 0 ≤ v) (v1 : v < 4294967296) (h : lo + n ≤ 32) :
    bits .or .u32 (bits .andNot .u32 w ((2 ^ n - 1) * 2 ^ lo % 4294967296)) (bits .and .u32 (v * 2 ^ lo % 4294967296) ((2 ^ n - 1) * 2 ^ lo % 4294967296)) = SetF w lo n v := by
  obtain ⟨w, rfl⟩ := Int.eq_ofNat_of_zero_le h0
  obtain ⟨v, rfl⟩ := Int.eq_ofNat_of_zero_le v0
  have hM : (2 ^ n - 1) * 2 ^ lo < 2 ^ 32 := by
    have : 2 ^ n * 2 ^ lo ≤ 2 ^ 32 := by rw [← Nat.pow_add]; exact Nat.pow_le_pow_right (by decide) (by omega)
    have h1 : 0 < 2 ^ lo := Nat.two_pow_pos _
    have h2 : 0 < 2 ^ n := Nat.two_pow_pos _
    rw [Nat.sub_mul]
    omega
  have e1 : ((2 : Int) ^ n - 1) * 2 ^ lo % 4294967296 = (((2 ^ n - 1) * 2 ^ lo : Nat) : Int) := by
    have h2 : 0 < 2 ^ n := Nat.two_pow_pos _
    have : ((2 ^ n - 1 : Nat) : Int) = 2 ^ n - 1 := by rw [← two_nat]; omega
    rw [← this, ← two_nat lo, ← Int.natCast_mul]
    omega
  have e2 : (v : Int) * 2 ^ lo % 4294967296 = ((v * 2 ^ lo % 4294967296 : Nat) : Int) := by
    rw [Int.natCast_emod, Int.natCast_mul, two_nat]; rfl
  rw [e1, e2, u32_andNot_nat w _ (by omega) (by omega), u32_and_nat _ _ (by omega) (by omega)]
  have hlt1 : w &&& (4294967295 - (2 ^ n - 1) * 2 ^ lo) < 4294967296 := Nat.lt_of_le_of_lt Nat.and_le_left (by omega)
  have hlt2 : (v * 2 ^ lo % 4294967296) &&& ((2 ^ n - 1) * 2 ^ lo) < 4294967296 := Nat.lt_of_le_of_lt Nat.and_le_right (by omega)
  rw [u32_or_nat _ _ hlt1 hlt2, nat_set w v lo n (by omega) h]
  obtain ⟨p1, p2, p3, p4⟩ := setF_parts w lo n v
  have e := Int.emod_add_mul_ediv (SetF w lo n v) (2 ^ lo)
  rw [p1, p2, ← div_div] at e
  rw [← e]
  push_cast
  rw [two_add]
  generalize (2 : Int) ^ lo = A
  generalize (2 : Int) ^ n = B
  grind

def Rot (w : Int) (k : Nat) : Int := w / 2 ^ k + w % 2 ^ k * 2 ^ (32 - k)
def Ext (w : Int) (n : Nat) : Int := if w % 2 ^ n < 2 ^ (n - 1) then w % 2 ^ n else w % 2 ^ n - 2 ^ n
theorem nat_xor_bit (k m : Nat) (h : m < 2 ^ (k + 1)) : m ^^^ 2 ^ k = if m < 2 ^ k then m + 2 ^ k else m - 2 ^ k := by
  have hx : ∀ r, r < 2 ^ k → r ^^^ 2 ^ k = r + 2 ^ k := by
    intro r hr
    rw [← nat_join k (2 ^ k) r (by simp) hr |>.trans (Nat.add_comm _ _), Nat.or_comm]
    apply Nat.eq_of_testBit_eq
    intro i
    rw [Nat.testBit_xor, Nat.testBit_or, Nat.testBit_two_pow]
    by_cases hi : k = i
    · subst hi
      rw [Nat.testBit_lt_two_pow hr]; simp
    · simp [hi]
  split
  · exact hx m ‹_›
  · have h2 : m - 2 ^ k < 2 ^ k := by rw [Nat.pow_succ] at h; omega
    have := hx _ h2
    rw [show m - 2 ^ k + 2 ^ k = m by omega] at this
    rw [← this, Nat.xor_assoc, Nat.xor_self, Nat.xor_zero, this]
theorem ext_sign (n : Nat) (h1 : 1 ≤ n) (hn : n ≤ 32) : bits .xor .u32 (2 ^ n - 1) (2 ^ (n - 1) - 1) = 2 ^ (n - 1) := by
  obtain ⟨k, rfl⟩ : ∃ k, n = k + 1 := ⟨n - 1, by omega⟩
  have hp := two_pos k
  have hq := two_le hn
  have hs : (2 : Int) ^ (k + 1) = 2 ^ k * 2 := Int.pow_succ 2 k
  have h32 := two_32
  rw [Nat.add_sub_cancel, u32_xor _ _ (by omega) (by omega) (by omega) (by omega)]
  have e1 : ((2 : Int) ^ (k + 1) - 1).toNat = 2 ^ (k + 1) - 1 := by have := two_nat (k + 1); omega
  have e2 : ((2 : Int) ^ k - 1).toNat = 2 ^ k - 1 := by have := two_nat k; omega
  rw [e1, e2, ← two_nat]
  congr 1
  apply Nat.eq_of_testBit_eq
  intro i
  rw [Nat.testBit_xor, Nat.testBit_two_pow_sub_one, Nat.testBit_two_pow_sub_one, Nat.testBit_two_pow]
  by_cases a : i < k
  · have : i < k + 1 := by omega
    have : ¬ k = i := by omega
    simp [*]
  · by_cases b : i = k
    · subst b; simp
    · have : ¬ i < k + 1 := by omega
      have : ¬ k = i := by omega
      simp [*]
theorem ext_eq (w : Int) (n : Nat) (h1n : 1 ≤ n) (hn : n ≤ 32) :
    wrap32 ((bits .xor .u32 (w % 2 ^ n) (2 ^ (n - 1)) - 2 ^ (n - 1)) % 4294967296) = Ext w n ∧ -2147483648 ≤ Ext w n ∧ Ext w n < 2147483648 := by
  obtain ⟨k, rfl⟩ : ∃ k, n = k + 1 := ⟨n - 1, by omega⟩
  rw [Nat.add_sub_cancel]
  have hp := two_pos k
  have hq := two_le hn
  have hs : (2 : Int) ^ (k + 1) = 2 ^ k * 2 := Int.pow_succ 2 k
  have h32 := two_32
  have m0 := Int.emod_nonneg w (show (2 : Int) ^ (k + 1) ≠ 0 by omega)
  have m1 := Int.emod_lt_of_pos w (show (0 : Int) < 2 ^ (k + 1) by omega)
  rw [u32_xor _ _ m0 (by omega) (by omega) (by omega)]
  have e2 : ((2 : Int) ^ k).toNat = 2 ^ k := by have := two_nat k; omega
  have em : (w % 2 ^ (k + 1)).toNat < 2 ^ (k + 1) := by have := two_nat (k + 1); omega
  rw [e2, nat_xor_bit k _ em]
  unfold Ext
  rw [Nat.add_sub_cancel]
  have h2 := two_nat k
  generalize w % 2 ^ (k + 1) = m at *
  simp only [wrap32]
  by_cases hm : m < 2 ^ k
  · rw [if_pos hm, if_pos (by omega)]
    omega
  · rw [if_neg hm, if_neg (by omega)]
    omega
end Go.Proofs.YtncnogndopgknaaGreatDoor.M
namespace Go.Proofs.YtncnogndopgknaaGreatDoor
namespace T

def itself (c : UInt8) : Bool := 32 ≤ c.toNat && c.toNat ≤ 126 && c.toNat != 34 && c.toNat != 92
def isDig (c : UInt8) : Bool := 48 ≤ c.toNat && c.toNat ≤ 57
def isLet (c : UInt8) : Bool := 97 ≤ c.toNat && c.toNat ≤ 122
def isGap (c : UInt8) : Bool := c.toNat == 32 || c.toNat == 9
def hexT : List UInt8 := [48, 49, 50, 51, 52, 53, 54, 55, 56, 57, 97, 98, 99, 100, 101, 102]
def hexD (n : Nat) : UInt8 := hexT.getD n 0
def hexV (c : UInt8) : Option Nat := if isDig c then some (c.toNat - 48) else if 97 ≤ c.toNat && c.toNat ≤ 102 then some (c.toNat - 87) else none

theorem hexD_inv (n : Nat) (h : n < 16) : hexV (hexD n) = some n := by
  revert n
  decide +kernel
theorem hexV_lt {c : UInt8} {n : Nat} (h : hexV c = some n) : n < 16 ∧ hexD n = c := by
  have hc := c.toNat_lt
  have e : c = UInt8.ofNat c.toNat := by simp
  rw [e] at h ⊢
  generalize c.toNat = k at hc h
  clear e
  revert n
  revert k
  decide +kernel

def one (c : UInt8) : List UInt8 := if itself c then [c] else [92, 120, hexD (c.toNat / 16), hexD (c.toNat % 16)]
def quoteB (b : List UInt8) : List UInt8 := (b.map one).flatten
def quote (b : List UInt8) : List UInt8 := 34 :: (quoteB b ++ [34])

def esc (t : List UInt8) : Option UInt8 :=
  match t with
  | x :: h :: l :: _ => if x.toNat = 120 then
      match hexV h, hexV l with
      | some a, some b => if itself (UInt8.ofNat (a * 16 + b)) then none else some (UInt8.ofNat (a * 16 + b))
      | _, _ => none
      else none
  | _ => none

def sp (k : Nat) (xs : List UInt8) : Nat ⊕ (List UInt8 × Nat) → Nat ⊕ (List UInt8 × Nat)
  | .inl x => .inl (k + x)
  | .inr (b, n) => .inr (xs ++ b, k + n)
theorem sp_zero (r : Nat ⊕ (List UInt8 × Nat)) : sp 0 [] r = r := by cases r <;> simp [sp]
theorem sp_sp (k m : Nat) (xs ys : List UInt8) (r : Nat ⊕ (List UInt8 × Nat)) : sp k xs (sp m ys r) = sp (k + m) (xs ++ ys) r := by
  cases r <;> simp [sp] <;> omega

def unq (l : List UInt8) : Nat ⊕ (List UInt8 × Nat) :=
  match l with
  | [] => .inl 0
  | c :: t =>
    if c.toNat = 34 then .inr ([], 1)
    else if c.toNat = 92 then
      match esc t with
      | none => .inl 0
      | some x => sp 4 [x] (unq (t.drop 3))
    else if itself c then sp 1 [c] (unq t)
    else .inl 0
termination_by l.length
decreasing_by all_goals simp <;> omega

theorem unq_nil : unq [] = .inl 0 := by rw [unq]
theorem unq_end (c : UInt8) (t : List UInt8) (h : c.toNat = 34) : unq (c :: t) = .inr ([], 1) := by rw [unq]; simp [h]
theorem unq_esc (c : UInt8) (t : List UInt8) (x : UInt8) (h : c.toNat = 92) (he : esc t = some x) : unq (c :: t) = sp 4 [x] (unq (t.drop 3)) := by rw [unq]; simp [h, he]
theorem unq_noesc (c : UInt8) (t : List UInt8) (h : c.toNat = 92) (he : esc t = none) : unq (c :: t) = .inl 0 := by rw [unq]; simp [h, he]
theorem unq_self (c : UInt8) (t : List UInt8) (h : itself c = true) : unq (c :: t) = sp 1 [c] (unq t) := by
  rw [unq]
  have h' := h
  simp [itself] at h'
  simp [h, h'.1.2, h'.2]
theorem unq_bad (c : UInt8) (t : List UInt8) (h1 : c.toNat ≠ 34) (h2 : c.toNat ≠ 92) (h : itself c = false) : unq (c :: t) = .inl 0 := by rw [unq]; simp [h, h1, h2]

def okR (m : Nat) : Nat ⊕ (List UInt8 × Nat) → Prop
  | .inl x => x ≤ m
  | .inr (b, n) => n ≤ m ∧ b.length < n
theorem okR_sp {k m : Nat} {xs : List UInt8} {r : Nat ⊕ (List UInt8 × Nat)} (h : okR m r) (hx : xs.length ≤ k) : okR (k + m) (sp k xs r) := by
  match r, h with
  | .inl x, h => exact Nat.add_le_add_left h k
  | .inr (b, n), h => exact ⟨Nat.add_le_add_left h.1 k, by have := h.2; simp; omega⟩
theorem esc_three {t : List UInt8} {x : UInt8} (h : esc t = some x) : 3 ≤ t.length := by
  unfold esc at h
  split at h
  · simp
  · simp at h
theorem unq_le (l : List UInt8) : okR l.length (unq l) := by
  induction h : l.length using Nat.strongRecOn generalizing l with
  | _ n ih =>
    subst h
    cases l with
    | nil => rw [unq_nil]; exact Nat.le_refl _
    | cons c t =>
      by_cases h1 : c.toNat = 34
      · rw [unq_end c t h1]; exact ⟨by simp, by simp⟩
      · by_cases h2 : c.toNat = 92
        · cases he : esc t with
          | none => rw [unq_noesc c t h2 he]; exact Nat.zero_le _
          | some x =>
            rw [unq_esc c t x h2 he]
            have hl := esc_three he
            have := okR_sp (k := 4) (xs := [x]) (ih (t.drop 3).length (by simp; omega) (t.drop 3) rfl) (by simp)
            rwa [show 4 + (t.drop 3).length = (c :: t).length from by simp; omega] at this
        · cases hs : itself c with
          | false => rw [unq_bad c t h1 h2 hs]; exact Nat.zero_le _
          | true =>
            rw [unq_self c t hs]
            have := okR_sp (k := 1) (xs := [c]) (ih t.length (by simp) t rfl) (by simp)
            rwa [show 1 + t.length = (c :: t).length from by simp; omega] at this

def unquote (s : List UInt8) : Option (List UInt8) :=
  match s with
  | [] => none
  | c :: t => if c.toNat = 34 then
      match unq t with
      | .inl _ => none
      | .inr (b, n) => if n < t.length then none else some b
      else none
end T
end Go.Proofs.YtncnogndopgknaaGreatDoor
namespace Go.Proofs.YtncnogndopgknaaGreatDoor
open Go.RowKit

theorem ret_int {k : IntKind} {a b : Int} (h : a = b) : Ending.returned (.int k a) = .returned (.int k b) := by rw [h]
theorem ret_bool {a b : Bool} (h : a = b) : Ending.returned (.bool a) = .returned (.bool b) := by rw [h]
theorem Tryz.info5 : (Tryz.prog.info? 5).map (fun i => (i.zero, i.size, i.bytes)) = some (some (.int .u8 0), 1, 1) := by kernel_rfl

theorem byteCells_one (l : List UInt8) : ∀ v ∈ Lib.byteCells l, v.oneCell' = true := by
  intro v hv
  simp only [Lib.byteCells, List.mem_map] at hv
  obtain ⟨b, _, rfl⟩ := hv
  rfl
structure HB (W wr : World) (v : Value) (l : List UInt8) : Prop where
  own : wr.ownsRow W.heap.size 5 1 v l.length (Lib.byteCells l)
  below : Below W.heap.size W wr
theorem HB.start (W : World) : HB W W (.slice none 0 0) [] := ⟨World.ownsRow_nil W _ 5 1, Below.refl _ _⟩
theorem HB.alloc {W wr : World} {v : Value} {l : List UInt8} (h : HB W wr v l) (o : Obj) : HB W (wr.alloc o) v l := ⟨h.own.alloc o, h.below.alloc h.below.size o⟩
theorem HB.grow {W w w' : World} {v v' : Value} {l m : List UInt8} (H : HB W w v l) (h1 : w'.ownsRow W.heap.size 5 1 v' (l.length + m.length) (Lib.byteCells l ++ Lib.byteCells m)) (h2 : w.grownBy w' v.ownBlock) : HB W w' v' (l ++ m) := by
  refine ⟨?_, H.below.grown h2 H.below.size fun g hg => (H.own.lt g hg).1⟩
  rw [Lib.byteCells_append, List.length_append]
  exact h1
theorem wpList_append_bytes {P : Program} {W w : World} {ops : Array Oper} {rest : List Oper} {o : Oper} {a : Act} {Q : Exit → Act → World → Prop} (hgd : o.guard = none) (s x : Operand) (t : TypeId)
    (ho : o.op = .call { callee := .builtin .append, args := #[s, x], argTypes := #[t, t] }) (i : TypeInfo) (ht : P.underlying t = some (.slice 5)) (hi : P.info? 5 = some i) (hz : i.zero = some (.int .u8 0)) (hsize : i.size = 1) (hby : i.bytes = 1)
    (v : Value) (l : List UInt8) (hs : a.eval s = v) (H : HB W w v l) (ad : Addr) (n c : Nat) (m : List UInt8) (hx : a.eval x = .slice (some ad) n c) (hl : m.length = n) (hc : ∀ j u, (Lib.byteCells m)[j]? = some u → w.cell? (ad.add j) = some u) (h63 : l.length + n ≤ 140737488355328)
    (h : ∀ v' w', HB W w' v' (l ++ m) → wpList P ops Q rest (a.put o.dst v') w') : wpList P ops Q (o :: rest) a w := by
  subst hl
  obtain ⟨v', w', hr, h1, h2, _⟩ := run_append_own (P := P) w W.heap.size t o.type 5 i (.int .u8 0) 1 1 ht hi hz hsize hby rfl (by decide) v l.length _ H.own ad m.length c (Lib.byteCells m) (by simp [Lib.byteCells]) hc (byteCells_one m) (by unfold maxLen; omega) (by omega) H.below.size
  refine wpList_plain hgd fun K hK => ?_
  unfold Oper.wp execOp
  simp only [ho, resolve, invoke, builtin, Sem.run_bind, Sem.run_pure, Result.andThen_ok, List.map_toArray, List.map_cons, List.map_nil, hs, hx, hr]
  exact hK _ _ (h _ _ (H.grow h1 h2))
theorem cells_new (W : World) (e : TypeId) (C : Array Value) (m : List UInt8) (hC : C = (Lib.byteCells m).toArray) : ∀ j u, (Lib.byteCells m)[j]? = some u → (W.alloc (.cells C e)).cell? ((⟨W.heap.size, 0, none⟩ : Addr).add j) = some u := by
  intro j u hu
  subst hC
  rw [Addr.add_mid]
  rw [World.cell?_alloc_new, Nat.zero_add]
  simpa using hu
end Go.Proofs.YtncnogndopgknaaGreatDoor
namespace Go.Proofs.YtncnogndopgknaaGreatDoor
open Go.RowKit

theorem itself_any (c : UInt8) (w : World) : Calls Tryz.prog 158 #[.int .u8 (c.toNat : Int)] w fun e w' => e = .returned (.bool (T.itself c)) ∧ w = w' := by
  have hc := c.toNat_lt
  go_enter Tryz.func158, Tryz.ntmps158
  go_wp2
  all_goals go_ret
  all_goals exact ⟨ret_bool (by rw [Bool.eq_iff_iff]; simp [T.itself]; omega), rfl⟩
theorem digit_any (c : UInt8) (w : World) : Calls Tryz.prog 118 #[.int .u8 (c.toNat : Int)] w fun e w' => e = .returned (.bool (T.isDig c)) ∧ w = w' := by
  have hc := c.toNat_lt
  go_enter Tryz.func118, Tryz.ntmps118
  go_wp2
  all_goals go_ret
  all_goals exact ⟨ret_bool (by rw [Bool.eq_iff_iff]; simp [T.isDig]; omega), rfl⟩
theorem letter_any (c : UInt8) (w : World) : Calls Tryz.prog 117 #[.int .u8 (c.toNat : Int)] w fun e w' => e = .returned (.bool (T.isLet c)) ∧ w = w' := by
  have hc := c.toNat_lt
  go_enter Tryz.func117, Tryz.ntmps117
  go_wp2
  all_goals go_ret
  all_goals exact ⟨ret_bool (by rw [Bool.eq_iff_iff]; simp [T.isLet]; omega), rfl⟩
theorem gap_any (c : UInt8) (w : World) : Calls Tryz.prog 142 #[.int .u8 (c.toNat : Int)] w fun e w' => e = .returned (.bool (T.isGap c)) ∧ w = w' := by
  have hc := c.toNat_lt
  go_enter Tryz.func142, Tryz.ntmps142
  go_wp2
  all_goals go_ret
  all_goals exact ⟨ret_bool (by rw [Bool.eq_iff_iff]; simp [T.isGap]; omega), rfl⟩
theorem hexValue_some (c : UInt8) (n : Nat) (h : T.hexV c = some n) (w : World) : Calls Tryz.prog 166 #[.int .u8 (c.toNat : Int)] w fun e w' => e = .returned (.tuple #[.int .u8 (n : Int), .bool true]) ∧ w = w' := by
  have hc := c.toNat_lt
  unfold T.hexV at h
  have h1 : T.isDig c = true ∨ (T.isDig c = false ∧ (97 : Int) ≤ c.toNat ∧ (c.toNat : Int) ≤ 102) := by
    split at h
    · left; assumption
    · split at h
      · rename_i h1 h2; right; simp at h2; exact ⟨by simpa using h1, by omega, by omega⟩
      · simp at h
  rcases h1 with h1 | ⟨h1, h2, h3⟩
  · simp [h1] at h
    have h4 := h1
    simp [T.isDig] at h4
    have hn : ((c.toNat : Int) - 48) = (n : Int) := by omega
    have b1 : (48 : Int) ≤ c.toNat := by omega
    have b2 : (c.toNat : Int) ≤ 57 := by omega
    clear h h4 hc
    go_enter Tryz.func166, Tryz.ntmps166
    go_wp2_with (go_at_call 118; refine (digit_any c _).mono ?_; rintro e w' ⟨rfl, rfl⟩)
    go_ret2
    exact ⟨rfl, rfl⟩
  · have h5 : (decide (97 ≤ c.toNat) && decide (c.toNat ≤ 102)) = true := by simp; omega
    simp [h1, h5] at h
    have hn : ((c.toNat : Int) - 97 + 10) = (n : Int) := by omega
    clear h h5 hc
    go_enter Tryz.func166, Tryz.ntmps166
    go_wp2_with (go_at_call 118; refine (digit_any c _).mono ?_; rintro e w' ⟨rfl, rfl⟩)
    go_ret2
    exact ⟨rfl, rfl⟩
theorem hexValue_none (c : UInt8) (h : T.hexV c = none) (w : World) : Calls Tryz.prog 166 #[.int .u8 (c.toNat : Int)] w fun e w' => e = .returned (.tuple #[.int .u8 0, .bool false]) ∧ w = w' := by
  have hc := c.toNat_lt
  unfold T.hexV at h
  have h1 : T.isDig c = false ∧ ((c.toNat : Int) < 97 ∨ (102 : Int) < c.toNat) := by
    split at h
    · simp at h
    · split at h
      · simp at h
      · rename_i h1 h2; simp at h2; exact ⟨by simpa using h1, by omega⟩
  obtain ⟨h1, h2⟩ := h1
  clear h hc
  rcases h2 with h2 | h2
  · go_enter Tryz.func166, Tryz.ntmps166
    go_wp2_with (go_at_call 118; refine (digit_any c _).mono ?_; rintro e w' ⟨rfl, rfl⟩)
    go_ret2
    exact ⟨rfl, rfl⟩
  · have h3 : (97 : Int) ≤ c.toNat := by omega
    go_enter Tryz.func166, Tryz.ntmps166
    go_wp2_with (go_at_call 118; refine (digit_any c _).mono ?_; rintro e w' ⟨rfl, rfl⟩)
    go_ret2
    exact ⟨rfl, rfl⟩
end Go.Proofs.YtncnogndopgknaaGreatDoor
