/- space's Word 8, Parse 9: mappings as words. -/
import Derived.Test.YtgbpbfnpeeciaaaW2
namespace Go.Proofs.Ytgbpbfnpeeciaaa
open Go.RowKit
structure Gm where
  va : Int
  wr : Bool
  ex : Bool
def Gm.v (m : Gm) : Value := .agg #[.int .u32 m.va, .bool m.wr, .bool m.ex]
def Gm.cs (m : Gm) : List Value := [.int .u32 m.va, .bool m.wr, .bool m.ex]
def Gm.z : Gm := ⟨0, false, false⟩
def Gm.Ok (m : Gm) : Prop := m.va % 4096 = 0 ∧ m.va < 1073741824
instance (m : Gm) : Decidable m.Ok := by unfold Gm.Ok; exact inferInstance
def Gm.w (m : Gm) : Int := if m.Ok then m.va + 1 + b2 m.wr 2 + b2 m.ex 4 else 0
def Gm.e (m : Gm) : Int := if m.Ok then 0 else 91
theorem or_low (q x y : Int) (h0 : 0 ≤ q) (h1 : q < 1048576) (x0 : 0 ≤ x) (x1 : x < 4096) (y0 : 0 ≤ y) (y1 : y < 4096) : bits .or .u32 (q * 4096 + x) y = q * 4096 + ((x.toNat ||| y.toNat : Nat) : Int) := by
  rw [u32_or _ _ (by omega) (by omega) y0 (by omega)]
  obtain ⟨q, rfl⟩ := Int.eq_ofNat_of_zero_le h0
  obtain ⟨x, rfl⟩ := Int.eq_ofNat_of_zero_le x0
  obtain ⟨y, rfl⟩ := Int.eq_ofNat_of_zero_le y0
  have t1 : ((q : Int) * 4096 + (x : Int)).toNat = 2 ^ 12 * q + x := by omega
  have hx : x < 2 ^ 12 := by omega
  have hy : y < 2 ^ 12 := by omega
  rw [t1, Int.toNat_natCast, Int.toNat_natCast, Nat.two_pow_add_eq_or_of_lt hx q, Nat.or_assoc, ← Nat.two_pow_add_eq_or_of_lt (Nat.or_lt_two_pow hx hy) q]
  generalize x ||| y = z
  omega
theorem or_low1 (v : Int) (h0 : 0 ≤ v) (h1 : v < 1073741824) (h2 : v % 4096 = 0) : bits .or .u32 v 1 = v + 1 := by
  have := or_low (v / 4096) 0 1 (by omega) (by omega) (by decide) (by decide) (by decide) (by decide)
  rw [show v / 4096 * 4096 + 0 = v by omega] at this
  rw [this]
  simp only [show (Int.toNat 0 ||| Int.toNat 1 : Nat) = 1 by decide]
  omega
theorem or_low2 (v : Int) (h0 : 0 ≤ v) (h1 : v < 1073741824) (h2 : v % 4096 = 0) : bits .or .u32 (v + 1) 2 = v + 1 + 2 := by
  have := or_low (v / 4096) 1 2 (by omega) (by omega) (by decide) (by decide) (by decide) (by decide)
  rw [show v / 4096 * 4096 + 1 = v + 1 by omega] at this
  rw [this]
  simp only [show (Int.toNat 1 ||| Int.toNat 2 : Nat) = 3 by decide]
  omega
theorem or_low4 (v : Int) (h0 : 0 ≤ v) (h1 : v < 1073741824) (h2 : v % 4096 = 0) : bits .or .u32 (v + 1) 4 = v + 1 + 4 := by
  have := or_low (v / 4096) 1 4 (by omega) (by omega) (by decide) (by decide) (by decide) (by decide)
  rw [show v / 4096 * 4096 + 1 = v + 1 by omega] at this
  rw [this]
  simp only [show (Int.toNat 1 ||| Int.toNat 4 : Nat) = 5 by decide]
  omega
theorem or_low6 (v : Int) (h0 : 0 ≤ v) (h1 : v < 1073741824) (h2 : v % 4096 = 0) : bits .or .u32 (v + 1 + 2) 4 = v + 1 + 2 + 4 := by
  have := or_low (v / 4096) 3 4 (by omega) (by omega) (by decide) (by decide) (by decide) (by decide)
  rw [show v / 4096 * 4096 + 3 = v + 1 + 2 by omega] at this
  rw [this]
  simp only [show (Int.toNat 3 ||| Int.toNat 4 : Nat) = 7 by decide]
  omega
theorem word_any (W : World) (m : Gm) (h0 : 0 ≤ m.va) (h1 : m.va < 4294967296) :
    Calls Try.prog 8 #[m.v] W fun x W' => x = .returned (.tuple #[.int .u32 m.w, .int .i64 m.e]) ∧ Below W.heap.size W W' := by
  have HC := hid (Cel.new W 26 m.cs)
  have HB := hid (below_one W (.cells m.cs.toArray 26))
  obtain ⟨va, wr, ex⟩ := m
  unfold Gm.w Gm.e Gm.v
  unfold Gm.cs at HC HB
  simp only at *
  have c0 := HC.out.cell 0
  have c1 := HC.out.cell 1
  have c2 := HC.out.cell 2
  simp only [List.getElem?_cons_zero, List.getElem?_cons_succ] at c0 c1 c2
  by_cases hm : va % 4096 = 0
  · by_cases hl : va < 1073741824
    · have e1 := or_low1 va h0 hl hm
      have e2 := or_low2 va h0 hl hm
      have e4 := or_low4 va h0 hl hm
      have e6 := or_low6 va h0 hl hm
      rw [if_pos ⟨hm, hl⟩, if_pos ⟨hm, hl⟩]
      cases wr <;> cases ex
      all_goals
        simp only [b2, if_true, Int.add_zero, Bool.false_eq_true, if_false]
        go_enter Try.func8, Try.ntmps8
        go_upto_region 1 with fail
        generalize hX : W.alloc _ = X at *
        clear hX
        go_wp2_with fail
        go_returns
        exact ⟨rfl, HB.out⟩
    · rw [if_neg (fun h => hl h.2), if_neg (fun h => hl h.2)]
      go_enter Try.func8, Try.ntmps8
      go_upto_region 1 with fail
      generalize hX : W.alloc _ = X at *
      clear hX
      go_wp2_with fail
      go_returns
      exact ⟨rfl, HB.out⟩
  · rw [if_neg (fun h => hm h.1), if_neg (fun h => hm h.1)]
    go_enter Try.func8, Try.ntmps8
    go_upto_region 1 with fail
    generalize hX : W.alloc _ = X at *
    clear hX
    go_wp2_with fail
    go_returns
    exact ⟨rfl, HB.out⟩
def Gw (w : Int) : Prop := w % 2 = 1 ∧ w % 4096 < 8 ∧ w < 1073741824
instance (w : Int) : Decidable (Gw w) := by unfold Gw; exact inferInstance
def gP (w : Int) : Gm := if Gw w then ⟨w - w % 4096, decide (w / 2 % 2 = 1), decide (w / 4 % 2 = 1)⟩ else Gm.z
def gPE (w : Int) : Int := if Gw w then 0 else 142
def gG (w : Int) : Gm := ⟨w - w % 4096, decide (w / 2 % 2 = 1), decide (w / 4 % 2 = 1)⟩
theorem gG_iff (w : Int) (h0 : 0 ≤ w) (h1 : w < 4294967296) : ((gG w).e = 0 ∧ (gG w).w = w) ↔ Gw w := by
  by_cases hk : (gG w).Ok
  · have hk' := hk
    obtain ⟨ha, hb⟩ := hk'
    simp only [gG] at ha hb
    rw [Gm.e, Gm.w, if_pos hk, if_pos hk]
    unfold Gw b2 gG
    by_cases h2 : w / 2 % 2 = 1 <;> by_cases h4 : w / 4 % 2 = 1 <;> simp [h2, h4] <;> omega
  · rw [Gm.e, if_neg hk]
    refine ⟨fun h => absurd h.1 (by decide), fun h => absurd ?_ hk⟩
    obtain ⟨ha, hb, hc⟩ := h
    exact ⟨by simp only [gG]; omega, by simp only [gG]; omega⟩
theorem and_two (w : Int) (h0 : 0 ≤ w) (h1 : w < 4294967296) : bits .and .u32 w 2 = w / 2 % 2 * 2 := by have := and_bit w 1 h0 h1 (by decide); simpa using this
theorem and_four (w : Int) (h0 : 0 ≤ w) (h1 : w < 4294967296) : bits .and .u32 w 4 = w / 4 % 2 * 4 := by have := and_bit w 2 h0 h1 (by decide); simpa using this
theorem and_one (w : Int) (h0 : 0 ≤ w) (h1 : w < 4294967296) : bits .and .u32 w 1 = w % 2 := by have := and_bit w 0 h0 h1 (by decide); simpa using this
theorem b_ne (x : Int) (k : Int) (hk : 0 < k) : (x % 2 * k != 0) = decide (x % 2 = 1) := by
  rcases (show x % 2 = 0 ∨ x % 2 = 1 by omega) with h | h
  · simp [h]
  · simp only [h, Int.one_mul, decide_true]; simp; omega
end Go.Proofs.Ytgbpbfnpeeciaaa
