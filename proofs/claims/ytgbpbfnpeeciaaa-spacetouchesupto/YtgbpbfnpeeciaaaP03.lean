import Derived.Test.YtgbpbfnpeeciaaaP02
import Derived.Deep.DeepCutAuto
namespace Go.Proofs.Ytgbpbfnpeeciaaa
open Go.RowKit
set_option maxHeartbeats 4000000
structure Mp where
  s : Bool
  p : Int
  wr : Bool
  ex : Bool
deriving DecidableEq
def Mp.v (m : Mp) : Value := .agg #[.bool m.s, .int .i64 m.p, .bool m.wr, .bool m.ex]
def Mp.z : Mp := ⟨false, 0, false, false⟩
def b2 (b : Bool) (n : Int) : Int := if b then n else 0
def Mp.code (m : Mp) : Int := 256 * m.p + 1 + b2 m.s 2 + b2 m.wr 4 + b2 m.ex 8
def Mp.err (m : Mp) : Int := if Pg m.p then (if m.ex && !m.s then 1 else 0) else 4
def Mp.enc (m : Mp) : Int := if m.err = 0 then m.code else 0
def fldM (v : Int) : Mp := ⟨decide (v / 2 % 2 = 1), v / 256, decide (v / 4 % 2 = 1), decide (v / 8 % 2 = 1)⟩
theorem bit_ne (x n : Int) (h : 0 < n) : (x % 2 * n != 0) = decide (x % 2 = 1) := by
  have h2 : x % 2 = 0 ∨ x % 2 = 1 := by omega
  rcases h2 with e | e <;> rw [e] <;> simp <;> omega
theorem w_fields_any (W : World) (v : Int) (h0 : 0 ≤ v) (h1 : v < 4294967296) :
    Calls Try.prog 90 #[.int .u32 v] W fun x W' => x = .returned (fldM v).v ∧ Below W.heap.size W W' := by
  have HN := hid (fun W => number_any W v h0 h1)
  have b1 := and_bit v 1 h0 h1 (by decide)
  have b2 := and_bit v 2 h0 h1 (by decide)
  have b3 := and_bit v 3 h0 h1 (by decide)
  simp only [Int.reducePow] at b1 b2 b3
  have HB := hid (below_one W (.cells #[.bool false, .int .i64 0, .bool false, .bool false] 49))
  have c1 := bit_ne (v / 2) 2 (by decide)
  have c2 := bit_ne (v / 4) 4 (by decide)
  have c3 := bit_ne (v / 8) 8 (by decide)
  have HE : Hid ((fldM v).v = .agg #[.bool (decide (v / 2 % 2 = 1)), .int .i64 (v / 256), .bool (decide (v / 4 % 2 = 1)), .bool (decide (v / 8 % 2 = 1))]) := hid rfl
  generalize (fldM v).v = A at *
  go_enter Try.func90, Try.ntmps90
  go_wp2_with fail
  refine (HN.out _).mono ?_
  rintro x w1 ⟨rfl, rfl⟩
  go_wp2_with fail
  go_returns
  exact ⟨by rw [HE.out], below_one _ _⟩
theorem below_drewN {X w : World} {B : Nat} (h : Below B X w) (k : Nat) : Below B X (w.drewN k) := ⟨h.os, h.tape, h.output, h.size, h.block⟩
theorem bit_q (W : World) (b : Bool) (x : Int) (k : Nat) : Calls Try.prog 78 #[.bool b, .int .u32 x] (W.drewN k) fun e w'' => e = .returned (.int .u32 (b2 b x)) ∧ ∃ m, w'' = W.drewN m :=
  (bit_any _ b x).mono fun _ _ ⟨he, hm⟩ => ⟨he, k, hm⟩
theorem code_eq (p : Int) (s w e : Bool) (h0 : 0 ≤ p) (h1 : p < 64) : bits .or .u32 (bits .or .u32 (p * 256) 1) (bits .or .u32 (bits .or .u32 (b2 s 2) (b2 w 4)) (b2 e 8)) = (Mp.mk s p w e).code := by
  have e1 := or_eq p 1 8 h0 (by decide) (by decide) (by omega) (by decide)
  simp only [Int.reducePow] at e1
  have hlow : ∀ s w e : Bool, bits .or .u32 (bits .or .u32 (b2 s 2) (b2 w 4)) (b2 e 8) = b2 s 2 + b2 w 4 + b2 e 8 := by decide
  have hor : ∀ s w e : Bool, bits .or .u32 1 (b2 s 2 + b2 w 4 + b2 e 8) = 1 + (b2 s 2 + b2 w 4 + b2 e 8) := by decide
  rw [e1, hlow]
  have hb : ∀ (b : Bool) (n : Int), 0 ≤ n → 0 ≤ b2 b n ∧ b2 b n ≤ n := fun b n hn => by unfold b2; split <;> omega
  have a1 := hb s 2 (by decide)
  have a2 := hb w 4 (by decide)
  have a3 := hb e 8 (by decide)
  have hpar : (b2 s 2 + b2 w 4 + b2 e 8) % 2 = 0 := by unfold b2; cases s <;> cases w <;> cases e <;> decide
  unfold Mp.code
  simp only
  generalize hx : b2 s 2 + b2 w 4 + b2 e 8 = x at *
  have hx2 : 256 * p + 1 + b2 s 2 + b2 w 4 + b2 e 8 = 256 * p + 1 + x := by omega
  rw [hx2]
  rw [u32_or _ _ (by omega) (by omega) (by omega) (by omega)]
  obtain ⟨q, rfl⟩ := Int.eq_ofNat_of_zero_le h0
  obtain ⟨y, rfl⟩ := Int.eq_ofNat_of_zero_le (show 0 ≤ x by omega)
  have t1 : ((q : Int) * 256 + 1).toNat = 2 ^ 8 * q + 1 := by omega
  rw [t1, Int.toNat_natCast, Nat.two_pow_add_eq_or_of_lt (by decide) q, Nat.or_assoc]
  have hy : y < 16 := by omega
  have hyp : y % 2 = 0 := by omega
  have t2 : 1 ||| y = 1 + y := by
    have : ∀ y, y < 16 → y % 2 = 0 → 1 ||| y = 1 + y := by decide
    exact this y hy hyp
  rw [t2, ← Nat.two_pow_add_eq_or_of_lt (by omega) q]
  omega
theorem second_any (W : World) (m : Mp) :
    Calls Try.prog 34 #[m.v] W fun x W' => x = .returned (.tuple #[.int .u32 m.enc, .int .i64 m.err]) ∧ Below W.heap.size W W' := by
  have HC := hid (Cel.new W 49 [.bool m.s, .int .i64 m.p, .bool m.wr, .bool m.ex])
  have HB := hid (below_one W (.cells #[.bool m.s, .int .i64 m.p, .bool m.wr, .bool m.ex] 49))
  obtain ⟨s, p, wr, ex⟩ := m
  unfold Mp.enc Mp.err Mp.v
  simp only at *
  by_cases hp : Pg p
  · have HL := hid (fun W => w_below_any W p 64 true (decide_eq_true hp))
    have hpp := hp
    obtain ⟨p0, p1⟩ := hpp
    have HE := hid (code_eq p s wr ex p0 p1)
    cases hse : ex && !s with
    | true =>
      obtain ⟨rfl, rfl⟩ : ex = true ∧ s = false := by cases ex <;> cases s <;> simp_all
      simp only [if_pos hp, if_pos, if_neg (show ¬ (1 : Int) = 0 by decide)]
      clear hp hse HE
      go_enter Try.func34, Try.ntmps34
      go_upto_region 1 with fail
      generalize hX : W.alloc _ = X at *
      clear hX
      have c0 := HC.out.cell 0
      have c1 := HC.out.cell 1
      have c3 := HC.out.cell 3
      simp only [List.getElem?_cons_zero, List.getElem?_cons_succ] at c0 c1 c3
      go_wp2_with fail
      refine (HL.out _).mono ?_
      rintro x w1 ⟨rfl, rfl⟩
      go_wp2_with fail
      go_returns
      exact ⟨rfl, HB.out⟩
    | false =>
      simp only [if_pos hp, if_pos, if_neg (show ¬ false = true by decide)]
      generalize (Mp.mk s p wr ex).code = C at *
      go_enter Try.func34, Try.ntmps34
      go_upto_region 1 with fail
      generalize hX : W.alloc _ = X at *
      clear hX
      have c0 := HC.out.cell 0
      have c1 := HC.out.cell 1
      have c2 := HC.out.cell 2
      have c3 := HC.out.cell 3
      simp only [List.getElem?_cons_zero, List.getElem?_cons_succ] at c0 c1 c2 c3
      go_wp2_with fail
      refine (HL.out _).mono ?_
      rintro x w1 ⟨rfl, rfl⟩
      clear hp
      cases ex <;> cases s <;> simp at hse
      all_goals clear hse
      all_goals go_wp2_with fail
      all_goals go_quiet (first | (go_at_call 78; exact bit_q _ _ _ _))
      all_goals go_wp2_with fail
      all_goals go_returns
      all_goals exact ⟨by rw [← HE.out]; rfl, below_drewN HB.out _⟩
  · have HL := hid (fun W => w_below_any W p 64 false (decide_eq_false hp))
    simp only [if_neg hp, if_neg (show ¬ (4 : Int) = 0 by decide)]
    clear hp
    go_enter Try.func34, Try.ntmps34
    go_upto_region 1 with fail
    generalize hX : W.alloc _ = X at *
    clear hX
    have c1 := HC.out.cell 1
    simp only [List.getElem?_cons_zero, List.getElem?_cons_succ] at c1
    go_wp2_with fail
    refine (HL.out _).mono ?_
    rintro x w1 ⟨rfl, rfl⟩
    go_wp2_with fail
    go_returns
    exact ⟨rfl, HB.out⟩
end Go.Proofs.Ytgbpbfnpeeciaaa
