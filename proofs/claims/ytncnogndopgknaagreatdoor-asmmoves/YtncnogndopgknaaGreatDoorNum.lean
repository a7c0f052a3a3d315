/- Numbers out of texts, as plain lists of bytes. -/
import Derived.Test.YtncnogndopgknaaGreatDoorTxt
namespace Go.Proofs.YtncnogndopgknaaGreatDoor
namespace T

def dv (c : UInt8) : Nat := c.toNat - 48
def step (n : Nat) (c : UInt8) : Nat := n * 10 + dv c
def val (l : List UInt8) : Nat := l.foldl step 0
theorem val_nil : val [] = 0 := rfl
theorem val_snoc (l : List UInt8) (c : UInt8) : val (l ++ [c]) = val l * 10 + dv c := by simp [val, step]
theorem foldl_lt (l : List UInt8) (h : l.all isDig = true) : ∀ n, l.foldl step n < (n + 1) * 10 ^ l.length := by
  induction l with
  | nil => intro n; simp
  | cons c l ih =>
    intro n
    simp only [List.all_cons, Bool.and_eq_true] at h
    have h1 := h.1
    simp [isDig] at h1
    have := ih h.2 (step n c)
    rw [List.foldl_cons, List.length_cons, Nat.pow_succ]
    refine Nat.lt_of_lt_of_le this ?_
    rw [Nat.mul_comm (10 ^ l.length) 10, ← Nat.mul_assoc]
    exact Nat.mul_le_mul_right _ (by simp [step, dv]; omega)
theorem val_lt (l : List UInt8) (h : l.all isDig = true) : val l < 10 ^ l.length := by
  have := foldl_lt l h 0
  rw [Nat.zero_add, Nat.one_mul] at this
  exact this
/-- Tens: up to a bound. -/
def tens (s : List UInt8) (most : Nat) : Option Nat :=
  if s.length = 0 ∨ 10 < s.length ∨ (s.headD 0).toNat = 48 ∧ 1 < s.length then none
  else if s.all isDig then (if val s ≤ most then some (val s) else none) else none
/-- One to eight digits in hex. -/
def hstep (r : Option Nat) (c : UInt8) : Option Nat := match r, hexV c with
  | some n, some d => some (n * 16 + d)
  | _, _ => none
def hval (l : List UInt8) : Option Nat := l.foldl hstep (some 0)
theorem hval_snoc (l : List UInt8) (c : UInt8) : hval (l ++ [c]) = hstep (hval l) c := by simp [hval]
theorem hfold_none (l : List UInt8) : l.foldl hstep none = none := by
  induction l with
  | nil => rfl
  | cons c l ih => rw [List.foldl_cons]; exact ih
theorem hval_append (l m : List UInt8) : hval (l ++ m) = m.foldl hstep (hval l) := by simp [hval]
theorem hfold_lt (l : List UInt8) : ∀ n v, l.foldl hstep (some n) = some v → v < (n + 1) * 16 ^ l.length := by
  induction l with
  | nil => intro n v h; simp at h; simp; omega
  | cons c l ih =>
    intro n v h
    rw [List.foldl_cons] at h
    cases hc : hexV c with
    | none =>
      simp only [hstep, hc] at h
      rw [hfold_none] at h
      cases h
    | some d =>
      simp only [hstep, hc] at h
      have := ih _ _ h
      have hd := (hexV_lt hc).1
      rw [List.length_cons, Nat.pow_succ]
      refine Nat.lt_of_lt_of_le this ?_
      rw [Nat.mul_comm (16 ^ l.length) 16, ← Nat.mul_assoc]
      exact Nat.mul_le_mul_right _ (by omega)
theorem hval_lt {l : List UInt8} {v : Nat} (h : hval l = some v) : v < 16 ^ l.length := by
  have := hfold_lt l 0 v h
  rw [Nat.zero_add, Nat.one_mul] at this
  exact this
def hexed (l : List UInt8) : Option Nat := if l.length = 0 ∨ 8 < l.length then none else hval l
def number (s : List UInt8) : Option Nat := if [48, 120].isPrefixOf s then hexed (s.drop 2) else tens s 4294967295
def signed (s : List UInt8) : Option Int :=
  if [45].isPrefixOf s then (match tens (s.drop 1) 2147483648 with
    | some n => if n = 0 then none else some (-(n : Int))
    | none => none)
  else (match tens s 2147483647 with
    | some n => some (n : Int)
    | none => none)
end T
end Go.Proofs.YtncnogndopgknaaGreatDoor
