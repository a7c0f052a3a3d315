/- The roots' bits, as the document's Roots reckons them: plain functions of lists. -/
import Derived.Test.YtjkkelkblccolaaDoorSha
namespace Go.Proofs.YtjkkelkblccolaaDoor

def mulJ (a y : Int) (i : Nat) (p : List Int) : Nat → List Int
  | 0 => p
  | t + 1 => (mulJ a y i p t).set (i + t) (((mulJ a y i p t).getD (i + t) 0 + a * (y / 2 ^ (16 * t) % 65536)) % 18446744073709551616)
def mulI (l : List Int) (y : Int) (p : List Int) : Nat → List Int
  | 0 => p
  | i + 1 => mulJ (l.getD i 0) y i (mulI l y p i) 3
def carry1 (q : List Int) (i : Nat) : List Int :=
  (q.set (i + 1) ((q.getD (i + 1) 0 + q.getD i 0 / 65536) % 18446744073709551616)).set i (q.getD i 0 % 65536)
def carryL (p : List Int) : Nat → List Int
  | 0 => p
  | i + 1 => carry1 (carryL p i) i
def timesL (l : List Int) (y : Int) : List Int := carryL (mulI l y (List.replicate (l.length + 3) 0) l.length) (l.length + 2)
/-- Behind k pieces, from the highest on. -/
def aboveS (l : List Int) (shift : Int) : Nat → Int × Bool
  | 0 => (0, false)
  | k + 1 => if 16 * ((l.length : Int) - 1 - k) ≥ shift then (((aboveS l shift k).1 * 65536 + l.getD (l.length - 1 - k) 0) % 18446744073709551616, (aboveS l shift k).2) else ((aboveS l shift k).1, (aboveS l shift k).2 || decide (l.getD (l.length - 1 - k) 0 ≠ 0))
def aboveL (l : List Int) (n shift : Int) : Bool := decide (n < (aboveS l shift l.length).1) || (decide ((aboveS l shift l.length).1 = n) && (aboveS l shift l.length).2)
def fitsL (y n : Int) (third : Bool) : Bool := if third then !aboveL (timesL (timesL (timesL [1] y) y) y) n 96 else !aboveL (timesL (timesL [1] y) y) n 64
def bitsS (n : Int) (third : Bool) : Nat → Int
  | 0 => 0
  | k + 1 => if fitsL ((bitsS n third k + 2 ^ (35 - k)) % 18446744073709551616) n third then (bitsS n third k + 2 ^ (35 - k)) % 18446744073709551616 else bitsS n third k
def bitsL (n : Int) (third : Bool) : Int := bitsS n third 36 % 4294967296

def primesL : List Int := [2, 3, 5, 7, 11, 13, 17, 19, 23, 29, 31, 37, 41, 43, 47, 53, 59, 61, 67, 71, 73, 79, 83, 89, 97, 101, 103, 107, 109, 113, 127, 131, 137, 139, 149, 151, 157, 163, 167, 173, 179, 181, 191, 193, 197, 199, 211, 223, 227, 229, 233, 239, 241, 251, 257, 263, 269, 271, 277, 281, 283, 293, 307, 311]

/-- Words of 64 bits. -/
def U (xs : List Int) : Prop := ∀ i, 0 ≤ xs.getD i 0 ∧ xs.getD i 0 < 18446744073709551616
theorem U.set {xs : List Int} (h : U xs) (i : Nat) (u : Int) (h0 : 0 ≤ u) (h1 : u < 18446744073709551616) : U (xs.set i u) := fun j => by
  have := h j
  simp only [List.getD_eq_getElem?_getD, List.getElem?_set] at this ⊢
  split
  · split
    · exact ⟨h0, h1⟩
    · simp
  · exact this
theorem u_zeros (n : Nat) : U (List.replicate n 0) := fun i => by
  simp only [List.getD_eq_getElem?_getD, List.getElem?_replicate]
  split <;> simp
theorem mulJ_length (a y : Int) (i : Nat) (p : List Int) (t : Nat) : (mulJ a y i p t).length = p.length := by
  induction t with
  | zero => rfl
  | succ t ih => simp only [mulJ, List.length_set, ih]
theorem mulI_length (l : List Int) (y : Int) (p : List Int) (i : Nat) : (mulI l y p i).length = p.length := by
  induction i with
  | zero => rfl
  | succ i ih => simp only [mulI, mulJ_length, ih]
theorem carry1_length (q : List Int) (i : Nat) : (carry1 q i).length = q.length := by simp [carry1]
theorem carryL_length (p : List Int) (i : Nat) : (carryL p i).length = p.length := by
  induction i with
  | zero => rfl
  | succ i ih => simp only [carryL, carry1_length, ih]
theorem timesL_length (l : List Int) (y : Int) : (timesL l y).length = l.length + 3 := by rw [timesL, carryL_length, mulI_length, List.length_replicate]
theorem mulJ_u (a y : Int) (i : Nat) (p : List Int) (hp : U p) (t : Nat) : U (mulJ a y i p t) := by
  induction t with
  | zero => exact hp
  | succ t ih => exact ih.set _ _ (by omega) (by omega)
theorem mulI_u (l : List Int) (y : Int) (p : List Int) (hp : U p) (i : Nat) : U (mulI l y p i) := by
  induction i with
  | zero => exact hp
  | succ i ih => exact mulJ_u _ _ _ _ ih _
theorem carry1_u (q : List Int) (hq : U q) (i : Nat) : U (carry1 q i) := (hq.set _ _ (by omega) (by omega)).set _ _ (by omega) (by have := hq i; omega)
theorem carryL_u (p : List Int) (hp : U p) (i : Nat) : U (carryL p i) := by
  induction i with
  | zero => exact hp
  | succ i ih => exact carry1_u _ ih _
theorem timesL_u (l : List Int) (y : Int) : U (timesL l y) := carryL_u _ (mulI_u _ _ _ (u_zeros _) _) _
theorem aboveS_bound (l : List Int) (shift : Int) (k : Nat) : 0 ≤ (aboveS l shift k).1 ∧ (aboveS l shift k).1 < 18446744073709551616 := by
  induction k with
  | zero => exact ⟨Int.le_refl 0, by simp [aboveS]⟩
  | succ k ih =>
    rw [aboveS]
    split
    · simp only; omega
    · exact ih
theorem bitsS_bound (n : Int) (third : Bool) (k : Nat) : 0 ≤ bitsS n third k ∧ bitsS n third k < 18446744073709551616 := by
  induction k with
  | zero => exact ⟨Int.le_refl 0, by simp [bitsS]⟩
  | succ k ih =>
    rw [bitsS]
    split
    · omega
    · exact ih
end Go.Proofs.YtjkkelkblccolaaDoor
