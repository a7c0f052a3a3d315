/- Words, as plain lists of bytes. -/
import Derived.Test.YtncnogndopgknaaGreatDoorTxt
namespace Go.Proofs.YtncnogndopgknaaGreatDoor
namespace T
/-- A word: its text, whether it was quoted, its column. -/
structure Wd where
  text : List UInt8
  quoted : Bool
  col : Nat
deriving DecidableEq
def cons (w : Wd) : Nat ⊕ List Wd → Nat ⊕ List Wd
  | .inl x => .inl x
  | .inr l => .inr (w :: l)
def pre (ws : List Wd) : Nat ⊕ List Wd → Nat ⊕ List Wd
  | .inl x => .inl x
  | .inr l => .inr (ws ++ l)
theorem pre_nil (r : Nat ⊕ List Wd) : pre [] r = r := by cases r <;> rfl
theorem pre_cons (ws : List Wd) (w : Wd) (r : Nat ⊕ List Wd) : pre ws (cons w r) = pre (ws ++ [w]) r := by cases r <;> simp [pre, cons]
/-- How many bytes a plain word has. -/
def plainN (l : List UInt8) : Nat := (l.takeWhile fun c => !isGap c).length
theorem plainN_le (l : List UInt8) : plainN l ≤ l.length := by
  induction l with
  | nil => simp [plainN]
  | cons c t ih => simp only [plainN, List.takeWhile_cons]; split <;> simp [plainN] at * <;> omega
/-- Is what stands there parted from the word ahead? -/
def parted (l : List UInt8) : Bool := match l with
  | [] => true
  | c :: _ => isGap c
/-- The words of a line from place p on, or the place of the fault. -/
def rd (l : List UInt8) (p : Nat) : Nat ⊕ List Wd :=
  match l with
  | [] => .inr []
  | c :: t =>
    if isGap c then rd t (p + 1)
    else if c.toNat = 35 then .inr []
    else if c.toNat = 34 then
      match unq t with
      | .inl x => .inl (p + 1 + x)
      | .inr (b, n) => if parted (t.drop n) then cons ⟨b, true, p + 1⟩ (rd (t.drop n) (p + 1 + n)) else .inl (p + 1 + n)
    else cons ⟨(c :: t).take (plainN (c :: t)), false, p + 1⟩ (rd (t.drop (plainN (c :: t) - 1)) (p + plainN (c :: t)))
termination_by l.length
decreasing_by all_goals simp <;> omega
theorem rd_nil (p : Nat) : rd [] p = .inr [] := by rw [rd]
theorem rd_gap {c : UInt8} (t : List UInt8) (p : Nat) (h : isGap c = true) : rd (c :: t) p = rd t (p + 1) := by rw [rd]; simp [h]
theorem rd_hash {c : UInt8} (t : List UInt8) (p : Nat) (h : isGap c = false) (h2 : c.toNat = 35) : rd (c :: t) p = .inr [] := by rw [rd]; simp [h, h2]
theorem rd_bad {c : UInt8} (t : List UInt8) (p x : Nat) (h : isGap c = false) (h2 : c.toNat = 34) (hu : unq t = .inl x) : rd (c :: t) p = .inl (p + 1 + x) := by rw [rd]; simp [h, h2, hu]
theorem rd_joined {c : UInt8} (t b : List UInt8) (p n : Nat) (h : isGap c = false) (h2 : c.toNat = 34) (hu : unq t = .inr (b, n)) (hp : parted (t.drop n) = false) : rd (c :: t) p = .inl (p + 1 + n) := by rw [rd]; simp [h, h2, hu, hp]
theorem rd_quoted {c : UInt8} (t b : List UInt8) (p n : Nat) (h : isGap c = false) (h2 : c.toNat = 34) (hu : unq t = .inr (b, n)) (hp : parted (t.drop n) = true) : rd (c :: t) p = cons ⟨b, true, p + 1⟩ (rd (t.drop n) (p + 1 + n)) := by rw [rd]; simp [h, h2, hu, hp]
theorem plainN_pos {c : UInt8} (t : List UInt8) (h : isGap c = false) : plainN (c :: t) = plainN t + 1 := by simp [plainN, h]
theorem rd_plain {c : UInt8} (t : List UInt8) (p : Nat) (h : isGap c = false) (h2 : c.toNat ≠ 35) (h3 : c.toNat ≠ 34) : rd (c :: t) p = cons ⟨(c :: t).take (plainN (c :: t)), false, p + 1⟩ (rd ((c :: t).drop (plainN (c :: t))) (p + plainN (c :: t))) := by
  rw [rd]
  simp only [h, h2, h3, if_false]
  rw [plainN_pos t h]
  simp
/-- The column of the fault, and the words. -/
def words (l : List UInt8) : Nat ⊕ List Wd := rd l 0
end T
end Go.Proofs.YtncnogndopgknaaGreatDoor
