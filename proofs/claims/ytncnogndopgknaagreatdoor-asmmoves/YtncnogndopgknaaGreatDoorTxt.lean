/- Texts as plain lists of bytes: what package text is held to. -/
import Derived.ProofKit
namespace Go.Proofs.YtncnogndopgknaaGreatDoor
namespace T

def itself (c : UInt8) : Bool := 32 ≤ c.toNat && c.toNat ≤ 126 && c.toNat != 34 && c.toNat != 92
def isDig (c : UInt8) : Bool := 48 ≤ c.toNat && c.toNat ≤ 57
def isLet (c : UInt8) : Bool := 97 ≤ c.toNat && c.toNat ≤ 122
def isGap (c : UInt8) : Bool := c.toNat == 32 || c.toNat == 9
def hexT : List UInt8 := [48, 49, 50, 51, 52, 53, 54, 55, 56, 57, 97, 98, 99, 100, 101, 102]
def hexD (n : Nat) : UInt8 := hexT.getD n 0
def hexV (c : UInt8) : Option Nat := if isDig c then some (c.toNat - 48) else if 97 ≤ c.toNat && c.toNat ≤ 102 then some (c.toNat - 87) else none

theorem hexD_inv (n : Nat) (h : n < 16) : hexV (hexD n) = some n := by
  revert n
  decide +kernel
theorem hexV_lt {c : UInt8} {n : Nat} (h : hexV c = some n) : n < 16 ∧ hexD n = c := by
  have hc := c.toNat_lt
  have e : c = UInt8.ofNat c.toNat := by simp
  rw [e] at h ⊢
  generalize c.toNat = k at hc h
  clear e
  revert n
  revert k
  decide +kernel

/-- The form of one byte within quotes. -/
def one (c : UInt8) : List UInt8 := if itself c then [c] else [92, 120, hexD (c.toNat / 16), hexD (c.toNat % 16)]
def quoteB (b : List UInt8) : List UInt8 := (b.map one).flatten
def quote (b : List UInt8) : List UInt8 := 34 :: (quoteB b ++ [34])

/-- The byte behind a backslash. -/
def esc (t : List UInt8) : Option UInt8 :=
  match t with
  | x :: h :: l :: _ => if x.toNat = 120 then
      match hexV h, hexV l with
      | some a, some b => if itself (UInt8.ofNat (a * 16 + b)) then none else some (UInt8.ofNat (a * 16 + b))
      | _, _ => none
      else none
  | _ => none

def sp (k : Nat) (xs : List UInt8) : Nat ⊕ (List UInt8 × Nat) → Nat ⊕ (List UInt8 × Nat)
  | .inl x => .inl (k + x)
  | .inr (b, n) => .inr (xs ++ b, k + n)
theorem sp_zero (r : Nat ⊕ (List UInt8 × Nat)) : sp 0 [] r = r := by cases r <;> simp [sp]
theorem sp_sp (k m : Nat) (xs ys : List UInt8) (r : Nat ⊕ (List UInt8 × Nat)) : sp k xs (sp m ys r) = sp (k + m) (xs ++ ys) r := by
  cases r <;> simp [sp] <;> omega

/-- Behind an opening quote: the bytes and how many were read with the closing quote, or the place of the fault. -/
def unq (l : List UInt8) : Nat ⊕ (List UInt8 × Nat) :=
  match l with
  | [] => .inl 0
  | c :: t =>
    if c.toNat = 34 then .inr ([], 1)
    else if c.toNat = 92 then
      match esc t with
      | none => .inl 0
      | some x => sp 4 [x] (unq (t.drop 3))
    else if itself c then sp 1 [c] (unq t)
    else .inl 0
termination_by l.length
decreasing_by all_goals simp <;> omega

theorem unq_nil : unq [] = .inl 0 := by rw [unq]
theorem unq_end (c : UInt8) (t : List UInt8) (h : c.toNat = 34) : unq (c :: t) = .inr ([], 1) := by rw [unq]; simp [h]
theorem unq_esc (c : UInt8) (t : List UInt8) (x : UInt8) (h : c.toNat = 92) (he : esc t = some x) : unq (c :: t) = sp 4 [x] (unq (t.drop 3)) := by rw [unq]; simp [h, he]
theorem unq_noesc (c : UInt8) (t : List UInt8) (h : c.toNat = 92) (he : esc t = none) : unq (c :: t) = .inl 0 := by rw [unq]; simp [h, he]
theorem unq_self (c : UInt8) (t : List UInt8) (h : itself c = true) : unq (c :: t) = sp 1 [c] (unq t) := by
  rw [unq]
  have h' := h
  simp [itself] at h'
  simp [h, h'.1.2, h'.2]
theorem unq_bad (c : UInt8) (t : List UInt8) (h1 : c.toNat ≠ 34) (h2 : c.toNat ≠ 92) (h : itself c = false) : unq (c :: t) = .inl 0 := by rw [unq]; simp [h, h1, h2]

def okR (m : Nat) : Nat ⊕ (List UInt8 × Nat) → Prop
  | .inl x => x ≤ m
  | .inr (b, n) => n ≤ m ∧ b.length < n
theorem okR_sp {k m : Nat} {xs : List UInt8} {r : Nat ⊕ (List UInt8 × Nat)} (h : okR m r) (hx : xs.length ≤ k) : okR (k + m) (sp k xs r) := by
  match r, h with
  | .inl x, h => exact Nat.add_le_add_left h k
  | .inr (b, n), h => exact ⟨Nat.add_le_add_left h.1 k, by have := h.2; simp; omega⟩
theorem esc_three {t : List UInt8} {x : UInt8} (h : esc t = some x) : 3 ≤ t.length := by
  unfold esc at h
  split at h
  · simp
  · simp at h
theorem unq_le (l : List UInt8) : okR l.length (unq l) := by
  induction h : l.length using Nat.strongRecOn generalizing l with
  | _ n ih =>
    subst h
    cases l with
    | nil => rw [unq_nil]; exact Nat.le_refl _
    | cons c t =>
      by_cases h1 : c.toNat = 34
      · rw [unq_end c t h1]; exact ⟨by simp, by simp⟩
      · by_cases h2 : c.toNat = 92
        · cases he : esc t with
          | none => rw [unq_noesc c t h2 he]; exact Nat.zero_le _
          | some x =>
            rw [unq_esc c t x h2 he]
            have hl := esc_three he
            have := okR_sp (k := 4) (xs := [x]) (ih (t.drop 3).length (by simp; omega) (t.drop 3) rfl) (by simp)
            rwa [show 4 + (t.drop 3).length = (c :: t).length from by simp; omega] at this
        · cases hs : itself c with
          | false => rw [unq_bad c t h1 h2 hs]; exact Nat.zero_le _
          | true =>
            rw [unq_self c t hs]
            have := okR_sp (k := 1) (xs := [c]) (ih t.length (by simp) t rfl) (by simp)
            rwa [show 1 + t.length = (c :: t).length from by simp; omega] at this

theorem one_itself {c : UInt8} (h : itself c = true) : one c = [c] := by simp [one, h]
theorem esc_one {c : UInt8} (h : itself c = false) (t : List UInt8) : esc (120 :: hexD (c.toNat / 16) :: hexD (c.toNat % 16) :: t) = some c := by
  have hc := c.toNat_lt
  have e : c.toNat / 16 * 16 + c.toNat % 16 = c.toNat := by omega
  simp only [esc, hexD_inv (c.toNat / 16) (by omega), hexD_inv (c.toNat % 16) (by omega), e, UInt8.ofNat_toNat, h]
  rfl
/-- What is quoted reads back. -/
theorem unq_quote (b t : List UInt8) : unq (quoteB b ++ 34 :: t) = .inr (b, (quoteB b).length + 1) := by
  induction b with
  | nil => exact unq_end _ _ rfl
  | cons c b ih =>
    rw [show quoteB (c :: b) = one c ++ quoteB b from by simp [quoteB]]
    by_cases h : itself c = true
    · rw [one_itself h, List.append_assoc, List.singleton_append, unq_self c _ h, ih]
      simp [sp]; omega
    · have h' : itself c = false := by simpa using h
      rw [show one c = [92, 120, hexD (c.toNat / 16), hexD (c.toNat % 16)] from by simp [one, h']]
      simp only [List.cons_append, List.nil_append]
      rw [unq_esc 92 _ c rfl (esc_one h' _)]
      simp only [List.drop_succ_cons, List.drop_zero]
      rw [ih]
      simp [sp]; omega
/-- What reads is what is quoted. -/
theorem esc_form {t : List UInt8} {x : UInt8} (h : esc t = some x) : itself x = false ∧ t = 120 :: hexD (x.toNat / 16) :: hexD (x.toNat % 16) :: t.drop 3 := by
  unfold esc at h
  split at h
  · rename_i a b c u
    split at h
    · rename_i ha
      split at h
      · rename_i m n hm hn
        obtain ⟨m1, m2⟩ := hexV_lt hm
        obtain ⟨n1, n2⟩ := hexV_lt hn
        split at h
        · simp at h
        · rename_i hi
          have h := Option.some.inj h
          subst h
          have e : (UInt8.ofNat (m * 16 + n)).toNat = m * 16 + n := by rw [UInt8.toNat_ofNat']; omega
          refine ⟨by simpa using hi, ?_⟩
          rw [e, show (m * 16 + n) / 16 = m from by omega, show (m * 16 + n) % 16 = n from by omega, m2, n2]
          have : a = 120 := UInt8.toNat_inj.1 ha
          simp [this]
      · simp at h
    · simp at h
  · simp at h
theorem unq_form (l b : List UInt8) (n : Nat) (h : unq l = .inr (b, n)) : l.take n = quoteB b ++ [34] := by
  induction hl : l.length using Nat.strongRecOn generalizing l b n with
  | _ m ih =>
    subst hl
    cases l with
    | nil => simp [unq_nil] at h
    | cons c t =>
      by_cases h1 : c.toNat = 34
      · rw [unq_end c t h1] at h
        simp at h
        obtain ⟨rfl, rfl⟩ := h
        have : c = 34 := UInt8.toNat_inj.1 h1
        simp [quoteB, this]
      · by_cases h2 : c.toNat = 92
        · cases he : esc t with
          | none => rw [unq_noesc c t h2 he] at h; simp at h
          | some x =>
            rw [unq_esc c t x h2 he] at h
            cases hr : unq (t.drop 3) with
            | inl y => rw [hr] at h; simp [sp] at h
            | inr y =>
              obtain ⟨b', n'⟩ := y
              rw [hr] at h
              simp [sp] at h
              obtain ⟨rfl, rfl⟩ := h
              obtain ⟨hx, ht⟩ := esc_form he
              have := ih (t.drop 3).length (by simp; omega) (t.drop 3) b' n' hr rfl
              have hc : c = 92 := UInt8.toNat_inj.1 h2
              rw [ht, show 4 + n' = n' + 1 + 1 + 1 + 1 from by omega]
              simp only [List.take_succ_cons]
              rw [this]
              simp [quoteB, one, hx, hc]
        · cases hs : itself c with
          | false => rw [unq_bad c t h1 h2 hs] at h; simp at h
          | true =>
            rw [unq_self c t hs] at h
            cases hr : unq t with
            | inl y => rw [hr] at h; simp [sp] at h
            | inr y =>
              obtain ⟨b', n'⟩ := y
              rw [hr] at h
              simp [sp] at h
              obtain ⟨rfl, rfl⟩ := h
              have := ih t.length (by simp) t b' n' hr rfl
              rw [show 1 + n' = n' + 1 from by omega, List.take_succ_cons, this]
              simp [quoteB, one, hs]
/-- The bytes of a whole quoted form. -/
def unquote (s : List UInt8) : Option (List UInt8) :=
  match s with
  | [] => none
  | c :: t => if c.toNat = 34 then
      match unq t with
      | .inl _ => none
      | .inr (b, n) => if n < t.length then none else some b
      else none
theorem unquote_quote (b : List UInt8) : unquote (quote b) = some b := by
  simp only [unquote, quote]
  rw [unq_quote b []]
  simp
theorem quote_unquote {s b : List UInt8} (h : unquote s = some b) : quote b = s := by
  unfold unquote at h
  split at h
  · simp at h
  · rename_i c t
    split at h
    · rename_i hc
      split at h
      · simp at h
      · rename_i b' n hr
        split at h
        · simp at h
        · simp at h
          subst h
          have := unq_form t b' n hr
          have hle := unq_le t
          rw [hr] at hle
          have hn : n = t.length := by have := hle.1; omega
          rw [hn, List.take_length] at this
          have hc' : c = 34 := UInt8.toNat_inj.1 hc
          simp [quote, hc', this]
    · simp at h
theorem one_length (c : UInt8) : 1 ≤ (one c).length ∧ (one c).length ≤ 4 := by unfold one; split <;> simp
theorem quoteB_length (b : List UInt8) : b.length ≤ (quoteB b).length ∧ (quoteB b).length ≤ 4 * b.length := by
  induction b with
  | nil => simp [quoteB]
  | cons c b ih => have := one_length c; simp [quoteB] at ih ⊢; omega
theorem quote_length (b : List UInt8) : b.length + 2 ≤ (quote b).length ∧ (quote b).length ≤ 4 * b.length + 2 := by
  have := quoteB_length b; simp [quote]; omega
theorem hexD_plain (n : Nat) (h : n < 16) : 32 ≤ (hexD n).toNat ∧ (hexD n).toNat ≤ 126 ∧ (hexD n).toNat ≠ 34 := by
  revert n
  decide +kernel
theorem one_plain (c : UInt8) : ∀ x ∈ one c, 32 ≤ x.toNat ∧ x.toNat ≤ 126 ∧ x.toNat ≠ 34 := by
  have hc := c.toNat_lt
  intro x hx
  unfold one at hx
  split at hx
  · rename_i h
    simp at hx
    subst hx
    simp [itself] at h
    omega
  · simp at hx
    rcases hx with rfl | rfl | rfl | rfl
    · decide
    · decide
    · exact hexD_plain _ (by omega)
    · exact hexD_plain _ (by omega)
theorem quoteB_plain (b : List UInt8) : ∀ x ∈ quoteB b, 32 ≤ x.toNat ∧ x.toNat ≤ 126 ∧ x.toNat ≠ 34 := by
  intro x hx
  obtain ⟨y, hy, hx⟩ := List.mem_flatten.1 hx
  obtain ⟨c, _, rfl⟩ := List.mem_map.1 hy
  exact one_plain c x hx
end T
end Go.Proofs.YtncnogndopgknaaGreatDoor
