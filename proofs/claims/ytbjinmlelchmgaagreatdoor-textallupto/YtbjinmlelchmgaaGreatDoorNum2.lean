/- Numbers and their texts, there and back. -/
import Derived.Test.YtbjinmlelchmgaaGreatDoorNumNam
import Derived.Test.YtbjinmlelchmgaaGreatDoorHexd
import Derived.Lib.ItoaNum
import Derived.Lib.ItoaMem
namespace Go.Proofs.YtbjinmlelchmgaaGreatDoor
namespace T
open Go.Lib

theorem isDig_iff (c : UInt8) : isDig c = true ↔ 48 ≤ c.toNat ∧ c.toNat ≤ 57 := by simp [isDig]
theorem dgt (d : Nat) (h : d < 10) : (UInt8.ofNat (48 + d)).toNat = 48 + d := by rw [UInt8.toNat_ofNat']; omega
theorem decDigits_val (u : Nat) : val (decDigits u) = u := by
  induction u using Nat.strongRecOn with
  | _ u ih =>
    rw [decDigits]
    split
    · rename_i h
      simp [val, step, dv]
      omega
    · rename_i h
      rw [val_snoc, ih (u / 10) (by omega)]
      simp only [dv, dgt (u % 10) (by omega)]
      omega
theorem decDigits_all (u : Nat) : (decDigits u).all isDig = true := by
  induction u using Nat.strongRecOn with
  | _ u ih =>
    rw [decDigits]
    split
    · rename_i h
      simp only [List.all_cons, List.all_nil, Bool.and_true]
      rw [isDig_iff, dgt u h]
      omega
    · rename_i h
      rw [List.all_append, ih (u / 10) (by omega)]
      simp only [List.all_cons, List.all_nil, Bool.and_true, Bool.true_and]
      rw [isDig_iff, dgt (u % 10) (by omega)]
      omega
theorem nDigits_le (k : Nat) : ∀ u, u < 10 ^ (k + 1) → nDigits u ≤ k + 1 := by
  induction k with
  | zero => intro u h; rw [nDigits_small (by simpa using h)]; omega
  | succ k ih =>
    intro u h
    by_cases hs : u < 10
    · rw [nDigits_small hs]; omega
    · rw [nDigits_big hs]
      have := ih (u / 10) (by rw [Nat.pow_succ] at h; omega)
      omega
theorem decDigits_ne (u : Nat) : decDigits u ≠ [] := by
  intro h
  have := decDigits_length u
  rw [h] at this
  have := nDigits_pos u
  simp at *
  omega
theorem headD_append (a b : List UInt8) (h : a ≠ []) : (a ++ b).headD 0 = a.headD 0 := by
  cases a with
  | nil => exact absurd rfl h
  | cons x a => rfl
theorem decDigits_head (u : Nat) (h : ((decDigits u).headD 0).toNat = 48) : u = 0 := by
  induction u using Nat.strongRecOn with
  | _ u ih =>
    rw [decDigits] at h
    split at h
    · rename_i hs
      simp only [List.headD_cons] at h
      rw [dgt u hs] at h
      omega
    · rename_i hs
      rw [headD_append _ _ (decDigits_ne _)] at h
      have := ih (u / 10) (by omega) h
      omega
/-- What tens write reads back. -/
theorem tens_dec (u m : Nat) (hu : u ≤ m) (hm : m ≤ 4294967295) : tens (decDigits u) m = some u := by
  have hl := decDigits_length u
  have h1 := nDigits_pos u
  have h2 := nDigits_le 9 u (by omega)
  unfold tens
  rw [if_neg, decDigits_all, if_pos rfl, decDigits_val, if_pos hu]
  rw [hl]
  rintro (h | h | ⟨h, h'⟩)
  · omega
  · omega
  · obtain rfl := decDigits_head u h
    rw [nDigits_small (by decide)] at h'
    omega
theorem pref_dec (u : Nat) (l : List UInt8) (c : UInt8) (hc : isDig c = false) (i : Nat) (hi : l[i]? = some c) : l.isPrefixOf (decDigits u) = false := by
  cases h : l.isPrefixOf (decDigits u) with
  | false => rfl
  | true =>
    rw [List.isPrefixOf_iff_prefix] at h
    obtain ⟨t, ht⟩ := h
    have hall := decDigits_all u
    rw [← ht, List.all_append, Bool.and_eq_true] at hall
    have := List.all_eq_true.1 hall.1 c (List.mem_of_getElem? hi)
    rw [hc] at this
    cases this
theorem number_dec (u : Nat) (hu : u ≤ 4294967295) : number (decDigits u) = some u := by
  unfold number
  rw [if_neg (by rw [pref_dec u [48, 120] 120 (by decide) 1 rfl]; simp)]
  exact tens_dec u _ hu (by decide)
theorem signed_itoa (n : Int) (h0 : -2147483648 ≤ n) (h1 : n ≤ 2147483647) : signed (itoa n) = some n := by
  unfold signed
  by_cases h : n < 0
  · rw [show itoa n = 45 :: decDigits n.natAbs from by unfold itoa; rw [if_pos h]]
    rw [if_pos (by rfl)]
    simp only [List.drop_succ_cons, List.drop_zero]
    rw [tens_dec n.natAbs 2147483648 (by omega) (by decide)]
    simp only
    rw [if_neg (by omega)]
    congr 1
    omega
  · rw [show itoa n = decDigits n.toNat from by unfold itoa; rw [if_neg h]]
    rw [if_neg (by rw [pref_dec _ [45] 45 (by decide) 0 rfl]; simp), tens_dec n.toNat 2147483647 (by omega) (by decide)]
    simp only
    congr 1
    omega
theorem last_split (l : List UInt8) (n : Nat) (h : l.length = n + 1) : ∃ t c, l = t ++ [c] ∧ t.length = n := by
  have hne : l ≠ [] := by intro h0; rw [h0] at h; simp at h
  exact ⟨l.dropLast, l.getLast hne, (List.dropLast_concat_getLast hne).symm, by simp [h]⟩
theorem dec_val (n : Nat) : ∀ s : List UInt8, s.length = n + 1 → s.all isDig = true → ((s.headD 0).toNat = 48 → s.length = 1) → decDigits (val s) = s := by
  induction n with
  | zero =>
    intro s hs ha _
    obtain ⟨t, c, rfl, ht⟩ := last_split s 0 hs
    obtain rfl : t = [] := List.eq_nil_of_length_eq_zero ht
    simp only [List.nil_append, List.all_cons, List.all_nil, Bool.and_true] at ha
    rw [isDig_iff] at ha
    have hv : val ([] ++ [c]) = c.toNat - 48 := by simp [val, step, dv]
    rw [hv, decDigits_one (by omega), show 48 + (c.toNat - 48) = c.toNat from by omega]
    simp
  | succ n ih =>
    intro s hs ha hh
    obtain ⟨t, c, rfl, ht⟩ := last_split s (n + 1) hs
    rw [List.all_append, Bool.and_eq_true] at ha
    have hc := ha.2
    simp only [List.all_cons, List.all_nil, Bool.and_true] at hc
    rw [isDig_iff] at hc
    have hne : t ≠ [] := by intro h; rw [h] at ht; simp at ht
    rw [headD_append _ _ hne] at hh
    have ht48 : (t.headD 0).toNat ≠ 48 := fun h => by have := hh h; simp at this; exact hne this
    have hd := ih t ht ha.1 (fun h => absurd h ht48)
    have hpos : val t ≠ 0 := by
      intro h0
      rw [h0] at hd
      apply ht48
      rw [← hd]
      decide +kernel
    rw [val_snoc, decDigits, dif_neg (by omega), show (val t * 10 + dv c) / 10 = val t from by simp only [dv]; omega, hd, show (val t * 10 + dv c) % 10 = dv c from by simp only [dv]; omega]
    simp only [dv]
    rw [show 48 + (c.toNat - 48) = c.toNat from by omega]
    simp
/-- What tens read is what they write. -/
theorem dec_tens {s : List UInt8} {m v : Nat} (h : tens s m = some v) : decDigits v = s ∧ v ≤ m := by
  unfold tens at h
  split at h
  · cases h
  · rename_i hc
    split at h
    · rename_i ha
      split at h
      · rename_i hm
        have := Option.some.inj h
        subst this
        refine ⟨dec_val (s.length - 1) s (by omega) ha (fun h => ?_), hm⟩
        by_cases h1 : s.length = 1
        · exact h1
        · exact absurd (Or.inr (Or.inr ⟨h, by omega⟩)) hc
      · cases h
    · cases h
/-- The digits of x in hex, t of them. -/
def hx (t x : Nat) : List UInt8 := (List.range t).map fun i => hexD (x / 16 ^ (t - 1 - i) % 16)
theorem hx_succ (t x : Nat) : hx (t + 1) x = hx t (x / 16) ++ [hexD (x % 16)] := by
  unfold hx
  rw [List.range_succ, List.map_append]
  congr 1
  · apply List.map_congr_left
    intro i hi
    have hi' : i < t := by simpa using hi
    rw [show t + 1 - 1 - i = (t - 1 - i) + 1 from by omega, Nat.pow_succ, Nat.mul_comm, ← Nat.div_div_eq_div_mul]
  · simp
theorem hx_length (t x : Nat) : (hx t x).length = t := by simp [hx]
theorem hval_hx (t : Nat) : ∀ x, x < 16 ^ t → hval (hx t x) = some x := by
  induction t with
  | zero => intro x h; simp at h; subst h; rfl
  | succ t ih =>
    intro x h
    rw [hx_succ, hval_snoc, ih (x / 16) (by rw [Nat.pow_succ] at h; omega)]
    simp only [hstep, hexD_inv (x % 16) (by omega)]
    congr 1
    omega
theorem hx_hval (t : Nat) : ∀ (f : List UInt8) (x : Nat), f.length = t → hval f = some x → hx t x = f := by
  induction t with
  | zero => intro f x hf h; rw [List.eq_nil_of_length_eq_zero hf]; rfl
  | succ t ih =>
    intro f x hf h
    obtain ⟨g, c, rfl, hg⟩ := last_split f t hf
    rw [hval_snoc] at h
    cases hv : hval g with
    | none => rw [hv] at h; simp [hstep] at h
    | some y =>
      cases hc : hexV c with
      | none => rw [hv] at h; simp [hstep, hc] at h
      | some d =>
        rw [hv] at h
        simp only [hstep, hc] at h
        have := Option.some.inj h
        subst this
        obtain ⟨hd1, hd2⟩ := hexV_lt hc
        rw [hx_succ, show (y * 16 + d) / 16 = y from by omega, show (y * 16 + d) % 16 = d from by omega, hd2, ih g y hg hv]
theorem hexT8_hx (w : Nat) : hexT8 w 8 = hx 8 w := by unfold hexT8 hx; rfl
theorem hexed8_length (w : Nat) : (hexed8 w).length = 10 := by simp [hexed8, hexT8_length]
theorem number_hex (w : Nat) (hw : w < 4294967296) : number (hexed8 w) = some w := by
  unfold number
  rw [if_pos (by rfl)]
  rw [show (hexed8 w).drop 2 = hx 8 w from by rw [← hexT8_hx]; rfl]
  unfold hexed
  rw [if_neg (by rw [hx_length]; omega)]
  exact hval_hx 8 w (by omega)
theorem hval_zeros (k : Nat) (d : List UInt8) : hval (List.replicate k 48 ++ d) = hval d := by
  induction k with
  | zero => rfl
  | succ k ih =>
    rw [List.replicate_succ, List.cons_append]
    rw [← ih]
    unfold hval
    rw [List.foldl_cons]
    rfl
/-- What a number reads as: tens, or hex. -/
theorem number_form {s : List UInt8} {x : Nat} (h : number s = some x) : x ≤ 4294967295 ∧ (decDigits x = s ∨ (3 ≤ s.length ∧ s.length ≤ 10 ∧ s = 48 :: 120 :: s.drop 2 ∧ hexed8 x = [48, 120] ++ List.replicate (10 - s.length) 48 ++ s.drop 2)) := by
  unfold number at h
  split at h
  · rename_i hp
    rw [List.isPrefixOf_iff_prefix] at hp
    obtain ⟨t, rfl⟩ := hp
    simp only [List.cons_append, List.nil_append, List.drop_succ_cons, List.drop_zero] at h ⊢
    unfold hexed at h
    split at h
    · cases h
    · rename_i hc
      have hlt := hval_lt h
      have hp : 16 ^ t.length ≤ 16 ^ 8 := Nat.pow_le_pow_right (by decide) (by omega)
      refine ⟨by omega, .inr ⟨by simp; omega, by simp; omega, trivial, ?_⟩⟩
      unfold hexed8
      rw [hexT8_hx, hx_hval 8 (List.replicate (8 - t.length) 48 ++ t) x (by simp; omega) (by rw [hval_zeros]; exact h)]
      simp
  · obtain ⟨h1, h2⟩ := dec_tens h
    exact ⟨h2, .inl h1⟩
theorem signed_form {s : List UInt8} {y : Int} (h : signed s = some y) : -2147483648 ≤ y ∧ y ≤ 2147483647 ∧ itoa y = s := by
  unfold signed at h
  split at h
  · rename_i hp
    rw [List.isPrefixOf_iff_prefix] at hp
    obtain ⟨t, rfl⟩ := hp
    simp only [List.cons_append, List.nil_append, List.drop_succ_cons, List.drop_zero] at h ⊢
    cases ht : tens t 2147483648 with
    | none => rw [ht] at h; cases h
    | some n =>
      rw [ht] at h
      simp only at h
      split at h
      · cases h
      · rename_i hn
        have := Option.some.inj h
        subst this
        obtain ⟨h1, h2⟩ := dec_tens ht
        refine ⟨by omega, by omega, ?_⟩
        unfold itoa
        rw [if_pos (by omega), show (-(n : Int)).natAbs = n from by omega, h1]
  · cases ht : tens s 2147483647 with
    | none => rw [ht] at h; cases h
    | some n =>
      rw [ht] at h
      have := Option.some.inj h
      subst this
      obtain ⟨h1, h2⟩ := dec_tens ht
      refine ⟨by omega, by omega, ?_⟩
      unfold itoa
      rw [if_neg (by omega), show (n : Int).toNat = n from by omega, h1]
end T
end Go.Proofs.YtbjinmlelchmgaaGreatDoor
