/- Words with a bit turned, with a field filled. -/
import Derived.Test.YtgdekmkhbickkaaDoorMat6
namespace Go.Proofs.YtgdekmkhbickkaaDoor
open Go.RowKit

/-- The bits that a letter has. -/
def mk (l : Nat) : Nat := if l = 97 then 62914560 else if l = 107 then 29360128 else if l = 98 then 3932160 else if l = 99 then 245760 else 65535
def mskF (m : Nat) (L : List Nat) : Nat := L.foldl (fun m l => m ||| mk l) m
def mskL (L : List Nat) : Nat := mskF 4227858432 L
theorem mk_lt (l : Nat) : mk l < 2 ^ 32 := by unfold mk; (repeat' split) <;> decide
theorem mskF_bit (L : List Nat) : ∀ (m b : Nat), (mskF m L).testBit b = (m.testBit b || L.any fun l => (mk l).testBit b) := by
  induction L with
  | nil => intro m b; simp [mskF]
  | cons l L ih =>
    intro m b
    have := ih (m ||| mk l) b
    simp only [mskF, List.foldl_cons] at this ⊢
    rw [this, Nat.testBit_or, List.any_cons, Bool.or_assoc]
theorem mskF_lt (L : List Nat) : ∀ m, m < 2 ^ 32 → mskF m L < 2 ^ 32 := by
  induction L with
  | nil => intro m h; exact h
  | cons l L ih => intro m h; exact ih _ (Nat.or_lt_two_pow h (mk_lt l))
theorem mskL_snoc (L : List Nat) (l : Nat) : mskL (L ++ [l]) = mskL L ||| mk l := by simp [mskL, mskF, List.foldl_append]
theorem clr_nat (r : Nat) (hr : r < 2 ^ 32) (lo n m : Nat) (h : lo + n ≤ 32) (hm : ((2 : Int) ^ n - 1) * 2 ^ lo % 4294967296 = (m : Int)) (hm2 : m < 2 ^ 32) : M.SetF (r : Int) lo n 0 = ((r &&& (4294967295 - m) : Nat) : Int) := by
  rw [← clr_bits (r : Int) (by omega) (by omega) lo n h m hm, u32_andNot_nat r m (by omega) (by omega)]
theorem not_bit (m b : Nat) (hm : m < 2 ^ 32) (hb : b < 32) : (4294967295 - m).testBit b = !m.testBit b := by
  rw [show 4294967295 - m = 2 ^ 32 - (m + 1) by omega, Nat.testBit_two_pow_sub_succ hm]
  simp [hb]
theorem mk_fl (l : Nat) (h : letter l) : (fl l).low.toNat + (fl l).bits.toNat ≤ 32 ∧ ((2 : Int) ^ (fl l).bits.toNat - 1) * 2 ^ (fl l).low.toNat % 4294967296 = (mk l : Int) := by rcases h with rfl | rfl | rfl | rfl | rfl | rfl | rfl <;> decide
theorem rest_nat (L : List Nat) : (∀ l ∈ L, letter l) → ∀ r : Nat, r < 2 ^ 32 → ∃ r' : Nat, r' < 2 ^ 32 ∧ L.foldl (fun r l => M.SetF r (fl l).low.toNat (fl l).bits.toNat 0) (r : Int) = (r' : Int) ∧ ∀ b < 32, r'.testBit b = (r.testBit b && !(L.any fun l => (mk l).testBit b)) := by
  induction L with
  | nil => intro _ r hr; exact ⟨r, hr, rfl, fun b _ => by simp⟩
  | cons l L ih =>
    intro hL r hr
    have hl := mk_fl l (hL l (by simp))
    have e := clr_nat r hr _ _ _ hl.1 hl.2 (mk_lt l)
    have hlt : r &&& (4294967295 - mk l) < 2 ^ 32 := Nat.lt_of_le_of_lt Nat.and_le_left hr
    obtain ⟨r', h1, h2, h3⟩ := ih (fun l hl => hL l (by simp [hl])) _ hlt
    refine ⟨r', h1, ?_, fun b hb => ?_⟩
    · rw [List.foldl_cons, e]; exact h2
    · rw [h3 b hb, Nat.testBit_and, not_bit _ b (mk_lt l) hb, List.any_cons, Bool.not_or, Bool.and_assoc]
theorem rest_used (w : Nat) (hw : w < 2 ^ 32) (L : List Nat) (hL : ∀ l ∈ L, letter l) (h : restL (w : Int) L = 0) (b : Nat) (hb : b < 32) (hwb : w.testBit b = true) : (mskL L).testBit b = true := by
  have e := clr_nat w hw 26 6 4227858432 (by decide) (by decide) (by decide)
  have hlt : w &&& (4294967295 - 4227858432) < 2 ^ 32 := Nat.lt_of_le_of_lt Nat.and_le_left hw
  obtain ⟨r', h1, h2, h3⟩ := rest_nat L hL _ hlt
  unfold restL at h
  rw [e, h2] at h
  have hz : r' = 0 := by omega
  have h4 := h3 b hb
  rw [hz, Nat.zero_testBit, Nat.testBit_and, not_bit _ b (by decide) hb, hwb] at h4
  unfold mskL
  rw [mskF_bit]
  generalize Nat.testBit 4227858432 b = p at h4
  generalize (L.any fun l => (mk l).testBit b) = q at h4
  revert h4
  cases p <;> cases q <;> simp
theorem nine_letters : ∀ L ∈ nine, ∀ l ∈ L, letter l := by decide
theorem enc_rest {i : Ins} (h : chk i = 0) (n : Nat) (hn : i.op = (n : Int)) : restL (enc i) (ltr (shp n)) = 0 ∧ M.Fld (enc i) 26 6 = (n : Int) ∧ ltr (shp n) ∈ nine := by
  obtain ⟨n', hn', k1, k2, h3, h4⟩ := chk_zero h
  obtain rfl : n = n' := by omega
  rw [enc_eq h]
  exact ⟨restL_zero i _ h3 (by omega) (by omega) h4, by rw [fld_op h, hn], h3⟩
/-- Words of one Op whose word is an instruction. -/
theorem dec_same {x : Int} (h : decE x = 0) (n : Nat) (hf : M.Fld x 26 6 = (n : Int)) : restL x (ltr (shp n)) = 0 ∧ ∀ l ∈ ltr (shp n), AtL x (dec x) l := by
  obtain ⟨m, hm, _, _, hfm, hr, hl, _⟩ := dec_at h
  obtain rfl : n = m := by omega
  exact ⟨hr, hl⟩
theorem xor_high (w b : Nat) (hb : b < 26) : (w ^^^ 2 ^ b) / 2 ^ 26 = w / 2 ^ 26 := by
  rw [← Nat.shiftRight_eq_div_pow, ← Nat.shiftRight_eq_div_pow, Nat.shiftRight_xor_distrib]
  have : 2 ^ b >>> 26 = 0 := by rw [Nat.shiftRight_eq_div_pow]; exact Nat.div_eq_of_lt (Nat.pow_lt_pow_right (by decide) hb)
  rw [this, Nat.xor_zero]
theorem high_bits : ∀ b < 32, 26 ≤ b → Nat.testBit 4227858432 b = true := by decide
theorem spoil {i : Ins} (h : chk i = 0) (n : Nat) (hn : i.op = (n : Int)) (w : Nat) (hw : enc i = (w : Int)) (b : Nat) (hb : b < 32) :
    w ^^^ 2 ^ b < 2 ^ 32 ∧ (decE ((w ^^^ 2 ^ b : Nat) : Int) = 0 → dec ((w ^^^ 2 ^ b : Nat) : Int) ≠ i ∧ (mskL (ltr (shp n))).testBit b = true) := by
  have hwl : w < 2 ^ 32 := by have := enc_bounds i; omega
  have hx : w ^^^ 2 ^ b < 2 ^ 32 := Nat.xor_lt_two_pow hwl (Nat.pow_lt_pow_right (by decide) hb)
  have hbit : (w ^^^ 2 ^ b).testBit b = !w.testBit b := by rw [Nat.testBit_xor, Nat.testBit_two_pow_self]; simp
  refine ⟨hx, fun hd => ⟨fun e => ?_, ?_⟩⟩
  · have := (dec_yes hd).1
    rw [e, hw] at this
    have e2 : w = w ^^^ 2 ^ b := by omega
    have e3 := congrArg (·.testBit b) e2
    simp only [hbit] at e3
    revert e3
    cases w.testBit b <;> simp
  · obtain ⟨r1, r2, r3⟩ := enc_rest h n hn
    rw [hw] at r1 r2
    rcases Nat.lt_or_ge b 26 with h26 | h26
    · have hf : M.Fld ((w ^^^ 2 ^ b : Nat) : Int) 26 6 = (n : Int) := by
        rw [← r2]
        unfold M.Fld
        have := xor_high w b h26
        have e1 : ((w ^^^ 2 ^ b : Nat) : Int) / 2 ^ 26 = ((w : Nat) : Int) / 2 ^ 26 := by
          have h1 : (((w ^^^ 2 ^ b) / 2 ^ 26 : Nat) : Int) = ((w / 2 ^ 26 : Nat) : Int) := by rw [this]
          simpa using h1
        rw [e1]
      have h2 := (dec_same hd n hf).1
      cases hwb : w.testBit b with
      | true => exact rest_used w hwl _ (nine_letters _ r3) r1 b hb hwb
      | false => exact rest_used _ hx _ (nine_letters _ r3) h2 b hb (by rw [hbit, hwb]; rfl)
    · unfold mskL
      rw [mskF_bit, high_bits b hb h26]
      rfl
theorem or_mask (w : Int) (w0 : 0 ≤ w) (w1 : w < 4294967296) (lo n m : Nat) (h : lo + n ≤ 32) (hm : ((2 : Int) ^ n - 1) * 2 ^ lo % 4294967296 = (m : Int)) (hm2 : m < 2 ^ 32) (hv : (0 : Int) ≤ 2 ^ n - 1 ∧ (2 : Int) ^ n - 1 < 4294967296) : bits .or .u32 w (m : Int) = M.SetF w lo n (2 ^ n - 1) := by
  have e := M.setF_eq w lo n (2 ^ n - 1) w0 w1 hv.1 hv.2 h
  rw [hm] at e
  obtain ⟨w, rfl⟩ := Int.eq_ofNat_of_zero_le w0
  rw [← e, u32_andNot_nat w m (by omega) (by omega), u32_and_nat m m (by omega) (by omega), Nat.and_self]
  have hlt : w &&& (4294967295 - m) < 4294967296 := Nat.lt_of_le_of_lt Nat.and_le_left (by omega)
  rw [u32_or_nat w m (by omega) (by omega), u32_or_nat _ m hlt (by omega)]
  congr 1
  apply Nat.eq_of_testBit_eq
  intro j
  rw [Nat.testBit_or, Nat.testBit_or, Nat.testBit_and]
  rcases Nat.lt_or_ge j 32 with hj | hj
  · rw [not_bit m j hm2 hj]
    cases w.testBit j <;> cases m.testBit j <;> rfl
  · rw [Nat.testBit_lt_two_pow (Nat.lt_of_lt_of_le (show w < 2 ^ 32 by omega) (Nat.pow_le_pow_right (by decide) hj))]
    simp
theorem full_a {i : Ins} (h : chk i = 0) (n : Nat) (hn : i.op = (n : Int)) (hl : 97 ∈ ltr (shp n)) : decE (M.SetF (enc i) 22 4 15) = 50 ∧ 0 ≤ M.SetF (enc i) 22 4 15 ∧ M.SetF (enc i) 22 4 15 < 4294967296 := by
  obtain ⟨_, r2, _⟩ := enc_rest h n hn
  have hb := enc_bounds i
  refine ⟨?_, M.setF_bounds _ 22 4 15 hb.1 hb.2 (by decide)⟩
  refine (dec_no fun hd => ?_).1
  obtain ⟨_, _, p3, p4⟩ := M.setF_parts (enc i) 22 4 15
  generalize M.SetF (enc i) 22 4 15 = x at *
  have hf : M.Fld x 26 6 = (n : Int) := by
    rw [← r2]
    unfold M.Fld
    simp only [Int.reducePow] at p4 ⊢
    omega
  have := ((dec_same hd n hf).2 97 hl).1 rfl
  rw [p3] at this
  simp only [Int.reducePow] at this
  omega
theorem full_k {i : Ins} (h : chk i = 0) (n : Nat) (hn : i.op = (n : Int)) (hl : 107 ∈ ltr (shp n)) : decE (M.SetF (enc i) 22 3 7) = 50 ∧ 0 ≤ M.SetF (enc i) 22 3 7 ∧ M.SetF (enc i) 22 3 7 < 4294967296 := by
  obtain ⟨_, r2, _⟩ := enc_rest h n hn
  have hb := enc_bounds i
  refine ⟨?_, M.setF_bounds _ 22 3 7 hb.1 hb.2 (by decide)⟩
  refine (dec_no fun hd => ?_).1
  obtain ⟨_, _, p3, p4⟩ := M.setF_parts (enc i) 22 3 7
  generalize M.SetF (enc i) 22 3 7 = x at *
  have hf : M.Fld x 26 6 = (n : Int) := by
    rw [← r2]
    unfold M.Fld
    simp only [Int.reducePow] at p4 ⊢
    omega
  have := ((dec_same hd n hf).2 107 hl).2.1 rfl
  rw [p3] at this
  simp only [Int.reducePow] at this
  omega
end Go.Proofs.YtgdekmkhbickkaaDoor
