/- Where the fields of a word stand. -/
import Derived.Test.YtgdekmkhbickkaaDoorMat5
namespace Go.Proofs.YtgdekmkhbickkaaDoor
open Go.RowKit

theorem clr_bits (r : Int) (r0 : 0 ≤ r) (r1 : r < 4294967296) (lo n : Nat) (h : lo + n ≤ 32) (m : Int) (hm : (2 ^ n - 1) * 2 ^ lo % 4294967296 = m) : bits .andNot .u32 r m = M.SetF r lo n 0 := by
  have e := M.setF_eq r lo n 0 r0 r1 (by decide) (by decide) h
  rw [hm, Int.zero_mul] at e
  have hm0 : 0 ≤ m := by rw [← hm]; exact Int.emod_nonneg _ (by decide)
  have hm1 : m < 4294967296 := by rw [← hm]; exact Int.emod_lt_of_pos _ (by decide)
  rw [← e]
  have z : bits .and .u32 (0 % 4294967296) m = 0 := by
    obtain ⟨k, rfl⟩ := Int.eq_ofNat_of_zero_le hm0
    rw [show (0 : Int) % 4294967296 = ((0 : Nat) : Int) from rfl, u32_and_nat 0 k (by decide) (by omega)]
    simp
  rw [z]
  obtain ⟨k, rfl⟩ := Int.eq_ofNat_of_zero_le hm0
  obtain ⟨r', rfl⟩ := Int.eq_ofNat_of_zero_le r0
  rw [u32_andNot_nat r' k (by omega) (by omega)]
  have hlt : r' &&& (4294967295 - k) < 4294967296 := Nat.lt_of_le_of_lt Nat.and_le_left (by omega)
  rw [show (0 : Int) = ((0 : Nat) : Int) from rfl, u32_or_nat _ 0 hlt (by decide)]
  simp
/-- What is left of a word, its fields taken out one by one. -/
def restL (w : Int) (L : List Nat) : Int := L.foldl (fun r l => M.SetF r (fl l).low.toNat (fl l).bits.toNat 0) (M.SetF w 26 6 0)
theorem restL_snoc (w : Int) (L : List Nat) (l : Nat) : restL w (L ++ [l]) = M.SetF (restL w L) (fl l).low.toNat (fl l).bits.toNat 0 := by simp [restL, List.foldl_append]
theorem restL_zero (i : Ins) (L : List Nat) (h : L ∈ nine) (h0 : 1 ≤ i.op) (h1 : i.op < 25) (hg : Good i L) : restL (sumW i) L = 0 := by
  obtain ⟨op, cond, a, b, c, imm⟩ := i
  simp only [nine, List.mem_cons, List.not_mem_nil, or_false] at h
  rcases h with rfl | rfl | rfl | rfl | rfl | rfl | rfl | rfl | rfl
  all_goals
    simp [Good, Wi, Im] at hg
    simp [restL, sumW, fl, M.SetF, M.Fld] at h0 h1 ⊢
    omega
/-- What stands at a letter's place. -/
def AtL (w : Int) (i : Ins) (l : Nat) : Prop := (l = 97 → M.Fld w 22 4 = i.a ∧ i.a ≤ 14) ∧ (l = 107 → M.Fld w 22 3 = i.cond ∧ i.cond ≤ 6) ∧ (l = 98 → M.Fld w 18 4 = i.b ∧ i.b ≤ 14) ∧ (l = 99 → M.Fld w 14 4 = i.c ∧ i.c ≤ 14) ∧
  (l = 117 → M.Fld w 0 16 = i.imm) ∧ (l = 115 ∨ l = 111 → w % 65536 = i.imm % 65536 ∧ -32768 ≤ i.imm ∧ i.imm ≤ 32767)
theorem atL (i : Ins) (L : List Nat) (h : L ∈ nine) (h0 : 1 ≤ i.op) (h1 : i.op < 25) (hg : Good i L) (l : Nat) (hl : l ∈ L) : AtL (sumW i) i l := by
  have hb := good_bounds h hg
  obtain ⟨op, cond, a, b, c, imm⟩ := i
  simp only [nine, List.mem_cons, List.not_mem_nil, or_false] at h
  rcases h with rfl | rfl | rfl | rfl | rfl | rfl | rfl | rfl | rfl
  all_goals
    simp [Good, Wi, Im] at hg
    simp at hl
    simp only [AtL, sumW, M.Fld, Int.reducePow] at h0 h1 hb ⊢
    refine ⟨fun e => ?_, fun e => ?_, fun e => ?_, fun e => ?_, fun e => ?_, fun e => ?_⟩ <;> omega
/-- A word that is an instruction, and its instruction. -/
theorem dec_at {w : Int} (h : decE w = 0) : ∃ n : Nat, (dec w).op = (n : Int) ∧ 1 ≤ n ∧ n < 25 ∧ M.Fld w 26 6 = (dec w).op ∧ restL w (ltr (shp n)) = 0 ∧ (∀ l ∈ ltr (shp n), AtL w (dec w) l) ∧ 0 < (ltr (shp n)).length := by
  obtain ⟨h1, h2⟩ := dec_yes h
  obtain ⟨n, hn, k1, k2, h3, h4⟩ := chk_zero h2
  have e : sumW (dec w) = w := by rw [← enc_eq h2, h1]
  have hlen : 0 < (ltr (shp n)).length := by
    have : ∀ L ∈ nine, 0 < L.length := by decide
    exact this _ h3
  refine ⟨n, hn, k1, k2, ?_, ?_, ?_, hlen⟩
  · have := fld_op h2; rw [e] at this; exact this
  · have := restL_zero (dec w) _ h3 (by omega) (by omega) h4; rw [e] at this; exact this
  · intro l hl; have := atL (dec w) _ h3 (by omega) (by omega) h4 l hl; rw [e] at this; exact this
end Go.Proofs.YtgdekmkhbickkaaDoor
