import Derived.Test.YtncnogndopgknaaGreatDoorP08
namespace Go.Proofs.YtncnogndopgknaaGreatDoor

def nine : List (List Nat) := [[97, 117], [97, 98], [97, 98, 99], [97, 98, 115], [97, 115], [107, 111], [111], [97], [117]]
theorem ltr_nine : ∀ n < 25, 1 ≤ n → ltr (shp n) ∈ nine := by decide +kernel
def Wi (u : Bool) (v lo hi : Int) : Prop := if u then lo ≤ v ∧ v ≤ hi else v = 0
def Im (L : List Nat) (v : Int) : Prop := if L.contains 117 then 0 ≤ v ∧ v ≤ 65535 else if L.contains 115 || L.contains 111 then -32768 ≤ v ∧ v ≤ 32767 else v = 0
def Good (i : Ins) (L : List Nat) : Prop := Wi (L.contains 97) i.a 0 14 ∧ Wi (L.contains 98) i.b 0 14 ∧ Wi (L.contains 99) i.c 0 14 ∧ Wi (L.contains 107) i.cond 0 6 ∧ Im L i.imm
theorem good_iff (i : Ins) (L : List Nat) (h : L ∈ nine) : ((∀ l ∈ L, okAt i l) ∧ clr i L = Ins.z) ↔ Good i L := by
  obtain ⟨op, cond, a, b, c, imm⟩ := i
  simp only [nine, List.mem_cons, List.not_mem_nil, or_false] at h
  rcases h with rfl | rfl | rfl | rfl | rfl | rfl | rfl | rfl | rfl
  all_goals
    simp [okAt, clr, fl, Ins.num, Ins.put, Ins.z, Good, Wi, Im]
    try omega
theorem chk_zero {i : Ins} (h : chk i = 0) : ∃ n : Nat, i.op = (n : Int) ∧ 1 ≤ n ∧ n < 25 ∧ ltr (shp n) ∈ nine ∧ Good i (ltr (shp n)) := by
  unfold chk at h
  split at h
  · rename_i h1
    refine ⟨i.op.toNat, by omega, by omega, by omega, ltr_nine _ (by omega) (by omega), ?_⟩
    split at h
    · rename_i h2
      exact (good_iff _ _ (ltr_nine _ (by omega) (by omega))).1 h2
    · exact absurd h (by decide)
  · exact absurd h (by decide)
def sumW (i : Ins) : Int := i.op * 67108864 + (i.a + i.cond) * 4194304 + i.b * 262144 + i.c * 16384 + i.imm % 65536
theorem encL_eq (i : Ins) (L : List Nat) (h : L ∈ nine) (h0 : 1 ≤ i.op) (h1 : i.op < 25) (hg : Good i L) : encL i L = sumW i := by
  obtain ⟨op, cond, a, b, c, imm⟩ := i
  simp only [nine, List.mem_cons, List.not_mem_nil, or_false] at h
  rcases h with rfl | rfl | rfl | rfl | rfl | rfl | rfl | rfl | rfl
  all_goals
    simp [Good, Wi, Im] at hg
    simp [encL, sumW, fl, Ins.num, M.SetF, M.Fld] at h0 h1 ⊢
    omega
theorem enc_eq {i : Ins} (h : chk i = 0) : enc i = sumW i := by
  obtain ⟨n, hn, h1, h2, h3, h4⟩ := chk_zero h
  unfold enc encW
  rw [if_pos h, hn, Int.toNat_natCast]
  exact encL_eq i _ h3 (by omega) (by omega) h4
theorem good_bounds {i : Ins} {L : List Nat} (h : L ∈ nine) (hg : Good i L) : 0 ≤ i.a ∧ i.a ≤ 14 ∧ 0 ≤ i.b ∧ i.b ≤ 14 ∧ 0 ≤ i.c ∧ i.c ≤ 14 ∧ 0 ≤ i.cond ∧ i.cond ≤ 6 ∧ -32768 ≤ i.imm ∧ i.imm ≤ 65535 ∧ (i.a = 0 ∨ i.cond = 0) := by
  simp only [nine, List.mem_cons, List.not_mem_nil, or_false] at h
  rcases h with rfl | rfl | rfl | rfl | rfl | rfl | rfl | rfl | rfl
  all_goals
    simp [Good, Wi, Im] at hg
    omega
theorem enc_bounds (i : Ins) : 0 ≤ enc i ∧ enc i < 4294967296 := by
  by_cases h : chk i = 0
  · obtain ⟨n, hn, h1, h2, h3, h4⟩ := chk_zero h
    have := good_bounds h3 h4
    rw [enc_eq h]
    unfold sumW
    omega
  · unfold enc; rw [if_neg h]; decide
theorem dec_yes {w : Int} (h : decE w = 0) : enc (dec w) = w ∧ chk (dec w) = 0 := by
  by_cases b : decOk w
  · have c : chk (decI w) = 0 ∧ enc (decI w) = w := b
    unfold dec
    rw [if_pos b]
    exact ⟨c.2, c.1⟩
  · unfold decE at h; rw [if_neg b] at h; exact absurd h (by decide)
theorem dec_no {w : Int} (h : decE w ≠ 0) : decE w = 50 ∧ dec w = Ins.z := by
  by_cases b : decOk w
  · unfold decE at h; rw [if_pos b] at h; exact absurd rfl h
  · unfold decE dec; rw [if_neg b, if_neg b]; exact ⟨rfl, rfl⟩
end Go.Proofs.YtncnogndopgknaaGreatDoor
namespace Go.Proofs.YtncnogndopgknaaGreatDoor
open Go.RowKit
structure Tabs (W : World) : Prop where
  f : Forms W
  t : Tab W
  z : 5 < W.heap.size
theorem Tabs.on {W w : World} (h : Tabs W) (hb : Below W.heap.size W w) : Tabs w := ⟨h.f.below hb (by have := h.z; omega), h.t.below hb h.z, by have := hb.size; have := h.z; omega⟩
end Go.Proofs.YtncnogndopgknaaGreatDoor
namespace Go.Proofs.YtncnogndopgknaaGreatDoor
open Go.RowKit

def RShapes (W : World) : Prop := ∀ n : Nat, n < 25 → W.cell? ⟨6, n, none⟩ = some (.string (shp n))
theorem RShapes.below {W w : World} {B : Nat} (h : RShapes W) (hb : Below B W w) (hB : 6 < B) : RShapes w := fun n hn => (hb.cell (p := ⟨6, n, none⟩) hB).trans (h n hn)
instance (u : Bool) (v lo hi : Int) : Decidable (Wi u v lo hi) := by unfold Wi; exact inferInstance

def Ins.r (i : Ins) : Value := .agg #[.int .i64 i.op, .int .i64 i.cond, .int .i64 i.a, .int .i64 i.b, .int .i64 i.c, .int .i64 i.imm]
end Go.Proofs.YtncnogndopgknaaGreatDoor
