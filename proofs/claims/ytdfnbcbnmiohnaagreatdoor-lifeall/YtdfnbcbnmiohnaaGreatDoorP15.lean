import Derived.Test.YtdfnbcbnmiohnaaGreatDoorP13
import Derived.Test.YtdfnbcbnmiohnaaGreatDoorP02
import Derived.Test.YtdfnbcbnmiohnaaGreatDoorP01
namespace Go.Proofs.YtdfnbcbnmiohnaaGreatDoor.H
open Go.RowKit

def markW (t : Nat) : List Int := (List.range t).map fun (i : Nat) => 3237998080 + (i : Int)
def markB (t : Nat) : List Int := (List.range t).map fun (i : Nat) => (192 + (i : Int)) % 256

def TabR (W : World) : Prop := Row W .u32 1 0 S.K
theorem TabR.below {W w : World} {B : Nat} (h : TabR W) (hb : Below B W w) (hB : 1 < B) : TabR w := Row.below h hb hB
theorem TabR.cell {W : World} (h : TabR W) (i : Nat) (hi : i < 64) : W.cell? ⟨1, i, none⟩ = some (.int .u32 (S.K.getD i 0)) := by
  have := h i hi
  rwa [Nat.zero_add] at this
theorem or_comm32 (a b : Int) : bits .or .u32 a b = bits .or .u32 b a := by simp only [bits, BitVec.or_comm]
theorem turn_any (W : World) (x : Int) (z : Int) (k : Nat) (hz : z = k) (h0 : 1 ≤ k) (h1 : k ≤ 31) :
    Calls Tryz.prog 161 #[.int .u32 x, .int .u64 z] W fun e W' => e = .returned (.int .u32 (S.rot x k)) ∧ W = W' := by
  subst hz
  have e1 : IntKind.u64.wrap (32 - (k : Int)) = ((32 - k : Nat) : Int) := by rw [IntKind.wrap_u64]; omega
  have e2 : (32 : Int) - (k : Int) = ((32 - k : Nat) : Int) := by omega
  have e3 : ((32 - k : Nat) : Int) % 18446744073709551616 = ((32 - k : Nat) : Int) := by omega
  have HC : Hid (bits .or .u32 (x / 2 ^ k) (x * 2 ^ (32 - k) % 4294967296) = S.rot x k) := or_comm32 _ _
  go_enter Tryz.func161, Tryz.ntmps161
  go_wp2
  go_ret
  exact ⟨ret_int HC.out, rfl⟩

theorem sched_pre (B : List Int) (k j i : Nat) (hi : i < B.length + k) : (S.sched B (k + j)).getD i 0 = (S.sched B k).getD i 0 := by
  induction j with
  | zero => rfl
  | succ j ih =>
    rw [← ih, ← Nat.add_assoc]
    simp only [S.sched, List.getD_eq_getElem?_getD]
    rw [List.getElem?_append_left (by rw [sched_length]; omega)]
theorem sched_low (B : List Int) (hB : B.length = 16) (i : Nat) (hi : i < 16) : (S.sched B 48).getD i 0 = B.getD i 0 := sched_pre B 0 48 i (by omega)
theorem sched_high (B : List Int) (hB : B.length = 16) (t : Nat) (h : t < 48) : (S.sched B 48).getD (16 + t) 0 = (S.s1 ((S.sched B 48).getD (14 + t) 0) + (S.sched B 48).getD (9 + t) 0 + S.s0 ((S.sched B 48).getD (1 + t) 0) + (S.sched B 48).getD t 0) % 4294967296 := by
  have h1 := sched_pre B (t + 1) (47 - t) (16 + t) (by omega)
  have h2 := fun i (hi : i < 16 + t) => sched_pre B t (48 - t) i (by omega)
  rw [show t + 1 + (47 - t) = 48 by omega] at h1
  rw [show t + (48 - t) = 48 by omega] at h2
  rw [h1, h2 _ (by omega), h2 _ (by omega), h2 _ (by omega), h2 _ (by omega)]
  simp only [S.sched, List.getD_eq_getElem?_getD]
  rw [List.getElem?_append_right (by rw [sched_length, hB]; omega), sched_length, hB, Nat.sub_self]
  simp only [tqG, Option.getD_some, S.next, List.getD_eq_getElem?_getD]
  rw [show 16 + t - 2 = 14 + t by omega, show 16 + t - 7 = 9 + t by omega, show 16 + t - 15 = 1 + t by omega, show 16 + t - 16 = t by omega]
theorem ext_sched (B L : List Int) (hB : B.length = 16) (hL : L.length = 64) (h : ∀ i, i < 64 → L.getD i 0 = (S.sched B 48).getD i 0) : L = S.sched B 48 := by
  apply List.ext_getElem (by rw [hL, sched_length, hB])
  intro i h1 h2
  have := h i (by omega)
  simpa [List.getD_eq_getElem?_getD, h1, h2] using this
theorem set_upto {L M : List Int} {t n : Nat} (hL : L.length = n) (ht : t < n) (h : ∀ i, i < t → L.getD i 0 = M.getD i 0) (u : Int) (hu : u = M.getD t 0) : (L.set t u).length = n ∧ ∀ i, i < t + 1 → (L.set t u).getD i 0 = M.getD i 0 := by
  subst hu
  refine ⟨by simp [hL], fun i hi => ?_⟩
  rcases Nat.lt_or_ge i t with h' | h'
  · rw [← h i h']
    simp only [List.getD_eq_getElem?_getD]
    rw [List.getElem?_set_ne (by omega)]
  · obtain rfl : i = t := by omega
    simp [List.getD_eq_getElem?_getD, show i < L.length by omega]
end Go.Proofs.YtdfnbcbnmiohnaaGreatDoor.H
