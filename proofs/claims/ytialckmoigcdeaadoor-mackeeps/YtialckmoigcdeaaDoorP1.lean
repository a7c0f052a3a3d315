/- What the laws over handles share. -/
import Derived.Test.YtialckmoigcdeaaDoorLawB
import Derived.Test.YtialckmoigcdeaaDoorLawC
namespace Go.Proofs.YtialckmoigcdeaaDoor
open Go.RowKit

theorem words_own (W : World) (ao : Option Addr) (n c : Nat) (xs : List Int) (hx : xs.length = n) (hat : At W .u32 ao xs) (hs : Sl ao c) (hn : n * 4 ≤ 140737488355328) :
    Calls Tryd.prog 15 #[.slice ao n c] W fun e W' => ∃ vo vc, e = .returned (.slice vo n vc) ∧ n ≤ vc ∧ At W' .u32 vo xs ∧ Sl vo vc ∧ Below W.heap.size W W' := by
  refine (words_law W ao n c xs hx hat hs hn).mono ?_
  rintro e w ⟨v, rfl, H⟩
  obtain ⟨vo, vc, rfl, h1, h2, h3⟩ := H.at'
  rw [hx] at h1 ⊢
  exact ⟨vo, vc, rfl, h1, h2, fun h => (h3 h).1, H.below⟩
theorem bytes_own (W : World) (ao : Option Addr) (n c : Nat) (xs : List Int) (hx : xs.length = n) (hat : At W .u8 ao xs) (hs : Sl ao c) (hn : n ≤ 140737488355328) :
    Calls Tryd.prog 8 #[.slice ao n c] W fun e W' => ∃ vo vc, e = .returned (.slice vo n vc) ∧ n ≤ vc ∧ At W' .u8 vo xs ∧ Sl vo vc ∧ Below W.heap.size W W' := by
  refine (bytes_law W ao n c xs hx hat hs hn).mono ?_
  rintro e w ⟨v, rfl, H⟩
  obtain ⟨vo, vc, rfl, h1, h2, h3⟩ := H.at'
  rw [hx] at h1 ⊢
  exact ⟨vo, vc, rfl, h1, h2, fun h => (h3 h).1, H.below⟩
/-- Bytes of words, its block. -/
theorem bytes_blk (W : World) (hT : Tabs W) (ao : Option Addr) (n cap : Nat) (xs : List Int) (hx : xs.length = n) (wx : Wds xs) (h1 : At W .u32 ao xs) (hn : 4 * n ≤ 140737488351232) :
    Calls Tryd.prog 13 #[.slice ao n cap] W fun e W' => e = .returned (.slice (some ⟨W.heap.size, 0, none⟩) (4 * n) (4 * n)) ∧ Blk W' W.heap.size .u8 5 (bytesD xs) ∧ Below W.heap.size W W' := by
  have := hT.sz
  refine (bytes_at W hT.lows ao n cap xs hx wx h1 hn (by omega)).mono ?_
  rintro e w ⟨rfl, O⟩
  exact ⟨rfl, O.blk, O.below⟩
theorem sl_cut {ao : Option Addr} {c : Nat} (h : Sl ao c) (a : Nat) : Sl (if c = a then ao else Option.map (fun x => x.add a) ao) (c - a) := by
  intro hh
  split at hh
  · omega
  · cases ao with
    | none => have := h rfl; omega
    | some x => cases hh
theorem wds_take {xs : List Int} (h : Wds xs) (n : Nat) : Wds (xs.take n) := fun i => by
  by_cases hi : i < n
  · rw [getD_take hi]; exact h i
  · simp [List.getD_eq_getElem?_getD, List.getElem?_take, hi]
theorem wds_drop {xs : List Int} (h : Wds xs) (n : Nat) : Wds (xs.drop n) := fun i => by
  rw [getD_drop]; exact h _
theorem take_more (xs : List Int) (a b : Nat) (h : a ≤ b) : xs.take a ++ (xs.drop a).take (b - a) = xs.take b := by
  rw [show b = a + (b - a) by omega, List.take_add]
  congr 2
  omega
end Go.Proofs.YtialckmoigcdeaaDoor
