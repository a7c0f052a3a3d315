/- A digest that holds a list of words. -/
import Derived.Test.YtialckmoigcdeaaDoorMth
namespace Go.Proofs.YtialckmoigcdeaaDoor
open Go.RowKit

def DigL (W : World) (g : Nat) (L : List Int) : Prop := Dig W g (S.run S.First L (L.length / 16)) L.length (L.drop (16 * (L.length / 16)))
theorem DigL.lt {W : World} {g : Nat} {L : List Int} (h : DigL W g L) : g < W.heap.size := Dig.lt h
theorem DigL.below {W w : World} {g : Nat} {L : List Int} (h : DigL W g L) (hb : Below W.heap.size W w) : DigL w g L := Dig.below h hb (Dig.lt h)
theorem DigL.but {W w : World} {g i : Nat} {L : List Int} (h : DigL W i L) (hb : But g W w) (hi : i ≠ g) : DigL w i L := Dig.but h hb hi
theorem newL_any (W : World) :
    Calls Tryd.prog 43 #[] W fun e W' => ∃ g, W.heap.size ≤ g ∧ e = .returned (.pointer (some ⟨g, 0, none⟩)) ∧ DigL W' g [] ∧ Below W.heap.size W W' := new_any W
theorem copyL_any (W : World) (g : Nat) (L : List Int) (D : DigL W g L) :
    Calls Tryd.prog 35 #[.pointer (some ⟨g, 0, none⟩)] W fun e W' => ∃ g', W.heap.size ≤ g' ∧ e = .returned (.pointer (some ⟨g', 0, none⟩)) ∧ DigL W' g' L ∧ Below W.heap.size W W' := copy_any W g _ _ _ D
theorem sumL_any (W : World) (hT : Tab W) (h2 : 2 < W.heap.size) (g : Nat) (L : List Int) (D : DigL W g L) :
    Calls Tryd.prog 36 #[.pointer (some ⟨g, 0, none⟩)] W fun e W' => e = .returned (.agg ((sumW L).map (Value.int .u32)).toArray) ∧ Below W.heap.size W W' := dsum_any W hT h2 g _ _ _ D
theorem addL_any (W : World) (hT : Tab W) (h2 : 2 < W.heap.size) (g : Nat) (L : List Int) (D : DigL W g L) (ao : Option Addr) (m c : Nat) (xs : List Int) (hx : xs.length = m) (hat : At W .u32 ao xs) (hm : m ≤ 35184372088800) (h : L.length + m ≤ 36028797018963968) :
    Calls Tryd.prog 18 #[.pointer (some ⟨g, 0, none⟩), .slice ao m c] W fun e W' => e = .returned (.tuple #[]) ∧ DigL W' g (L ++ xs) ∧ But g W W' := by
  refine (add_fits W hT h2 g _ _ _ D ao m c xs hx hat hm h).mono ?_
  rintro e W' ⟨rfl, D', hb⟩
  refine ⟨rfl, ?_, hb⟩
  have e1 : L.drop (16 * (L.length / 16)) ++ xs = (L ++ xs).drop (16 * (L.length / 16)) := by
    rw [List.drop_append_of_le_length (by omega)]
  have e2 : (L ++ xs).length / 16 = L.length / 16 + (L.length % 16 + m) / 16 := by rw [List.length_append, hx]; omega
  unfold DigL
  rw [e2, run_more, run_head _ _ _ _ (by omega), ← e1, List.length_append, hx, show 16 * (L.length / 16 + (L.length % 16 + m) / 16) = 16 * (L.length / 16) + 16 * ((L.length % 16 + m) / 16) by omega, ← List.drop_drop, ← e1]
  exact D'
theorem At.cut {W : World} {k : IntKind} {ao : Option Addr} {xs : List Int} (h : At W k ao xs) (n cap a m : Nat) (hx : xs.length = n) (hc : n ≤ cap) (ha : a + m ≤ n) : At W k (if cap = a then ao else Option.map (fun x => x.add a) ao) ((xs.drop a).take m) := by
  rcases Nat.eq_zero_or_pos m with rfl | hm
  · left; simp
  · rcases h with h0 | ⟨b, off, rfl, hb, hr⟩
    · rw [h0] at hx; simp at hx; omega
    · rw [if_neg (by omega)]
      exact .inr ⟨b, off + a, by simp [Addr.add_mid], hb, (hr.drop a).take m⟩
theorem At.head {W : World} {k : IntKind} {ao : Option Addr} {xs : List Int} (h : At W k ao xs) (a : Nat) : At W k ao (xs.take a) := by
  rcases h with h0 | ⟨b, off, h1, hb, hr⟩
  · left; rw [h0]; simp
  · exact .inr ⟨b, off, h1, hb, hr.take a⟩
end Go.Proofs.YtialckmoigcdeaaDoor
