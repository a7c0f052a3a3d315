/- A digest that holds a list of words. -/
import Derived.Test.YtjkkelkblccolaaDoorMath2
namespace Go.Proofs.YtjkkelkblccolaaDoor
open Go.RowKit

def DigL (W : World) (g : Nat) (L : List Int) : Prop := Dig W g (S.run S.First L (L.length / 16)) L.length (L.drop (16 * (L.length / 16)))
theorem DigL.lt {W : World} {g : Nat} {L : List Int} (h : DigL W g L) : g < W.heap.size := Dig.lt h
theorem DigL.below {W w : World} {g : Nat} {L : List Int} (h : DigL W g L) (hb : Below W.heap.size W w) : DigL w g L := Dig.below h hb (Dig.lt h)
theorem DigL.but {W w : World} {g i : Nat} {L : List Int} (h : DigL W i L) (hb : But g W w) (hi : i ≠ g) : DigL w i L := Dig.but h hb hi
theorem sumW_length (xs : List Int) : (sumW xs).length = 8 := run_length _ _ (run_length _ _ rfl _) _
theorem newL_any (W : World) :
    Calls Tryd.prog 15 #[] W fun e W' => ∃ g, W.heap.size ≤ g ∧ e = .returned (.pointer (some ⟨g, 0, none⟩)) ∧ DigL W' g [] ∧ Below W.heap.size W W' := new_any W
theorem copyL_any (W : World) (g : Nat) (L : List Int) (D : DigL W g L) :
    Calls Tryd.prog 19 #[.pointer (some ⟨g, 0, none⟩)] W fun e W' => ∃ g', W.heap.size ≤ g' ∧ e = .returned (.pointer (some ⟨g', 0, none⟩)) ∧ DigL W' g' L ∧ Below W.heap.size W W' := copy_any W g _ _ _ D
theorem lenL_any (W : World) (g : Nat) (L : List Int) (D : DigL W g L) :
    Calls Tryd.prog 20 #[.pointer (some ⟨g, 0, none⟩)] W fun e W' => e = .returned (.int .i64 (L.length : Int)) ∧ W = W' := len_any W g _ _ _ D
theorem sumL_any (W : World) (hT : Tab W) (h2 : 2 < W.heap.size) (g : Nat) (L : List Int) (D : DigL W g L) :
    Calls Tryd.prog 16 #[.pointer (some ⟨g, 0, none⟩)] W fun e W' => e = .returned (.agg ((sumW L).map (Value.int .u32)).toArray) ∧ Below W.heap.size W W' := dsum_any W hT h2 g _ _ _ D
theorem addL_any (W : World) (hT : Tab W) (h2 : 2 < W.heap.size) (g : Nat) (L : List Int) (D : DigL W g L) (ao : Option Addr) (m c : Nat) (xs : List Int) (hx : xs.length = m) (hat : At W .u32 ao xs) (hm : m ≤ 35184372087808) (h : L.length + m ≤ 36028797018963968) :
    Calls Tryd.prog 18 #[.pointer (some ⟨g, 0, none⟩), .slice ao m c] W fun e W' => e = .returned (.tuple #[]) ∧ DigL W' g (L ++ xs) ∧ But g W W' := by
  refine (add_fits W hT h2 g _ _ _ D ao m c xs hx hat hm h).mono ?_
  rintro e W' ⟨rfl, D', hb⟩
  refine ⟨rfl, ?_, hb⟩
  have e1 : L.drop (16 * (L.length / 16)) ++ xs = (L ++ xs).drop (16 * (L.length / 16)) := by
    rw [List.drop_append_of_le_length (by omega)]
  have e2 : (L ++ xs).length / 16 = L.length / 16 + (L.length % 16 + m) / 16 := by rw [List.length_append, hx]; omega
  unfold DigL
  rw [e2, run_more, run_head _ _ _ _ (by omega), ← e1, List.length_append, hx, show 16 * (L.length / 16 + (L.length % 16 + m) / 16) = 16 * (L.length / 16) + 16 * ((L.length % 16 + m) / 16) by omega, ← List.drop_drop, ← e1]
  exact D'
theorem sumWords_any (W : World) (hT : Tab W) (h2 : 2 < W.heap.size) (ao : Option Addr) (m c : Nat) (xs : List Int) (hx : xs.length = m) (hat : At W .u32 ao xs) (hm : m ≤ 35184372087808) :
    Calls Tryd.prog 14 #[.slice ao m c] W fun e W' => e = .returned (.agg ((sumW xs).map (Value.int .u32)).toArray) ∧ Below W.heap.size W W' := by
  subst hx
  exact sum_any W hT h2 ao _ c xs rfl hat hm
theorem At.cut {W : World} {k : IntKind} {ao : Option Addr} {xs : List Int} (h : At W k ao xs) (n cap a m : Nat) (hx : xs.length = n) (hc : n ≤ cap) (ha : a + m ≤ n) : At W k (if cap = a then ao else Option.map (fun x => x.add a) ao) ((xs.drop a).take m) := by
  rcases Nat.eq_zero_or_pos m with rfl | hm
  · left; simp
  · rcases h with h0 | ⟨b, off, rfl, hb, hr⟩
    · rw [h0] at hx; simp at hx; omega
    · rw [if_neg (by omega)]
      exact .inr ⟨b, off + a, by simp [Addr.add_mid], hb, (hr.drop a).take m⟩
theorem At.head {W : World} {k : IntKind} {ao : Option Addr} {xs : List Int} (h : At W k ao xs) (a : Nat) : At W k ao (xs.take a) := by
  rcases h with h0 | ⟨b, off, h1, hb, hr⟩
  · left; rw [h0]; simp
  · exact .inr ⟨b, off, h1, hb, hr.take a⟩
theorem cut_any (W : World) (n most : Int) (h0 : 0 ≤ most) (h1 : most < 9223372036854775807) :
    Calls Tryd.prog 17 #[.int .i64 n, .int .i64 most] W fun e W' => (∃ r : Nat, (r : Int) ≤ most ∧ e = .returned (.int .i64 (r : Int))) ∧ W = W' := by
  have b1 : n.tmod (most + 1) < most + 1 := by
    have := Int.tmod_lt_of_pos n (show 0 < most + 1 by omega); exact this
  have b2 : -(most + 1) < n.tmod (most + 1) := by
    have := Int.tmod_lt_of_pos (-n) (show 0 < most + 1 by omega)
    rw [Int.neg_tmod] at this
    omega
  have z0 : ¬ most + 1 = 0 := by omega
  have v1 : IntKind.i64.wrap (most + 1) = most + 1 := by rw [IntKind.wrap_i64]; omega
  obtain ⟨t, ht⟩ : ∃ t, n.tmod (most + 1) = t := ⟨_, rfl⟩
  rw [ht] at b1 b2
  have v2 : IntKind.i64.wrap t = t := by rw [IntKind.wrap_i64]; omega
  by_cases hneg : t < 0
  · have v3 : IntKind.i64.wrap (t + most) = t + most := by rw [IntKind.wrap_i64]; omega
    have v4 : IntKind.i64.wrap (t + most + 1) = t + most + 1 := by rw [IntKind.wrap_i64]; omega
    have HR : Hid (∃ r : Nat, (r : Int) ≤ most ∧ t + most + 1 = (r : Int)) := ⟨(t + most + 1).toNat, by omega, by omega⟩
    go_enter Tryd.func17, Tryd.ntmps17
    go_wp2
    go_ret
    obtain ⟨r, hr1, hr2⟩ := HR.out
    exact ⟨⟨r, hr1, ret_int hr2⟩, rfl⟩
  · have HR : Hid (∃ r : Nat, (r : Int) ≤ most ∧ t = (r : Int)) := ⟨t.toNat, by omega, by omega⟩
    go_enter Tryd.func17, Tryd.ntmps17
    go_wp2
    go_ret
    obtain ⟨r, hr1, hr2⟩ := HR.out
    exact ⟨⟨r, hr1, ret_int hr2⟩, rfl⟩
end Go.Proofs.YtjkkelkblccolaaDoor
