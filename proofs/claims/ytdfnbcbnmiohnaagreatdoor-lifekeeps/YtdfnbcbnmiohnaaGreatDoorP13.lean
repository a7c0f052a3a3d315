import Derived.Test.YtdfnbcbnmiohnaaGreatDoorP12
namespace Go.Proofs.YtdfnbcbnmiohnaaGreatDoor.H
open Go.RowKit

def sumB (bs : List Int) : List Int := S.fin (S.run S.First (wordsD (bs.take (4 * (bs.length / 4))) (bs.length / 4)) (bs.length / 4 / 16)) ((wordsD (bs.take (4 * (bs.length / 4))) (bs.length / 4)).drop (16 * (bs.length / 4 / 16)) ++ endW bs (bs.length / 4)) (8 * (bs.length : Int))
def sumW (xs : List Int) : List Int := S.fin (S.run S.First xs (xs.length / 16)) (xs.drop (16 * (xs.length / 16)) ++ [2147483648]) (32 * (xs.length : Int))

theorem run_more (A xs : List Int) (k : Nat) : ∀ j, S.run A xs (k + j) = S.run (S.run A xs k) (xs.drop (16 * k)) j
  | 0 => rfl
  | j + 1 => by
    show S.block (S.run A xs (k + j)) ((xs.drop (16 * (k + j))).take 16) = S.block (S.run (S.run A xs k) (xs.drop (16 * k)) j) (((xs.drop (16 * k)).drop (16 * j)).take 16)
    rw [run_more A xs k j, List.drop_drop, show 16 * k + 16 * j = 16 * (k + j) by omega]
theorem run_head (A xs ys : List Int) : ∀ k, 16 * k ≤ xs.length → S.run A (xs ++ ys) k = S.run A xs k
  | 0, _ => rfl
  | k + 1, h => by
    show S.block (S.run A (xs ++ ys) k) (((xs ++ ys).drop (16 * k)).take 16) = S.block (S.run A xs k) ((xs.drop (16 * k)).take 16)
    rw [run_head A xs ys k (by omega), List.drop_append_of_le_length (by omega), List.take_append_of_le_length (by simp; omega)]
end Go.Proofs.YtdfnbcbnmiohnaaGreatDoor.H
namespace Go.Proofs.YtdfnbcbnmiohnaaGreatDoor.H
open Go.RowKit

def DigL (W : World) (g : Nat) (L : List Int) : Prop := Dig W g (S.run S.First L (L.length / 16)) L.length (L.drop (16 * (L.length / 16)))
theorem DigL.lt {W : World} {g : Nat} {L : List Int} (h : DigL W g L) : g < W.heap.size := Dig.lt h
theorem DigL.below {W w : World} {g : Nat} {L : List Int} (h : DigL W g L) (hb : Below W.heap.size W w) : DigL w g L := Dig.below h hb (Dig.lt h)
theorem DigL.but {W w : World} {g i : Nat} {L : List Int} (h : DigL W i L) (hb : But g W w) (hi : i ≠ g) : DigL w i L := Dig.but h hb hi
theorem newL_any (W : World) :
    Calls Tryz.prog 55 #[] W fun e W' => ∃ g, W.heap.size ≤ g ∧ e = .returned (.pointer (some ⟨g, 0, none⟩)) ∧ DigL W' g [] ∧ Below W.heap.size W W' := new_any W
theorem At.cut {W : World} {k : IntKind} {ao : Option Addr} {xs : List Int} (h : At W k ao xs) (n cap a m : Nat) (hx : xs.length = n) (hc : n ≤ cap) (ha : a + m ≤ n) : At W k (if cap = a then ao else Option.map (fun x => x.add a) ao) ((xs.drop a).take m) := by
  rcases Nat.eq_zero_or_pos m with rfl | hm
  · left; simp
  · rcases h with h0 | ⟨b, off, rfl, hb, hr⟩
    · rw [h0] at hx; simp at hx; omega
    · rw [if_neg (by omega)]
      exact .inr ⟨b, off + a, by simp [Addr.add_mid], hb, (hr.drop a).take m⟩
theorem At.head {W : World} {k : IntKind} {ao : Option Addr} {xs : List Int} (h : At W k ao xs) (a : Nat) : At W k ao (xs.take a) := by
  rcases h with h0 | ⟨b, off, h1, hb, hr⟩
  · left; rw [h0]; simp
  · exact .inr ⟨b, off, h1, hb, hr.take a⟩
end Go.Proofs.YtdfnbcbnmiohnaaGreatDoor.H
