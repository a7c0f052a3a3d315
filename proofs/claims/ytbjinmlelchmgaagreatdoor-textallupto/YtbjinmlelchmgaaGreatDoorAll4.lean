/- TextAll (4): a loop over the pieces. -/
import Derived.Test.YtbjinmlelchmgaaGreatDoorPy5
import Derived.Test.YtbjinmlelchmgaaGreatDoorHead
namespace Go.Proofs.YtbjinmlelchmgaaGreatDoor
open Go.RowKit
/-- A piece in its seven cells, and that it is played to its end. -/
def PieceAt (w : World) (b o : Nat) : Prop := ∃ (k p u i : Int) (s : ByteArray) (ab ar : Option Addr) (nb cb nr cr : Nat),
  (w.cell? ⟨b, o, none⟩ = some (.int .i64 k) ∧ w.cell? ⟨b, o + 1, none⟩ = some (.string s) ∧ w.cell? ⟨b, o + 2, none⟩ = some (.int .i64 p) ∧ w.cell? ⟨b, o + 3, none⟩ = some (.slice ab nb cb) ∧ w.cell? ⟨b, o + 4, none⟩ = some (.int .u32 u) ∧ w.cell? ⟨b, o + 5, none⟩ = some (.int .i32 i) ∧ w.cell? ⟨b, o + 6, none⟩ = some (.slice ar nr cr)) ∧
  ∀ x, Below w.heap.size w x → Calls Tryz.prog 11 #[.agg #[.int .i64 k, .string s, .int .i64 p, .slice ab nb cb, .int .u32 u, .int .i32 i, .slice ar nr cr]] x fun e y => e = .returned (.bool true) ∧ Below x.heap.size x y
set_option maxRecDepth 40000 in
set_option maxHeartbeats 2000000 in
theorem all_any (W : World) (ao : Option Addr) (n c : Nat) (hn : n ≤ 1000000000) (htab : PowTab W) (hat : n = 0 ∨ ∃ b o, ao = some ⟨b, o, none⟩ ∧ b < W.heap.size ∧ ∀ k, k < n → PieceAt W b (o + k * 7)) :
    Calls Tryz.prog 4 #[.slice ao n c] W fun e w' => e = .returned (.bool true) ∧ Below W.heap.size W w' := by
  have HH := hid (head_any W htab)
  have HA : Hid (n = 0 ∨ ∃ b o, ao = some ⟨b, o, none⟩ ∧ b < W.heap.size ∧ ∀ k, k < n → PieceAt W b (o + k * 7)) := hat
  have b1 : (n : Int) ≤ 1000000000 := by omega
  clear hat htab
  go_enter Tryz.func4, Tryz.ntmps4
  go_wp2_with fail
  refine HH.out.mono ?_
  rintro e w0 ⟨rfl, hb0⟩
  have HB0 : Hid (Below W.heap.size W w0) := hb0
  clear hb0 HH
  go_wp2_with fail
  go_loopw [3, 4] (fun i _ wr => ∃ k : Nat, k ≤ n ∧ i = .int .i64 k ∧ Below W.heap.size W wr) (fun i _ _ => n - (intOf i).toNat)
  case atStart => exact ⟨0, Nat.zero_le _, rfl, HB0.out⟩
  case round =>
    obtain ⟨k, hk, rfl, hbl⟩ := hrel
    have HBL : Hid (Below W.heap.size W wr) := hbl
    by_cases hlt : k < n
    · have c1 : (k : Int) < (n : Int) := by omega
      rcases HA.out with h0 | ⟨b, o, rfl, hb, hc⟩
      · omega
      obtain ⟨kk, p, u, i, s, ab, ar, nb, cb, nr, cr, ⟨d0, d1, d2, d3, d4, d5, d6⟩, hp⟩ := hc k hlt
      have HP := hid (hp wr hbl)
      rw [← hbl.cell (p := ⟨b, _, none⟩) hb] at d0 d1 d2 d3 d4 d5 d6
      clear hp hc hbl
      go_wp2_with fail
      refine HP.out.mono ?_
      rintro e w2 ⟨rfl, hb2⟩
      have HB2 : Hid (Below W.heap.size W w2) := hid (HBL.out.trans (hb2.mono HBL.out.size))
      clear hb2 d0 d1 d2 d3 d4 d5 d6
      go_wp2_with fail
      go_roundw
      case measure => simp [intOf]; omega
      case rel => exact ⟨k + 1, by omega, by go_num, HB2.out⟩
    · obtain rfl : k = n := by omega
      clear hbl
      go_wp2_with fail
      go_ret
      exact ⟨rfl, HBL.out⟩
end Go.Proofs.YtbjinmlelchmgaaGreatDoor
