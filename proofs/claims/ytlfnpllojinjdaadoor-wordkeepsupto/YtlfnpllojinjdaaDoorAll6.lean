import Derived.Test.YtlfnpllojinjdaaDoorAll5
namespace Go.Proofs.YtlfnpllojinjdaaDoor
open Go.RowKit

/-- A script that came in: each element's cells, and what they are. -/
def Script (W : World) (b off n : Nat) : Prop := ∀ k, k < n → ∃ (kind : Int) (o : OpV), (∀ j, j < 11 → W.cell? ⟨b, off + k * 11 + j, none⟩ = (o.cells kind)[j]?) ∧ o.Ok W

set_option maxRecDepth 100000 in
set_option maxHeartbeats 1000000 in
theorem all_any (W : World) (hT : Tab W) (h0 : 0 < W.heap.size) (ao : Option Addr) (n cap : Nat) (hs : n = 0 ∨ ∃ b off, ao = some ⟨b, off, none⟩ ∧ b < W.heap.size ∧ Script W b off n) (hn : n ≤ 1048576) :
    Calls Tryd.prog 7 #[.slice ao n cap] W fun e W' => e = .returned (.bool true) ∧ Below W.heap.size W W' := by
  have e2 : strOfNums (hexW 48879) = ⟨#[48, 48, 48, 48, 98, 101, 101, 102]⟩ := rfl
  go_enter Tryd.func7, Tryd.ntmps7
  go_wp2_with (first | (go_at_call 32; refine (numbers_any _).mono ?_; rintro e w' ⟨rfl, rfl⟩) | (go_at_call 20; refine (hex_any _ hT _ (by decide) (by decide) h0).mono ?_; rintro e w1 ⟨rfl, hb⟩))
  go_loopw [3] (fun i wr => ∃ k : Nat, k ≤ n ∧ i = .int .i64 k ∧ Below W.heap.size W wr) (fun i _ => n - (intOf i).toNat)
  case atStart => exact ⟨0, Nat.zero_le _, rfl, hb⟩
  case round =>
    clear hb
    obtain ⟨k, hk, rfl, hbr⟩ := hrel
    by_cases hlt : k < n
    · rcases hs with rfl | ⟨b, off, rfl, hb, hs⟩
      · omega
      obtain ⟨kind, o, hc, ok⟩ := hs k hlt
      have hTr := hT.below hbr h0
      have okr := ok.below hbr
      have hz : 0 < wr.heap.size := by have := hbr.size; omega
      have P : Hid (Calls Tryd.prog 33 #[.agg (o.cells kind)] wr fun e W' => e = .returned (.bool true) ∧ Below W.heap.size W W') :=
        (plays_any wr hTr hz o okr kind).mono fun e w' h => ⟨h.1, hbr.trans (h.2.mono hbr.size)⟩
      have hc' : ∀ j, j < 11 → wr.cell? ⟨b, off + k * 11 + j, none⟩ = (o.cells kind)[j]? := fun j hj => (hbr.cell (p := ⟨b, off + k * 11 + j, none⟩) hb).trans (hc j hj)
      obtain ⟨xa, xb, xc, xd, xn, xm, lao, ln, lc, lx, pao, pn, pc, px, bao, bn, bc, bx, s⟩ := o
      have c0 := hc' 0 (by decide)
      have c1 := hc' 1 (by decide)
      have c2 := hc' 2 (by decide)
      have c3 := hc' 3 (by decide)
      have c4 := hc' 4 (by decide)
      have c5 := hc' 5 (by decide)
      have c6 := hc' 6 (by decide)
      have c7 := hc' 7 (by decide)
      have c8 := hc' 8 (by decide)
      have c9 := hc' 9 (by decide)
      have c10 := hc' 10 (by decide)
      simp [OpV.cells] at c0 c1 c2 c3 c4 c5 c6 c7 c8 c9 c10
      simp only [OpV.cells] at P
      clear hc' hc ok okr hTr hs
      go_wp2_with fail
      refine P.out.mono ?_
      rintro e w2 ⟨rfl, hb2⟩
      clear c0 c1 c2 c3 c4 c5 c6 c7 c8 c9 c10 P
      go_wp2
      go_roundw
      case rel => exact ⟨k + 1, by omega, by go_num, hb2⟩
      case measure => simp [intOf]; omega
    · go_wp2
      go_ret
      exact ⟨rfl, hbr⟩
end Go.Proofs.YtlfnpllojinjdaaDoor
