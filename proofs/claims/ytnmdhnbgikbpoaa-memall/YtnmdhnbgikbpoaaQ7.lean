/- The law's kept 32. -/
import Derived.Test.YtnmdhnbgikbpoaaQ6
namespace Go.Proofs.Ytnmdhnbgikbpoaa
open Go.RowKit
set_option maxRecDepth 40000 in
set_option maxHeartbeats 4000000 in
theorem kept_any {W wr : World} {gb : Nat} {f : Nat → Fp} {r : Nat → Rf} {m : Nat → MS} {vL : Value} {lv : List Value} (h : Bn W wr gb f r m m vL lv) (hN : lv.length * 24 ≤ 140737488355328) :
    Calls Try.prog 32 #[.pointer (some ⟨gb, 0, none⟩)] wr fun x w' => x = .returned (.bool true) ∧ w' = wr := by
  obtain ⟨vo, vc, e⟩ := h.hv.form
  subst e
  have n1 : (lv.length : Int) ≤ 140737488355328 := by omega
  have y0 := h.cl
  have HC : Hid (∀ k, k < lv.length → ∃ gl, vo = some ⟨gl, 0, none⟩ ∧ wr.cell? ⟨gl, k, none⟩ = some (lv.getD k nilV)) := hid (fun k hk => by
    obtain ⟨gl, cap, cur, e1, _, e3, e4⟩ := h.hv.cells (by omega)
    injection e1 with e1 _ _
    refine ⟨gl, e1, ?_⟩
    rw [cell_of_row wr gl k _ 24 (0, 0) e3]
    have : (cur.toList.take lv.length)[k]? = some (lv.getD k nilV) := by
      rw [e4, List.getD_eq_getElem?_getD, List.getElem?_eq_getElem hk]; rfl
    rw [List.getElem?_take_of_lt hk] at this
    simpa using this)
  have HL := hid h.lst
  clear h
  go_enter Try.func32, Try.ntmps32
  go_wp2_with fail
  go_loopw [3, 4] (fun i _ w1 => ∃ k : Nat, k ≤ lv.length ∧ i = .int .i64 (k : Int) ∧ w1 = wr) (fun i _ _ => lv.length - (intOf i).toNat)
  case atStart => exact ⟨0, Nat.zero_le _, rfl, rfl⟩
  case round =>
    rename_i w1
    obtain ⟨k, hk, rfl, rfl⟩ := hrel
    by_cases hlt : k < lv.length
    · have c1 : (k : Int) < (lv.length : Int) := by omega
      obtain ⟨gl, rfl, y1⟩ := HC.out k hlt
      obtain ⟨ao, n, c, e, hn, hh⟩ := HL.out k hlt
      have HK : Hid ((((k / 2 * 2 : Nat) : Int) % 4294967296 + 77) % 4294967296 = mkk k) := hid rfl
      rw [e] at y1
      clear e
      have n2 : (n : Int) ≤ 100000 := by omega
      go_wp2_with fail
      go_loopw [4] (fun i w1 => ∃ j : Nat, j ≤ n ∧ i = .int .i64 (j : Int) ∧ w1 = wr) (fun i _ => n - (intOf i).toNat)
      case atStart => exact ⟨0, Nat.zero_le _, rfl, rfl⟩
      case round =>
        obtain ⟨j, hj, rfl, rfl⟩ := hrel
        by_cases hlj : j < n
        · have c2 : (j : Int) < (n : Int) := by omega
          rcases hh with h0 | ⟨b, rfl, _, hcell⟩
          · omega
          have y2 := hcell j hlj
          have q : mkk k = ((k : Int) / 2 * 2 + 77) % 4294967296 := by unfold mkk; omega
          rw [q] at y2
          clear q HK hcell
          go_wp2_with fail

          all_goals exact ⟨⟨j + 1, by omega, by go_num, trivial⟩, by simp [intOf]; omega⟩
        · obtain rfl : j = n := by omega
          go_wp2_with fail
          go_roundw
          case measure => simp [intOf] <;> omega
          case rel => exact ⟨k + 1, by omega, by go_num, trivial⟩
    · obtain rfl : k = lv.length := by omega
      go_wp2_with fail
      go_ret
      exact ⟨rfl, rfl⟩
end Go.Proofs.Ytnmdhnbgikbpoaa
