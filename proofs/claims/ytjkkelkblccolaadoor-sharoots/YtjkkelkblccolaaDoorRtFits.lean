import Derived.Test.YtjkkelkblccolaaDoorRtTimes
namespace Go.Proofs.YtjkkelkblccolaaDoor
open Go.RowKit

theorem aboveS_yes (l : List Int) (shift : Int) (k j : Nat) (h : j + k + 1 = l.length) (hs : shift ≤ 16 * (j : Int)) : aboveS l shift (k + 1) = (((aboveS l shift k).1 * 65536 + l.getD j 0) % 18446744073709551616, (aboveS l shift k).2) := by
  rw [aboveS, if_pos (by omega), show l.length - 1 - k = j by omega]
theorem aboveS_no (l : List Int) (shift : Int) (k j : Nat) (h : j + k + 1 = l.length) (hs : ¬ shift ≤ 16 * (j : Int)) : aboveS l shift (k + 1) = ((aboveS l shift k).1, (aboveS l shift k).2 || decide (l.getD j 0 ≠ 0)) := by
  rw [aboveS, if_neg (by omega), show l.length - 1 - k = j by omega]
set_option maxRecDepth 20000 in
set_option maxHeartbeats 2000000 in
theorem above_any (W : World) (b n c : Nat) (l : List Int) (m shift : Int) (hl : l.length = n) (hn : n ≤ 16) (_ : 0 ≤ shift ∧ shift ≤ 1000) (hul : U l) (hr : Row W .u64 b 0 l) :
    Calls Tryd.prog 59 #[.slice (some ⟨b, 0, none⟩) n c, .int .u64 m, .int .i64 shift] W fun e w => e = .returned (.bool (aboveL l m shift)) ∧ W = w := by
  have i1 : (n : Int) ≤ 16 := by omega
  go_enter Tryd.func59, Tryd.ntmps59
  go_wp2
  go_loopw [7, 8, 9] (fun h r i wr => ∃ k : Nat, k ≤ n ∧ i = .int .i64 ((n : Int) - 1 - (k : Int)) ∧ h = .int .u64 (aboveS l shift k).1 ∧ r = .bool (aboveS l shift k).2 ∧ wr = W) (fun _ _ i _ => (intOf i + 1).toNat)
  case atStart => exact ⟨0, Nat.zero_le _, by simp, rfl, rfl, rfl⟩
  case round =>
    obtain ⟨k, hk, rfl, rfl, rfl, rfl⟩ := hrel
    by_cases hlt : k < n
    · obtain ⟨j, hj⟩ : ∃ j, j + k + 1 = n := ⟨n - 1 - k, by omega⟩
      have ej : (n : Int) - 1 - (k : Int) = (j : Int) := by omega
      rw [ej]
      have c0 := hr j (by omega)
      rw [Nat.zero_add] at c0
      have q0 : (j : Int) < (n : Int) := by omega
      have e1 : (16 : Int) * (j : Int) ≤ 1000 := by omega
      obtain ⟨a1, a2⟩ := hul j
      obtain ⟨h1, h2⟩ := aboveS_bound l shift k
      have HJ : Hid ((j : Int) - 1 = (n : Int) - 1 - ((k + 1 : Nat) : Int)) := by unfold Hid; omega
      by_cases hsj : shift ≤ 16 * (j : Int)
      · have HS : Hid (aboveS l shift (k + 1) = (((aboveS l shift k).1 * 65536 + l.getD j 0) % 18446744073709551616, (aboveS l shift k).2)) := aboveS_yes l shift k j (by omega) hsj
        generalize aboveS l shift k = p at *
        obtain ⟨h, r⟩ := p
        generalize l.getD j 0 = a at *
        clear ej hj
        go_wp2
        go_roundw
        case rel =>
          refine ⟨k + 1, by omega, by rw [HJ.out], ?_, by rw [HS.out], trivial⟩
          rw [HS.out, IntKind.wrap_u64, IntKind.wrap_u64]
          congr 1
          simp only
          generalize h * 65536 = z
          omega
        case measure => simp [intOf]
      · have HS : Hid (aboveS l shift (k + 1) = ((aboveS l shift k).1, (aboveS l shift k).2 || decide (l.getD j 0 ≠ 0))) := aboveS_no l shift k j (by omega) hsj
        generalize aboveS l shift k = p at *
        obtain ⟨h, r⟩ := p
        generalize l.getD j 0 = a at *
        clear ej hj
        by_cases ha : a = 0
        · go_wp2
          go_roundw
          case rel =>
            refine ⟨k + 1, by omega, by rw [HJ.out], by rw [HS.out], by rw [HS.out]; simp [ha], trivial⟩
          case measure => simp [intOf]
        · go_wp2
          go_roundw
          case rel =>
            refine ⟨k + 1, by omega, by rw [HJ.out], by rw [HS.out], by rw [HS.out]; simp [ha], trivial⟩
          case measure => simp [intOf]
    · obtain rfl : k = n := by omega
      have HA : Hid (aboveL l m shift = (decide (m < (aboveS l shift k).1) || (decide ((aboveS l shift k).1 = m) && (aboveS l shift k).2))) := by unfold Hid aboveL; rw [hl]
      rw [show (k : Int) - 1 - (k : Int) = -1 by omega]
      generalize aboveS l shift k = p at *
      obtain ⟨h, r⟩ := p
      by_cases h1 : m < h
      · go_wp2
        go_ret
        refine ⟨?_, rfl⟩
        rw [HA.out]
        simp [h1]
      · by_cases h2 : h = m
        · cases r
          · go_wp2
            go_ret
            refine ⟨?_, rfl⟩
            rw [HA.out]
            simp [h2]
          · go_wp2
            go_ret
            refine ⟨?_, rfl⟩
            rw [HA.out]
            simp [h2]
        · go_wp2
          go_ret
          refine ⟨?_, rfl⟩
          rw [HA.out]
          simp [h1, h2]
theorem u_one : U [1] := fun i => by
  match i with
  | 0 => decide
  | i + 1 => simp
set_option maxRecDepth 20000 in
set_option maxHeartbeats 2000000 in
theorem fits_any (W : World) (y n : Int) (third : Bool) (hy : 0 ≤ y ∧ y < 18446744073709551616) :
    Calls Tryd.prog 55 #[.int .u64 y, .int .u64 n, .bool third] W fun e w => e = .returned (.bool (fitsL y n third)) ∧ Below W.heap.size W w := by
  have C0 : Hid (Calls Tryd.prog 58 #[.slice (some ⟨W.heap.size, 0, none⟩) 1 1, .int .u64 y] (W.alloc (.cells #[.int .u64 1] 71)) fun e w => ∃ g cap, e = .returned (.slice (some ⟨g, 0, none⟩) 4 cap) ∧ Mine w g .u64 71 (timesL [1] y) ∧ Below W.heap.size W w) := by
    refine (times_any _ W.heap.size 1 1 [1] y rfl (by decide) (by decide) hy u_one (by simp) (row_new W .u64 71 [1] _ rfl)).mono ?_
    rintro e w ⟨g, cap, rfl, M, hB⟩
    exact ⟨g, cap, rfl, M, (below_one W _).trans (hB.mono (by simp))⟩
  have C1 : Hid (∀ w g m cap l, l.length = m → 0 < m → m ≤ 16 → U l → Mine w g .u64 71 l → Below W.heap.size W w → Calls Tryd.prog 58 #[.slice (some ⟨g, 0, none⟩) m cap, .int .u64 y] w fun e w' => ∃ g' cap', e = .returned (.slice (some ⟨g', 0, none⟩) (m + 3) cap') ∧ Mine w' g' .u64 71 (timesL l y) ∧ Below W.heap.size W w') := fun w g m cap l hl h0 hm hu M hW => by
    refine (times_any w g m cap l y hl h0 hm hy hu M.lt M.row).mono ?_
    rintro e w' ⟨g', cap', rfl, M', hB⟩
    exact ⟨g', cap', rfl, M', hW.trans (hB.mono hW.size)⟩
  have l1 : (timesL [1] y).length = 4 := timesL_length _ _
  have l2 : (timesL (timesL [1] y) y).length = 7 := by rw [timesL_length, l1]
  have l3 : (timesL (timesL (timesL [1] y) y) y).length = 10 := by rw [timesL_length, l2]
  have u1 := timesL_u [1] y
  have u2 := timesL_u (timesL [1] y) y
  have u3 := timesL_u (timesL (timesL [1] y) y) y
  cases third
  · have HF : Hid (fitsL y n false = !aboveL (timesL (timesL [1] y) y) n 64) := rfl
    go_enter Tryd.func55, Tryd.ntmps55
    go_wp2_with fail
    refine C0.out.mono ?_
    rintro e w1 ⟨g1, cap1, rfl, M1, hB1⟩
    go_wp2_with fail
    refine (C1.out w1 g1 4 cap1 _ l1 (by decide) (by decide) u1 M1 hB1).mono ?_
    rintro e w2 ⟨g2, cap2, rfl, M2, hB2⟩
    go_wp2_with fail
    refine (above_any w2 g2 7 cap2 _ n 64 l2 (by decide) (by decide) u2 M2.row).mono ?_
    rintro e w3 ⟨rfl, rfl⟩
    have HB : Hid (Below W.heap.size W w2) := hB2
    clear M1 M2 hB1 hB2
    go_wp2
    go_ret
    exact ⟨ret_bool HF.out.symm, HB.out⟩
  · have HF : Hid (fitsL y n true = !aboveL (timesL (timesL (timesL [1] y) y) y) n 96) := rfl
    go_enter Tryd.func55, Tryd.ntmps55
    go_wp2_with fail
    refine C0.out.mono ?_
    rintro e w1 ⟨g1, cap1, rfl, M1, hB1⟩
    go_wp2_with fail
    refine (C1.out w1 g1 4 cap1 _ l1 (by decide) (by decide) u1 M1 hB1).mono ?_
    rintro e w2 ⟨g2, cap2, rfl, M2, hB2⟩
    go_wp2_with fail
    refine (C1.out w2 g2 7 cap2 _ l2 (by decide) (by decide) u2 M2 hB2).mono ?_
    rintro e w3 ⟨g3, cap3, rfl, M3, hB3⟩
    go_wp2_with fail
    refine (above_any w3 g3 10 cap3 _ n 96 l3 (by decide) (by decide) u3 M3.row).mono ?_
    rintro e w4 ⟨rfl, rfl⟩
    have HB : Hid (Below W.heap.size W w3) := hB3
    clear M1 M2 M3 hB1 hB2 hB3
    go_wp2
    go_ret
    exact ⟨ret_bool HF.out.symm, HB.out⟩
/-- A root's bits. -/
theorem bitsS_yes (n : Int) (third : Bool) (k : Nat) (h : fitsL ((bitsS n third k + 2 ^ (35 - k)) % 18446744073709551616) n third = true) : bitsS n third (k + 1) = (bitsS n third k + 2 ^ (35 - k)) % 18446744073709551616 := by rw [bitsS, if_pos h]
theorem bitsS_no (n : Int) (third : Bool) (k : Nat) (h : fitsL ((bitsS n third k + 2 ^ (35 - k)) % 18446744073709551616) n third = false) : bitsS n third (k + 1) = bitsS n third k := by rw [bitsS, if_neg (by rw [h]; decide)]
set_option maxRecDepth 20000 in
set_option maxHeartbeats 2000000 in
theorem bits_any (W : World) (n : Int) (third : Bool) :
    Calls Tryd.prog 42 #[.int .u64 n, .bool third] W fun e w => e = .returned (.int .u32 (bitsL n third)) ∧ Below W.heap.size W w := by
  have C55 : Hid (∀ w y, 0 ≤ y ∧ y < 18446744073709551616 → Below W.heap.size W w → Calls Tryd.prog 55 #[.int .u64 y, .int .u64 n, .bool third] w fun e w' => e = .returned (.bool (fitsL y n third)) ∧ Below W.heap.size W w') := fun w y hy hW => by
    refine (fits_any w y n third hy).mono ?_
    rintro e w' ⟨rfl, hB⟩
    exact ⟨rfl, hW.trans (hB.mono hW.size)⟩
  go_enter Tryd.func42, Tryd.ntmps42
  go_wp2
  go_loopw [5, 6, 7] (fun x b _ wr => ∃ k : Nat, k ≤ 36 ∧ b = .int .i64 (35 - (k : Int)) ∧ x = .int .u64 (bitsS n third k) ∧ Below W.heap.size W wr) (fun _ b _ _ => (intOf b + 1).toNat)
  case atStart => exact ⟨0, by decide, by simp, rfl, Below.refl _ _⟩
  case round =>
    obtain ⟨k, hk, rfl, rfl, hB⟩ := hrel
    by_cases hlt : k < 36
    · obtain ⟨s, hs⟩ : ∃ s, s = 35 - k := ⟨_, rfl⟩
      have e1 : (35 : Int) - (k : Int) = (s : Int) := by omega
      rw [e1]
      have e2 : (s : Int) < 64 := by omega
      have HJ : Hid ((s : Int) - 1 = 35 - ((k + 1 : Nat) : Int)) := by unfold Hid; omega
      obtain ⟨b1, b2⟩ := bitsS_bound n third k
      obtain ⟨y, hy⟩ : ∃ y, y = (bitsS n third k + 2 ^ s) % 18446744073709551616 := ⟨_, rfl⟩
      have hyb : 0 ≤ y ∧ y < 18446744073709551616 := by omega
      have HY : Hid (y = (bitsS n third k + 2 ^ (35 - k)) % 18446744073709551616) := by unfold Hid; rw [hy, hs]
      have HB : Hid (Below W.heap.size W wr) := hB
      have EY : IntKind.u64.wrap (bitsS n third k + IntKind.u64.wrap (2 ^ s)) = y := by
        rw [IntKind.wrap_u64, IntKind.wrap_u64, hy]
        generalize (2 : Int) ^ s = z
        omega
      clear hs hB e1 hy
      go_wp2_with fail
      refine (C55.out wr y hyb HB.out).mono ?_
      rintro e w1 ⟨rfl, hB1⟩
      have HB1 : Hid (Below W.heap.size W w1) := hB1
      clear hB1 HB
      cases hf : fitsL y n third
      · have HS : Hid (bitsS n third (k + 1) = bitsS n third k) := bitsS_no n third k (by rw [← HY.out]; exact hf)
        generalize bitsS n third k = x at *
        clear hf EY
        go_wp2
        go_roundw
        case rel => exact ⟨k + 1, by omega, by rw [HJ.out], by rw [HS.out], HB1.out⟩
        case measure => simp [intOf]
      · have HS : Hid (bitsS n third (k + 1) = y) := by unfold Hid; rw [HY.out]; exact bitsS_yes n third k (by rw [← HY.out]; exact hf)
        generalize bitsS n third k = x at *
        clear hf EY
        go_wp2
        go_roundw
        case rel => exact ⟨k + 1, by omega, by rw [HJ.out], by rw [HS.out], HB1.out⟩
        case measure => simp [intOf]
    · obtain rfl : k = 36 := by omega
      have HB : Hid (Below W.heap.size W wr) := hB
      have HL : Hid (bitsL n third = bitsS n third 36 % 4294967296) := rfl
      rw [show (35 : Int) - ((36 : Nat) : Int) = -1 from rfl]
      obtain ⟨b1, b2⟩ := bitsS_bound n third 36
      clear hB
      generalize bitsS n third 36 = x at *
      go_wp2
      go_ret
      refine ⟨?_, HB.out⟩
      rw [HL.out]
      rfl
end Go.Proofs.YtjkkelkblccolaaDoor
