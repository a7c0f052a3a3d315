import Derived.Test.YtlfnpllojinjdaaDoorSumsPre
namespace Go.Proofs.YtlfnpllojinjdaaDoor
open Go.RowKit

theorem less_zero (W : World) (a : Int) : Calls Tryd.prog 11 #[.int .u32 a, .int .u32 0] W fun e W' => e = .returned (.bool (decide (wrap32 a < 0))) ∧ W = W' := by
  have := less_any W a 0
  rwa [show wrap32 0 = 0 by unfold wrap32; omega] at this

set_option maxRecDepth 100000 in
set_option maxHeartbeats 1000000 in
theorem sums_z0 (W : World) (hT : Tab W) (h0 : 0 < W.heap.size) (a b c0 c1 c2 : Int) (a0 : 0 ≤ a) (a1 : a < 4294967296) (b0 : 0 ≤ b) (b1 : b ≤ 0)
    (p0 : 0 ≤ c0) (q0 : c0 < 4294967296) (p1 : 0 ≤ c1) (q1 : c1 ≤ 0) (p2 : 0 ≤ c2) (q2 : c2 < 4294967296) :
    Calls Tryd.prog 3 #[.int .u32 a, .int .u32 b, .agg #[.int .u32 c0, .int .u32 c1, .int .u32 c2]] W fun e W' => e = .returned (.bool true) ∧ Below W.heap.size W W' := by
  obtain rfl : b = 0 := by omega
  have HB0 : Below W.heap.size W (W.alloc (.cells #[.int .u32 c0, .int .u32 c1, .int .u32 c2] 23)) := (Below.refl W.heap.size W).alloc (Nat.le_refl _) _
  have e1 : decide ([a, 0, c0, c1] = [a, 0, c0, c2]) = (c1 == c2) := by simp [Bool.beq_eq_decide_eq]
  have e2 : decide ([a] = [0]) = (a == 0) := by simp [Bool.beq_eq_decide_eq]
  go_enter Tryd.func3, Tryd.ntmps3
  go_wp2_with fail
  refine (head_any _ (hT.alloc h0 _) (by simp)).mono ?_
  rintro e w1 ⟨rfl, hb1⟩
  have hb2 := HB0.trans (hb1.mono (by simp))
  have k0 := (hb1.cell (p := ⟨W.heap.size, 0, none⟩) (by simp)).trans (cell_new W _ 23 0)
  have k1 := (hb1.cell (p := ⟨W.heap.size, 1, none⟩) (by simp)).trans (cell_new W _ 23 1)
  have k2 := (hb1.cell (p := ⟨W.heap.size, 2, none⟩) (by simp)).trans (cell_new W _ 23 2)
  simp at k0 k1 k2
  have hsz : W.heap.size < w1.heap.size := by have := hb1.size; simp at this; omega
  clear hb1 HB0
  go_wp2_with (first | (go_at_call 9; refine (add_any _ _ _ _ a0 a1 (by omega) (by omega) p0 q0).mono ?_; rintro e w' ⟨rfl, rfl⟩) | (go_at_call 10; refine (div_none _ _ _ a0 a1 b0 b1).mono ?_; rintro e w' ⟨rfl, rfl⟩) | (go_at_call 11; refine (less_zero _ _).mono ?_; rintro e w' ⟨rfl, rfl⟩) | (go_at_call 12; refine (overlap_no _ _ _ _ _ (by omega) (by omega) (by omega) (by omega) (by omega) (by omega) (by omega) (by omega) (by omega)).mono ?_; rintro e w' ⟨rfl, rfl⟩))
  have wd1 : Wds [a, 0, c0, c1] := wds_four ⟨a0, a1⟩ ⟨by omega, by omega⟩ ⟨p0, q0⟩ ⟨by omega, by omega⟩
  have wd2 : Wds [a, 0, c0, c2] := wds_four ⟨a0, a1⟩ ⟨by omega, by omega⟩ ⟨p0, q0⟩ ⟨by omega, by omega⟩
  have rr := two_rows w1 .u32 22 [a, 0, c0, c1] [a, 0, c0, c2] #[.int .u32 a, .int .u32 0, .int .u32 c0, .int .u32 c1] #[.int .u32 a, .int .u32 0, .int .u32 c0, .int .u32 c2] rfl rfl
  refine (same_like' _ w1.heap.size 0 (w1.heap.size + 1) 0 4 4 4 [a, 0, c0, c1] [a, 0, c0, c2] rfl rfl wd1 wd2 rr.1 rr.2 (by decide)).mono ?_
  clear wd1 wd2 rr
  rintro e w2 ⟨rfl, hb3⟩
  rw [e1]
  replace hb3 := below_after_two hb3
  replace k1 := (hb3.cell (p := ⟨W.heap.size, 1, none⟩) hsz).trans k1
  replace k2 := (hb3.cell (p := ⟨W.heap.size, 2, none⟩) hsz).trans k2
  replace hb2 := hb2.trans (hb3.mono (by omega))
  replace hsz : W.heap.size < w2.heap.size := by have := hb3.size; omega
  clear e1 hb3 k0
  go_wp2_with fail
  refine (same_unlike _ _ _ 4 3 _ _ (by decide)).mono ?_
  rintro e w3 ⟨rfl, rfl⟩
  go_wp2_with fail
  have rr := two_rows w2 .u32 22 [a] [0] #[.int .u32 a] #[.int .u32 0] rfl rfl
  refine (same_like' _ w2.heap.size 0 (w2.heap.size + 1) 0 1 1 1 [a] [0] rfl rfl (wds_one a0 a1) (wds_one (by omega) (by omega)) rr.1 rr.2 (by decide)).mono ?_
  clear rr
  rintro e w4 ⟨rfl, hb3⟩
  rw [e2]
  replace hb3 := below_after_two hb3
  replace k1 := (hb3.cell (p := ⟨W.heap.size, 1, none⟩) hsz).trans k1
  replace k2 := (hb3.cell (p := ⟨W.heap.size, 2, none⟩) hsz).trans k2
  replace hb2 := hb2.trans (hb3.mono (by omega))
  clear e2 hb3 hsz
  go_wp2_with fail
  go_ret
  exact ⟨rfl, hb2⟩

set_option maxRecDepth 100000 in
set_option maxHeartbeats 1000000 in
theorem sums_z1 (W : World) (hT : Tab W) (h0 : 0 < W.heap.size) (a b c0 c1 c2 : Int) (a0 : 0 ≤ a) (a1 : a < 4294967296) (b0 : 0 ≤ b) (b1 : b ≤ 0)
    (p0 : 0 ≤ c0) (q0 : c0 < 4294967296) (p1 : 0 < c1) (q1 : c1 < 4294967296) (p2 : 0 ≤ c2) (q2 : c2 ≤ 0) :
    Calls Tryd.prog 3 #[.int .u32 a, .int .u32 b, .agg #[.int .u32 c0, .int .u32 c1, .int .u32 c2]] W fun e W' => e = .returned (.bool true) ∧ Below W.heap.size W W' := by
  obtain rfl : b = 0 := by omega
  have HB0 : Below W.heap.size W (W.alloc (.cells #[.int .u32 c0, .int .u32 c1, .int .u32 c2] 23)) := (Below.refl W.heap.size W).alloc (Nat.le_refl _) _
  have e1 : decide ([a, 0, c0, c1] = [a, 0, c0, c2]) = (c1 == c2) := by simp [Bool.beq_eq_decide_eq]
  have e2 : decide ([a] = [0]) = (a == 0) := by simp [Bool.beq_eq_decide_eq]
  go_enter Tryd.func3, Tryd.ntmps3
  go_wp2_with fail
  refine (head_any _ (hT.alloc h0 _) (by simp)).mono ?_
  rintro e w1 ⟨rfl, hb1⟩
  have hb2 := HB0.trans (hb1.mono (by simp))
  have k0 := (hb1.cell (p := ⟨W.heap.size, 0, none⟩) (by simp)).trans (cell_new W _ 23 0)
  have k1 := (hb1.cell (p := ⟨W.heap.size, 1, none⟩) (by simp)).trans (cell_new W _ 23 1)
  have k2 := (hb1.cell (p := ⟨W.heap.size, 2, none⟩) (by simp)).trans (cell_new W _ 23 2)
  simp at k0 k1 k2
  have hsz : W.heap.size < w1.heap.size := by have := hb1.size; simp at this; omega
  clear hb1 HB0
  go_wp2_with (first | (go_at_call 9; refine (add_any _ _ _ _ a0 a1 (by omega) (by omega) p0 q0).mono ?_; rintro e w' ⟨rfl, rfl⟩) | (go_at_call 10; refine (div_none _ _ _ a0 a1 b0 b1).mono ?_; rintro e w' ⟨rfl, rfl⟩) | (go_at_call 11; refine (less_zero _ _).mono ?_; rintro e w' ⟨rfl, rfl⟩) | (go_at_call 12; refine (overlap_no _ _ _ _ _ (by omega) (by omega) (by omega) (by omega) (by omega) (by omega) (by omega) (by omega) (by omega)).mono ?_; rintro e w' ⟨rfl, rfl⟩))
  have wd1 : Wds [a, 0, c0, c1] := wds_four ⟨a0, a1⟩ ⟨by omega, by omega⟩ ⟨p0, q0⟩ ⟨by omega, by omega⟩
  have wd2 : Wds [a, 0, c0, c2] := wds_four ⟨a0, a1⟩ ⟨by omega, by omega⟩ ⟨p0, q0⟩ ⟨by omega, by omega⟩
  have rr := two_rows w1 .u32 22 [a, 0, c0, c1] [a, 0, c0, c2] #[.int .u32 a, .int .u32 0, .int .u32 c0, .int .u32 c1] #[.int .u32 a, .int .u32 0, .int .u32 c0, .int .u32 c2] rfl rfl
  refine (same_like' _ w1.heap.size 0 (w1.heap.size + 1) 0 4 4 4 [a, 0, c0, c1] [a, 0, c0, c2] rfl rfl wd1 wd2 rr.1 rr.2 (by decide)).mono ?_
  clear wd1 wd2 rr
  rintro e w2 ⟨rfl, hb3⟩
  rw [e1]
  replace hb3 := below_after_two hb3
  replace k1 := (hb3.cell (p := ⟨W.heap.size, 1, none⟩) hsz).trans k1
  replace k2 := (hb3.cell (p := ⟨W.heap.size, 2, none⟩) hsz).trans k2
  replace hb2 := hb2.trans (hb3.mono (by omega))
  replace hsz : W.heap.size < w2.heap.size := by have := hb3.size; omega
  clear e1 hb3 k0
  go_wp2_with fail
  refine (same_unlike _ _ _ 4 3 _ _ (by decide)).mono ?_
  rintro e w3 ⟨rfl, rfl⟩
  go_wp2_with fail
  have rr := two_rows w2 .u32 22 [a] [0] #[.int .u32 a] #[.int .u32 0] rfl rfl
  refine (same_like' _ w2.heap.size 0 (w2.heap.size + 1) 0 1 1 1 [a] [0] rfl rfl (wds_one a0 a1) (wds_one (by omega) (by omega)) rr.1 rr.2 (by decide)).mono ?_
  clear rr
  rintro e w4 ⟨rfl, hb3⟩
  rw [e2]
  replace hb3 := below_after_two hb3
  replace k1 := (hb3.cell (p := ⟨W.heap.size, 1, none⟩) hsz).trans k1
  replace k2 := (hb3.cell (p := ⟨W.heap.size, 2, none⟩) hsz).trans k2
  replace hb2 := hb2.trans (hb3.mono (by omega))
  clear e2 hb3 hsz
  go_wp2_with fail
  go_ret
  exact ⟨rfl, hb2⟩

set_option maxRecDepth 100000 in
set_option maxHeartbeats 1000000 in
theorem sums_z2 (W : World) (hT : Tab W) (h0 : 0 < W.heap.size) (a b c0 c1 c2 : Int) (a0 : 0 ≤ a) (a1 : a < 4294967296) (b0 : 0 ≤ b) (b1 : b ≤ 0)
    (p0 : 0 ≤ c0) (q0 : c0 < 4294967296) (p1 : 0 < c1) (q1 : c1 < 4294967296) (p2 : 0 < c2) (q2 : c2 < 4294967296) (m1 : b + c2 ≤ a) :
    Calls Tryd.prog 3 #[.int .u32 a, .int .u32 b, .agg #[.int .u32 c0, .int .u32 c1, .int .u32 c2]] W fun e W' => e = .returned (.bool true) ∧ Below W.heap.size W W' := by
  obtain rfl : b = 0 := by omega
  have HB0 : Below W.heap.size W (W.alloc (.cells #[.int .u32 c0, .int .u32 c1, .int .u32 c2] 23)) := (Below.refl W.heap.size W).alloc (Nat.le_refl _) _
  have e1 : decide ([a, 0, c0, c1] = [a, 0, c0, c2]) = (c1 == c2) := by simp [Bool.beq_eq_decide_eq]
  have e2 : decide ([a] = [0]) = (a == 0) := by simp [Bool.beq_eq_decide_eq]
  go_enter Tryd.func3, Tryd.ntmps3
  go_wp2_with fail
  refine (head_any _ (hT.alloc h0 _) (by simp)).mono ?_
  rintro e w1 ⟨rfl, hb1⟩
  have hb2 := HB0.trans (hb1.mono (by simp))
  have k0 := (hb1.cell (p := ⟨W.heap.size, 0, none⟩) (by simp)).trans (cell_new W _ 23 0)
  have k1 := (hb1.cell (p := ⟨W.heap.size, 1, none⟩) (by simp)).trans (cell_new W _ 23 1)
  have k2 := (hb1.cell (p := ⟨W.heap.size, 2, none⟩) (by simp)).trans (cell_new W _ 23 2)
  simp at k0 k1 k2
  have hsz : W.heap.size < w1.heap.size := by have := hb1.size; simp at this; omega
  clear hb1 HB0
  go_wp2_with (first | (go_at_call 9; refine (add_any _ _ _ _ a0 a1 (by omega) (by omega) p0 q0).mono ?_; rintro e w' ⟨rfl, rfl⟩) | (go_at_call 10; refine (div_none _ _ _ a0 a1 b0 b1).mono ?_; rintro e w' ⟨rfl, rfl⟩) | (go_at_call 11; refine (less_zero _ _).mono ?_; rintro e w' ⟨rfl, rfl⟩) | (go_at_call 12; refine (overlap_no _ _ _ _ _ (by omega) (by omega) (by omega) (by omega) (by omega) (by omega) (by omega) (by omega) (by omega)).mono ?_; rintro e w' ⟨rfl, rfl⟩))
  have wd1 : Wds [a, 0, c0, c1] := wds_four ⟨a0, a1⟩ ⟨by omega, by omega⟩ ⟨p0, q0⟩ ⟨by omega, by omega⟩
  have wd2 : Wds [a, 0, c0, c2] := wds_four ⟨a0, a1⟩ ⟨by omega, by omega⟩ ⟨p0, q0⟩ ⟨by omega, by omega⟩
  have rr := two_rows w1 .u32 22 [a, 0, c0, c1] [a, 0, c0, c2] #[.int .u32 a, .int .u32 0, .int .u32 c0, .int .u32 c1] #[.int .u32 a, .int .u32 0, .int .u32 c0, .int .u32 c2] rfl rfl
  refine (same_like' _ w1.heap.size 0 (w1.heap.size + 1) 0 4 4 4 [a, 0, c0, c1] [a, 0, c0, c2] rfl rfl wd1 wd2 rr.1 rr.2 (by decide)).mono ?_
  clear wd1 wd2 rr
  rintro e w2 ⟨rfl, hb3⟩
  rw [e1]
  replace hb3 := below_after_two hb3
  replace k1 := (hb3.cell (p := ⟨W.heap.size, 1, none⟩) hsz).trans k1
  replace k2 := (hb3.cell (p := ⟨W.heap.size, 2, none⟩) hsz).trans k2
  replace hb2 := hb2.trans (hb3.mono (by omega))
  replace hsz : W.heap.size < w2.heap.size := by have := hb3.size; omega
  clear e1 hb3 k0
  go_wp2_with fail
  refine (same_unlike _ _ _ 4 3 _ _ (by decide)).mono ?_
  rintro e w3 ⟨rfl, rfl⟩
  go_wp2_with fail
  have rr := two_rows w2 .u32 22 [a] [0] #[.int .u32 a] #[.int .u32 0] rfl rfl
  refine (same_like' _ w2.heap.size 0 (w2.heap.size + 1) 0 1 1 1 [a] [0] rfl rfl (wds_one a0 a1) (wds_one (by omega) (by omega)) rr.1 rr.2 (by decide)).mono ?_
  clear rr
  rintro e w4 ⟨rfl, hb3⟩
  rw [e2]
  replace hb3 := below_after_two hb3
  replace k1 := (hb3.cell (p := ⟨W.heap.size, 1, none⟩) hsz).trans k1
  replace k2 := (hb3.cell (p := ⟨W.heap.size, 2, none⟩) hsz).trans k2
  replace hb2 := hb2.trans (hb3.mono (by omega))
  clear e2 hb3 hsz
  go_wp2_with fail
  go_ret
  exact ⟨rfl, hb2⟩

set_option maxRecDepth 100000 in
set_option maxHeartbeats 1000000 in
theorem sums_z4 (W : World) (hT : Tab W) (h0 : 0 < W.heap.size) (a b c0 c1 c2 : Int) (a0 : 0 ≤ a) (a1 : a < 4294967296) (b0 : 0 ≤ b) (b1 : b ≤ 0)
    (p0 : 0 ≤ c0) (q0 : c0 < 4294967296) (p1 : 0 < c1) (q1 : c1 < 4294967296) (p2 : 0 < c2) (q2 : c2 < 4294967296) (m1 : a < b + c2) (m2 : b < a + c1) :
    Calls Tryd.prog 3 #[.int .u32 a, .int .u32 b, .agg #[.int .u32 c0, .int .u32 c1, .int .u32 c2]] W fun e W' => e = .returned (.bool true) ∧ Below W.heap.size W W' := by
  obtain rfl : b = 0 := by omega
  have HB0 : Below W.heap.size W (W.alloc (.cells #[.int .u32 c0, .int .u32 c1, .int .u32 c2] 23)) := (Below.refl W.heap.size W).alloc (Nat.le_refl _) _
  have e1 : decide ([a, 0, c0, c1] = [a, 0, c0, c2]) = (c1 == c2) := by simp [Bool.beq_eq_decide_eq]
  have e2 : decide ([a] = [0]) = (a == 0) := by simp [Bool.beq_eq_decide_eq]
  go_enter Tryd.func3, Tryd.ntmps3
  go_wp2_with fail
  refine (head_any _ (hT.alloc h0 _) (by simp)).mono ?_
  rintro e w1 ⟨rfl, hb1⟩
  have hb2 := HB0.trans (hb1.mono (by simp))
  have k0 := (hb1.cell (p := ⟨W.heap.size, 0, none⟩) (by simp)).trans (cell_new W _ 23 0)
  have k1 := (hb1.cell (p := ⟨W.heap.size, 1, none⟩) (by simp)).trans (cell_new W _ 23 1)
  have k2 := (hb1.cell (p := ⟨W.heap.size, 2, none⟩) (by simp)).trans (cell_new W _ 23 2)
  simp at k0 k1 k2
  have hsz : W.heap.size < w1.heap.size := by have := hb1.size; simp at this; omega
  clear hb1 HB0
  go_wp2_with (first | (go_at_call 9; refine (add_any _ _ _ _ a0 a1 (by omega) (by omega) p0 q0).mono ?_; rintro e w' ⟨rfl, rfl⟩) | (go_at_call 10; refine (div_none _ _ _ a0 a1 b0 b1).mono ?_; rintro e w' ⟨rfl, rfl⟩) | (go_at_call 11; refine (less_zero _ _).mono ?_; rintro e w' ⟨rfl, rfl⟩) | (go_at_call 12; refine (overlap_yes _ _ _ _ _ (by omega) (by omega) (by omega) (by omega) (by omega) (by omega) (by omega) (by omega) (by omega)).mono ?_; rintro e w' ⟨rfl, rfl⟩))
  have wd1 : Wds [a, 0, c0, c1] := wds_four ⟨a0, a1⟩ ⟨by omega, by omega⟩ ⟨p0, q0⟩ ⟨by omega, by omega⟩
  have wd2 : Wds [a, 0, c0, c2] := wds_four ⟨a0, a1⟩ ⟨by omega, by omega⟩ ⟨p0, q0⟩ ⟨by omega, by omega⟩
  have rr := two_rows w1 .u32 22 [a, 0, c0, c1] [a, 0, c0, c2] #[.int .u32 a, .int .u32 0, .int .u32 c0, .int .u32 c1] #[.int .u32 a, .int .u32 0, .int .u32 c0, .int .u32 c2] rfl rfl
  refine (same_like' _ w1.heap.size 0 (w1.heap.size + 1) 0 4 4 4 [a, 0, c0, c1] [a, 0, c0, c2] rfl rfl wd1 wd2 rr.1 rr.2 (by decide)).mono ?_
  clear wd1 wd2 rr
  rintro e w2 ⟨rfl, hb3⟩
  rw [e1]
  replace hb3 := below_after_two hb3
  replace k1 := (hb3.cell (p := ⟨W.heap.size, 1, none⟩) hsz).trans k1
  replace k2 := (hb3.cell (p := ⟨W.heap.size, 2, none⟩) hsz).trans k2
  replace hb2 := hb2.trans (hb3.mono (by omega))
  replace hsz : W.heap.size < w2.heap.size := by have := hb3.size; omega
  clear e1 hb3 k0
  go_wp2_with fail
  refine (same_unlike _ _ _ 4 3 _ _ (by decide)).mono ?_
  rintro e w3 ⟨rfl, rfl⟩
  go_wp2_with fail
  have rr := two_rows w2 .u32 22 [a] [0] #[.int .u32 a] #[.int .u32 0] rfl rfl
  refine (same_like' _ w2.heap.size 0 (w2.heap.size + 1) 0 1 1 1 [a] [0] rfl rfl (wds_one a0 a1) (wds_one (by omega) (by omega)) rr.1 rr.2 (by decide)).mono ?_
  clear rr
  rintro e w4 ⟨rfl, hb3⟩
  rw [e2]
  replace hb3 := below_after_two hb3
  replace k1 := (hb3.cell (p := ⟨W.heap.size, 1, none⟩) hsz).trans k1
  replace k2 := (hb3.cell (p := ⟨W.heap.size, 2, none⟩) hsz).trans k2
  replace hb2 := hb2.trans (hb3.mono (by omega))
  clear e2 hb3 hsz
  go_wp2_with fail
  go_ret
  exact ⟨rfl, hb2⟩
end Go.Proofs.YtlfnpllojinjdaaDoor
