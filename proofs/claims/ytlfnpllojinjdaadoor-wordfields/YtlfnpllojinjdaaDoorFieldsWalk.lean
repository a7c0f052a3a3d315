import Derived.Test.YtlfnpllojinjdaaDoorFields
import Derived.Test.YtlfnpllojinjdaaDoorSumsPre
namespace Go.Proofs.YtlfnpllojinjdaaDoor
open Go.RowKit

set_option maxRecDepth 100000 in
set_option maxHeartbeats 4000000 in
theorem fields_a (W : World) (hT : Tab W) (h0 : 0 < W.heap.size) (w v : Int) (l m : Nat) (w0 : 0 ≤ w) (w1 : w < 4294967296) (v0 : 0 ≤ v) (v1 : v < 4294967296) (m1 : 1 ≤ m) (lm : l + m ≤ 32) (l0 : 0 < l) (u0 : l + m < 32) :
    Calls Tryd.prog 5 #[.agg #[.int .u32 w, .int .i64 l, .int .i64 m, .int .u32 v]] W fun e W' => e = .returned (.bool true) ∧ Below W.heap.size W W' := by
  have HB0 : Below W.heap.size W (W.alloc (.cells #[.int .u32 w, .int .i64 l, .int .i64 m, .int .u32 v] 49)) := (Below.refl W.heap.size W).alloc (Nat.le_refl _) _
  go_enter Tryd.func5, Tryd.ntmps5
  go_wp2_with fail
  go_quiet (fail)
  go_wp2_with fail
  refine (head_any _ ((hT.alloc h0 _).drewN _) (by simp)).mono ?_
  rintro e w1' ⟨rfl, hb1⟩
  have hT1 := ((hT.alloc h0 _).drewN _).below hb1 (by simp)
  have hb2 := (below_drewN HB0 _).trans (hb1.mono (by simp))
  clear hb1 HB0 hT
  obtain ⟨x0, x1⟩ := M.setF_bounds w l m v w0 w1 lm
  obtain ⟨r0, r1, r2⟩ := M.rot_bounds w l w0 w1 (by omega)
  obtain ⟨f0, f2, f1⟩ := M.fld_bounds w l m (by omega)
  obtain ⟨g0, g1⟩ := (M.ext_eq w m m1 (by omega)).2
  clear r2 f2
  have E1 := fld_moves w l m w0 lm
  rw [show ((32 - l - m : Nat) : Int) = 32 - (l : Int) - (m : Int) by omega, show ((32 - m : Nat) : Int) = 32 - (l : Int) - (m : Int) + (l : Int) by omega] at E1
  have E2 := M.setF_back w l m v
  have E3 := fld_set w v l m
  have E4 := fld_low_set w v l m
  have E5 := fld_high_set w v l m
  have E6 := rot_back' w l w0 w1 (by omega)
  have E7 := rot_low' w l (by omega)
  have E8 := ext_fld w m (by omega)
  have E9 := ext_sign' w m m1
  have E10 := ext_arith w m m1 (by omega)
  rw [show ((32 - m : Nat) : Int) = 32 - (m : Int) by omega] at E10
  go_wp2_with fail
  refine (field_yes _ (by first | exact hT1 | exact hT1.drewN _) (w) ((l : Int)) ((m : Int)) w0 w1 (by omega) (by omega) (by omega)).mono ?_
  rintro e w' ⟨rfl, d, rfl⟩
  go_wp2_with fail
  refine (setField_yes _ (by first | exact hT1 | exact hT1.drewN _) w ((l : Int)) (m : Int) v w0 w1 v0 v1 (by omega) (by omega) (by omega)).mono ?_
  rintro e w' ⟨rfl, rfl⟩
  go_wp2_with fail
  refine (left_f _ w (32 - (l : Int) - (m : Int)) (by omega)).mono ?_
  rintro e w' ⟨rfl, rfl⟩
  go_wp2_with fail
  refine (right_f _ (Lf w (32 - (l : Int) - (m : Int))) (32 - (l : Int) - (m : Int) + (l : Int)) (by omega)).mono ?_
  rintro e w' ⟨rfl, rfl⟩
  go_wp2_with fail
  refine (setField_yes _ (by first | exact hT1 | exact hT1.drewN _) (M.SetF w l m v) ((l : Int)) (m : Int) (M.Fld w l m) x0 x1 f0 f1 (by omega) (by omega) (by omega)).mono ?_
  rintro e w' ⟨rfl, rfl⟩
  go_wp2_with fail
  refine (field_yes _ (by first | exact hT1 | exact hT1.drewN _) (M.SetF w l m v) ((l : Int)) ((m : Int)) x0 x1 (by omega) (by omega) (by omega)).mono ?_
  rintro e w' ⟨rfl, d, rfl⟩
  go_wp2_with fail
  refine (field_yes _ (by first | exact hT1 | exact hT1.drewN _) (v) (0) ((m : Int)) v0 v1 (by omega) (by omega) (by omega)).mono ?_
  rintro e w' ⟨rfl, d, rfl⟩
  go_wp2_with fail
  refine (field_yes _ (by first | exact hT1 | exact hT1.drewN _) (M.SetF w l m v) (0) ((l : Int)) x0 x1 (by omega) (by omega) (by omega)).mono ?_
  rintro e w' ⟨rfl, d, rfl⟩
  go_wp2_with fail
  refine (field_yes _ (by first | exact hT1 | exact hT1.drewN _) (w) (0) ((l : Int)) w0 w1 (by omega) (by omega) (by omega)).mono ?_
  rintro e w' ⟨rfl, d, rfl⟩
  go_wp2_with fail
  refine (field_yes _ (by first | exact hT1 | exact hT1.drewN _) (M.SetF w l m v) ((l : Int) + (m : Int)) (32 - (l : Int) - (m : Int)) x0 x1 (by omega) (by omega) (by omega)).mono ?_
  rintro e w' ⟨rfl, d, rfl⟩
  go_wp2_with fail
  refine (field_yes _ (by first | exact hT1 | exact hT1.drewN _) (w) ((l : Int) + (m : Int)) (32 - (l : Int) - (m : Int)) w0 w1 (by omega) (by omega) (by omega)).mono ?_
  rintro e w' ⟨rfl, d, rfl⟩
  go_wp2_with fail
  refine (rotate_f _ w ((l : Int)) l w0 w1 (by omega)).mono ?_
  rintro e w' ⟨rfl, rfl⟩
  go_wp2_with fail
  refine (rotate_f _ (M.Rot w l) (32 - (l : Int)) ((32 - l) % 32) r0 r1 (by omega)).mono ?_
  rintro e w' ⟨rfl, rfl⟩
  go_wp2_with fail
  refine (rotate_f _ (M.Rot w l) (- (l : Int)) ((32 - l) % 32) r0 r1 (by omega)).mono ?_
  rintro e w' ⟨rfl, rfl⟩
  go_wp2_with fail
  refine (field_yes _ (by first | exact hT1 | exact hT1.drewN _) (M.Rot w l) (0) (1) r0 r1 (by omega) (by omega) (by omega)).mono ?_
  rintro e w' ⟨rfl, d, rfl⟩
  go_wp2_with fail
  refine (field_yes _ (by first | exact hT1 | exact hT1.drewN _) (w) ((l : Int)) (1) w0 w1 (by omega) (by omega) (by omega)).mono ?_
  rintro e w' ⟨rfl, d, rfl⟩
  go_wp2_with fail
  refine (extend_yes _ (by first | exact hT1 | exact hT1.drewN _) w (m : Int) w0 w1 (by omega) (by omega)).mono ?_
  rintro e w' ⟨rfl, d, rfl⟩
  go_wp2_with fail
  refine (field_yes _ (by first | exact hT1 | exact hT1.drewN _) (M.Ext w m % 4294967296) (0) ((m : Int)) (by omega) (by omega) (by omega) (by omega) (by omega)).mono ?_
  rintro e w' ⟨rfl, d, rfl⟩
  go_wp2_with fail
  refine (field_yes _ (by first | exact hT1 | exact hT1.drewN _) (w) (0) ((m : Int)) w0 w1 (by omega) (by omega) (by omega)).mono ?_
  rintro e w' ⟨rfl, d, rfl⟩
  go_wp2_with fail
  refine (field_yes _ (by first | exact hT1 | exact hT1.drewN _) (w) ((m : Int) - 1) (1) w0 w1 (by omega) (by omega) (by omega)).mono ?_
  rintro e w' ⟨rfl, d, rfl⟩
  go_wp2_with fail
  refine (left_f _ w (32 - (m : Int)) (by omega)).mono ?_
  rintro e w' ⟨rfl, rfl⟩
  go_wp2_with fail
  refine (arith_f _ (Lf w (32 - (m : Int))) (32 - (m : Int)) (by omega)).mono ?_
  rintro e w' ⟨rfl, rfl⟩
  go_wp2_with fail
  go_ret
  exact ⟨rfl, below_drewN hb2 _⟩

set_option maxRecDepth 100000 in
set_option maxHeartbeats 4000000 in
theorem fields_b (W : World) (hT : Tab W) (h0 : 0 < W.heap.size) (w v : Int) (l m : Nat) (w0 : 0 ≤ w) (w1 : w < 4294967296) (v0 : 0 ≤ v) (v1 : v < 4294967296) (m1 : 1 ≤ m) (lm : l + m ≤ 32) (l0 : 0 < l) (u0 : 32 ≤ l + m) :
    Calls Tryd.prog 5 #[.agg #[.int .u32 w, .int .i64 l, .int .i64 m, .int .u32 v]] W fun e W' => e = .returned (.bool true) ∧ Below W.heap.size W W' := by
  have HB0 : Below W.heap.size W (W.alloc (.cells #[.int .u32 w, .int .i64 l, .int .i64 m, .int .u32 v] 49)) := (Below.refl W.heap.size W).alloc (Nat.le_refl _) _
  go_enter Tryd.func5, Tryd.ntmps5
  go_wp2_with fail
  go_quiet (fail)
  go_wp2_with fail
  refine (head_any _ ((hT.alloc h0 _).drewN _) (by simp)).mono ?_
  rintro e w1' ⟨rfl, hb1⟩
  have hT1 := ((hT.alloc h0 _).drewN _).below hb1 (by simp)
  have hb2 := (below_drewN HB0 _).trans (hb1.mono (by simp))
  clear hb1 HB0 hT
  obtain ⟨x0, x1⟩ := M.setF_bounds w l m v w0 w1 lm
  obtain ⟨r0, r1, r2⟩ := M.rot_bounds w l w0 w1 (by omega)
  obtain ⟨f0, f2, f1⟩ := M.fld_bounds w l m (by omega)
  obtain ⟨g0, g1⟩ := (M.ext_eq w m m1 (by omega)).2
  clear r2 f2
  have E1 := fld_moves w l m w0 lm
  rw [show ((32 - l - m : Nat) : Int) = 32 - (l : Int) - (m : Int) by omega, show ((32 - m : Nat) : Int) = 32 - (l : Int) - (m : Int) + (l : Int) by omega] at E1
  have E2 := M.setF_back w l m v
  have E3 := fld_set w v l m
  have E4 := fld_low_set w v l m
  have E5 := fld_high_set w v l m
  have E6 := rot_back' w l w0 w1 (by omega)
  have E7 := rot_low' w l (by omega)
  have E8 := ext_fld w m (by omega)
  have E9 := ext_sign' w m m1
  have E10 := ext_arith w m m1 (by omega)
  rw [show ((32 - m : Nat) : Int) = 32 - (m : Int) by omega] at E10
  go_wp2_with fail
  refine (field_yes _ (by first | exact hT1 | exact hT1.drewN _) (w) ((l : Int)) ((m : Int)) w0 w1 (by omega) (by omega) (by omega)).mono ?_
  rintro e w' ⟨rfl, d, rfl⟩
  go_wp2_with fail
  refine (setField_yes _ (by first | exact hT1 | exact hT1.drewN _) w ((l : Int)) (m : Int) v w0 w1 v0 v1 (by omega) (by omega) (by omega)).mono ?_
  rintro e w' ⟨rfl, rfl⟩
  go_wp2_with fail
  refine (left_f _ w (32 - (l : Int) - (m : Int)) (by omega)).mono ?_
  rintro e w' ⟨rfl, rfl⟩
  go_wp2_with fail
  refine (right_f _ (Lf w (32 - (l : Int) - (m : Int))) (32 - (l : Int) - (m : Int) + (l : Int)) (by omega)).mono ?_
  rintro e w' ⟨rfl, rfl⟩
  go_wp2_with fail
  refine (setField_yes _ (by first | exact hT1 | exact hT1.drewN _) (M.SetF w l m v) ((l : Int)) (m : Int) (M.Fld w l m) x0 x1 f0 f1 (by omega) (by omega) (by omega)).mono ?_
  rintro e w' ⟨rfl, rfl⟩
  go_wp2_with fail
  refine (field_yes _ (by first | exact hT1 | exact hT1.drewN _) (M.SetF w l m v) ((l : Int)) ((m : Int)) x0 x1 (by omega) (by omega) (by omega)).mono ?_
  rintro e w' ⟨rfl, d, rfl⟩
  go_wp2_with fail
  refine (field_yes _ (by first | exact hT1 | exact hT1.drewN _) (v) (0) ((m : Int)) v0 v1 (by omega) (by omega) (by omega)).mono ?_
  rintro e w' ⟨rfl, d, rfl⟩
  go_wp2_with fail
  refine (field_yes _ (by first | exact hT1 | exact hT1.drewN _) (M.SetF w l m v) (0) ((l : Int)) x0 x1 (by omega) (by omega) (by omega)).mono ?_
  rintro e w' ⟨rfl, d, rfl⟩
  go_wp2_with fail
  refine (field_yes _ (by first | exact hT1 | exact hT1.drewN _) (w) (0) ((l : Int)) w0 w1 (by omega) (by omega) (by omega)).mono ?_
  rintro e w' ⟨rfl, d, rfl⟩
  go_wp2_with fail
  refine (rotate_f _ w ((l : Int)) l w0 w1 (by omega)).mono ?_
  rintro e w' ⟨rfl, rfl⟩
  go_wp2_with fail
  refine (rotate_f _ (M.Rot w l) (32 - (l : Int)) ((32 - l) % 32) r0 r1 (by omega)).mono ?_
  rintro e w' ⟨rfl, rfl⟩
  go_wp2_with fail
  refine (rotate_f _ (M.Rot w l) (- (l : Int)) ((32 - l) % 32) r0 r1 (by omega)).mono ?_
  rintro e w' ⟨rfl, rfl⟩
  go_wp2_with fail
  refine (field_yes _ (by first | exact hT1 | exact hT1.drewN _) (M.Rot w l) (0) (1) r0 r1 (by omega) (by omega) (by omega)).mono ?_
  rintro e w' ⟨rfl, d, rfl⟩
  go_wp2_with fail
  refine (field_yes _ (by first | exact hT1 | exact hT1.drewN _) (w) ((l : Int)) (1) w0 w1 (by omega) (by omega) (by omega)).mono ?_
  rintro e w' ⟨rfl, d, rfl⟩
  go_wp2_with fail
  refine (extend_yes _ (by first | exact hT1 | exact hT1.drewN _) w (m : Int) w0 w1 (by omega) (by omega)).mono ?_
  rintro e w' ⟨rfl, d, rfl⟩
  go_wp2_with fail
  refine (field_yes _ (by first | exact hT1 | exact hT1.drewN _) (M.Ext w m % 4294967296) (0) ((m : Int)) (by omega) (by omega) (by omega) (by omega) (by omega)).mono ?_
  rintro e w' ⟨rfl, d, rfl⟩
  go_wp2_with fail
  refine (field_yes _ (by first | exact hT1 | exact hT1.drewN _) (w) (0) ((m : Int)) w0 w1 (by omega) (by omega) (by omega)).mono ?_
  rintro e w' ⟨rfl, d, rfl⟩
  go_wp2_with fail
  refine (field_yes _ (by first | exact hT1 | exact hT1.drewN _) (w) ((m : Int) - 1) (1) w0 w1 (by omega) (by omega) (by omega)).mono ?_
  rintro e w' ⟨rfl, d, rfl⟩
  go_wp2_with fail
  refine (left_f _ w (32 - (m : Int)) (by omega)).mono ?_
  rintro e w' ⟨rfl, rfl⟩
  go_wp2_with fail
  refine (arith_f _ (Lf w (32 - (m : Int))) (32 - (m : Int)) (by omega)).mono ?_
  rintro e w' ⟨rfl, rfl⟩
  go_wp2_with fail
  go_ret
  exact ⟨rfl, below_drewN hb2 _⟩

set_option maxRecDepth 100000 in
set_option maxHeartbeats 4000000 in
theorem fields_c (W : World) (hT : Tab W) (h0 : 0 < W.heap.size) (w v : Int) (l m : Nat) (w0 : 0 ≤ w) (w1 : w < 4294967296) (v0 : 0 ≤ v) (v1 : v < 4294967296) (m1 : 1 ≤ m) (lm : l + m ≤ 32) (l0 : l ≤ 0) (u0 : l + m < 32) :
    Calls Tryd.prog 5 #[.agg #[.int .u32 w, .int .i64 l, .int .i64 m, .int .u32 v]] W fun e W' => e = .returned (.bool true) ∧ Below W.heap.size W W' := by
  have HB0 : Below W.heap.size W (W.alloc (.cells #[.int .u32 w, .int .i64 l, .int .i64 m, .int .u32 v] 49)) := (Below.refl W.heap.size W).alloc (Nat.le_refl _) _
  go_enter Tryd.func5, Tryd.ntmps5
  go_wp2_with fail
  go_quiet (fail)
  go_wp2_with fail
  refine (head_any _ ((hT.alloc h0 _).drewN _) (by simp)).mono ?_
  rintro e w1' ⟨rfl, hb1⟩
  have hT1 := ((hT.alloc h0 _).drewN _).below hb1 (by simp)
  have hb2 := (below_drewN HB0 _).trans (hb1.mono (by simp))
  clear hb1 HB0 hT
  obtain ⟨x0, x1⟩ := M.setF_bounds w l m v w0 w1 lm
  obtain ⟨r0, r1, r2⟩ := M.rot_bounds w l w0 w1 (by omega)
  obtain ⟨f0, f2, f1⟩ := M.fld_bounds w l m (by omega)
  obtain ⟨g0, g1⟩ := (M.ext_eq w m m1 (by omega)).2
  clear r2 f2
  have E1 := fld_moves w l m w0 lm
  rw [show ((32 - l - m : Nat) : Int) = 32 - (l : Int) - (m : Int) by omega, show ((32 - m : Nat) : Int) = 32 - (l : Int) - (m : Int) + (l : Int) by omega] at E1
  have E2 := M.setF_back w l m v
  have E3 := fld_set w v l m
  have E4 := fld_low_set w v l m
  have E5 := fld_high_set w v l m
  have E6 := rot_back' w l w0 w1 (by omega)
  have E7 := rot_low' w l (by omega)
  have E8 := ext_fld w m (by omega)
  have E9 := ext_sign' w m m1
  have E10 := ext_arith w m m1 (by omega)
  rw [show ((32 - m : Nat) : Int) = 32 - (m : Int) by omega] at E10
  go_wp2_with fail
  refine (field_yes _ (by first | exact hT1 | exact hT1.drewN _) (w) ((l : Int)) ((m : Int)) w0 w1 (by omega) (by omega) (by omega)).mono ?_
  rintro e w' ⟨rfl, d, rfl⟩
  go_wp2_with fail
  refine (setField_yes _ (by first | exact hT1 | exact hT1.drewN _) w ((l : Int)) (m : Int) v w0 w1 v0 v1 (by omega) (by omega) (by omega)).mono ?_
  rintro e w' ⟨rfl, rfl⟩
  go_wp2_with fail
  refine (left_f _ w (32 - (l : Int) - (m : Int)) (by omega)).mono ?_
  rintro e w' ⟨rfl, rfl⟩
  go_wp2_with fail
  refine (right_f _ (Lf w (32 - (l : Int) - (m : Int))) (32 - (l : Int) - (m : Int) + (l : Int)) (by omega)).mono ?_
  rintro e w' ⟨rfl, rfl⟩
  go_wp2_with fail
  refine (setField_yes _ (by first | exact hT1 | exact hT1.drewN _) (M.SetF w l m v) ((l : Int)) (m : Int) (M.Fld w l m) x0 x1 f0 f1 (by omega) (by omega) (by omega)).mono ?_
  rintro e w' ⟨rfl, rfl⟩
  go_wp2_with fail
  refine (field_yes _ (by first | exact hT1 | exact hT1.drewN _) (M.SetF w l m v) ((l : Int)) ((m : Int)) x0 x1 (by omega) (by omega) (by omega)).mono ?_
  rintro e w' ⟨rfl, d, rfl⟩
  go_wp2_with fail
  refine (field_yes _ (by first | exact hT1 | exact hT1.drewN _) (v) (0) ((m : Int)) v0 v1 (by omega) (by omega) (by omega)).mono ?_
  rintro e w' ⟨rfl, d, rfl⟩
  go_wp2_with fail
  refine (field_yes _ (by first | exact hT1 | exact hT1.drewN _) (M.SetF w l m v) ((l : Int) + (m : Int)) (32 - (l : Int) - (m : Int)) x0 x1 (by omega) (by omega) (by omega)).mono ?_
  rintro e w' ⟨rfl, d, rfl⟩
  go_wp2_with fail
  refine (field_yes _ (by first | exact hT1 | exact hT1.drewN _) (w) ((l : Int) + (m : Int)) (32 - (l : Int) - (m : Int)) w0 w1 (by omega) (by omega) (by omega)).mono ?_
  rintro e w' ⟨rfl, d, rfl⟩
  go_wp2_with fail
  refine (rotate_f _ w ((l : Int)) l w0 w1 (by omega)).mono ?_
  rintro e w' ⟨rfl, rfl⟩
  go_wp2_with fail
  refine (rotate_f _ (M.Rot w l) (32 - (l : Int)) ((32 - l) % 32) r0 r1 (by omega)).mono ?_
  rintro e w' ⟨rfl, rfl⟩
  go_wp2_with fail
  refine (rotate_f _ (M.Rot w l) (- (l : Int)) ((32 - l) % 32) r0 r1 (by omega)).mono ?_
  rintro e w' ⟨rfl, rfl⟩
  go_wp2_with fail
  refine (field_yes _ (by first | exact hT1 | exact hT1.drewN _) (M.Rot w l) (0) (1) r0 r1 (by omega) (by omega) (by omega)).mono ?_
  rintro e w' ⟨rfl, d, rfl⟩
  go_wp2_with fail
  refine (field_yes _ (by first | exact hT1 | exact hT1.drewN _) (w) ((l : Int)) (1) w0 w1 (by omega) (by omega) (by omega)).mono ?_
  rintro e w' ⟨rfl, d, rfl⟩
  go_wp2_with fail
  refine (extend_yes _ (by first | exact hT1 | exact hT1.drewN _) w (m : Int) w0 w1 (by omega) (by omega)).mono ?_
  rintro e w' ⟨rfl, d, rfl⟩
  go_wp2_with fail
  refine (field_yes _ (by first | exact hT1 | exact hT1.drewN _) (M.Ext w m % 4294967296) (0) ((m : Int)) (by omega) (by omega) (by omega) (by omega) (by omega)).mono ?_
  rintro e w' ⟨rfl, d, rfl⟩
  go_wp2_with fail
  refine (field_yes _ (by first | exact hT1 | exact hT1.drewN _) (w) (0) ((m : Int)) w0 w1 (by omega) (by omega) (by omega)).mono ?_
  rintro e w' ⟨rfl, d, rfl⟩
  go_wp2_with fail
  refine (field_yes _ (by first | exact hT1 | exact hT1.drewN _) (w) ((m : Int) - 1) (1) w0 w1 (by omega) (by omega) (by omega)).mono ?_
  rintro e w' ⟨rfl, d, rfl⟩
  go_wp2_with fail
  refine (left_f _ w (32 - (m : Int)) (by omega)).mono ?_
  rintro e w' ⟨rfl, rfl⟩
  go_wp2_with fail
  refine (arith_f _ (Lf w (32 - (m : Int))) (32 - (m : Int)) (by omega)).mono ?_
  rintro e w' ⟨rfl, rfl⟩
  go_wp2_with fail
  go_ret
  exact ⟨rfl, below_drewN hb2 _⟩

set_option maxRecDepth 100000 in
set_option maxHeartbeats 4000000 in
theorem fields_d (W : World) (hT : Tab W) (h0 : 0 < W.heap.size) (w v : Int) (l m : Nat) (w0 : 0 ≤ w) (w1 : w < 4294967296) (v0 : 0 ≤ v) (v1 : v < 4294967296) (m1 : 1 ≤ m) (lm : l + m ≤ 32) (l0 : l ≤ 0) (u0 : 32 ≤ l + m) :
    Calls Tryd.prog 5 #[.agg #[.int .u32 w, .int .i64 l, .int .i64 m, .int .u32 v]] W fun e W' => e = .returned (.bool true) ∧ Below W.heap.size W W' := by
  have HB0 : Below W.heap.size W (W.alloc (.cells #[.int .u32 w, .int .i64 l, .int .i64 m, .int .u32 v] 49)) := (Below.refl W.heap.size W).alloc (Nat.le_refl _) _
  go_enter Tryd.func5, Tryd.ntmps5
  go_wp2_with fail
  go_quiet (fail)
  go_wp2_with fail
  refine (head_any _ ((hT.alloc h0 _).drewN _) (by simp)).mono ?_
  rintro e w1' ⟨rfl, hb1⟩
  have hT1 := ((hT.alloc h0 _).drewN _).below hb1 (by simp)
  have hb2 := (below_drewN HB0 _).trans (hb1.mono (by simp))
  clear hb1 HB0 hT
  obtain ⟨x0, x1⟩ := M.setF_bounds w l m v w0 w1 lm
  obtain ⟨r0, r1, r2⟩ := M.rot_bounds w l w0 w1 (by omega)
  obtain ⟨f0, f2, f1⟩ := M.fld_bounds w l m (by omega)
  obtain ⟨g0, g1⟩ := (M.ext_eq w m m1 (by omega)).2
  clear r2 f2
  have E1 := fld_moves w l m w0 lm
  rw [show ((32 - l - m : Nat) : Int) = 32 - (l : Int) - (m : Int) by omega, show ((32 - m : Nat) : Int) = 32 - (l : Int) - (m : Int) + (l : Int) by omega] at E1
  have E2 := M.setF_back w l m v
  have E3 := fld_set w v l m
  have E4 := fld_low_set w v l m
  have E5 := fld_high_set w v l m
  have E6 := rot_back' w l w0 w1 (by omega)
  have E7 := rot_low' w l (by omega)
  have E8 := ext_fld w m (by omega)
  have E9 := ext_sign' w m m1
  have E10 := ext_arith w m m1 (by omega)
  rw [show ((32 - m : Nat) : Int) = 32 - (m : Int) by omega] at E10
  go_wp2_with fail
  refine (field_yes _ (by first | exact hT1 | exact hT1.drewN _) (w) ((l : Int)) ((m : Int)) w0 w1 (by omega) (by omega) (by omega)).mono ?_
  rintro e w' ⟨rfl, d, rfl⟩
  go_wp2_with fail
  refine (setField_yes _ (by first | exact hT1 | exact hT1.drewN _) w ((l : Int)) (m : Int) v w0 w1 v0 v1 (by omega) (by omega) (by omega)).mono ?_
  rintro e w' ⟨rfl, rfl⟩
  go_wp2_with fail
  refine (left_f _ w (32 - (l : Int) - (m : Int)) (by omega)).mono ?_
  rintro e w' ⟨rfl, rfl⟩
  go_wp2_with fail
  refine (right_f _ (Lf w (32 - (l : Int) - (m : Int))) (32 - (l : Int) - (m : Int) + (l : Int)) (by omega)).mono ?_
  rintro e w' ⟨rfl, rfl⟩
  go_wp2_with fail
  refine (setField_yes _ (by first | exact hT1 | exact hT1.drewN _) (M.SetF w l m v) ((l : Int)) (m : Int) (M.Fld w l m) x0 x1 f0 f1 (by omega) (by omega) (by omega)).mono ?_
  rintro e w' ⟨rfl, rfl⟩
  go_wp2_with fail
  refine (field_yes _ (by first | exact hT1 | exact hT1.drewN _) (M.SetF w l m v) ((l : Int)) ((m : Int)) x0 x1 (by omega) (by omega) (by omega)).mono ?_
  rintro e w' ⟨rfl, d, rfl⟩
  go_wp2_with fail
  refine (field_yes _ (by first | exact hT1 | exact hT1.drewN _) (v) (0) ((m : Int)) v0 v1 (by omega) (by omega) (by omega)).mono ?_
  rintro e w' ⟨rfl, d, rfl⟩
  go_wp2_with fail
  refine (rotate_f _ w ((l : Int)) l w0 w1 (by omega)).mono ?_
  rintro e w' ⟨rfl, rfl⟩
  go_wp2_with fail
  refine (rotate_f _ (M.Rot w l) (32 - (l : Int)) ((32 - l) % 32) r0 r1 (by omega)).mono ?_
  rintro e w' ⟨rfl, rfl⟩
  go_wp2_with fail
  refine (rotate_f _ (M.Rot w l) (- (l : Int)) ((32 - l) % 32) r0 r1 (by omega)).mono ?_
  rintro e w' ⟨rfl, rfl⟩
  go_wp2_with fail
  refine (field_yes _ (by first | exact hT1 | exact hT1.drewN _) (M.Rot w l) (0) (1) r0 r1 (by omega) (by omega) (by omega)).mono ?_
  rintro e w' ⟨rfl, d, rfl⟩
  go_wp2_with fail
  refine (field_yes _ (by first | exact hT1 | exact hT1.drewN _) (w) ((l : Int)) (1) w0 w1 (by omega) (by omega) (by omega)).mono ?_
  rintro e w' ⟨rfl, d, rfl⟩
  go_wp2_with fail
  refine (extend_yes _ (by first | exact hT1 | exact hT1.drewN _) w (m : Int) w0 w1 (by omega) (by omega)).mono ?_
  rintro e w' ⟨rfl, d, rfl⟩
  go_wp2_with fail
  refine (field_yes _ (by first | exact hT1 | exact hT1.drewN _) (M.Ext w m % 4294967296) (0) ((m : Int)) (by omega) (by omega) (by omega) (by omega) (by omega)).mono ?_
  rintro e w' ⟨rfl, d, rfl⟩
  go_wp2_with fail
  refine (field_yes _ (by first | exact hT1 | exact hT1.drewN _) (w) (0) ((m : Int)) w0 w1 (by omega) (by omega) (by omega)).mono ?_
  rintro e w' ⟨rfl, d, rfl⟩
  go_wp2_with fail
  refine (field_yes _ (by first | exact hT1 | exact hT1.drewN _) (w) ((m : Int) - 1) (1) w0 w1 (by omega) (by omega) (by omega)).mono ?_
  rintro e w' ⟨rfl, d, rfl⟩
  go_wp2_with fail
  refine (left_f _ w (32 - (m : Int)) (by omega)).mono ?_
  rintro e w' ⟨rfl, rfl⟩
  go_wp2_with fail
  refine (arith_f _ (Lf w (32 - (m : Int))) (32 - (m : Int)) (by omega)).mono ?_
  rintro e w' ⟨rfl, rfl⟩
  go_wp2_with fail
  go_ret
  exact ⟨rfl, below_drewN hb2 _⟩

end Go.Proofs.YtlfnpllojinjdaaDoor
