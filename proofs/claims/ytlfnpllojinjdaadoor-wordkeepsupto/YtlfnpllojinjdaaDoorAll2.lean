import Derived.Test.YtlfnpllojinjdaaDoorAll1
namespace Go.Proofs.YtlfnpllojinjdaaDoor
open Go.RowKit

theorem rdiv_none (W : World) (a b : Int) (ha0 : 0 ≤ a) (ha : a < 4294967296) (hb0 : 0 ≤ b) (hb : b ≤ 0) : Calls Tryd.prog 56 #[.int .u32 a, .int .u32 b] W fun e W' => e = .returned (.int .u32 4294967295) ∧ W = W' := by
  have := rdiv_any W a b ha0 ha (by omega) (by omega)
  rwa [if_pos (by omega)] at this
theorem rdiv_pos (W : World) (a b : Int) (ha0 : 0 ≤ a) (ha : a < 4294967296) (hb0 : 0 < b) (hb : b < 4294967296) : Calls Tryd.prog 56 #[.int .u32 a, .int .u32 b] W fun e W' => e = .returned (.int .u32 (a / b)) ∧ W = W' := by
  have := rdiv_any W a b ha0 ha (by omega) hb
  rwa [if_neg (by omega)] at this
set_option maxRecDepth 100000 in
set_option maxHeartbeats 1000000 in
theorem sums10 (W : World) (_hT : Tab W) (_h0 : 0 < W.heap.size) (o : OpV) (ok : o.Ok W) :
    Calls Tryd.prog 44 #[.agg (o.cells 10)] W fun e W' => e = .returned (.bool true) ∧ Below W.heap.size W W' := by
  obtain ⟨⟨a0, a1⟩, ⟨b0, b1⟩, ⟨c0, c1⟩, ⟨d0, d1⟩, ⟨n0, n1⟩, ⟨m0, m1⟩, -, -, -, -, -, -, -, -, -, -, -, -, -⟩ := ok
  obtain ⟨a, b, c, d, n, m, lao, ln, lc, lx, pao, pn, pc, px, bao, bn, bc, bx, s⟩ := o
  simp only [OpV.cells] at *
  have HB : Hid _ := below_one W (.cells #[.int .i64 10, .int .u32 a, .int .u32 b, .int .u32 c, .int .u32 d, .int .i64 n, .int .i64 m, .slice lao ln lc, .slice pao pn pc, .slice bao bn bc, .string s] 67)
  have e1 : (Lf a b == Lf a b) = true := by simp
  have e2 : (Rt a b == Rt a b) = true := by simp
  have e3 : (Ar a b == Ar a b) = true := by simp
  go_enter Tryd.func44, Tryd.ntmps44
  go_wp2_with fail
  go_quiet (first | (go_at_call 24; exact quiet_same (left_f _ _ _ b0)) | (go_at_call 51; exact quiet_same (rleft_any _ _ _ a0 a1 b0 b1)))
  go_wp2_with fail
  have k1 : ((W.alloc (.cells #[.int .i64 10, .int .u32 a, .int .u32 b, .int .u32 c, .int .u32 d, .int .i64 n, .int .i64 m, .slice lao ln lc, .slice pao pn pc, .slice bao bn bc, .string s] 67)).drewN nq).cell? ⟨W.heap.size, 1, none⟩ = some (.int .u32 a) := by rw [World.cell?_drewN, cell_new]; rfl
  have k2 : ((W.alloc (.cells #[.int .i64 10, .int .u32 a, .int .u32 b, .int .u32 c, .int .u32 d, .int .i64 n, .int .i64 m, .slice lao ln lc, .slice pao pn pc, .slice bao bn bc, .string s] 67)).drewN nq).cell? ⟨W.heap.size, 2, none⟩ = some (.int .u32 b) := by rw [World.cell?_drewN, cell_new]; rfl
  have HB2 : Hid (Below W.heap.size W ((W.alloc (.cells #[.int .i64 10, .int .u32 a, .int .u32 b, .int .u32 c, .int .u32 d, .int .i64 n, .int .i64 m, .slice lao ln lc, .slice pao pn pc, .slice bao bn bc, .string s] 67)).drewN nq)) := below_drewN HB.out _
  clear HB
  generalize (W.alloc (.cells #[.int .i64 10, .int .u32 a, .int .u32 b, .int .u32 c, .int .u32 d, .int .i64 n, .int .i64 m, .slice lao ln lc, .slice pao pn pc, .slice bao bn bc, .string s] 67)).drewN nq = w2 at *
  go_quiet (first | (go_at_call 23; exact quiet_same (right_f _ _ _ b0)) | (go_at_call 52; exact quiet_same (rright_any _ _ _ a0 a1 b0 b1)) | (go_at_call 27; exact quiet_same (arith_f _ _ _ b0)) | (go_at_call 53; exact quiet_same (rarith_any _ _ _ a0 a1 b0 b1)))
  go_wp2
  go_ret
  exact ⟨rfl, below_drewN HB2.out _⟩
set_option maxRecDepth 100000 in
set_option maxHeartbeats 1000000 in
theorem sums12 (W : World) (_hT : Tab W) (_h0 : 0 < W.heap.size) (o : OpV) (ok : o.Ok W) :
    Calls Tryd.prog 44 #[.agg (o.cells 12)] W fun e W' => e = .returned (.bool true) ∧ Below W.heap.size W W' := by
  obtain ⟨⟨a0, a1⟩, ⟨b0, b1⟩, ⟨c0, c1⟩, ⟨d0, d1⟩, ⟨n0, n1⟩, ⟨m0, m1⟩, -, -, -, -, -, -, -, -, -, -, -, -, -⟩ := ok
  obtain ⟨a, b, c, d, n, m, lao, ln, lc, lx, pao, pn, pc, px, bao, bn, bc, bx, s⟩ := o
  simp only [OpV.cells] at *
  have HB : Hid _ := below_one W (.cells #[.int .i64 12, .int .u32 a, .int .u32 b, .int .u32 c, .int .u32 d, .int .i64 n, .int .i64 m, .slice lao ln lc, .slice pao pn pc, .slice bao bn bc, .string s] 67)
  go_enter Tryd.func44, Tryd.ntmps44
  go_wp2_with (first | (go_at_call 55; refine (radd_any _ _ _ _ a0 a1 b0 b1 c0 c1).mono ?_; rintro e w' ⟨rfl, rfl⟩) | (go_at_call 9; refine (add_any _ _ _ _ a0 a1 b0 b1 c0 c1).mono ?_; rintro e w' ⟨rfl, rfl⟩))
  go_ret
  exact ⟨rfl, HB.out⟩
set_option maxRecDepth 100000 in
set_option maxHeartbeats 1000000 in
theorem sums13 (W : World) (_hT : Tab W) (_h0 : 0 < W.heap.size) (o : OpV) (ok : o.Ok W) :
    Calls Tryd.prog 44 #[.agg (o.cells 13)] W fun e W' => e = .returned (.bool true) ∧ Below W.heap.size W W' := by
  obtain ⟨⟨a0, a1⟩, ⟨b0, b1⟩, ⟨c0, c1⟩, ⟨d0, d1⟩, ⟨n0, n1⟩, ⟨m0, m1⟩, -, -, -, -, -, -, -, -, -, -, -, -, -⟩ := ok
  obtain ⟨a, b, c, d, n, m, lao, ln, lc, lx, pao, pn, pc, px, bao, bn, bc, bx, s⟩ := o
  simp only [OpV.cells] at *
  have HB : Hid _ := below_one W (.cells #[.int .i64 13, .int .u32 a, .int .u32 b, .int .u32 c, .int .u32 d, .int .i64 n, .int .i64 m, .slice lao ln lc, .slice pao pn pc, .slice bao bn bc, .string s] 67)
  by_cases h : b ≤ 0
  · go_enter Tryd.func44, Tryd.ntmps44
    go_wp2_with fail
    go_quiet (first | (go_at_call 10; exact quiet_same (div_none _ _ _ a0 a1 b0 h)) | (go_at_call 56; exact quiet_same (rdiv_none _ _ _ a0 a1 b0 h)) | (go_at_call 11; exact quiet_same (less_any _ _ _)) | (go_at_call 57; exact quiet_same (rless_any _ _ _ a0 a1 b0 b1)))
    go_wp2
    go_ret
    exact ⟨rfl, below_drewN HB.out _⟩
  · have h' : 0 < b := by omega
    go_enter Tryd.func44, Tryd.ntmps44
    go_wp2_with fail
    go_quiet (first | (go_at_call 10; exact quiet_same (div_pos _ _ _ a0 a1 h' b1)) | (go_at_call 56; exact quiet_same (rdiv_pos _ _ _ a0 a1 h' b1)) | (go_at_call 11; exact quiet_same (less_any _ _ _)) | (go_at_call 57; exact quiet_same (rless_any _ _ _ a0 a1 b0 b1)))
    go_wp2
    go_ret
    exact ⟨rfl, below_drewN HB.out _⟩
set_option maxRecDepth 100000 in
set_option maxHeartbeats 1000000 in
theorem sums15 (W : World) (_hT : Tab W) (_h0 : 0 < W.heap.size) (o : OpV) (ok : o.Ok W) :
    Calls Tryd.prog 44 #[.agg (o.cells 15)] W fun e W' => e = .returned (.bool true) ∧ Below W.heap.size W W' := by
  obtain ⟨⟨a0, a1⟩, ⟨b0, b1⟩, ⟨c0, c1⟩, ⟨d0, d1⟩, ⟨n0, n1⟩, ⟨m0, m1⟩, ll, lw, la, lb, pl, pw, pa, pb, -, -, -, -, -⟩ := ok
  obtain ⟨a, b, c, d, n, m, lao, ln, lc, lx, pao, pn, pc, px, bao, bn, bc, bx, s⟩ := o
  simp only [OpV.cells] at *
  have HB : Hid _ := below_one W (.cells #[.int .i64 15, .int .u32 a, .int .u32 b, .int .u32 c, .int .u32 d, .int .i64 n, .int .i64 m, .slice lao ln lc, .slice pao pn pc, .slice bao bn bc, .string s] 67)
  by_cases hlp : ln = pn
  · subst hlp
    by_cases hz : ln = 0
    · subst hz
      go_enter Tryd.func44, Tryd.ntmps44
      go_wp2_with (first | (go_at_call 59; refine (rsame_zero _ _ _ _ _).mono ?_; rintro e w' ⟨rfl, rfl⟩) | (go_at_call 13; refine (same_zero _ _ _ _ _).mono ?_; rintro e w' ⟨rfl, rfl⟩))
      go_ret
      exact ⟨rfl, HB.out⟩
    · rcases la with rfl | ⟨b1', o1, rfl, g1, r1⟩
      · simp at ll; omega
      rcases pa with rfl | ⟨b2', o2, rfl, g2, r2⟩
      · simp at pl; omega
      have s1 := r1.alloc g1 (.cells #[.int .i64 15, .int .u32 a, .int .u32 b, .int .u32 c, .int .u32 d, .int .i64 n, .int .i64 m, .slice (some ⟨b1', o1, none⟩) ln lc, .slice (some ⟨b2', o2, none⟩) ln pc, .slice bao bn bc, .string s] 67)
      have s2 := r2.alloc g2 (.cells #[.int .i64 15, .int .u32 a, .int .u32 b, .int .u32 c, .int .u32 d, .int .i64 n, .int .i64 m, .slice (some ⟨b1', o1, none⟩) ln lc, .slice (some ⟨b2', o2, none⟩) ln pc, .slice bao bn bc, .string s] 67)
      go_enter Tryd.func44, Tryd.ntmps44
      go_wp2_with fail
      refine (rsame_like _ b1' o1 b2' o2 ln lc pc lx px ll pl s1 s2 (by omega)).mono ?_
      rintro e w' ⟨rfl, q1, rfl⟩
      go_wp2_with fail
      refine (same_like _ b1' o1 b2' o2 ln lc pc lx px ll pl lw pw (s1.drewN _) (s2.drewN _) (by omega)).mono ?_
      rintro e w' ⟨rfl, q2, rfl⟩
      go_wp2
      go_ret
      exact ⟨rfl, below_drewN HB.out _⟩
  · go_enter Tryd.func44, Tryd.ntmps44
    go_wp2_with (first | (go_at_call 59; refine (rsame_unlike _ _ _ _ _ _ _ hlp).mono ?_; rintro e w' ⟨rfl, rfl⟩) | (go_at_call 13; refine (same_unlike _ _ _ _ _ _ _ hlp).mono ?_; rintro e w' ⟨rfl, rfl⟩))
    go_ret
    exact ⟨rfl, HB.out⟩
end Go.Proofs.YtlfnpllojinjdaaDoor
