/- The document's Compare (28), Holds (29), Flags (31), Flagged (30), Start (34). -/
import Derived.Test.YthpkodkilbcepaaA1
namespace Go.Proofs.Ythpkodkilbcepaa
open Go.RowKit
set_option maxHeartbeats 4000000
set_option maxRecDepth 100000
attribute [-simp] Try.isAgg27 Try.sizeOf27 Try.isAgg25 Try.sizeOf25 Try.isAgg23 Try.isAgg46 Try.sizeOf46
theorem rcompare_any (W : World) (f : F) (a b : Int) (a0 : 0 ≤ a) (a1 : a < 4294967296) (b0 : 0 ≤ b) (b1 : b < 4294967296) : Calls Try.prog 28 #[f.v, .int .u32 a, .int .u32 b] W fun e W' => e = .returned (f.cmp a b).v ∧ Below W.heap.size W W' := by
  have hP := prep W 25 25 f
  have y16 := (hP.box.cell 16).trans f.at16
  have y17 := (hP.box.cell 17).trans f.at17
  have y18 := (hP.box.cell 18).trans f.at18
  have z16 := hP.box.free 16
  have z17 := hP.box.free 17
  have z18 := hP.box.free 18
  have HQ := hid (hP.set3 (a == b) (decide (wrap32 a < wrap32 b)) (decide (a < b)))
  rw [show f.fl (a == b) (decide (wrap32 a < wrap32 b)) (decide (a < b)) = f.cmp a b from rfl] at HQ
  generalize f.cmp a b = f' at *
  have SA := hid fun w => signed_any w a a0 a1
  have SB := hid fun w => signed_any w b b0 b1
  have e1 : wrap64 a = a := by unfold wrap64; omega
  have e2 : wrap64 b = b := by unfold wrap64; omega
  clear hP
  unfold F.v
  generalize hc : f.cs.toArray = C at *
  clear hc
  go_enter Try.func28, Try.ntmps28
  go_upto_region 1 with fail
  generalize hX : (W.alloc _).alloc _ = X at *
  clear hX
  go_wp2_with fail
  refine (SA.out _).mono ?_
  rintro e w' ⟨rfl, rfl⟩
  go_wp2_with fail
  refine (SB.out _).mono ?_
  rintro e w' ⟨rfl, rfl⟩
  go_upto_region 4 with fail
  generalize hZ : World.setCell _ _ _ = Z at *
  clear hZ y16 y17 y18 z16 z17 z18
  go_wp2_with (first | (refine wpList_load_g rfl _ rfl W.heap.size f' rfl HQ.out.box ?_) | (refine wpList_store_g rfl _ _ rfl (W.heap.size + 1) F.zero f' rfl rfl HQ.out.res ?_; intro w1 hc1 hb1 hs1; have HRR := hid (HQ.out.ret hc1 hb1); clear hc1 hb1 hs1))
  refine ret_st rfl rfl (W.heap.size + 1) _ rfl HRR.out.1 under25 rfl (by rw [size25]; simp [F.len]) ⟨rfl, HRR.out.2⟩
theorem rholds_any (W : World) (f : F) (c : Int) : Calls Try.prog 29 #[f.v, .int .i64 c] W fun e W' => e = .returned (.bool (hold c f.z f.n f.l)) ∧ Below W.heap.size W W' := by
  have c0 := Cel.new W 25 f.cs
  have y16 := (c0.cell 16).trans f.at16
  have y17 := (c0.cell 17).trans f.at17
  have y18 := (c0.cell 18).trans f.at18
  have HB := hid (below_one W (.cells f.cs.toArray 25))
  clear c0
  generalize f.z = z at *
  generalize f.n = n at *
  generalize f.l = l at *
  unfold F.v
  generalize hc : f.cs.toArray = C at *
  clear hc
  by_cases h0 : c = 0
  · subst h0
    go_enter Try.func29, Try.ntmps29
    go_wp2_with fail
    go_ret
    exact ⟨rfl, HB.out⟩
  by_cases h1 : c = 1
  · subst h1
    go_enter Try.func29, Try.ntmps29
    go_wp2_with fail
    go_ret
    exact ⟨rfl, HB.out⟩
  by_cases h2 : c = 2
  · subst h2
    go_enter Try.func29, Try.ntmps29
    go_wp2_with fail
    go_ret
    exact ⟨rfl, HB.out⟩
  by_cases h3 : c = 3
  · subst h3
    go_enter Try.func29, Try.ntmps29
    go_wp2_with fail
    go_ret
    exact ⟨rfl, HB.out⟩
  by_cases h4 : c = 4
  · subst h4
    go_enter Try.func29, Try.ntmps29
    go_wp2_with fail
    go_ret
    exact ⟨rfl, HB.out⟩
  by_cases h5 : c = 5
  · subst h5
    go_enter Try.func29, Try.ntmps29
    go_wp2_with fail
    go_ret
    exact ⟨rfl, HB.out⟩
  by_cases h6 : c = 6
  · subst h6
    go_enter Try.func29, Try.ntmps29
    go_wp2_with fail
    go_ret
    exact ⟨rfl, HB.out⟩
  have HH : Hid (hold c z n l = false) := hid (by unfold hold; rw [if_neg h0, if_neg h1, if_neg h2, if_neg h3, if_neg h4, if_neg h5, if_neg h6])
  rw [HH.out]
  go_enter Try.func29, Try.ntmps29
  go_wp2_with fail
  go_ret
  exact ⟨rfl, HB.out⟩
theorem rflags_any (W : World) (f : F) : Calls Try.prog 31 #[f.v] W fun e W' => e = .returned (.int .u32 f.flags) ∧ Below W.heap.size W W' := by
  have c0 := Cel.new W 25 f.cs
  have y16 := (c0.cell 16).trans f.at16
  have y17 := (c0.cell 17).trans f.at17
  have y18 := (c0.cell 18).trans f.at18
  have HB := hid (below_one W (.cells f.cs.toArray 25))
  clear c0
  unfold F.flags
  generalize f.z = z at *
  generalize f.n = n at *
  generalize f.l = l at *
  unfold F.v
  generalize hc : f.cs.toArray = C at *
  clear hc
  cases z <;> cases n <;> cases l
  all_goals
    go_enter Try.func31, Try.ntmps31
    go_wp2_with fail
    go_ret
    exact ⟨rfl, HB.out⟩
theorem rflagged_0 (W : World) (f : F) : Calls Try.prog 30 #[f.v, .int .u32 0] W fun e W' => e = .returned (.tuple #[(f.fl false false false).v, .int .i64 0]) ∧ Below W.heap.size W W' := by
  have hP := prep W 25 25 f
  have y16 := (hP.box.cell 16).trans f.at16
  have y17 := (hP.box.cell 17).trans f.at17
  have y18 := (hP.box.cell 18).trans f.at18
  have z16 := hP.box.free 16
  have z17 := hP.box.free 17
  have z18 := hP.box.free 18
  have HQ := hid (hP.set3 false false false)
  generalize f.fl false false false = f' at *
  clear hP
  unfold F.v
  generalize hc : f.cs.toArray = C at *
  clear hc
  go_enter Try.func30, Try.ntmps30
  go_upto_region 1 with fail
  generalize hX : (W.alloc _).alloc _ = X at *
  clear hX
  go_upto_region 6 with fail
  generalize hZ : World.setCell _ _ _ = Z at *
  clear hZ y16 y17 y18 z16 z17 z18
  go_wp2_with (first | (refine wpList_build_zero' rfl rfl ?_) | (refine wpList_load_g rfl _ rfl W.heap.size f' rfl HQ.out.box ?_) | (refine wpList_store_g rfl _ _ rfl (W.heap.size + 1) F.zero f' rfl rfl HQ.out.res ?_; intro w1 hc1 hb1 hs1; have HRR := hid (HQ.out.ret hc1 hb1); clear hc1 hb1 hs1))
  refine ret_st2 rfl rfl (W.heap.size + 1) _ rfl HRR.out.1 under25 rfl (by rw [size25]; simp [F.len]) ⟨rfl, HRR.out.2⟩
theorem rflagged_1 (W : World) (f : F) : Calls Try.prog 30 #[f.v, .int .u32 1] W fun e W' => e = .returned (.tuple #[(f.fl true false false).v, .int .i64 0]) ∧ Below W.heap.size W W' := by
  have hP := prep W 25 25 f
  have y16 := (hP.box.cell 16).trans f.at16
  have y17 := (hP.box.cell 17).trans f.at17
  have y18 := (hP.box.cell 18).trans f.at18
  have z16 := hP.box.free 16
  have z17 := hP.box.free 17
  have z18 := hP.box.free 18
  have HQ := hid (hP.set3 true false false)
  generalize f.fl true false false = f' at *
  clear hP
  unfold F.v
  generalize hc : f.cs.toArray = C at *
  clear hc
  go_enter Try.func30, Try.ntmps30
  go_upto_region 1 with fail
  generalize hX : (W.alloc _).alloc _ = X at *
  clear hX
  go_upto_region 6 with fail
  generalize hZ : World.setCell _ _ _ = Z at *
  clear hZ y16 y17 y18 z16 z17 z18
  go_wp2_with (first | (refine wpList_build_zero' rfl rfl ?_) | (refine wpList_load_g rfl _ rfl W.heap.size f' rfl HQ.out.box ?_) | (refine wpList_store_g rfl _ _ rfl (W.heap.size + 1) F.zero f' rfl rfl HQ.out.res ?_; intro w1 hc1 hb1 hs1; have HRR := hid (HQ.out.ret hc1 hb1); clear hc1 hb1 hs1))
  refine ret_st2 rfl rfl (W.heap.size + 1) _ rfl HRR.out.1 under25 rfl (by rw [size25]; simp [F.len]) ⟨rfl, HRR.out.2⟩
theorem rflagged_2 (W : World) (f : F) : Calls Try.prog 30 #[f.v, .int .u32 2] W fun e W' => e = .returned (.tuple #[(f.fl false true false).v, .int .i64 0]) ∧ Below W.heap.size W W' := by
  have hP := prep W 25 25 f
  have y16 := (hP.box.cell 16).trans f.at16
  have y17 := (hP.box.cell 17).trans f.at17
  have y18 := (hP.box.cell 18).trans f.at18
  have z16 := hP.box.free 16
  have z17 := hP.box.free 17
  have z18 := hP.box.free 18
  have HQ := hid (hP.set3 false true false)
  generalize f.fl false true false = f' at *
  clear hP
  unfold F.v
  generalize hc : f.cs.toArray = C at *
  clear hc
  go_enter Try.func30, Try.ntmps30
  go_upto_region 1 with fail
  generalize hX : (W.alloc _).alloc _ = X at *
  clear hX
  go_upto_region 6 with fail
  generalize hZ : World.setCell _ _ _ = Z at *
  clear hZ y16 y17 y18 z16 z17 z18
  go_wp2_with (first | (refine wpList_build_zero' rfl rfl ?_) | (refine wpList_load_g rfl _ rfl W.heap.size f' rfl HQ.out.box ?_) | (refine wpList_store_g rfl _ _ rfl (W.heap.size + 1) F.zero f' rfl rfl HQ.out.res ?_; intro w1 hc1 hb1 hs1; have HRR := hid (HQ.out.ret hc1 hb1); clear hc1 hb1 hs1))
  refine ret_st2 rfl rfl (W.heap.size + 1) _ rfl HRR.out.1 under25 rfl (by rw [size25]; simp [F.len]) ⟨rfl, HRR.out.2⟩
theorem rflagged_4 (W : World) (f : F) : Calls Try.prog 30 #[f.v, .int .u32 4] W fun e W' => e = .returned (.tuple #[(f.fl false false true).v, .int .i64 0]) ∧ Below W.heap.size W W' := by
  have hP := prep W 25 25 f
  have y16 := (hP.box.cell 16).trans f.at16
  have y17 := (hP.box.cell 17).trans f.at17
  have y18 := (hP.box.cell 18).trans f.at18
  have z16 := hP.box.free 16
  have z17 := hP.box.free 17
  have z18 := hP.box.free 18
  have HQ := hid (hP.set3 false false true)
  generalize f.fl false false true = f' at *
  clear hP
  unfold F.v
  generalize hc : f.cs.toArray = C at *
  clear hc
  go_enter Try.func30, Try.ntmps30
  go_upto_region 1 with fail
  generalize hX : (W.alloc _).alloc _ = X at *
  clear hX
  go_upto_region 6 with fail
  generalize hZ : World.setCell _ _ _ = Z at *
  clear hZ y16 y17 y18 z16 z17 z18
  go_wp2_with (first | (refine wpList_build_zero' rfl rfl ?_) | (refine wpList_load_g rfl _ rfl W.heap.size f' rfl HQ.out.box ?_) | (refine wpList_store_g rfl _ _ rfl (W.heap.size + 1) F.zero f' rfl rfl HQ.out.res ?_; intro w1 hc1 hb1 hs1; have HRR := hid (HQ.out.ret hc1 hb1); clear hc1 hb1 hs1))
  refine ret_st2 rfl rfl (W.heap.size + 1) _ rfl HRR.out.1 under25 rfl (by rw [size25]; simp [F.len]) ⟨rfl, HRR.out.2⟩
theorem rflagged_6 (W : World) (f : F) : Calls Try.prog 30 #[f.v, .int .u32 6] W fun e W' => e = .returned (.tuple #[(f.fl false true true).v, .int .i64 0]) ∧ Below W.heap.size W W' := by
  have hP := prep W 25 25 f
  have y16 := (hP.box.cell 16).trans f.at16
  have y17 := (hP.box.cell 17).trans f.at17
  have y18 := (hP.box.cell 18).trans f.at18
  have z16 := hP.box.free 16
  have z17 := hP.box.free 17
  have z18 := hP.box.free 18
  have HQ := hid (hP.set3 false true true)
  generalize f.fl false true true = f' at *
  clear hP
  unfold F.v
  generalize hc : f.cs.toArray = C at *
  clear hc
  go_enter Try.func30, Try.ntmps30
  go_upto_region 1 with fail
  generalize hX : (W.alloc _).alloc _ = X at *
  clear hX
  go_upto_region 6 with fail
  generalize hZ : World.setCell _ _ _ = Z at *
  clear hZ y16 y17 y18 z16 z17 z18
  go_wp2_with (first | (refine wpList_build_zero' rfl rfl ?_) | (refine wpList_load_g rfl _ rfl W.heap.size f' rfl HQ.out.box ?_) | (refine wpList_store_g rfl _ _ rfl (W.heap.size + 1) F.zero f' rfl rfl HQ.out.res ?_; intro w1 hc1 hb1 hs1; have HRR := hid (HQ.out.ret hc1 hb1); clear hc1 hb1 hs1))
  refine ret_st2 rfl rfl (W.heap.size + 1) _ rfl HRR.out.1 under25 rfl (by rw [size25]; simp [F.len]) ⟨rfl, HRR.out.2⟩
theorem rflagged_no (W : World) (f : F) (w : Int) (h : gw w = false) : Calls Try.prog 30 #[f.v, .int .u32 w] W fun e W' => e = .returned (.tuple #[F.zero.v, .int .i64 80]) ∧ Below W.heap.size W W' := by
  have hP := prep W 25 25 f
  have HQ := hid hP
  have e0 : (w != 0) = true := by simp [gw] at h; simp [h]
  have e1 : (w != 1) = true := by simp [gw] at h; simp [h]
  have e2 : (w != 2) = true := by simp [gw] at h; simp [h]
  have e4 : (w != 4) = true := by simp [gw] at h; simp [h]
  have e6 : (w != 6) = true := by simp [gw] at h; simp [h]
  clear hP h
  unfold F.v
  generalize hc : f.cs.toArray = C at *
  clear hc
  go_enter Try.func30, Try.ntmps30
  go_upto_region 1 with fail
  generalize hX : (W.alloc _).alloc _ = X at *
  clear hX
  go_wp2_with (first | (refine wpList_build_zero' rfl rfl ?_) | (refine wpList_load_g rfl _ rfl W.heap.size F.zero rfl HQ.out.box ?_) | (refine wpList_store_g rfl _ _ rfl (W.heap.size + 1) F.zero F.zero rfl rfl HQ.out.res ?_; intro w1 hc1 hb1 hs1; have HRR := hid (HQ.out.ret hc1 hb1); clear hc1 hb1 hs1))
  refine ret_st2 rfl rfl (W.heap.size + 1) _ rfl HRR.out.1 under25 rfl (by rw [size25]; simp [F.len]) ⟨rfl, HRR.out.2⟩
theorem rflagged_any (W : World) (f : F) (w : Int) : Calls Try.prog 30 #[f.v, .int .u32 w] W fun e W' => e = .returned (flaggedV f w) ∧ Below W.heap.size W W' := by
  unfold flaggedV F.flagged
  cases hg : gw w with
  | false => exact rflagged_no W f w hg
  | true =>
    have hx : w = 0 ∨ w = 1 ∨ w = 2 ∨ w = 4 ∨ w = 6 := by simpa [gw, Bool.or_eq_true, beq_iff_eq, or_assoc] using hg
    rcases hx with rfl | rfl | rfl | rfl | rfl
    · exact rflagged_0 W f
    · exact rflagged_1 W f
    · exact rflagged_2 W f
    · exact rflagged_4 W f
    · exact rflagged_6 W f
theorem rstart_any (W : World) (p a b c : Int) : Calls Try.prog 34 #[.int .u32 p, .int .u32 a, .int .u32 b, .int .u32 c] W fun e W' => e = .returned (F.v ⟨st3 a b c, p, false, false, false⟩) ∧ Below W.heap.size W W' := by
  have c1 : Cel (W.alloc (.cells #[.int .u32 0, .int .u32 0, .int .u32 0, .int .u32 0, .int .u32 0, .int .u32 0, .int .u32 0, .int .u32 0, .int .u32 0, .int .u32 0, .int .u32 0, .int .u32 0, .int .u32 0, .int .u32 0, .int .u32 0, .int .u32 0, .bool false, .bool false, .bool false] 25)) W.heap.size 25 F.zero.cs := by rw [zc]; exact Cel.new W 25 F.zero.cs
  have HL := hid c1.lt
  have HR0 := hid (c1.on (below_one _ (.cells #[.int .u32 0, .int .u32 0, .int .u32 0, .int .u32 0, .int .u32 0, .int .u32 0, .int .u32 0, .int .u32 0, .int .u32 0, .int .u32 0, .int .u32 0, .int .u32 0, .int .u32 0, .int .u32 0, .int .u32 0, .int .u32 0, .bool false, .bool false, .bool false] 25)))
  have hB := below_two W (.cells #[.int .u32 0, .int .u32 0, .int .u32 0, .int .u32 0, .int .u32 0, .int .u32 0, .int .u32 0, .int .u32 0, .int .u32 0, .int .u32 0, .int .u32 0, .int .u32 0, .int .u32 0, .int .u32 0, .int .u32 0, .int .u32 0, .bool false, .bool false, .bool false] 25) (.cells #[.int .u32 0, .int .u32 0, .int .u32 0, .int .u32 0, .int .u32 0, .int .u32 0, .int .u32 0, .int .u32 0, .int .u32 0, .int .u32 0, .int .u32 0, .int .u32 0, .int .u32 0, .int .u32 0, .int .u32 0, .int .u32 0, .bool false, .bool false, .bool false] 25)
  have HB := hid hB
  have c2 : Cel ((W.alloc (.cells #[.int .u32 0, .int .u32 0, .int .u32 0, .int .u32 0, .int .u32 0, .int .u32 0, .int .u32 0, .int .u32 0, .int .u32 0, .int .u32 0, .int .u32 0, .int .u32 0, .int .u32 0, .int .u32 0, .int .u32 0, .int .u32 0, .bool false, .bool false, .bool false] 25)).alloc (.cells #[.int .u32 0, .int .u32 0, .int .u32 0, .int .u32 0, .int .u32 0, .int .u32 0, .int .u32 0, .int .u32 0, .int .u32 0, .int .u32 0, .int .u32 0, .int .u32 0, .int .u32 0, .int .u32 0, .int .u32 0, .int .u32 0, .bool false, .bool false, .bool false] 25)) (W.alloc (.cells #[.int .u32 0, .int .u32 0, .int .u32 0, .int .u32 0, .int .u32 0, .int .u32 0, .int .u32 0, .int .u32 0, .int .u32 0, .int .u32 0, .int .u32 0, .int .u32 0, .int .u32 0, .int .u32 0, .int .u32 0, .int .u32 0, .bool false, .bool false, .bool false] 25)).heap.size 25 F.zero.cs := by rw [zc]; exact Cel.new (W.alloc (.cells F.zero.cs.toArray 25)) 25 F.zero.cs
  rw [show (W.alloc (Obj.cells #[.int .u32 0, .int .u32 0, .int .u32 0, .int .u32 0, .int .u32 0, .int .u32 0, .int .u32 0, .int .u32 0, .int .u32 0, .int .u32 0, .int .u32 0, .int .u32 0, .int .u32 0, .int .u32 0, .int .u32 0, .int .u32 0, .bool false, .bool false, .bool false] 25)).heap.size = W.heap.size + 1 by show (W.heap.push _).size = _; simp] at c2
  have q0 := (c2.cell 0).trans (F.zero.at 0 (by decide))
  have q1 := (c2.cell 1).trans (F.zero.at 1 (by decide))
  have q2 := (c2.cell 2).trans (F.zero.at 2 (by decide))
  have q15 := (c2.cell 15).trans F.zero.at15
  have u0 := c2.free 0
  have u1 := c2.free 1
  have u2 := c2.free 2
  have u15 := c2.free 15
  have HF : Hid (Cel (((((W.alloc (.cells #[.int .u32 0, .int .u32 0, .int .u32 0, .int .u32 0, .int .u32 0, .int .u32 0, .int .u32 0, .int .u32 0, .int .u32 0, .int .u32 0, .int .u32 0, .int .u32 0, .int .u32 0, .int .u32 0, .int .u32 0, .int .u32 0, .bool false, .bool false, .bool false] 25)).alloc (.cells #[.int .u32 0, .int .u32 0, .int .u32 0, .int .u32 0, .int .u32 0, .int .u32 0, .int .u32 0, .int .u32 0, .int .u32 0, .int .u32 0, .int .u32 0, .int .u32 0, .int .u32 0, .int .u32 0, .int .u32 0, .int .u32 0, .bool false, .bool false, .bool false] 25)).setCell ⟨W.heap.size + 1, 0, none⟩ (.int .u32 a)).setCell ⟨W.heap.size + 1, 1, none⟩ (.int .u32 b)).setCell ⟨W.heap.size + 1, 2, none⟩ (.int .u32 c) |>.setCell ⟨W.heap.size + 1, 15, none⟩ (.int .u32 p)) (W.heap.size + 1) 25 (F.cs ⟨st3 a b c, p, false, false, false⟩)) := hid (by
    have h1 := c2.setCell 0 (.int .u32 a)
    rw [F.set _ 0 (by decide)] at h1
    have h2 := h1.setCell 1 (.int .u32 b)
    rw [F.set _ 1 (by decide)] at h2
    have h3 := h2.setCell 2 (.int .u32 c)
    rw [F.set _ 2 (by decide)] at h3
    have h4 := h3.setCell 15 (.int .u32 p)
    rw [F.set15] at h4
    have e : ({ ((F.zero.put 0 a).put 1 b).put 2 c with pc := p } : F).cs = F.cs ⟨st3 a b c, p, false, false, false⟩ := by kernel_rfl
    rw [e] at h4
    exact h4)
  have HBF : Hid (ButL [W.heap.size + 1] ((W.alloc (.cells #[.int .u32 0, .int .u32 0, .int .u32 0, .int .u32 0, .int .u32 0, .int .u32 0, .int .u32 0, .int .u32 0, .int .u32 0, .int .u32 0, .int .u32 0, .int .u32 0, .int .u32 0, .int .u32 0, .int .u32 0, .int .u32 0, .bool false, .bool false, .bool false] 25)).alloc (.cells #[.int .u32 0, .int .u32 0, .int .u32 0, .int .u32 0, .int .u32 0, .int .u32 0, .int .u32 0, .int .u32 0, .int .u32 0, .int .u32 0, .int .u32 0, .int .u32 0, .int .u32 0, .int .u32 0, .int .u32 0, .int .u32 0, .bool false, .bool false, .bool false] 25)) (((((W.alloc (.cells #[.int .u32 0, .int .u32 0, .int .u32 0, .int .u32 0, .int .u32 0, .int .u32 0, .int .u32 0, .int .u32 0, .int .u32 0, .int .u32 0, .int .u32 0, .int .u32 0, .int .u32 0, .int .u32 0, .int .u32 0, .int .u32 0, .bool false, .bool false, .bool false] 25)).alloc (.cells #[.int .u32 0, .int .u32 0, .int .u32 0, .int .u32 0, .int .u32 0, .int .u32 0, .int .u32 0, .int .u32 0, .int .u32 0, .int .u32 0, .int .u32 0, .int .u32 0, .int .u32 0, .int .u32 0, .int .u32 0, .int .u32 0, .bool false, .bool false, .bool false] 25)).setCell ⟨W.heap.size + 1, 0, none⟩ (.int .u32 a)).setCell ⟨W.heap.size + 1, 1, none⟩ (.int .u32 b)).setCell ⟨W.heap.size + 1, 2, none⟩ (.int .u32 c) |>.setCell ⟨W.heap.size + 1, 15, none⟩ (.int .u32 p))) := hid ((((ButL.setCell _ _ 0 _ (by simp)).trans (ButL.setCell _ _ 1 _ (by simp))).trans (ButL.setCell _ _ 2 _ (by simp))).trans (ButL.setCell _ _ 15 _ (by simp)))
  clear c1 c2 hB
  go_enter Try.func34, Try.ntmps34
  go_upto_region 2 with fail
  generalize hX : (W.alloc _).alloc _ = X at *
  clear hX
  have HR1 := hid (HR0.out.but HBF.out (by rw [List.mem_singleton]; omega))
  have HB1 := hid (HB.out.trans (HBF.out.below (B := W.heap.size) (by simp) HB.out.size))
  clear HBF HB HR0
  go_upto_region 6 with fail
  generalize hZ : World.setCell _ _ _ = Z at *
  clear hZ q0 q1 q2 q15 u0 u1 u2 u15
  go_wp2_with (first | (refine wpList_load_g rfl _ rfl (W.heap.size + 1) ⟨st3 a b c, p, false, false, false⟩ rfl HF.out ?_) | (refine wpList_store_g rfl _ _ rfl W.heap.size F.zero ⟨st3 a b c, p, false, false, false⟩ rfl rfl HR1.out ?_; intro w1 hc1 hb1 hs1; have HRR := hid (And.intro hc1 (HB1.out.trans (hb1.below (B := W.heap.size) (by simp) HB1.out.size))); clear hc1 hb1 hs1))
  refine ret_st rfl rfl W.heap.size _ rfl HRR.out.1 under25 rfl (by rw [size25]; simp [F.len]) ⟨rfl, HRR.out.2⟩
end Go.Proofs.Ythpkodkilbcepaa
