/- regs: Flagged (16). -/
import Derived.Test.YthpkodkilbcepaaLe
namespace Go.Proofs.Ythpkodkilbcepaa
open Go.RowKit
set_option maxHeartbeats 1000000
attribute [-simp] Try.isAgg27 Try.sizeOf27 Try.isAgg25 Try.sizeOf25 Try.isAgg23 Try.isAgg46 Try.sizeOf46
structure Pr (W X : World) (t u : TypeId) (f : F) : Prop where
  box : Cel X W.heap.size t f.cs
  res : Cel X (W.heap.size + 1) u F.zero.cs
  below : Below W.heap.size W X
theorem Prep.pr {W X : World} {t u : TypeId} {f : F} (h : Prep W X t u f) : Pr W X t u f := ⟨h.box, h.res, h.below⟩
theorem Pr.on {W X Y : World} {t u : TypeId} {f : F} (h : Pr W X t u f) (hb : Below X.heap.size X Y) : Pr W Y t u f := ⟨h.box.on hb, h.res.on hb, below_on h.below hb⟩
theorem Pr.ret {W X w' : World} {t u : TypeId} {f f' : F} (h : Pr W X t u f) (hc : Cel w' (W.heap.size + 1) u f'.cs) (hb : ButL [W.heap.size + 1] X w') : Cel w' (W.heap.size + 1) u f'.cs ∧ Below W.heap.size W w' :=
  ⟨hc, h.below.trans (hb.below (by simp) h.below.size)⟩
theorem exec_neq_f {a : Act} {w : World} {o : Oper} (x y : Operand) (ho : o.op = .binOp .neq 27 x y 27) (f g : F) (hx : a.eval x = f.v) (hy : a.eval y = g.v) (b : Bool) (hb : (!f.same g) = b) :
    (execOp a.eval o).run Try.prog w = .ok (.value (.bool b)) w := by
  have hg : (eqGuard .neq 27 x y f.v g.v).run Try.prog w = .ok () w := run_eqGuard_agg w .neq 27 x y _ _ guard27
  have hr : (binOp .neq 27 f.v g.v).run Try.prog w = .ok (.bool (!f.same g)) w := by
    have := run_equalIn_f w 9996 f g
    rw [F.v, F.v] at this ⊢
    rw [run_neq_struct, this]; rfl
  unfold execOp
  simp only [ho, hx, hy, Sem.run_bind, Sem.run_pure, hg, hr, Result.andThen_ok, hb]
theorem exec_eql_f {a : Act} {w : World} {o : Oper} (x y : Operand) (ho : o.op = .binOp .eql 27 x y 27) (f g : F) (hx : a.eval x = f.v) (hy : a.eval y = g.v) (b : Bool) (hb : f.same g = b) :
    (execOp a.eval o).run Try.prog w = .ok (.value (.bool b)) w := by
  have hg : (eqGuard .eql 27 x y f.v g.v).run Try.prog w = .ok () w := run_eqGuard_agg w .eql 27 x y _ _ guard27
  have hr : (binOp .eql 27 f.v g.v).run Try.prog w = .ok (.bool (f.same g)) w := by
    have := run_equalIn_f w 9996 f g
    rw [F.v, F.v] at this ⊢
    rw [run_eql_struct, this]; rfl
  unfold execOp
  simp only [ho, hx, hy, Sem.run_bind, Sem.run_pure, hg, hr, Result.andThen_ok, hb]
def F.read (f : F) (w : Int) : F := f.fl (bits .and .u32 w 1 != 0) (bits .and .u32 w 2 != 0) (bits .and .u32 w 4 != 0)
theorem flagged_A (W : World) (f : F) (w : Int) (h8 : 8 ≤ w) : Calls Try.prog 16 #[f.v, .int .u32 w] W fun e W' => e = .returned (.tuple #[F.zero.v, .int .i64 80]) ∧ Below W.heap.size W W' := by
  have hP := prep W 27 27 f
  have y16 := (hP.box.cell 16).trans f.at16
  have y17 := (hP.box.cell 17).trans f.at17
  have y18 := (hP.box.cell 18).trans f.at18
  have z16 := hP.box.free 16
  have z17 := hP.box.free 17
  have z18 := hP.box.free 18
  have HP := hid (hP.set3 (bits .and .u32 w 1 != 0) (bits .and .u32 w 2 != 0) (bits .and .u32 w 4 != 0)).pr
  rw [show f.fl (bits .and .u32 w 1 != 0) (bits .and .u32 w 2 != 0) (bits .and .u32 w 4 != 0) = f.read w from rfl] at HP
  clear hP
  generalize f.read w = f' at *
  unfold F.v
  generalize hc : f.cs.toArray = C at *
  clear hc
  go_enter Try.func16, Try.ntmps16
  go_upto_region 1 with fail
  generalize hX : (W.alloc _).alloc _ = X at *
  clear hX
  go_wp2_with fail
  generalize hZ : ((X.setCell _ _).setCell _ _).setCell _ _ = Z at *
  clear hZ y16 y17 y18 z16 z17 z18
  have HPD := hid (HP.out.on (Below.refl _ _).drew)
  clear HP
  refine wp_region_held_drew (S := fun x => Pr W x 27 27 f') (by kernel_rfl) HPD.out (fun hHeld => ?_)
  refine wpAnyH_take (i := 0) (oi := { dst := some 18, op := Op.move (Operand.tmp 1), type := 22, pos := "flags.go:56", after := #[], guard := none }) (v := .int .u32 w) rfl (by kernel_rfl) (by kernel_rfl) (by kernel_rfl) (fun _ _ _ h => h) (Or.inl ⟨by rfl, by intro w hSw; go_simp⟩) (by assumption) ?_
  simp only [Act.put, List.setIfInBounds_toArray, List.set_cons_zero, List.set_cons_succ]
  refine wpAnyH_take (i := 1) (oi := { dst := some 19, op := Op.binOp BinOp.geq 22 (Operand.tmp 18) (Operand.const (Value.int IntKind.u32 8)) 22, type := 4, pos := "flags.go:56", after := #[{ on := 0, ground := Ground.data }], guard := none }) (v := .bool true) rfl (by kernel_rfl) (by kernel_rfl) (by kernel_rfl) (fun _ _ _ h => h) (Or.inl ⟨by rfl, by intro w hSw; go_simp⟩) (by assumption) ?_
  simp only [Act.put, List.setIfInBounds_toArray, List.set_cons_zero, List.set_cons_succ]
  refine wpAnyH_take (i := 2) (oi := { dst := some 20, op := Op.move (Operand.tmp 19), type := 4, pos := "flags.go:56", after := #[{ on := 1, ground := Ground.data }], guard := none }) (v := .bool true) rfl (by kernel_rfl) (by kernel_rfl) (by kernel_rfl) (fun _ _ _ h => h) (Or.inl ⟨by rfl, by intro w hSw; go_simp⟩) (by assumption) ?_
  simp only [Act.put, List.setIfInBounds_toArray, List.set_cons_zero, List.set_cons_succ]
  refine wpAnyH_take (i := 3) (oi := { dst := some 21, op := Op.load 27 (Operand.tmp 2), type := 27, pos := "flags.go:56", after := #[{ on := 2, ground := Ground.guard }], guard := some (2, false) }) (v := undef) rfl (by kernel_rfl) (by kernel_rfl) (by kernel_rfl) (fun _ _ _ h => h) (Or.inr ⟨by rfl, rfl⟩) (by assumption) ?_
  simp only [Act.put, List.setIfInBounds_toArray, List.set_cons_zero, List.set_cons_succ]
  refine wpAnyH_take (i := 4) (oi := { dst := some 22, op := Op.load 27 (Operand.tmp 2), type := 27, pos := "flags.go:56", after := #[{ on := 2, ground := Ground.guard }], guard := some (2, false) }) (v := undef) rfl (by kernel_rfl) (by kernel_rfl) (by kernel_rfl) (fun _ _ _ h => h) (Or.inr ⟨by rfl, rfl⟩) (by assumption) ?_
  simp only [Act.put, List.setIfInBounds_toArray, List.set_cons_zero, List.set_cons_succ]
  refine wpAnyH_take (i := 5) (oi := { dst := some 23, op := Op.call { callee := Callee.value (Operand.func 23), args := #[Operand.tmp 22], argTypes := #[27] }, type := 27, pos := "flags.go:56", after := #[{ on := 4, ground := Ground.data }, { on := 2, ground := Ground.chain }, { on := 2, ground := Ground.guard }], guard := some (2, false) }) (v := undef) rfl (by kernel_rfl) (by kernel_rfl) (by kernel_rfl) (fun _ _ _ h => h) (Or.inr ⟨by rfl, rfl⟩) (by assumption) ?_
  simp only [Act.put, List.setIfInBounds_toArray, List.set_cons_zero, List.set_cons_succ]
  refine wpAnyH_take (i := 6) (oi := { dst := some 24, op := Op.binOp BinOp.neq 27 (Operand.tmp 21) (Operand.tmp 23) 27, type := 4, pos := "flags.go:56", after := #[{ on := 3, ground := Ground.data }, { on := 5, ground := Ground.data }, { on := 2, ground := Ground.guard }], guard := some (2, false) }) (v := undef) rfl (by kernel_rfl) (by kernel_rfl) (by kernel_rfl) (fun _ _ _ h => h) (Or.inr ⟨by rfl, rfl⟩) (by assumption) ?_
  simp only [Act.put, List.setIfInBounds_toArray, List.set_cons_zero, List.set_cons_succ]
  refine wpAnyH_take (i := 7) (oi := { dst := some 25, op := Op.pick (Operand.tmp 20) (Operand.const (Value.bool true)) (Operand.tmp 24), type := 4, pos := "flags.go:56", after := #[{ on := 2, ground := Ground.data }, { on := 6, ground := Ground.data }], guard := none }) (v := .bool true) rfl (by kernel_rfl) (by kernel_rfl) (by kernel_rfl) (fun _ _ _ h => h) (Or.inl ⟨by rfl, by intro w hSw; go_simp⟩) (by assumption) ?_
  simp only [Act.put, List.setIfInBounds_toArray, List.set_cons_zero, List.set_cons_succ]
  refine wpAnyH_done (by kernel_rfl) ?_ _
  go_wp2_with (first | (refine wpList_build_zero rfl rfl ?_) | (refine wpList_store_f rfl _ _ rfl (W.heap.size + 1) F.zero F.zero rfl rfl HPD.out.res ?_; intro w1 hc1 hb1 hs1; have HRR := hid (HPD.out.ret hc1 hb1); clear hc1 hb1 hs1))
  refine ret_st2 rfl rfl (W.heap.size + 1) _ rfl HRR.out.1 under27 rfl (by rw [size27]; simp [F.len]) ⟨rfl, HRR.out.2⟩
theorem flagged_B (W : World) (f : F) (w : Int) (h8 : w < 8) (hs : (!(f.read w).same (f.read w).stl) = false) : Calls Try.prog 16 #[f.v, .int .u32 w] W fun e W' => e = .returned (.tuple #[(f.read w).v, .int .i64 0]) ∧ Below W.heap.size W W' := by
  have HS := hid hs
  clear hs
  have hP := prep W 27 27 f
  have y16 := (hP.box.cell 16).trans f.at16
  have y17 := (hP.box.cell 17).trans f.at17
  have y18 := (hP.box.cell 18).trans f.at18
  have z16 := hP.box.free 16
  have z17 := hP.box.free 17
  have z18 := hP.box.free 18
  have HP := hid (hP.set3 (bits .and .u32 w 1 != 0) (bits .and .u32 w 2 != 0) (bits .and .u32 w 4 != 0)).pr
  rw [show f.fl (bits .and .u32 w 1 != 0) (bits .and .u32 w 2 != 0) (bits .and .u32 w 4 != 0) = f.read w from rfl] at HP
  clear hP
  generalize f.read w = f' at *
  unfold F.v
  generalize hc : f.cs.toArray = C at *
  clear hc
  go_enter Try.func16, Try.ntmps16
  go_upto_region 1 with fail
  generalize hX : (W.alloc _).alloc _ = X at *
  clear hX
  go_wp2_with fail
  generalize hZ : ((X.setCell _ _).setCell _ _).setCell _ _ = Z at *
  clear hZ y16 y17 y18 z16 z17 z18
  have HPD := hid (HP.out.on (Below.refl _ _).drew)
  clear HP
  refine wp_region_held_drew (S := fun x => Pr W x 27 27 f') (by kernel_rfl) HPD.out (fun hHeld => ?_)
  refine wpAnyH_take (i := 0) (oi := { dst := some 18, op := Op.move (Operand.tmp 1), type := 22, pos := "flags.go:56", after := #[], guard := none }) (v := .int .u32 w) rfl (by kernel_rfl) (by kernel_rfl) (by kernel_rfl) (fun _ _ _ h => h) (Or.inl ⟨by rfl, by intro w hSw; go_simp⟩) (by assumption) ?_
  simp only [Act.put, List.setIfInBounds_toArray, List.set_cons_zero, List.set_cons_succ]
  refine wpAnyH_take (i := 1) (oi := { dst := some 19, op := Op.binOp BinOp.geq 22 (Operand.tmp 18) (Operand.const (Value.int IntKind.u32 8)) 22, type := 4, pos := "flags.go:56", after := #[{ on := 0, ground := Ground.data }], guard := none }) (v := .bool false) rfl (by kernel_rfl) (by kernel_rfl) (by kernel_rfl) (fun _ _ _ h => h) (Or.inl ⟨by rfl, by intro w hSw; go_simp⟩) (by assumption) ?_
  simp only [Act.put, List.setIfInBounds_toArray, List.set_cons_zero, List.set_cons_succ]
  refine wpAnyH_take (i := 2) (oi := { dst := some 20, op := Op.move (Operand.tmp 19), type := 4, pos := "flags.go:56", after := #[{ on := 1, ground := Ground.data }], guard := none }) (v := .bool false) rfl (by kernel_rfl) (by kernel_rfl) (by kernel_rfl) (fun _ _ _ h => h) (Or.inl ⟨by rfl, by intro w hSw; go_simp⟩) (by assumption) ?_
  simp only [Act.put, List.setIfInBounds_toArray, List.set_cons_zero, List.set_cons_succ]
  refine wpAnyH_take (i := 3) (oi := { dst := some 21, op := Op.load 27 (Operand.tmp 2), type := 27, pos := "flags.go:56", after := #[{ on := 2, ground := Ground.guard }], guard := some (2, false) }) (v := f'.v) rfl (by kernel_rfl) (by kernel_rfl) (by kernel_rfl) (fun _ _ _ h => h) (yieldsIf_load_mid (by rfl) 27 _ rfl W.heap.size 0 rfl f'.cs _ (fun w hSw => hSw.box.range) under27 rfl (by rw [size27, F.len])) (by assumption) ?_
  simp only [Act.put, List.setIfInBounds_toArray, List.set_cons_zero, List.set_cons_succ]
  refine wpAnyH_take (i := 4) (oi := { dst := some 22, op := Op.load 27 (Operand.tmp 2), type := 27, pos := "flags.go:56", after := #[{ on := 2, ground := Ground.guard }], guard := some (2, false) }) (v := f'.v) rfl (by kernel_rfl) (by kernel_rfl) (by kernel_rfl) (fun _ _ _ h => h) (yieldsIf_load_mid (by rfl) 27 _ rfl W.heap.size 0 rfl f'.cs _ (fun w hSw => hSw.box.range) under27 rfl (by rw [size27, F.len])) (by assumption) ?_
  simp only [Act.put, List.setIfInBounds_toArray, List.set_cons_zero, List.set_cons_succ]
  refine wpAnyH_ready (rs := [5]) (by kernel_rfl) (by simp) (AllReadyH.cons (o := { dst := some 23, op := Op.call { callee := Callee.value (Operand.func 23), args := #[Operand.tmp 22], argTypes := #[27] }, type := 27, pos := "flags.go:56", after := #[{ on := 4, ground := Ground.data }, { on := 2, ground := Ground.chain }, { on := 2, ground := Ground.guard }], guard := some (2, false) }) rfl (fun KQ hK => ?_) AllReadyH.nil)
  go_simp
  refine (settled_any _ _).mono ?_
  rintro e w2 ⟨rfl, hb2⟩
  have HP2 := hid (HPD.out.on hb2)
  clear hb2
  go_wp2_with fail
  refine hK.out _ _ HP2.out (fun hHeld => ?_)
  clear hK KQ
  try simp only [Act.put, List.setIfInBounds_toArray, List.set_cons_zero, List.set_cons_succ]
  clear HPD
  have HPD := HP2
  clear HP2
  refine wpAnyH_take (i := 6) (oi := { dst := some 24, op := Op.binOp BinOp.neq 27 (Operand.tmp 21) (Operand.tmp 23) 27, type := 4, pos := "flags.go:56", after := #[{ on := 3, ground := Ground.data }, { on := 5, ground := Ground.data }, { on := 2, ground := Ground.guard }], guard := some (2, false) }) (v := .bool false) rfl (by kernel_rfl) (by kernel_rfl) (by kernel_rfl) (fun _ _ _ h => h) (Or.inl ⟨by rfl, fun w hSw => exec_neq_f _ _ rfl f' f'.stl rfl rfl _ HS.out⟩) (by assumption) ?_
  simp only [Act.put, List.setIfInBounds_toArray, List.set_cons_zero, List.set_cons_succ]
  refine wpAnyH_take (i := 7) (oi := { dst := some 25, op := Op.pick (Operand.tmp 20) (Operand.const (Value.bool true)) (Operand.tmp 24), type := 4, pos := "flags.go:56", after := #[{ on := 2, ground := Ground.data }, { on := 6, ground := Ground.data }], guard := none }) (v := .bool false) rfl (by kernel_rfl) (by kernel_rfl) (by kernel_rfl) (fun _ _ _ h => h) (Or.inl ⟨by rfl, by intro w hSw; go_simp⟩) (by assumption) ?_
  simp only [Act.put, List.setIfInBounds_toArray, List.set_cons_zero, List.set_cons_succ]
  refine wpAnyH_done (by kernel_rfl) ?_ _
  go_wp2_with (first | (refine wpList_load_f rfl _ rfl W.heap.size f' rfl HPD.out.box ?_) | (refine wpList_store_f rfl _ _ rfl (W.heap.size + 1) F.zero f' rfl rfl HPD.out.res ?_; intro w1 hc1 hb1 hs1; have HRR := hid (HPD.out.ret hc1 hb1); clear hc1 hb1 hs1))
  refine ret_st2 rfl rfl (W.heap.size + 1) _ rfl HRR.out.1 under27 rfl (by rw [size27]; simp [F.len]) ⟨rfl, HRR.out.2⟩
theorem flagged_C (W : World) (f : F) (w : Int) (h8 : w < 8) (hs : (!(f.read w).same (f.read w).stl) = true) : Calls Try.prog 16 #[f.v, .int .u32 w] W fun e W' => e = .returned (.tuple #[F.zero.v, .int .i64 80]) ∧ Below W.heap.size W W' := by
  have HS := hid hs
  clear hs
  have hP := prep W 27 27 f
  have y16 := (hP.box.cell 16).trans f.at16
  have y17 := (hP.box.cell 17).trans f.at17
  have y18 := (hP.box.cell 18).trans f.at18
  have z16 := hP.box.free 16
  have z17 := hP.box.free 17
  have z18 := hP.box.free 18
  have HP := hid (hP.set3 (bits .and .u32 w 1 != 0) (bits .and .u32 w 2 != 0) (bits .and .u32 w 4 != 0)).pr
  rw [show f.fl (bits .and .u32 w 1 != 0) (bits .and .u32 w 2 != 0) (bits .and .u32 w 4 != 0) = f.read w from rfl] at HP
  clear hP
  generalize f.read w = f' at *
  unfold F.v
  generalize hc : f.cs.toArray = C at *
  clear hc
  go_enter Try.func16, Try.ntmps16
  go_upto_region 1 with fail
  generalize hX : (W.alloc _).alloc _ = X at *
  clear hX
  go_wp2_with fail
  generalize hZ : ((X.setCell _ _).setCell _ _).setCell _ _ = Z at *
  clear hZ y16 y17 y18 z16 z17 z18
  have HPD := hid (HP.out.on (Below.refl _ _).drew)
  clear HP
  refine wp_region_held_drew (S := fun x => Pr W x 27 27 f') (by kernel_rfl) HPD.out (fun hHeld => ?_)
  refine wpAnyH_take (i := 0) (oi := { dst := some 18, op := Op.move (Operand.tmp 1), type := 22, pos := "flags.go:56", after := #[], guard := none }) (v := .int .u32 w) rfl (by kernel_rfl) (by kernel_rfl) (by kernel_rfl) (fun _ _ _ h => h) (Or.inl ⟨by rfl, by intro w hSw; go_simp⟩) (by assumption) ?_
  simp only [Act.put, List.setIfInBounds_toArray, List.set_cons_zero, List.set_cons_succ]
  refine wpAnyH_take (i := 1) (oi := { dst := some 19, op := Op.binOp BinOp.geq 22 (Operand.tmp 18) (Operand.const (Value.int IntKind.u32 8)) 22, type := 4, pos := "flags.go:56", after := #[{ on := 0, ground := Ground.data }], guard := none }) (v := .bool false) rfl (by kernel_rfl) (by kernel_rfl) (by kernel_rfl) (fun _ _ _ h => h) (Or.inl ⟨by rfl, by intro w hSw; go_simp⟩) (by assumption) ?_
  simp only [Act.put, List.setIfInBounds_toArray, List.set_cons_zero, List.set_cons_succ]
  refine wpAnyH_take (i := 2) (oi := { dst := some 20, op := Op.move (Operand.tmp 19), type := 4, pos := "flags.go:56", after := #[{ on := 1, ground := Ground.data }], guard := none }) (v := .bool false) rfl (by kernel_rfl) (by kernel_rfl) (by kernel_rfl) (fun _ _ _ h => h) (Or.inl ⟨by rfl, by intro w hSw; go_simp⟩) (by assumption) ?_
  simp only [Act.put, List.setIfInBounds_toArray, List.set_cons_zero, List.set_cons_succ]
  refine wpAnyH_take (i := 3) (oi := { dst := some 21, op := Op.load 27 (Operand.tmp 2), type := 27, pos := "flags.go:56", after := #[{ on := 2, ground := Ground.guard }], guard := some (2, false) }) (v := f'.v) rfl (by kernel_rfl) (by kernel_rfl) (by kernel_rfl) (fun _ _ _ h => h) (yieldsIf_load_mid (by rfl) 27 _ rfl W.heap.size 0 rfl f'.cs _ (fun w hSw => hSw.box.range) under27 rfl (by rw [size27, F.len])) (by assumption) ?_
  simp only [Act.put, List.setIfInBounds_toArray, List.set_cons_zero, List.set_cons_succ]
  refine wpAnyH_take (i := 4) (oi := { dst := some 22, op := Op.load 27 (Operand.tmp 2), type := 27, pos := "flags.go:56", after := #[{ on := 2, ground := Ground.guard }], guard := some (2, false) }) (v := f'.v) rfl (by kernel_rfl) (by kernel_rfl) (by kernel_rfl) (fun _ _ _ h => h) (yieldsIf_load_mid (by rfl) 27 _ rfl W.heap.size 0 rfl f'.cs _ (fun w hSw => hSw.box.range) under27 rfl (by rw [size27, F.len])) (by assumption) ?_
  simp only [Act.put, List.setIfInBounds_toArray, List.set_cons_zero, List.set_cons_succ]
  refine wpAnyH_ready (rs := [5]) (by kernel_rfl) (by simp) (AllReadyH.cons (o := { dst := some 23, op := Op.call { callee := Callee.value (Operand.func 23), args := #[Operand.tmp 22], argTypes := #[27] }, type := 27, pos := "flags.go:56", after := #[{ on := 4, ground := Ground.data }, { on := 2, ground := Ground.chain }, { on := 2, ground := Ground.guard }], guard := some (2, false) }) rfl (fun KQ hK => ?_) AllReadyH.nil)
  go_simp
  refine (settled_any _ _).mono ?_
  rintro e w2 ⟨rfl, hb2⟩
  have HP2 := hid (HPD.out.on hb2)
  clear hb2
  go_wp2_with fail
  refine hK.out _ _ HP2.out (fun hHeld => ?_)
  clear hK KQ
  try simp only [Act.put, List.setIfInBounds_toArray, List.set_cons_zero, List.set_cons_succ]
  clear HPD
  have HPD := HP2
  clear HP2
  refine wpAnyH_take (i := 6) (oi := { dst := some 24, op := Op.binOp BinOp.neq 27 (Operand.tmp 21) (Operand.tmp 23) 27, type := 4, pos := "flags.go:56", after := #[{ on := 3, ground := Ground.data }, { on := 5, ground := Ground.data }, { on := 2, ground := Ground.guard }], guard := some (2, false) }) (v := .bool true) rfl (by kernel_rfl) (by kernel_rfl) (by kernel_rfl) (fun _ _ _ h => h) (Or.inl ⟨by rfl, fun w hSw => exec_neq_f _ _ rfl f' f'.stl rfl rfl _ HS.out⟩) (by assumption) ?_
  simp only [Act.put, List.setIfInBounds_toArray, List.set_cons_zero, List.set_cons_succ]
  refine wpAnyH_take (i := 7) (oi := { dst := some 25, op := Op.pick (Operand.tmp 20) (Operand.const (Value.bool true)) (Operand.tmp 24), type := 4, pos := "flags.go:56", after := #[{ on := 2, ground := Ground.data }, { on := 6, ground := Ground.data }], guard := none }) (v := .bool true) rfl (by kernel_rfl) (by kernel_rfl) (by kernel_rfl) (fun _ _ _ h => h) (Or.inl ⟨by rfl, by intro w hSw; go_simp⟩) (by assumption) ?_
  simp only [Act.put, List.setIfInBounds_toArray, List.set_cons_zero, List.set_cons_succ]
  refine wpAnyH_done (by kernel_rfl) ?_ _
  go_wp2_with (first | (refine wpList_build_zero rfl rfl ?_) | (refine wpList_store_f rfl _ _ rfl (W.heap.size + 1) F.zero F.zero rfl rfl HPD.out.res ?_; intro w1 hc1 hb1 hs1; have HRR := hid (HPD.out.ret hc1 hb1); clear hc1 hb1 hs1))
  refine ret_st2 rfl rfl (W.heap.size + 1) _ rfl HRR.out.1 under27 rfl (by rw [size27]; simp [F.len]) ⟨rfl, HRR.out.2⟩
theorem same_stl (f : F) (z n l : Bool) : (f.fl z n l).same (f.fl z n l).stl = (!z || (!n && !l)) := by
  cases z
  · rw [show (f.fl false n l).stl = f.fl false n l from rfl, F.same_self]; rfl
  · rw [show (f.fl true n l).stl = f.fl true false false from rfl, Bool.eq_iff_iff, F.same_iff]
    cases n <;> cases l <;> simp [F.fl]
def gw (w : Int) : Bool := w == 0 || w == 1 || w == 2 || w == 4 || w == 6
def F.flagged (f : F) (w : Int) : F := f.fl (w == 1) (w == 2 || w == 6) (w == 4 || w == 6)
def flaggedV (f : F) (w : Int) : Value := if gw w then .tuple #[(f.flagged w).v, .int .i64 0] else .tuple #[F.zero.v, .int .i64 80]
theorem flagged_any (W : World) (f : F) (w : Int) (h0 : 0 ≤ w) : Calls Try.prog 16 #[f.v, .int .u32 w] W fun e W' => e = .returned (flaggedV f w) ∧ Below W.heap.size W W' := by
  by_cases h8 : 8 ≤ w
  · have hg : gw w = false := by simp only [gw, Bool.or_eq_false_iff, beq_eq_false_iff_ne]; omega
    unfold flaggedV
    rw [hg]
    exact flagged_A W f w h8
  · have hB := fun hs => flagged_B W f w (by omega) hs
    have hC := fun hs => flagged_C W f w (by omega) hs
    rw [show f.read w = f.fl (bits .and .u32 w 1 != 0) (bits .and .u32 w 2 != 0) (bits .and .u32 w 4 != 0) from rfl] at hB hC
    rw [same_stl] at hB hC
    unfold flaggedV F.flagged
    rcases (show w = 0 ∨ w = 1 ∨ w = 2 ∨ w = 3 ∨ w = 4 ∨ w = 5 ∨ w = 6 ∨ w = 7 by omega) with rfl | rfl | rfl | rfl | rfl | rfl | rfl | rfl
    · exact hB (by decide)
    · exact hB (by decide)
    · exact hB (by decide)
    · exact hC (by decide)
    · exact hB (by decide)
    · exact hC (by decide)
    · exact hB (by decide)
    · exact hC (by decide)
end Go.Proofs.Ythpkodkilbcepaa
