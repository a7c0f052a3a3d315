import Derived.Test.YtildhjiddidghaaGreatDoorP33
import Derived.Test.YtildhjiddidghaaGreatDoorP01
import Derived.Laws.CopyOwn
namespace Go.Proofs.YtildhjiddidghaaGreatDoor.R
open Go.RowKit
set_option maxRecDepth 100000
set_option maxHeartbeats 1000000
attribute [-simp] Tryz.isAgg191 Tryz.sizeOf191 Tryz.isAgg207 Tryz.sizeOf207 Tryz.isAgg189
structure Pr (W X : World) (t u : TypeId) (f : F) : Prop where
  box : Cel X W.heap.size t f.cs
  res : Cel X (W.heap.size + 1) u F.zero.cs
  below : Below W.heap.size W X
theorem Prep.pr {W X : World} {t u : TypeId} {f : F} (h : Prep W X t u f) : Pr W X t u f := ⟨h.box, h.res, h.below⟩
theorem Pr.on {W X Y : World} {t u : TypeId} {f : F} (h : Pr W X t u f) (hb : Below X.heap.size X Y) : Pr W Y t u f := ⟨h.box.on hb, h.res.on hb, below_on h.below hb⟩
theorem Pr.ret {W X w' : World} {t u : TypeId} {f f' : F} (h : Pr W X t u f) (hc : Cel w' (W.heap.size + 1) u f'.cs) (hb : ButL [W.heap.size + 1] X w') : Cel w' (W.heap.size + 1) u f'.cs ∧ Below W.heap.size W w' :=
  ⟨hc, h.below.trans (hb.below (by simp) h.below.size)⟩
theorem exec_neq_f {a : Act} {w : World} {o : Oper} (x y : Operand) (ho : o.op = .binOp .neq 191 x y 191) (f g : F) (hx : a.eval x = f.v) (hy : a.eval y = g.v) (b : Bool) (hb : (!f.same g) = b) :
    (execOp a.eval o).run Tryz.prog w = .ok (.value (.bool b)) w := by
  have hg : (eqGuard .neq 191 x y f.v g.v).run Tryz.prog w = .ok () w := run_eqGuard_agg w .neq 191 x y _ _ guard27
  have hr : (binOp .neq 191 f.v g.v).run Tryz.prog w = .ok (.bool (!f.same g)) w := by
    have := run_equalIn_f w 9996 f g
    rw [F.v, F.v] at this ⊢
    rw [run_neq_struct, this]; rfl
  unfold execOp
  simp only [ho, hx, hy, Sem.run_bind, Sem.run_pure, hg, hr, Result.andThen_ok, hb]
def F.read (f : F) (w : Int) : F := f.fl (bits .and .u32 w 1 != 0) (bits .and .u32 w 2 != 0) (bits .and .u32 w 4 != 0)
theorem flagged_A (W : World) (f : F) (w : Int) (h8 : 8 ≤ w) : Calls Tryz.prog 171 #[f.v, .int .u32 w] W fun e W' => e = .returned (.tuple #[F.zero.v, .int .i64 80]) ∧ Below W.heap.size W W' := by
  have hP := prep W 191 191 f
  have y16 := (hP.box.cell 16).trans f.at16
  have y17 := (hP.box.cell 17).trans f.at17
  have y18 := (hP.box.cell 18).trans f.at18
  have z16 := hP.box.free 16
  have z17 := hP.box.free 17
  have z18 := hP.box.free 18
  have HP := hid (hP.set3 (bits .and .u32 w 1 != 0) (bits .and .u32 w 2 != 0) (bits .and .u32 w 4 != 0)).pr
  rw [show f.fl (bits .and .u32 w 1 != 0) (bits .and .u32 w 2 != 0) (bits .and .u32 w 4 != 0) = f.read w from rfl] at HP
  clear hP
  generalize f.read w = f' at *
  unfold F.v
  generalize hc : f.cs.toArray = C at *
  clear hc
  go_enter Tryz.func171, Tryz.ntmps171
  go_upto_region 1 with fail
  generalize hX : (W.alloc _).alloc _ = X at *
  clear hX
  go_wp2_with fail
  generalize hZ : ((X.setCell _ _).setCell _ _).setCell _ _ = Z at *
  clear hZ y16 y17 y18 z16 z17 z18
  have HPD := hid (HP.out.on (Below.refl _ _).drew)
  clear HP
  refine wp_region_held_drew (S := fun x => Pr W x 191 191 f') (by kernel_rfl) HPD.out (fun hHeld => ?_)
  refine tk 0 ⟨some 18, .move (.tmp 1), 22, "flags.go:56", #[], none⟩ (.int .u32 w) ?_
  simp only [Act.put, List.setIfInBounds_toArray, List.set_cons_zero, List.set_cons_succ]
  refine tk 1 ⟨some 19, .binOp .geq 22 (.tmp 18) (.const (.int .u32 8)) 22, 4, "flags.go:56", #[⟨0, .data⟩], none⟩ (.bool true) ?_
  simp only [Act.put, List.setIfInBounds_toArray, List.set_cons_zero, List.set_cons_succ]
  refine tk 2 ⟨some 20, .move (.tmp 19), 4, "flags.go:56", #[⟨1, .data⟩], none⟩ (.bool true) ?_
  simp only [Act.put, List.setIfInBounds_toArray, List.set_cons_zero, List.set_cons_succ]
  refine tk 3 ⟨some 21, .load 191 (.tmp 2), 191, "flags.go:56", #[⟨2, .guard⟩], some (2, false)⟩ undef ?_ (hy := Or.inr ⟨by rfl, rfl⟩)
  simp only [Act.put, List.setIfInBounds_toArray, List.set_cons_zero, List.set_cons_succ]
  refine tk 4 ⟨some 22, .load 191 (.tmp 2), 191, "flags.go:56", #[⟨2, .guard⟩], some (2, false)⟩ undef ?_ (hy := Or.inr ⟨by rfl, rfl⟩)
  simp only [Act.put, List.setIfInBounds_toArray, List.set_cons_zero, List.set_cons_succ]
  refine tk 5 ⟨some 23, .call { callee := .value (.func 184), args := #[.tmp 22], argTypes := #[191] }, 191, "flags.go:56", #[⟨4, .data⟩, ⟨2, .chain⟩, ⟨2, .guard⟩], some (2, false)⟩ undef ?_ (hy := Or.inr ⟨by rfl, rfl⟩)
  simp only [Act.put, List.setIfInBounds_toArray, List.set_cons_zero, List.set_cons_succ]
  refine tk 6 ⟨some 24, .binOp .neq 191 (.tmp 21) (.tmp 23) 191, 4, "flags.go:56", #[⟨3, .data⟩, ⟨5, .data⟩, ⟨2, .guard⟩], some (2, false)⟩ undef ?_ (hy := Or.inr ⟨by rfl, rfl⟩)
  simp only [Act.put, List.setIfInBounds_toArray, List.set_cons_zero, List.set_cons_succ]
  refine tk 7 ⟨some 25, .pick (.tmp 20) (.const (.bool true)) (.tmp 24), 4, "flags.go:56", #[⟨2, .data⟩, ⟨6, .data⟩], none⟩ (.bool true) ?_
  simp only [Act.put, List.setIfInBounds_toArray, List.set_cons_zero, List.set_cons_succ]
  refine wpAnyH_done (by kernel_rfl) ?_ _
  go_wp2_with (first | (refine wpList_build_zero rfl rfl ?_) | (refine wpList_store_f rfl _ _ rfl (W.heap.size + 1) F.zero F.zero rfl rfl HPD.out.res ?_; intro w1 hc1 hb1 hs1; have HRR := hid (HPD.out.ret hc1 hb1); clear hc1 hb1 hs1))
  refine ret_st2 rfl rfl (W.heap.size + 1) _ rfl HRR.out.1 under27 rfl (by rw [size27]; simp [F.len]) ⟨rfl, HRR.out.2⟩
theorem flagged_B (W : World) (f : F) (w : Int) (h8 : w < 8) (hs : (!(f.read w).same (f.read w).stl) = false) : Calls Tryz.prog 171 #[f.v, .int .u32 w] W fun e W' => e = .returned (.tuple #[(f.read w).v, .int .i64 0]) ∧ Below W.heap.size W W' := by
  have HS := hid hs
  clear hs
  have hP := prep W 191 191 f
  have y16 := (hP.box.cell 16).trans f.at16
  have y17 := (hP.box.cell 17).trans f.at17
  have y18 := (hP.box.cell 18).trans f.at18
  have z16 := hP.box.free 16
  have z17 := hP.box.free 17
  have z18 := hP.box.free 18
  have HP := hid (hP.set3 (bits .and .u32 w 1 != 0) (bits .and .u32 w 2 != 0) (bits .and .u32 w 4 != 0)).pr
  rw [show f.fl (bits .and .u32 w 1 != 0) (bits .and .u32 w 2 != 0) (bits .and .u32 w 4 != 0) = f.read w from rfl] at HP
  clear hP
  generalize f.read w = f' at *
  unfold F.v
  generalize hc : f.cs.toArray = C at *
  clear hc
  go_enter Tryz.func171, Tryz.ntmps171
  go_upto_region 1 with fail
  generalize hX : (W.alloc _).alloc _ = X at *
  clear hX
  go_wp2_with fail
  generalize hZ : ((X.setCell _ _).setCell _ _).setCell _ _ = Z at *
  clear hZ y16 y17 y18 z16 z17 z18
  have HPD := hid (HP.out.on (Below.refl _ _).drew)
  clear HP
  refine wp_region_held_drew (S := fun x => Pr W x 191 191 f') (by kernel_rfl) HPD.out (fun hHeld => ?_)
  refine tk 0 ⟨some 18, .move (.tmp 1), 22, "flags.go:56", #[], none⟩ (.int .u32 w) ?_
  simp only [Act.put, List.setIfInBounds_toArray, List.set_cons_zero, List.set_cons_succ]
  refine tk 1 ⟨some 19, .binOp .geq 22 (.tmp 18) (.const (.int .u32 8)) 22, 4, "flags.go:56", #[⟨0, .data⟩], none⟩ (.bool false) ?_
  simp only [Act.put, List.setIfInBounds_toArray, List.set_cons_zero, List.set_cons_succ]
  refine tk 2 ⟨some 20, .move (.tmp 19), 4, "flags.go:56", #[⟨1, .data⟩], none⟩ (.bool false) ?_
  simp only [Act.put, List.setIfInBounds_toArray, List.set_cons_zero, List.set_cons_succ]
  refine tk 3 ⟨some 21, .load 191 (.tmp 2), 191, "flags.go:56", #[⟨2, .guard⟩], some (2, false)⟩ f'.v ?_ (hy := yieldsIf_load_mid (by rfl) 191 _ rfl W.heap.size 0 rfl f'.cs _ (fun w hSw => hSw.box.range) under27 rfl (by rw [size27, F.len]))
  simp only [Act.put, List.setIfInBounds_toArray, List.set_cons_zero, List.set_cons_succ]
  refine tk 4 ⟨some 22, .load 191 (.tmp 2), 191, "flags.go:56", #[⟨2, .guard⟩], some (2, false)⟩ f'.v ?_ (hy := yieldsIf_load_mid (by rfl) 191 _ rfl W.heap.size 0 rfl f'.cs _ (fun w hSw => hSw.box.range) under27 rfl (by rw [size27, F.len]))
  simp only [Act.put, List.setIfInBounds_toArray, List.set_cons_zero, List.set_cons_succ]
  refine wpAnyH_ready (rs := [5]) (by kernel_rfl) (by simp) (AllReadyH.cons (o := ⟨some 23, .call { callee := .value (.func 184), args := #[.tmp 22], argTypes := #[191] }, 191, "flags.go:56", #[⟨4, .data⟩, ⟨2, .chain⟩, ⟨2, .guard⟩], some (2, false)⟩) rfl (fun KQ hK => ?_) AllReadyH.nil)
  go_simp
  refine (settled_any _ _).mono ?_
  rintro e w2 ⟨rfl, hb2⟩
  have HP2 := hid (HPD.out.on hb2)
  clear hb2
  go_wp2_with fail
  refine hK.out _ _ HP2.out (fun hHeld => ?_)
  clear hK KQ
  try simp only [Act.put, List.setIfInBounds_toArray, List.set_cons_zero, List.set_cons_succ]
  clear HPD
  have HPD := HP2
  clear HP2
  refine tk 6 ⟨some 24, .binOp .neq 191 (.tmp 21) (.tmp 23) 191, 4, "flags.go:56", #[⟨3, .data⟩, ⟨5, .data⟩, ⟨2, .guard⟩], some (2, false)⟩ (.bool false) ?_ (hy := Or.inl ⟨by rfl, fun w hSw => exec_neq_f _ _ rfl f' f'.stl rfl rfl _ HS.out⟩)
  simp only [Act.put, List.setIfInBounds_toArray, List.set_cons_zero, List.set_cons_succ]
  refine tk 7 ⟨some 25, .pick (.tmp 20) (.const (.bool true)) (.tmp 24), 4, "flags.go:56", #[⟨2, .data⟩, ⟨6, .data⟩], none⟩ (.bool false) ?_
  simp only [Act.put, List.setIfInBounds_toArray, List.set_cons_zero, List.set_cons_succ]
  refine wpAnyH_done (by kernel_rfl) ?_ _
  go_wp2_with (first | (refine wpList_load_f rfl _ rfl W.heap.size f' rfl HPD.out.box ?_) | (refine wpList_store_f rfl _ _ rfl (W.heap.size + 1) F.zero f' rfl rfl HPD.out.res ?_; intro w1 hc1 hb1 hs1; have HRR := hid (HPD.out.ret hc1 hb1); clear hc1 hb1 hs1))
  refine ret_st2 rfl rfl (W.heap.size + 1) _ rfl HRR.out.1 under27 rfl (by rw [size27]; simp [F.len]) ⟨rfl, HRR.out.2⟩
theorem flagged_C (W : World) (f : F) (w : Int) (h8 : w < 8) (hs : (!(f.read w).same (f.read w).stl) = true) : Calls Tryz.prog 171 #[f.v, .int .u32 w] W fun e W' => e = .returned (.tuple #[F.zero.v, .int .i64 80]) ∧ Below W.heap.size W W' := by
  have HS := hid hs
  clear hs
  have hP := prep W 191 191 f
  have y16 := (hP.box.cell 16).trans f.at16
  have y17 := (hP.box.cell 17).trans f.at17
  have y18 := (hP.box.cell 18).trans f.at18
  have z16 := hP.box.free 16
  have z17 := hP.box.free 17
  have z18 := hP.box.free 18
  have HP := hid (hP.set3 (bits .and .u32 w 1 != 0) (bits .and .u32 w 2 != 0) (bits .and .u32 w 4 != 0)).pr
  rw [show f.fl (bits .and .u32 w 1 != 0) (bits .and .u32 w 2 != 0) (bits .and .u32 w 4 != 0) = f.read w from rfl] at HP
  clear hP
  generalize f.read w = f' at *
  unfold F.v
  generalize hc : f.cs.toArray = C at *
  clear hc
  go_enter Tryz.func171, Tryz.ntmps171
  go_upto_region 1 with fail
  generalize hX : (W.alloc _).alloc _ = X at *
  clear hX
  go_wp2_with fail
  generalize hZ : ((X.setCell _ _).setCell _ _).setCell _ _ = Z at *
  clear hZ y16 y17 y18 z16 z17 z18
  have HPD := hid (HP.out.on (Below.refl _ _).drew)
  clear HP
  refine wp_region_held_drew (S := fun x => Pr W x 191 191 f') (by kernel_rfl) HPD.out (fun hHeld => ?_)
  refine tk 0 ⟨some 18, .move (.tmp 1), 22, "flags.go:56", #[], none⟩ (.int .u32 w) ?_
  simp only [Act.put, List.setIfInBounds_toArray, List.set_cons_zero, List.set_cons_succ]
  refine tk 1 ⟨some 19, .binOp .geq 22 (.tmp 18) (.const (.int .u32 8)) 22, 4, "flags.go:56", #[⟨0, .data⟩], none⟩ (.bool false) ?_
  simp only [Act.put, List.setIfInBounds_toArray, List.set_cons_zero, List.set_cons_succ]
  refine tk 2 ⟨some 20, .move (.tmp 19), 4, "flags.go:56", #[⟨1, .data⟩], none⟩ (.bool false) ?_
  simp only [Act.put, List.setIfInBounds_toArray, List.set_cons_zero, List.set_cons_succ]
  refine tk 3 ⟨some 21, .load 191 (.tmp 2), 191, "flags.go:56", #[⟨2, .guard⟩], some (2, false)⟩ f'.v ?_ (hy := yieldsIf_load_mid (by rfl) 191 _ rfl W.heap.size 0 rfl f'.cs _ (fun w hSw => hSw.box.range) under27 rfl (by rw [size27, F.len]))
  simp only [Act.put, List.setIfInBounds_toArray, List.set_cons_zero, List.set_cons_succ]
  refine tk 4 ⟨some 22, .load 191 (.tmp 2), 191, "flags.go:56", #[⟨2, .guard⟩], some (2, false)⟩ f'.v ?_ (hy := yieldsIf_load_mid (by rfl) 191 _ rfl W.heap.size 0 rfl f'.cs _ (fun w hSw => hSw.box.range) under27 rfl (by rw [size27, F.len]))
  simp only [Act.put, List.setIfInBounds_toArray, List.set_cons_zero, List.set_cons_succ]
  refine wpAnyH_ready (rs := [5]) (by kernel_rfl) (by simp) (AllReadyH.cons (o := ⟨some 23, .call { callee := .value (.func 184), args := #[.tmp 22], argTypes := #[191] }, 191, "flags.go:56", #[⟨4, .data⟩, ⟨2, .chain⟩, ⟨2, .guard⟩], some (2, false)⟩) rfl (fun KQ hK => ?_) AllReadyH.nil)
  go_simp
  refine (settled_any _ _).mono ?_
  rintro e w2 ⟨rfl, hb2⟩
  have HP2 := hid (HPD.out.on hb2)
  clear hb2
  go_wp2_with fail
  refine hK.out _ _ HP2.out (fun hHeld => ?_)
  clear hK KQ
  try simp only [Act.put, List.setIfInBounds_toArray, List.set_cons_zero, List.set_cons_succ]
  clear HPD
  have HPD := HP2
  clear HP2
  refine tk 6 ⟨some 24, .binOp .neq 191 (.tmp 21) (.tmp 23) 191, 4, "flags.go:56", #[⟨3, .data⟩, ⟨5, .data⟩, ⟨2, .guard⟩], some (2, false)⟩ (.bool true) ?_ (hy := Or.inl ⟨by rfl, fun w hSw => exec_neq_f _ _ rfl f' f'.stl rfl rfl _ HS.out⟩)
  simp only [Act.put, List.setIfInBounds_toArray, List.set_cons_zero, List.set_cons_succ]
  refine tk 7 ⟨some 25, .pick (.tmp 20) (.const (.bool true)) (.tmp 24), 4, "flags.go:56", #[⟨2, .data⟩, ⟨6, .data⟩], none⟩ (.bool true) ?_
  simp only [Act.put, List.setIfInBounds_toArray, List.set_cons_zero, List.set_cons_succ]
  refine wpAnyH_done (by kernel_rfl) ?_ _
  go_wp2_with (first | (refine wpList_build_zero rfl rfl ?_) | (refine wpList_store_f rfl _ _ rfl (W.heap.size + 1) F.zero F.zero rfl rfl HPD.out.res ?_; intro w1 hc1 hb1 hs1; have HRR := hid (HPD.out.ret hc1 hb1); clear hc1 hb1 hs1))
  refine ret_st2 rfl rfl (W.heap.size + 1) _ rfl HRR.out.1 under27 rfl (by rw [size27]; simp [F.len]) ⟨rfl, HRR.out.2⟩
theorem same_stl (f : F) (z n l : Bool) : (f.fl z n l).same (f.fl z n l).stl = (!z || (!n && !l)) := by
  cases z
  · rw [show (f.fl false n l).stl = f.fl false n l from rfl, F.same_self]; rfl
  · rw [show (f.fl true n l).stl = f.fl true false false from rfl, Bool.eq_iff_iff, F.same_iff]
    cases n <;> cases l <;> simp [F.fl]
def gw (w : Int) : Bool := w == 0 || w == 1 || w == 2 || w == 4 || w == 6
def F.flagged (f : F) (w : Int) : F := f.fl (w == 1) (w == 2 || w == 6) (w == 4 || w == 6)
def flaggedV (f : F) (w : Int) : Value := if gw w then .tuple #[(f.flagged w).v, .int .i64 0] else .tuple #[F.zero.v, .int .i64 80]
theorem flagged_any (W : World) (f : F) (w : Int) (h0 : 0 ≤ w) : Calls Tryz.prog 171 #[f.v, .int .u32 w] W fun e W' => e = .returned (flaggedV f w) ∧ Below W.heap.size W W' := by
  by_cases h8 : 8 ≤ w
  · have hg : gw w = false := by simp only [gw, Bool.or_eq_false_iff, beq_eq_false_iff_ne]; omega
    unfold flaggedV
    rw [hg]
    exact flagged_A W f w h8
  · have hB := fun hs => flagged_B W f w (by omega) hs
    have hC := fun hs => flagged_C W f w (by omega) hs
    rw [show f.read w = f.fl (bits .and .u32 w 1 != 0) (bits .and .u32 w 2 != 0) (bits .and .u32 w 4 != 0) from rfl] at hB hC
    rw [same_stl] at hB hC
    unfold flaggedV F.flagged
    rcases (show w = 0 ∨ w = 1 ∨ w = 2 ∨ w = 3 ∨ w = 4 ∨ w = 5 ∨ w = 6 ∨ w = 7 by omega) with rfl | rfl | rfl | rfl | rfl | rfl | rfl | rfl
    · exact hB (by decide)
    · exact hB (by decide)
    · exact hB (by decide)
    · exact hC (by decide)
    · exact hB (by decide)
    · exact hC (by decide)
    · exact hB (by decide)
    · exact hC (by decide)
end Go.Proofs.YtildhjiddidghaaGreatDoor.R
namespace Go.Proofs.YtildhjiddidghaaGreatDoor.R
open Go.RowKit
set_option maxRecDepth 100000
set_option maxHeartbeats 1000000
attribute [-simp] Tryz.isAgg191 Tryz.sizeOf191 Tryz.isAgg207 Tryz.sizeOf207 Tryz.isAgg189
theorem under45 : Tryz.prog.underlying 40 = some (.slice 22) := by kernel_rfl
def zs17 : List Value := List.replicate 17 (.int .u32 0)
def pk (r : Nat → Int) (p q : Int) : List Value := rs r ++ [.int .u32 p, .int .u32 q]
theorem wp_store_st {P : Program} {op : Oper} {a : Act} {w : World} {K : Act → World → Prop} {Q : Exit → Act → World → Prop} (ty : TypeId) (x y : Operand) (ho : op.op = .store ty x y)
    (g : Nat) (vs : List Value) (hx : a.eval x = .pointer (some ⟨g, 0, none⟩)) (hy : a.eval y = .agg vs.toArray) {e : TypeId} {cs : List Value} (hg : Cel w g e cs) (hi : (P.info? ty).map (·.size) = some vs.length) (hl : cs.length = vs.length) (h1 : vs.all (·.oneCell') = true)
    (h : K (a.put op.dst undef) (w.setRow g vs.toArray)) : op.wp P a w K Q := by
  have hs : (Instr.storeAt ty (.pointer (some ⟨g, 0, none⟩)) (.agg vs.toArray)).run P w = .ok () (w.setRow g vs.toArray) := by
    simp only [Instr.storeAt, Instr.sureAddr, Sem.run_bind, Sem.run_pure, Result.andThen]
    exact run_storeVar_row w g e ty _ _ hg (by rw [hi]; simp) (by simp [hl]) (by simpa using h1)
  unfold Oper.wp execOp
  simp only [ho, hx, hy, Sem.run_bind, Sem.run_pure, hs, Result.andThen_ok]
  exact h
structure Pq (W X : World) (f : F) : Prop where
  box : Cel X W.heap.size 191 f.cs
  res : Cel X (W.heap.size + 1) 46 zs17
  below : Below W.heap.size W X
theorem Pq.on {W X Y : World} {f : F} (h : Pq W X f) (hb : Below X.heap.size X Y) : Pq W Y f := ⟨h.box.on hb, h.res.on hb, below_on h.below hb⟩
theorem Pq.gt {W X : World} {f : F} (h : Pq W X f) : W.heap.size + 2 ≤ X.heap.size := h.res.lt
theorem Pq.but {W X Y : World} {f : F} {g : Nat} (h : Pq W X f) (hg : W.heap.size + 2 ≤ g) (hb : ButL [g] X Y) : Pq W Y f :=
  ⟨h.box.but hb (by rw [List.mem_singleton]; omega), h.res.but hb (by rw [List.mem_singleton]; omega), h.below.trans (hb.below (by simp; omega) h.below.size)⟩
theorem Pq.ret {W X w' : World} {f : F} {vs : List Value} (h : Pq W X f) (hc : Cel w' (W.heap.size + 1) 46 vs) (hb : ButL [W.heap.size + 1] X w') : Cel w' (W.heap.size + 1) 46 vs ∧ Below W.heap.size W w' :=
  ⟨hc, h.below.trans (hb.below (by simp) h.below.size)⟩
end Go.Proofs.YtildhjiddidghaaGreatDoor.R
namespace Go.Proofs.YtildhjiddidghaaGreatDoor.R
open Go.RowKit
set_option maxRecDepth 100000
set_option maxHeartbeats 1000000
attribute [-simp] Tryz.isAgg191 Tryz.sizeOf191 Tryz.isAgg207 Tryz.sizeOf207 Tryz.isAgg189
structure W17 (W : World) (g o : Nat) (x : Nat → Int) : Prop where
  lt : g < W.heap.size
  at' : ∀ k, k < 17 → W.cell? ⟨g, o + k, none⟩ = some (.int .u32 (x k))
theorem W17.on {W w : World} {g o : Nat} {x : Nat → Int} (h : W17 W g o x) (hb : Below W.heap.size W w) : W17 w g o x :=
  ⟨Nat.lt_of_lt_of_le h.lt hb.size, fun k hk => (hb.cell (p := ⟨g, o + k, none⟩) h.lt).trans (h.at' k hk)⟩
def up (x : Nat → Int) (p : Int) : F := ⟨x, p, false, false, false⟩
def unpackV (x : Nat → Int) : Value := flaggedV (up x (x 15)) (x 16)
theorem flaggedV_form (f : F) (w : Int) : ∃ f' e, flaggedV f w = .tuple #[F.v f', .int .i64 e] := by
  unfold flaggedV
  split
  · exact ⟨_, _, rfl⟩
  · exact ⟨_, _, rfl⟩
structure Pu (W X : World) (gf g o : Nat) (x : Nat → Int) (f : F) : Prop where
  gt : W.heap.size < gf
  res : Cel X W.heap.size 191 F.zero.cs
  fil : Cel X gf 191 f.cs
  wds : W17 X g o x
  below : Below W.heap.size W X
theorem Pu.on {W X Y : World} {gf g o : Nat} {x : Nat → Int} {f : F} (h : Pu W X gf g o x f) (hb : Below X.heap.size X Y) : Pu W Y gf g o x f := ⟨h.gt, h.res.on hb, h.fil.on hb, h.wds.on hb, below_on h.below hb⟩
theorem Pu.set {W X w' : World} {gf g o : Nat} {x : Nat → Int} {f f' : F} (hg : g < W.heap.size) (h : Pu W X gf g o x f) (hc : Cel w' gf 191 f'.cs) (hb : ButL [gf] X w') : Pu W w' gf g o x f' := by
  have ht := h.gt
  have hB : Below W.heap.size X w' := hb.below (by simp; omega) h.below.size
  exact ⟨ht, h.res.but hb (by rw [List.mem_singleton]; omega), hc, ⟨Nat.lt_of_lt_of_le h.wds.lt hb.size, fun k hk => (hB.cell (p := ⟨g, o + k, none⟩) hg).trans (h.wds.at' k hk)⟩, h.below.trans hB⟩
theorem pu_new {W X : World} {g o : Nat} {x : Nat → Int} (hr : Cel X W.heap.size 191 F.zero.cs) (hw : W17 X g o x) (hb : Below W.heap.size W X) : Pu W (X.alloc (.cells #[.int .u32 0, .int .u32 0, .int .u32 0, .int .u32 0, .int .u32 0, .int .u32 0, .int .u32 0, .int .u32 0, .int .u32 0, .int .u32 0, .int .u32 0, .int .u32 0, .int .u32 0, .int .u32 0, .int .u32 0, .int .u32 0, .bool false, .bool false, .bool false] 191)) X.heap.size g o x F.zero := by
  rw [zc]
  exact ⟨hr.lt, hr.on (below_one _ _), Cel.new X 191 F.zero.cs, hw.on (below_one _ _), below_on hb (below_one _ _)⟩
theorem Pu.ret {W X w' : World} {gf g o : Nat} {x : Nat → Int} {f f' : F} (h : Pu W X gf g o x f) (hc : Cel w' W.heap.size 191 f'.cs) (hb : ButL [W.heap.size] X w') : Cel w' W.heap.size 191 f'.cs ∧ Below W.heap.size W w' :=
  ⟨hc, h.below.trans (hb.below (by simp) h.below.size)⟩
structure Su (X : World) (gf g o : Nat) (x : Nat → Int) (f : F) : Prop where
  fil : Cel X gf 191 f.cs
  wds : W17 X g o x
theorem Pu.su {W X : World} {gf g o : Nat} {x : Nat → Int} {f : F} (h : Pu W X gf g o x f) : Su X gf g o x f := ⟨h.fil, h.wds⟩
theorem Pu.su' {W X w' : World} {gf g o : Nat} {x : Nat → Int} {f : F} (hg : g < W.heap.size) (h : Pu W X gf g o x f) (hb : ButL [W.heap.size] X w') : Su w' gf g o x f :=
  ⟨h.fil.but hb (by rw [List.mem_singleton]; have := h.gt; omega), ⟨Nat.lt_of_lt_of_le h.wds.lt hb.size, fun k hk => ((hb.below (B := W.heap.size) (by simp) h.below.size).cell (p := ⟨g, o + k, none⟩) hg).trans (h.wds.at' k hk)⟩⟩
theorem w17_src {w : World} {g o : Nat} {x : Nat → Int} (h : W17 w g o x) : ∀ j v, (rs x)[j]? = some v → w.cell? ((⟨g, o, none⟩ : Addr).add j) = some v := fun j v hv => by
  rw [Addr.add_mid]
  have hj : j < 15 := by
    by_cases hj : j < 15
    · exact hj
    · rw [List.getElem?_eq_none (by rw [rs_len]; omega)] at hv; cases hv
  rw [rs_at _ _ hj] at hv
  rw [h.at' j (by omega)]
  exact hv
theorem up_cs (x y : Nat → Int) (p : Int) : (up y p).cs.toArray.toList.take 0 ++ (rs x ++ (up y p).cs.toArray.toList.drop (0 + (rs x).length)) = (up x p).cs := by
  rw [rs_len]
  simp only [up, F.cs, List.take_zero, List.nil_append, Nat.zero_add]
  rw [List.drop_append_of_le_length (by rw [rs_len]; decide), List.drop_of_length_le (by rw [rs_len]; decide)]
  rfl
theorem unpack_yes (W : World) (g o c : Nat) (x : Nat → Int) (hw : W17 W g o x) (h0 : 0 ≤ x 16) : Calls Tryz.prog 150 #[.slice (some ⟨g, o, none⟩) 17 c] W fun e W' => e = .returned (unpackV x) ∧ Below W.heap.size W W' := by
  have hlt := hw.lt
  have hb := hid (below_one W (.cells #[.int .u32 0, .int .u32 0, .int .u32 0, .int .u32 0, .int .u32 0, .int .u32 0, .int .u32 0, .int .u32 0, .int .u32 0, .int .u32 0, .int .u32 0, .int .u32 0, .int .u32 0, .int .u32 0, .int .u32 0, .int .u32 0, .bool false, .bool false, .bool false] 191))
  have c1 : Hid (Cel (W.alloc (.cells #[.int .u32 0, .int .u32 0, .int .u32 0, .int .u32 0, .int .u32 0, .int .u32 0, .int .u32 0, .int .u32 0, .int .u32 0, .int .u32 0, .int .u32 0, .int .u32 0, .int .u32 0, .int .u32 0, .int .u32 0, .int .u32 0, .bool false, .bool false, .bool false] 191)) W.heap.size 191 F.zero.cs) := by rw [zc]; exact hid (Cel.new W 191 F.zero.cs)
  have HW := hid (hw.on hb.out)
  have HL := hid hlt
  have y15 := HW.out.at' 15 (by decide)
  have HU := hid (pu_new c1.out HW.out hb.out)
  have z15 := HU.out.wds.at' 15 (by decide)
  obtain ⟨f', er, hf⟩ := flaggedV_form (up x (x 15)) (x 16)
  have HV : Hid (Value.tuple #[F.v f', .int .i64 er] = unpackV x) := hid hf.symm
  have HF : Hid (∀ w, Calls Tryz.prog 171 #[(up x (x 15)).v, .int .u32 (x 16)] w fun e W' => e = .returned (.tuple #[F.v f', .int .i64 er]) ∧ Below w.heap.size w W') := hid fun w => by rw [← hf]; exact flagged_any w _ _ h0
  clear hf h0 hw
  generalize x 15 = p at *
  obtain ⟨q, HQ16⟩ : ∃ q, Hid (x 16 = q) := ⟨_, rfl⟩
  rw [HQ16.out] at HF
  go_enter Tryz.func150, Tryz.ntmps150
  go_upto_region 1 with fail
  generalize hX : W.alloc _ = X at *
  clear hX
  go_wp2_with (first | (refine wpList_build_pc rfl _ rfl p rfl ?_) | (refine wpList_store_f rfl _ _ rfl X.heap.size F.zero (up (fun _ => 0) p) rfl rfl HU.out.fil ?_; intro w1 hc1 hb1 hs1; have HU1 := hid (HU.out.set HL.out hc1 hb1); clear hc1 hb1 hs1 HU) | (refine wpList_copy_own rfl _ _ 40 40 rfl 22 under45 size22 X.heap.size 0 15 15 ⟨g, o, none⟩ 17 c rfl rfl _ 191 HU1.out.fil (rs x) (by rw [rs_len]; rfl) (w17_src HU1.out.wds) (by rw [rs_len]; simp [F.len]) (fun v hv => List.all_eq_true.1 (rs_all x) v hv) ?_; rw [up_cs]; have HU2 := hid (HU1.out.set HL.out (HU1.out.fil.set (up x p).cs) (ButL.setRow _ _ _ (by simp))); clear HU1))
  generalize hg : X.heap.size = gf at *
  clear hg
  generalize hz : World.setRow _ gf _ = Y at *
  clear hz
  have HU := hid (HU2.out.on (Below.refl _ _).drew)
  clear HU2
  refine wp_region_held_drew (S := fun x' => Su x' gf g o x (up x p)) (by kernel_rfl) HU.out.su (fun hHeld => ?_)
  refine tk 0 ⟨some 17, .load 191 (.tmp 4), 191, "pack.go:26", #[], none⟩ ((up x p).v) ?_ (hy := yieldsIf_load_mid (by rfl) 191 _ rfl gf 0 rfl (up x p).cs _ (fun w hSw => hSw.fil.range) under27 rfl (by rw [size27, F.len]))
  simp only [Act.put, List.setIfInBounds_toArray, List.set_cons_zero, List.set_cons_succ]
  refine tk 1 ⟨some 18, .move (.tmp 0), 40, "pack.go:26", #[], none⟩ (.slice (some ⟨g, o, none⟩) 17 c) ?_
  simp only [Act.put, List.setIfInBounds_toArray, List.set_cons_zero, List.set_cons_succ]
  refine tk 2 ⟨some 19, .indexAddr 40 (.tmp 18) (.const (.int .i64 16)), 0, "pack.go:26", #[⟨1, .data⟩], none⟩ (.pointer (some ⟨g, o + 16, none⟩)) ?_
  simp only [Act.put, List.setIfInBounds_toArray, List.set_cons_zero, List.set_cons_succ]
  refine tk 3 ⟨some 20, .load 22 (.tmp 19), 22, "pack.go:26", #[⟨2, .data⟩], none⟩ (.int .u32 q) ?_ (hy := Or.inl ⟨by rfl, by intro w hSw; have y := hSw.wds.at' 16 (by decide); rw [HQ16.out] at y; go_simp⟩)
  simp only [Act.put, List.setIfInBounds_toArray, List.set_cons_zero, List.set_cons_succ]
  refine wpAnyH_ready (rs := [4]) (by kernel_rfl) (by simp) (AllReadyH.cons (o := ⟨some 21, .call { callee := .value (.func 171), args := #[.tmp 17, .tmp 20], argTypes := #[191, 22] }, 192, "pack.go:26", #[⟨0, .data⟩, ⟨3, .data⟩], none⟩) rfl (fun KQ hK => ?_) AllReadyH.nil)
  go_simp
  refine (HF.out _).mono ?_
  rintro e w2 ⟨rfl, hb2⟩
  have HU3 := hid (HU.out.on hb2)
  clear hb2 HU
  go_wp2_with fail
  refine hK.out _ _ HU3.out.su (fun hHeld => ?_)
  clear hK KQ
  try simp only [Act.put, List.setIfInBounds_toArray, List.set_cons_zero, List.set_cons_succ]
  refine tk 5 ⟨some 22, .extract (.tmp 21) 0, 191, "pack.go:26", #[⟨4, .data⟩], none⟩ f'.v ?_
  simp only [Act.put, List.setIfInBounds_toArray, List.set_cons_zero, List.set_cons_succ]
  refine tk 6 ⟨some 23, .extract (.tmp 21) 1, 54, "pack.go:26", #[⟨4, .data⟩], none⟩ (.int .i64 er) ?_
  simp only [Act.put, List.setIfInBounds_toArray, List.set_cons_zero, List.set_cons_succ]
  refine wpAnyH_ready (rs := [7]) (by kernel_rfl) (by simp) (AllReadyH.cons (o := ⟨none, .store 191 (.tmp 2) (.tmp 22), 0, "pack.go:26", #[⟨5, .data⟩, ⟨4, .chain⟩, ⟨0, .phase⟩, ⟨1, .phase⟩, ⟨2, .phase⟩, ⟨3, .phase⟩, ⟨4, .phase⟩, ⟨5, .phase⟩, ⟨6, .phase⟩], none⟩) rfl (fun KQ hK => ?_) AllReadyH.nil)
  rw [if_pos (by rfl)]
  refine wp_store_st 191 _ _ rfl W.heap.size f'.cs rfl rfl HU3.out.res (by rw [size27, F.len]) (by rw [F.len, F.len]) f'.all ?_
  have HSU := hid (HU3.out.su' HL.out (ButL.setRow _ W.heap.size f'.cs.toArray (by simp)))
  have HRR := hid (HU3.out.ret (HU3.out.res.set f'.cs) (ButL.setRow _ _ _ (by simp)))
  clear HU3
  generalize hy : World.setRow _ W.heap.size _ = Y2 at *
  clear hy
  refine hK.out _ _ HSU.out (fun hHeld => ?_)
  clear hK KQ
  try simp only [Act.put]
  refine wpAnyH_ready (rs := [8]) (by kernel_rfl) (by simp) (AllReadyH.cons (o := ⟨some 3, .assign (.tmp 23), 54, "pack.go:26", #[⟨6, .data⟩, ⟨7, .chain⟩, ⟨0, .phase⟩, ⟨1, .phase⟩, ⟨2, .phase⟩, ⟨3, .phase⟩, ⟨4, .phase⟩, ⟨5, .phase⟩, ⟨6, .phase⟩, ⟨7, .phase⟩], none⟩) rfl (fun KQ hK => ?_) AllReadyH.nil)
  go_simp
  refine hK.out _ _ HSU.out (fun hHeld => ?_)
  clear hK KQ
  try simp only [Act.put, List.setIfInBounds_toArray, List.set_cons_zero, List.set_cons_succ]
  refine wpAnyH_done (by kernel_rfl) ?_ _
  go_wp2_with fail
  refine ret_st2 rfl rfl W.heap.size _ rfl HRR.out.1 under27 rfl (by rw [size27]; simp [F.len]) ⟨congrArg _ HV.out, HRR.out.2⟩
end Go.Proofs.YtildhjiddidghaaGreatDoor.R
