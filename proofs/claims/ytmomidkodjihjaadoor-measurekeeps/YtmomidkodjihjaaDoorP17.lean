import Derived.Test.YtmomidkodjihjaaDoorP16
import Derived.Test.YtmomidkodjihjaaDoorP01
namespace Go.Proofs.YtmomidkodjihjaaDoor
open Go.RowKit
open H
set_option maxHeartbeats 4000000
set_option maxRecDepth 100000
def okk (k : Int) (n : Nat) : Bool := decide (1 ≤ k ∧ k ≤ 4 ∧ n = pgN k)
theorem okk_iff (o : MOp) : okk o.k o.ws.length = true ↔ o.Ok := by unfold okk MOp.Ok; exact decide_eq_true_iff
theorem opOf_bad (W : World) (a : Int) (ao : Option Addr) (n c : Nat) (k : Int) (h : n ≠ pgN k) :
    Calls Tryd.prog 38 #[.agg #[.int .i64 k, .int .u32 a, .slice ao n c]] W fun e W' => e = .returned (.tuple #[.nilIface, .int .i64 150]) ∧ Below W.heap.size W W' := by
  have HK := hid (fun w => pageOf_any w k)
  have hne : ((n : Int) != (pgN k : Int)) = true := by rw [bne_iff_ne]; omega
  have X0 : Hid (Cel (W.alloc (.cells #[.int .i64 k, .int .u32 a, .slice ao n c] 43)) W.heap.size 43 [.int .i64 k, .int .u32 a, .slice ao n c]) := hid (heap_alloc_new _ _)
  have HB : Hid (Below W.heap.size W (W.alloc (.cells #[.int .i64 k, .int .u32 a, .slice ao n c] 43))) := hid (below_one _ _)
  generalize pgN k = p at *
  clear h
  go_enter Tryd.func38, Tryd.ntmps38
  go_upto_region 1 with fail
  generalize World.alloc _ _ = X at *
  have HG : Hid (Below W.heap.size W X.drew) := hid HB.out.drew
  have Y0 : Hid (Cel X.drew W.heap.size 43 [.int .i64 k, .int .u32 a, .slice ao n c]) := hid X0.out
  clear HB X0
  generalize hgb : W.heap.size = gb at *
  refine wp_region_held_drew (S := fun w => Cel w gb 43 [.int .i64 k, .int .u32 a, .slice ao n c]) (by kernel_rfl) Y0.out (fun hHeld => ?_)
  generalize World.drew _ = w0 at *
  refine tk 0 ⟨some 4, .fieldAddr 43 (.tmp 1) 2, 0, "operation.go:31", #[], none⟩ (.pointer (some ⟨gb, 2, none⟩)) ?_
  simp only [Act.put, List.setIfInBounds_toArray, List.set_cons_zero, List.set_cons_succ]
  refine tk 1 ⟨some 5, .load 22 (.tmp 4), 22, "operation.go:31", #[⟨0, .data⟩], none⟩ (.slice ao n c) ?_ (hy := Or.inl ⟨by rfl, by intro w hSw; have hc := hSw.cell 2; simp only [List.getElem?_cons_zero, List.getElem?_cons_succ] at hc; go_simp⟩)
  simp only [Act.put, List.setIfInBounds_toArray, List.set_cons_zero, List.set_cons_succ]
  refine tk 2 ⟨some 6, .call { callee := .builtin .len, args := #[.tmp 5], argTypes := #[22] }, 3, "operation.go:31", #[⟨1, .data⟩], none⟩ (.int .i64 (n : Int)) ?_
  simp only [Act.put, List.setIfInBounds_toArray, List.set_cons_zero, List.set_cons_succ]
  refine tk 3 ⟨some 7, .fieldAddr 43 (.tmp 1) 0, 0, "operation.go:31", #[], none⟩ (.pointer (some ⟨gb, 0, none⟩)) ?_
  simp only [Act.put, List.setIfInBounds_toArray, List.set_cons_zero, List.set_cons_succ]
  refine tk 4 ⟨some 8, .load 41 (.tmp 7), 41, "operation.go:31", #[⟨3, .data⟩], none⟩ (.int .i64 k) ?_ (hy := Or.inl ⟨by rfl, by intro w hSw; have hc := hSw.cell 0; simp only [List.getElem?_cons_zero] at hc; go_simp⟩)
  simp only [Act.put, List.setIfInBounds_toArray, List.set_cons_zero, List.set_cons_succ]
  refine wpAnyH_ready (rs := [5]) (by kernel_rfl) (by simp) (AllReadyH.cons (o := ⟨some 9, .call { callee := .value (.func 55), args := #[.tmp 8], argTypes := #[41] }, 3, "operation.go:31", #[⟨4, .data⟩], none⟩) rfl (fun KQ hK => ?_) AllReadyH.nil)
  go_simp
  refine (HK.out _).mono ?_
  rintro e w1 ⟨rfl, hw1⟩
  subst w1
  go_wp2_with fail
  refine hK.out _ _ Y0.out (fun hHeld => ?_)
  clear hK KQ
  try simp only [Act.put, List.setIfInBounds_toArray, List.set_cons_zero, List.set_cons_succ]
  refine tk 6 ⟨some 10, .binOp .neq 3 (.tmp 6) (.tmp 9) 3, 4, "operation.go:31", #[⟨2, .data⟩, ⟨5, .data⟩], none⟩ (.bool true) ?_
  simp only [Act.put, List.setIfInBounds_toArray, List.set_cons_zero, List.set_cons_succ]
  refine wpAnyH_done (by kernel_rfl) ?_ _
  go_wp2_with fail
  go_ret2
  subst hgb
  exact ⟨rfl, HG.out⟩
theorem opOf_0 (W : World) (a : Int) (ao : Option Addr) (n c : Nat) (k : Int) (h : n = pgN k) (h1 : (k == 1) = false) (h2 : (k == 2) = false) (h3 : (k == 3) = false) (h4 : (k == 4) = false) :
    Calls Tryd.prog 38 #[.agg #[.int .i64 k, .int .u32 a, .slice ao n c]] W fun e W' => e = .returned (.tuple #[.nilIface, .int .i64 150]) ∧ Below W.heap.size W W' := by
  have HK := hid (fun w => pageOf_any w k)
  have hne : ((n : Int) != (pgN k : Int)) = false := by rw [h]; simp
  have X0 : Hid (Cel (W.alloc (.cells #[.int .i64 k, .int .u32 a, .slice ao n c] 43)) W.heap.size 43 [.int .i64 k, .int .u32 a, .slice ao n c]) := hid (heap_alloc_new _ _)
  have HB : Hid (Below W.heap.size W (W.alloc (.cells #[.int .i64 k, .int .u32 a, .slice ao n c] 43))) := hid (below_one _ _)
  generalize pgN k = p at *
  clear h
  go_enter Tryd.func38, Tryd.ntmps38
  go_upto_region 1 with fail
  generalize World.alloc _ _ = X at *
  have HG : Hid (Below W.heap.size W X.drew) := hid HB.out.drew
  have Y0 : Hid (Cel X.drew W.heap.size 43 [.int .i64 k, .int .u32 a, .slice ao n c]) := hid X0.out
  clear HB X0
  generalize hgb : W.heap.size = gb at *
  refine wp_region_held_drew (S := fun w => Cel w gb 43 [.int .i64 k, .int .u32 a, .slice ao n c]) (by kernel_rfl) Y0.out (fun hHeld => ?_)
  generalize World.drew _ = w0 at *
  refine tk 0 ⟨some 4, .fieldAddr 43 (.tmp 1) 2, 0, "operation.go:31", #[], none⟩ (.pointer (some ⟨gb, 2, none⟩)) ?_
  simp only [Act.put, List.setIfInBounds_toArray, List.set_cons_zero, List.set_cons_succ]
  refine tk 1 ⟨some 5, .load 22 (.tmp 4), 22, "operation.go:31", #[⟨0, .data⟩], none⟩ (.slice ao n c) ?_ (hy := Or.inl ⟨by rfl, by intro w hSw; have hc := hSw.cell 2; simp only [List.getElem?_cons_zero, List.getElem?_cons_succ] at hc; go_simp⟩)
  simp only [Act.put, List.setIfInBounds_toArray, List.set_cons_zero, List.set_cons_succ]
  refine tk 2 ⟨some 6, .call { callee := .builtin .len, args := #[.tmp 5], argTypes := #[22] }, 3, "operation.go:31", #[⟨1, .data⟩], none⟩ (.int .i64 (n : Int)) ?_
  simp only [Act.put, List.setIfInBounds_toArray, List.set_cons_zero, List.set_cons_succ]
  refine tk 3 ⟨some 7, .fieldAddr 43 (.tmp 1) 0, 0, "operation.go:31", #[], none⟩ (.pointer (some ⟨gb, 0, none⟩)) ?_
  simp only [Act.put, List.setIfInBounds_toArray, List.set_cons_zero, List.set_cons_succ]
  refine tk 4 ⟨some 8, .load 41 (.tmp 7), 41, "operation.go:31", #[⟨3, .data⟩], none⟩ (.int .i64 k) ?_ (hy := Or.inl ⟨by rfl, by intro w hSw; have hc := hSw.cell 0; simp only [List.getElem?_cons_zero] at hc; go_simp⟩)
  simp only [Act.put, List.setIfInBounds_toArray, List.set_cons_zero, List.set_cons_succ]
  refine wpAnyH_ready (rs := [5]) (by kernel_rfl) (by simp) (AllReadyH.cons (o := ⟨some 9, .call { callee := .value (.func 55), args := #[.tmp 8], argTypes := #[41] }, 3, "operation.go:31", #[⟨4, .data⟩], none⟩) rfl (fun KQ hK => ?_) AllReadyH.nil)
  go_simp
  refine (HK.out _).mono ?_
  rintro e w1 ⟨rfl, hw1⟩
  subst w1
  go_wp2_with fail
  refine hK.out _ _ Y0.out (fun hHeld => ?_)
  clear hK KQ
  try simp only [Act.put, List.setIfInBounds_toArray, List.set_cons_zero, List.set_cons_succ]
  refine tk 6 ⟨some 10, .binOp .neq 3 (.tmp 6) (.tmp 9) 3, 4, "operation.go:31", #[⟨2, .data⟩, ⟨5, .data⟩], none⟩ (.bool false) ?_
  simp only [Act.put, List.setIfInBounds_toArray, List.set_cons_zero, List.set_cons_succ]
  refine wpAnyH_done (by kernel_rfl) ?_ _
  have c0 := Y0.out.cell 0
  have c1 := Y0.out.cell 1
  have c2 := Y0.out.cell 2
  simp only [List.getElem?_cons_zero, List.getElem?_cons_succ] at c0 c1 c2
  go_wp2_with fail
  go_ret2
  subst hgb
  exact ⟨rfl, HG.out⟩
theorem opOf_1 (W : World) (a : Int) (ao : Option Addr) (n c : Nat) (h : n = pgN 1) :
    Calls Tryd.prog 38 #[.agg #[.int .i64 1, .int .u32 a, .slice ao n c]] W fun e W' => e = .returned (.tuple #[.iface 112 (.int .u32 a), .int .i64 0]) ∧ Below W.heap.size W W' := by
  have HK := hid (fun w => pageOf_any w 1)
  have hne : ((n : Int) != (pgN 1 : Int)) = false := by rw [h]; simp
  have X0 : Hid (Cel (W.alloc (.cells #[.int .i64 1, .int .u32 a, .slice ao n c] 43)) W.heap.size 43 [.int .i64 1, .int .u32 a, .slice ao n c]) := hid (heap_alloc_new _ _)
  have HB : Hid (Below W.heap.size W (W.alloc (.cells #[.int .i64 1, .int .u32 a, .slice ao n c] 43))) := hid (below_one _ _)
  generalize pgN 1 = p at *
  clear h
  go_enter Tryd.func38, Tryd.ntmps38
  go_upto_region 1 with fail
  generalize World.alloc _ _ = X at *
  have HG : Hid (Below W.heap.size W X.drew) := hid HB.out.drew
  have Y0 : Hid (Cel X.drew W.heap.size 43 [.int .i64 1, .int .u32 a, .slice ao n c]) := hid X0.out
  clear HB X0
  generalize hgb : W.heap.size = gb at *
  refine wp_region_held_drew (S := fun w => Cel w gb 43 [.int .i64 1, .int .u32 a, .slice ao n c]) (by kernel_rfl) Y0.out (fun hHeld => ?_)
  generalize World.drew _ = w0 at *
  refine tk 0 ⟨some 4, .fieldAddr 43 (.tmp 1) 2, 0, "operation.go:31", #[], none⟩ (.pointer (some ⟨gb, 2, none⟩)) ?_
  simp only [Act.put, List.setIfInBounds_toArray, List.set_cons_zero, List.set_cons_succ]
  refine tk 1 ⟨some 5, .load 22 (.tmp 4), 22, "operation.go:31", #[⟨0, .data⟩], none⟩ (.slice ao n c) ?_ (hy := Or.inl ⟨by rfl, by intro w hSw; have hc := hSw.cell 2; simp only [List.getElem?_cons_zero, List.getElem?_cons_succ] at hc; go_simp⟩)
  simp only [Act.put, List.setIfInBounds_toArray, List.set_cons_zero, List.set_cons_succ]
  refine tk 2 ⟨some 6, .call { callee := .builtin .len, args := #[.tmp 5], argTypes := #[22] }, 3, "operation.go:31", #[⟨1, .data⟩], none⟩ (.int .i64 (n : Int)) ?_
  simp only [Act.put, List.setIfInBounds_toArray, List.set_cons_zero, List.set_cons_succ]
  refine tk 3 ⟨some 7, .fieldAddr 43 (.tmp 1) 0, 0, "operation.go:31", #[], none⟩ (.pointer (some ⟨gb, 0, none⟩)) ?_
  simp only [Act.put, List.setIfInBounds_toArray, List.set_cons_zero, List.set_cons_succ]
  refine tk 4 ⟨some 8, .load 41 (.tmp 7), 41, "operation.go:31", #[⟨3, .data⟩], none⟩ (.int .i64 1) ?_ (hy := Or.inl ⟨by rfl, by intro w hSw; have hc := hSw.cell 0; simp only [List.getElem?_cons_zero] at hc; go_simp⟩)
  simp only [Act.put, List.setIfInBounds_toArray, List.set_cons_zero, List.set_cons_succ]
  refine wpAnyH_ready (rs := [5]) (by kernel_rfl) (by simp) (AllReadyH.cons (o := ⟨some 9, .call { callee := .value (.func 55), args := #[.tmp 8], argTypes := #[41] }, 3, "operation.go:31", #[⟨4, .data⟩], none⟩) rfl (fun KQ hK => ?_) AllReadyH.nil)
  go_simp
  refine (HK.out _).mono ?_
  rintro e w1 ⟨rfl, hw1⟩
  subst w1
  go_wp2_with fail
  refine hK.out _ _ Y0.out (fun hHeld => ?_)
  clear hK KQ
  try simp only [Act.put, List.setIfInBounds_toArray, List.set_cons_zero, List.set_cons_succ]
  refine tk 6 ⟨some 10, .binOp .neq 3 (.tmp 6) (.tmp 9) 3, 4, "operation.go:31", #[⟨2, .data⟩, ⟨5, .data⟩], none⟩ (.bool false) ?_
  simp only [Act.put, List.setIfInBounds_toArray, List.set_cons_zero, List.set_cons_succ]
  refine wpAnyH_done (by kernel_rfl) ?_ _
  have c0 := Y0.out.cell 0
  have c1 := Y0.out.cell 1
  have c2 := Y0.out.cell 2
  simp only [List.getElem?_cons_zero, List.getElem?_cons_succ] at c0 c1 c2
  go_wp2_with fail
  go_ret2
  subst hgb
  exact ⟨rfl, HG.out⟩
theorem opOf_2 (W : World) (a : Int) (ao : Option Addr) (n c : Nat) (h : n = pgN 2) :
    Calls Tryd.prog 38 #[.agg #[.int .i64 2, .int .u32 a, .slice ao n c]] W fun e W' => e = .returned (.tuple #[.iface 113 (.int .u32 a), .int .i64 0]) ∧ Below W.heap.size W W' := by
  have HK := hid (fun w => pageOf_any w 2)
  have hne : ((n : Int) != (pgN 2 : Int)) = false := by rw [h]; simp
  have X0 : Hid (Cel (W.alloc (.cells #[.int .i64 2, .int .u32 a, .slice ao n c] 43)) W.heap.size 43 [.int .i64 2, .int .u32 a, .slice ao n c]) := hid (heap_alloc_new _ _)
  have HB : Hid (Below W.heap.size W (W.alloc (.cells #[.int .i64 2, .int .u32 a, .slice ao n c] 43))) := hid (below_one _ _)
  generalize pgN 2 = p at *
  clear h
  go_enter Tryd.func38, Tryd.ntmps38
  go_upto_region 1 with fail
  generalize World.alloc _ _ = X at *
  have HG : Hid (Below W.heap.size W X.drew) := hid HB.out.drew
  have Y0 : Hid (Cel X.drew W.heap.size 43 [.int .i64 2, .int .u32 a, .slice ao n c]) := hid X0.out
  clear HB X0
  generalize hgb : W.heap.size = gb at *
  refine wp_region_held_drew (S := fun w => Cel w gb 43 [.int .i64 2, .int .u32 a, .slice ao n c]) (by kernel_rfl) Y0.out (fun hHeld => ?_)
  generalize World.drew _ = w0 at *
  refine tk 0 ⟨some 4, .fieldAddr 43 (.tmp 1) 2, 0, "operation.go:31", #[], none⟩ (.pointer (some ⟨gb, 2, none⟩)) ?_
  simp only [Act.put, List.setIfInBounds_toArray, List.set_cons_zero, List.set_cons_succ]
  refine tk 1 ⟨some 5, .load 22 (.tmp 4), 22, "operation.go:31", #[⟨0, .data⟩], none⟩ (.slice ao n c) ?_ (hy := Or.inl ⟨by rfl, by intro w hSw; have hc := hSw.cell 2; simp only [List.getElem?_cons_zero, List.getElem?_cons_succ] at hc; go_simp⟩)
  simp only [Act.put, List.setIfInBounds_toArray, List.set_cons_zero, List.set_cons_succ]
  refine tk 2 ⟨some 6, .call { callee := .builtin .len, args := #[.tmp 5], argTypes := #[22] }, 3, "operation.go:31", #[⟨1, .data⟩], none⟩ (.int .i64 (n : Int)) ?_
  simp only [Act.put, List.setIfInBounds_toArray, List.set_cons_zero, List.set_cons_succ]
  refine tk 3 ⟨some 7, .fieldAddr 43 (.tmp 1) 0, 0, "operation.go:31", #[], none⟩ (.pointer (some ⟨gb, 0, none⟩)) ?_
  simp only [Act.put, List.setIfInBounds_toArray, List.set_cons_zero, List.set_cons_succ]
  refine tk 4 ⟨some 8, .load 41 (.tmp 7), 41, "operation.go:31", #[⟨3, .data⟩], none⟩ (.int .i64 2) ?_ (hy := Or.inl ⟨by rfl, by intro w hSw; have hc := hSw.cell 0; simp only [List.getElem?_cons_zero] at hc; go_simp⟩)
  simp only [Act.put, List.setIfInBounds_toArray, List.set_cons_zero, List.set_cons_succ]
  refine wpAnyH_ready (rs := [5]) (by kernel_rfl) (by simp) (AllReadyH.cons (o := ⟨some 9, .call { callee := .value (.func 55), args := #[.tmp 8], argTypes := #[41] }, 3, "operation.go:31", #[⟨4, .data⟩], none⟩) rfl (fun KQ hK => ?_) AllReadyH.nil)
  go_simp
  refine (HK.out _).mono ?_
  rintro e w1 ⟨rfl, hw1⟩
  subst w1
  go_wp2_with fail
  refine hK.out _ _ Y0.out (fun hHeld => ?_)
  clear hK KQ
  try simp only [Act.put, List.setIfInBounds_toArray, List.set_cons_zero, List.set_cons_succ]
  refine tk 6 ⟨some 10, .binOp .neq 3 (.tmp 6) (.tmp 9) 3, 4, "operation.go:31", #[⟨2, .data⟩, ⟨5, .data⟩], none⟩ (.bool false) ?_
  simp only [Act.put, List.setIfInBounds_toArray, List.set_cons_zero, List.set_cons_succ]
  refine wpAnyH_done (by kernel_rfl) ?_ _
  have c0 := Y0.out.cell 0
  have c1 := Y0.out.cell 1
  have c2 := Y0.out.cell 2
  simp only [List.getElem?_cons_zero, List.getElem?_cons_succ] at c0 c1 c2
  go_wp2_with fail
  go_ret2
  subst hgb
  exact ⟨rfl, HG.out⟩
theorem opOf_3 (W : World) (a : Int) (ao : Option Addr) (n c : Nat) (h : n = pgN 3) :
    Calls Tryd.prog 38 #[.agg #[.int .i64 3, .int .u32 a, .slice ao n c]] W fun e W' => e = .returned (.tuple #[.iface 115 (.agg #[.int .u32 a, .slice ao n c]), .int .i64 0]) ∧ Below W.heap.size W W' := by
  have HK := hid (fun w => pageOf_any w 3)
  have hne : ((n : Int) != (pgN 3 : Int)) = false := by rw [h]; simp
  have X0 : Hid (Cel (W.alloc (.cells #[.int .i64 3, .int .u32 a, .slice ao n c] 43)) W.heap.size 43 [.int .i64 3, .int .u32 a, .slice ao n c]) := hid (heap_alloc_new _ _)
  have HB : Hid (Below W.heap.size W (W.alloc (.cells #[.int .i64 3, .int .u32 a, .slice ao n c] 43))) := hid (below_one _ _)
  generalize pgN 3 = p at *
  clear h
  go_enter Tryd.func38, Tryd.ntmps38
  go_upto_region 1 with fail
  generalize World.alloc _ _ = X at *
  have HG : Hid (Below W.heap.size W X.drew) := hid HB.out.drew
  have Y0 : Hid (Cel X.drew W.heap.size 43 [.int .i64 3, .int .u32 a, .slice ao n c]) := hid X0.out
  clear HB X0
  generalize hgb : W.heap.size = gb at *
  refine wp_region_held_drew (S := fun w => Cel w gb 43 [.int .i64 3, .int .u32 a, .slice ao n c]) (by kernel_rfl) Y0.out (fun hHeld => ?_)
  generalize World.drew _ = w0 at *
  refine tk 0 ⟨some 4, .fieldAddr 43 (.tmp 1) 2, 0, "operation.go:31", #[], none⟩ (.pointer (some ⟨gb, 2, none⟩)) ?_
  simp only [Act.put, List.setIfInBounds_toArray, List.set_cons_zero, List.set_cons_succ]
  refine tk 1 ⟨some 5, .load 22 (.tmp 4), 22, "operation.go:31", #[⟨0, .data⟩], none⟩ (.slice ao n c) ?_ (hy := Or.inl ⟨by rfl, by intro w hSw; have hc := hSw.cell 2; simp only [List.getElem?_cons_zero, List.getElem?_cons_succ] at hc; go_simp⟩)
  simp only [Act.put, List.setIfInBounds_toArray, List.set_cons_zero, List.set_cons_succ]
  refine tk 2 ⟨some 6, .call { callee := .builtin .len, args := #[.tmp 5], argTypes := #[22] }, 3, "operation.go:31", #[⟨1, .data⟩], none⟩ (.int .i64 (n : Int)) ?_
  simp only [Act.put, List.setIfInBounds_toArray, List.set_cons_zero, List.set_cons_succ]
  refine tk 3 ⟨some 7, .fieldAddr 43 (.tmp 1) 0, 0, "operation.go:31", #[], none⟩ (.pointer (some ⟨gb, 0, none⟩)) ?_
  simp only [Act.put, List.setIfInBounds_toArray, List.set_cons_zero, List.set_cons_succ]
  refine tk 4 ⟨some 8, .load 41 (.tmp 7), 41, "operation.go:31", #[⟨3, .data⟩], none⟩ (.int .i64 3) ?_ (hy := Or.inl ⟨by rfl, by intro w hSw; have hc := hSw.cell 0; simp only [List.getElem?_cons_zero] at hc; go_simp⟩)
  simp only [Act.put, List.setIfInBounds_toArray, List.set_cons_zero, List.set_cons_succ]
  refine wpAnyH_ready (rs := [5]) (by kernel_rfl) (by simp) (AllReadyH.cons (o := ⟨some 9, .call { callee := .value (.func 55), args := #[.tmp 8], argTypes := #[41] }, 3, "operation.go:31", #[⟨4, .data⟩], none⟩) rfl (fun KQ hK => ?_) AllReadyH.nil)
  go_simp
  refine (HK.out _).mono ?_
  rintro e w1 ⟨rfl, hw1⟩
  subst w1
  go_wp2_with fail
  refine hK.out _ _ Y0.out (fun hHeld => ?_)
  clear hK KQ
  try simp only [Act.put, List.setIfInBounds_toArray, List.set_cons_zero, List.set_cons_succ]
  refine tk 6 ⟨some 10, .binOp .neq 3 (.tmp 6) (.tmp 9) 3, 4, "operation.go:31", #[⟨2, .data⟩, ⟨5, .data⟩], none⟩ (.bool false) ?_
  simp only [Act.put, List.setIfInBounds_toArray, List.set_cons_zero, List.set_cons_succ]
  refine wpAnyH_done (by kernel_rfl) ?_ _
  have c0 := Y0.out.cell 0
  have c1 := Y0.out.cell 1
  have c2 := Y0.out.cell 2
  simp only [List.getElem?_cons_zero, List.getElem?_cons_succ] at c0 c1 c2
  go_wp2_with fail
  go_ret2
  subst hgb
  exact ⟨rfl, HG.out⟩
theorem opOf_4 (W : World) (a : Int) (ao : Option Addr) (n c : Nat) (h : n = pgN 4) :
    Calls Tryd.prog 38 #[.agg #[.int .i64 4, .int .u32 a, .slice ao n c]] W fun e W' => e = .returned (.tuple #[.iface 116 (.int .u32 a), .int .i64 0]) ∧ Below W.heap.size W W' := by
  have HK := hid (fun w => pageOf_any w 4)
  have hne : ((n : Int) != (pgN 4 : Int)) = false := by rw [h]; simp
  have X0 : Hid (Cel (W.alloc (.cells #[.int .i64 4, .int .u32 a, .slice ao n c] 43)) W.heap.size 43 [.int .i64 4, .int .u32 a, .slice ao n c]) := hid (heap_alloc_new _ _)
  have HB : Hid (Below W.heap.size W (W.alloc (.cells #[.int .i64 4, .int .u32 a, .slice ao n c] 43))) := hid (below_one _ _)
  generalize pgN 4 = p at *
  clear h
  go_enter Tryd.func38, Tryd.ntmps38
  go_upto_region 1 with fail
  generalize World.alloc _ _ = X at *
  have HG : Hid (Below W.heap.size W X.drew) := hid HB.out.drew
  have Y0 : Hid (Cel X.drew W.heap.size 43 [.int .i64 4, .int .u32 a, .slice ao n c]) := hid X0.out
  clear HB X0
  generalize hgb : W.heap.size = gb at *
  refine wp_region_held_drew (S := fun w => Cel w gb 43 [.int .i64 4, .int .u32 a, .slice ao n c]) (by kernel_rfl) Y0.out (fun hHeld => ?_)
  generalize World.drew _ = w0 at *
  refine tk 0 ⟨some 4, .fieldAddr 43 (.tmp 1) 2, 0, "operation.go:31", #[], none⟩ (.pointer (some ⟨gb, 2, none⟩)) ?_
  simp only [Act.put, List.setIfInBounds_toArray, List.set_cons_zero, List.set_cons_succ]
  refine tk 1 ⟨some 5, .load 22 (.tmp 4), 22, "operation.go:31", #[⟨0, .data⟩], none⟩ (.slice ao n c) ?_ (hy := Or.inl ⟨by rfl, by intro w hSw; have hc := hSw.cell 2; simp only [List.getElem?_cons_zero, List.getElem?_cons_succ] at hc; go_simp⟩)
  simp only [Act.put, List.setIfInBounds_toArray, List.set_cons_zero, List.set_cons_succ]
  refine tk 2 ⟨some 6, .call { callee := .builtin .len, args := #[.tmp 5], argTypes := #[22] }, 3, "operation.go:31", #[⟨1, .data⟩], none⟩ (.int .i64 (n : Int)) ?_
  simp only [Act.put, List.setIfInBounds_toArray, List.set_cons_zero, List.set_cons_succ]
  refine tk 3 ⟨some 7, .fieldAddr 43 (.tmp 1) 0, 0, "operation.go:31", #[], none⟩ (.pointer (some ⟨gb, 0, none⟩)) ?_
  simp only [Act.put, List.setIfInBounds_toArray, List.set_cons_zero, List.set_cons_succ]
  refine tk 4 ⟨some 8, .load 41 (.tmp 7), 41, "operation.go:31", #[⟨3, .data⟩], none⟩ (.int .i64 4) ?_ (hy := Or.inl ⟨by rfl, by intro w hSw; have hc := hSw.cell 0; simp only [List.getElem?_cons_zero] at hc; go_simp⟩)
  simp only [Act.put, List.setIfInBounds_toArray, List.set_cons_zero, List.set_cons_succ]
  refine wpAnyH_ready (rs := [5]) (by kernel_rfl) (by simp) (AllReadyH.cons (o := ⟨some 9, .call { callee := .value (.func 55), args := #[.tmp 8], argTypes := #[41] }, 3, "operation.go:31", #[⟨4, .data⟩], none⟩) rfl (fun KQ hK => ?_) AllReadyH.nil)
  go_simp
  refine (HK.out _).mono ?_
  rintro e w1 ⟨rfl, hw1⟩
  subst w1
  go_wp2_with fail
  refine hK.out _ _ Y0.out (fun hHeld => ?_)
  clear hK KQ
  try simp only [Act.put, List.setIfInBounds_toArray, List.set_cons_zero, List.set_cons_succ]
  refine tk 6 ⟨some 10, .binOp .neq 3 (.tmp 6) (.tmp 9) 3, 4, "operation.go:31", #[⟨2, .data⟩, ⟨5, .data⟩], none⟩ (.bool false) ?_
  simp only [Act.put, List.setIfInBounds_toArray, List.set_cons_zero, List.set_cons_succ]
  refine wpAnyH_done (by kernel_rfl) ?_ _
  have c0 := Y0.out.cell 0
  have c1 := Y0.out.cell 1
  have c2 := Y0.out.cell 2
  simp only [List.getElem?_cons_zero, List.getElem?_cons_succ] at c0 c1 c2
  go_wp2_with fail
  go_ret2
  subst hgb
  exact ⟨rfl, HG.out⟩
theorem opOf_any (W : World) (k a : Int) (ao : Option Addr) (n c : Nat) :
    Calls Tryd.prog 38 #[.agg #[.int .i64 k, .int .u32 a, .slice ao n c]] W fun e W' => e = .returned (if okk k n = true then .tuple #[ivk k a ao n c, .int .i64 0] else .tuple #[.nilIface, .int .i64 150]) ∧ Below W.heap.size W W' := by
  by_cases hn : n = pgN k
  · by_cases hk : 1 ≤ k ∧ k ≤ 4
    · have ho : okk k n = true := by unfold okk; exact decide_eq_true ⟨hk.1, hk.2, hn⟩
      rw [if_pos ho]
      have h4 : k = 1 ∨ k = 2 ∨ k = 3 ∨ k = 4 := by omega
      clear ho hk
      rcases h4 with rfl | rfl | rfl | rfl
      · exact opOf_1 W a ao n c hn
      · exact opOf_2 W a ao n c hn
      · exact opOf_3 W a ao n c hn
      · exact opOf_4 W a ao n c hn
    · have ho : ¬ okk k n = true := by unfold okk; rw [decide_eq_true_iff]; intro h; exact hk ⟨h.1, h.2.1⟩
      rw [if_neg ho]
      exact opOf_0 W a ao n c k hn (by simp; omega) (by simp; omega) (by simp; omega) (by simp; omega)
  · have ho : ¬ okk k n = true := by unfold okk; rw [decide_eq_true_iff]; intro h; exact hn h.2.2
    rw [if_neg ho]
    exact opOf_bad W a ao n c k hn
theorem check_any (W : World) (k a : Int) (ao : Option Addr) (n c : Nat) :
    Calls Tryd.prog 52 #[.agg #[.int .i64 k, .int .u32 a, .slice ao n c]] W fun e W' => e = .returned (.int .i64 (if okk k n = true then 0 else 150)) ∧ Below W.heap.size W W' := by
  have HO := hid (fun w => opOf_any w k a ao n c)
  have HB : Hid (Below W.heap.size W (W.alloc (.cells #[.int .i64 k, .int .u32 a, .slice ao n c] 43))) := hid (below_one _ _)
  cases ho : okk k n
  · rw [ho] at HO
    simp only [Bool.false_eq_true, if_false] at HO ⊢
    go_enter Tryd.func52, Tryd.ntmps52
    go_wp2_with (go_at_call 38; refine (HO.out _).mono ?_; rintro e w1 ⟨rfl, hb⟩; have HC := hid (below_on HB.out hb); clear hb)
    go_ret
    exact ⟨rfl, HC.out⟩
  · rw [ho] at HO
    simp only [if_true] at HO ⊢
    generalize ivk k a ao n c = iv at *
    go_enter Tryd.func52, Tryd.ntmps52
    go_wp2_with (go_at_call 38; refine (HO.out _).mono ?_; rintro e w1 ⟨rfl, hb⟩; have HC := hid (below_on HB.out hb); clear hb)
    go_ret
    exact ⟨rfl, HC.out⟩
theorem lay_any (V W : World) (v : Value) (L : List Int) (H : Holds V W .u32 24 v L) (hb : (L.length + 1026) * 4 ≤ 140737488355328) (o : MOp) (ho : o.Ok) (ao : Option Addr) (c : Nat) (hat : At V .u32 ao o.ws) :
    Calls Tryd.prog 39 #[v, ivk o.k o.a ao o.ws.length c] W fun e W' => ∃ v', e = .returned v' ∧ Holds V W' .u32 24 v' (L ++ o.wds) := by
  obtain ⟨k, a, ws⟩ := o
  obtain ⟨h1, h4, hw⟩ := ho
  simp only at *
  obtain ⟨av, cv, rfl, _⟩ := H.at'
  have hk : k = 1 ∨ k = 2 ∨ k = 3 ∨ k = 4 := by omega
  clear h1 h4
  unfold MOp.wds
  simp only
  rcases hk with rfl | rfl | rfl | rfl
  · obtain rfl : ws = [] := List.eq_nil_of_length_eq_zero hw
    exact lay_1 V W av _ cv L H hb a
  · obtain rfl : ws = [] := List.eq_nil_of_length_eq_zero hw
    exact lay_2 V W av _ cv L H hb a
  · have hw' : ws.length = 1024 := hw
    rw [hw']
    exact lay_3 V W av _ cv L H hb a ao c ws hw' hat
  · obtain rfl : ws = [] := List.eq_nil_of_length_eq_zero hw
    exact lay_4 V W av _ cv L H hb a
end Go.Proofs.YtmomidkodjihjaaDoor
namespace Go.Proofs.YtmomidkodjihjaaDoor
open Go.RowKit
open H
set_option maxHeartbeats 4000000
set_option maxRecDepth 100000
structure Ov where
  o : MOp
  p : Option Addr
  c : Nat
def Ov.cs (x : Ov) : List Value := [.int .i64 x.o.k, .int .u32 x.o.a, .slice x.p x.o.ws.length x.c]
structure OL (W : World) (ao : Option Addr) (l : List Ov) : Prop where
  row : l = [] ∨ ∃ b off, ao = some ⟨b, off, none⟩ ∧ b < W.heap.size ∧ ∀ i x, l[i]? = some x → W.cell? ⟨b, off + i * 3, none⟩ = some (.int .i64 x.o.k) ∧ W.cell? ⟨b, off + i * 3 + 1, none⟩ = some (.int .u32 x.o.a) ∧ W.cell? ⟨b, off + i * 3 + 2, none⟩ = some (.slice x.p x.o.ws.length x.c)
  ws : ∀ x ∈ l, At W .u32 x.p x.o.ws
theorem OL.on {W w : World} {ao : Option Addr} {l : List Ov} (h : OL W ao l) (hb : Below W.heap.size W w) : OL w ao l := by
  refine ⟨?_, fun x hx => (h.ws x hx).below hb⟩
  rcases h.row with h0 | ⟨b, off, h1, h2, h3⟩
  · exact .inl h0
  · refine .inr ⟨b, off, h1, by have := hb.size; omega, fun i x hx => ?_⟩
    obtain ⟨a1, a2, a3⟩ := h3 i x hx
    exact ⟨(hb.cell (p := ⟨b, _, none⟩) h2).trans a1, (hb.cell (p := ⟨b, _, none⟩) h2).trans a2, (hb.cell (p := ⟨b, _, none⟩) h2).trans a3⟩
def enc (l : List MOp) : List Int := l.flatMap MOp.wds
theorem enc_snoc (l : List MOp) (o : MOp) : enc (l ++ [o]) = enc l ++ o.wds := by simp [enc]
theorem enc_take_le (l : List MOp) (j : Nat) : (enc (l.take j)).length ≤ (enc l).length := by
  have e : enc l = enc (l.take j) ++ enc (l.drop j) := by
    unfold enc
    rw [← List.flatMap_append, List.take_append_drop]
  rw [e, List.length_append]
  omega
theorem wds_len (o : MOp) (h : o.Ok) : 2 ≤ o.wds.length ∧ o.wds.length ≤ 1026 := by
  obtain ⟨_, _, h3⟩ := h
  unfold MOp.wds
  simp only [List.length_cons, h3]
  unfold pgN
  split <;> omega
def encR (l : List MOp) (e : Ending) (W W' : World) : Prop :=
  (∃ o ∈ l, ¬ o.Ok) ∧ e = .returned (.tuple #[.slice none 0 0, .int .i64 150]) ∨
  (∀ o ∈ l, o.Ok) ∧ 262144 < (enc l).length ∧ e = .returned (.tuple #[.slice none 0 0, .int .i64 2]) ∨
  (∀ o ∈ l, o.Ok) ∧ (enc l).length ≤ 262144 ∧ ∃ v, e = .returned (.tuple #[v, .int .i64 0]) ∧ Holds W W' .u32 24 v (enc l)
structure EncJ (W wr : World) (l : List Ov) (j : Nat) (v : Value) (L : List Int) : Prop where
  hold : Holds W wr .u32 24 v L
  ok : ∀ i x, i < j → l[i]? = some x → x.o.Ok
  len : L.length ≤ 263170
  is : L = enc ((l.take j).map Ov.o) ∨ 262144 < L.length ∧ 262144 < (enc ((l.take j).map Ov.o)).length
theorem EncJ.start (W : World) (l : List Ov) : EncJ W W l 0 (.slice none 0 0) [] := ⟨Holds.start _ _ _, fun i x h => by omega, by simp, .inl (by simp [enc])⟩
theorem take_snoc_map (l : List Ov) (j : Nat) (x : Ov) (h : l[j]? = some x) : (l.take (j + 1)).map Ov.o = (l.take j).map Ov.o ++ [x.o] := by
  rw [List.take_add_one, h]
  simp
theorem EncJ.skip {W wr w : World} {l : List Ov} {j : Nat} {v : Value} {L : List Int} (h : EncJ W wr l j v L) (x : Ov) (hx : l[j]? = some x) (ho : x.o.Ok) (hL : 262144 < L.length) (hw : Holds W w .u32 24 v L) : EncJ W w l (j + 1) v L := by
  refine ⟨hw, fun i y hi hy => ?_, h.len, .inr ⟨hL, ?_⟩⟩
  · by_cases e : i = j
    · subst e; rw [hx] at hy; cases hy; exact ho
    · exact h.ok i y (by omega) hy
  · rw [take_snoc_map l j x hx, enc_snoc, List.length_append]
    rcases h.is with e | ⟨_, e⟩
    · rw [← e]; omega
    · omega
theorem EncJ.more {W wr w : World} {l : List Ov} {j : Nat} {v v' : Value} {L : List Int} (h : EncJ W wr l j v L) (x : Ov) (hx : l[j]? = some x) (ho : x.o.Ok) (hL : L.length ≤ 262144) (hw : Holds W w .u32 24 v' (L ++ x.o.wds)) : EncJ W w l (j + 1) v' (L ++ x.o.wds) := by
  have hl := wds_len x.o ho
  refine ⟨hw, fun i y hi hy => ?_, by rw [List.length_append]; omega, ?_⟩
  · by_cases e : i = j
    · subst e; rw [hx] at hy; cases hy; exact ho
    · exact h.ok i y (by omega) hy
  · rw [take_snoc_map l j x hx, enc_snoc]
    rcases h.is with e | ⟨e, _⟩
    · rw [← e]; exact .inl rfl
    · omega
theorem holds_on {V W w : World} {v : Value} {L : List Int} (H : Holds V W .u32 24 v L) (hb : Below W.heap.size W w) : Holds V w .u32 24 v L := ⟨ownsRow_below H.own hb, below_on H.below hb⟩
theorem OL.at {W : World} {ao : Option Addr} {l : List Ov} (h : OL W ao l) {j : Nat} {x : Ov} (hx : l[j]? = some x) : ∃ b off, ao = some ⟨b, off, none⟩ ∧ ∀ w, Below W.heap.size W w → w.cell? ⟨b, off + j * 3, none⟩ = some (.int .i64 x.o.k) ∧ w.cell? ⟨b, off + j * 3 + 1, none⟩ = some (.int .u32 x.o.a) ∧ w.cell? ⟨b, off + j * 3 + 2, none⟩ = some (.slice x.p x.o.ws.length x.c) := by
  rcases h.row with h0 | ⟨b, off, h1, h2, h3⟩
  · rw [h0] at hx; simp at hx
  · refine ⟨b, off, h1, fun w hb => ?_⟩
    obtain ⟨a1, a2, a3⟩ := h3 j x hx
    exact ⟨(hb.cell (p := ⟨b, _, none⟩) h2).trans a1, (hb.cell (p := ⟨b, _, none⟩) h2).trans a2, (hb.cell (p := ⟨b, _, none⟩) h2).trans a3⟩
theorem encode_any (W : World) (ao : Option Addr) (n c : Nat) (l : List Ov) (hn : l.length = n) (h : OL W ao l) (hm : n ≤ 4611686018427387904) :
    Calls Tryd.prog 10 #[.slice ao n c] W fun e W' => Below W.heap.size W W' ∧ encR (l.map Ov.o) e W W' := by
  have HO := hid h
  have HN := hid hn
  have q0 : (n : Int) ≤ 4611686018427387904 := by omega
  clear h hm hn
  go_enter Tryd.func10, Tryd.ntmps10
  go_wp2_with fail
  go_loopw [4, 11] (fun v i wr => ∃ (j : Nat) (L : List Int), j ≤ n ∧ i = .int .i64 (j : Int) ∧ Hid (EncJ W wr l j v L)) (fun _ i _ => n - (intOf i).toNat)
  case atStart => exact ⟨0, [], Nat.zero_le _, rfl, hid (EncJ.start W l)⟩
  case round =>
    obtain ⟨j, L, hj, rfl, HQ⟩ := hrel
    by_cases hlt : j < n
    · obtain ⟨x, hx⟩ : ∃ x, l[j]? = some x := ⟨l[j]'(by rw [HN.out]; exact hlt), List.getElem?_eq_getElem _⟩
      obtain ⟨b, off, rfl, hc⟩ := HO.out.at hx
      obtain ⟨c0, c1, c2⟩ := hc wr HQ.out.hold.below
      have HX := hid hx
      have HJ := hid hlt
      have q1 : (j : Int) < (n : Int) := by omega
      have q2 : (0 : Int) ≤ (j : Int) := by omega
      have HOp := hid (fun w => opOf_any w x.o.k x.o.a x.p x.o.ws.length x.c)
      have HBx : Hid (Below wr.heap.size wr (wr.alloc (.cells #[.int .i64 x.o.k, .int .u32 x.o.a, .slice x.p x.o.ws.length x.c] 43))) := hid (below_one _ _)
      have HMem : Hid (x ∈ l) := hid (List.mem_of_getElem? hx)
      have HI := hid (okk_iff x.o)
      have HA := hid (HO.out.ws x HMem.out)
      obtain ⟨av, cv, hv, _⟩ := HQ.out.hold.at'
      subst hv
      clear hx hlt hc hj
      obtain ⟨⟨xk, xa, xw⟩, xp, xc⟩ := x
      simp only at HOp HBx c0 c1 c2 HI HA
      cases ho : okk xk xw.length
      · rw [ho] at HOp HI
        simp only [Bool.false_eq_true, if_false] at HOp
        clear ho
        go_wp2_with (go_at_call 38; refine (HOp.out _).mono ?_; rintro e w1 ⟨rfl, hb⟩; have HC := hid (below_on HBx.out hb); clear hb)
        go_ret2
        refine ⟨below_on HQ.out.hold.below HC.out, .inl ⟨⟨_, List.mem_map_of_mem HMem.out, ?_⟩, rfl⟩⟩
        exact fun hk => absurd (HI.out.2 hk) (by decide)
      · rw [ho] at HOp HI
        simp only [if_true] at HOp
        have hok : (⟨xk, xa, xw⟩ : MOp).Ok := HI.out.1 rfl
        by_cases hL : L.length ≤ 262144
        · have HLy := hid (fun w (hw : Holds W w .u32 24 (.slice av L.length cv) L) => lay_any W w _ L hw (by omega) ⟨xk, xa, xw⟩ hok xp xc HA.out)
          have hLi : (L.length : Int) ≤ 262144 := by omega
          have HK := hid hok
          have HLl := hid hL
          clear ho hok hL
          simp only at HLy
          generalize ivk xk xa xp xw.length xc = iv at *
          go_wp2_with (first | (go_at_call 38; refine (HOp.out _).mono ?_; rintro e w1 ⟨rfl, hb⟩; have HC := hid (below_on HBx.out hb); clear hb) | (go_at_call 39; refine (HLy.out _ (holds_on HQ.out.hold HC.out)).mono ?_; rintro e w2 ⟨v2, rfl, h2⟩; have H2 := hid h2; clear h2))
          go_roundw
          case measure => have := HJ.out; simp [intOf] <;> omega
          case rel => exact ⟨j + 1, _, HJ.out, by simp, hid (HQ.out.more _ HX.out HK.out HLl.out H2.out)⟩
        · have hLi : ¬ ((L.length : Int) ≤ 262144) := by omega
          have HK := hid hok
          have HLl := hid (show 262144 < L.length by omega)
          clear ho hok hL
          generalize ivk xk xa xp xw.length xc = iv at *
          go_wp2_with (first | (go_at_call 38; refine (HOp.out _).mono ?_; rintro e w1 ⟨rfl, hb⟩; have HC := hid (below_on HBx.out hb); clear hb))
          go_roundw
          case measure => have := HJ.out; simp [intOf] <;> omega
          case rel => exact ⟨j + 1, _, HJ.out, by simp, hid (HQ.out.skip _ HX.out HK.out HLl.out (holds_on HQ.out.hold HC.out))⟩
    · obtain rfl : j = n := by omega
      have HF : Hid ((∀ o ∈ l.map Ov.o, o.Ok) ∧ (L = enc (l.map Ov.o) ∨ 262144 < L.length ∧ 262144 < (enc (l.map Ov.o)).length)) := hid (by
        refine ⟨fun o ho => ?_, ?_⟩
        · obtain ⟨x, hx, rfl⟩ := List.mem_map.1 ho
          obtain ⟨i, hi⟩ := List.mem_iff_getElem?.1 hx
          exact HQ.out.ok i x (by rw [← HN.out]; exact (List.getElem?_eq_some_iff.1 hi).1) hi
        · have := HQ.out.is
          rwa [← HN.out, List.take_length] at this)
      obtain ⟨av, cv, hv, _⟩ := HQ.out.hold.at'
      subst hv
      clear hj hlt
      by_cases hL : L.length ≤ 262144
      · have hLi : (L.length : Int) ≤ 262144 := by omega
        have HLl := hid hL
        clear hL
        go_wp2_with fail
        go_ret2
        refine ⟨HQ.out.hold.below, .inr (.inr ?_)⟩
        rcases HF.out.2 with e | ⟨e, _⟩
        · exact ⟨HF.out.1, by rw [← e]; exact HLl.out, _, rfl, by rw [← e]; exact HQ.out.hold⟩
        · have := HLl.out; omega
      · have hLi : (262144 : Int) < (L.length : Int) := by omega
        have HLl := hid (show 262144 < L.length by omega)
        clear hL
        go_wp2_with fail
        go_ret2
        refine ⟨HQ.out.hold.below, .inr (.inl ?_)⟩
        rcases HF.out.2 with e | ⟨_, e⟩
        · exact ⟨HF.out.1, by rw [← e]; exact HLl.out, rfl⟩
        · exact ⟨HF.out.1, e, rfl⟩
end Go.Proofs.YtmomidkodjihjaaDoor
