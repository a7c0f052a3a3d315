/- operationOf, Check. -/
import Derived.Test.YtmomidkodjihjaaDoorMb
namespace Go.Proofs.YtmomidkodjihjaaDoor
open Go.RowKit
open H
set_option maxHeartbeats 4000000
set_option maxRecDepth 100000
/-- Do these fields say an operation? -/
def okk (k : Int) (n : Nat) : Bool := decide (1 ≤ k ∧ k ≤ 4 ∧ n = pgN k)
theorem okk_iff (o : MOp) : okk o.k o.ws.length = true ↔ o.Ok := by unfold okk MOp.Ok; exact decide_eq_true_iff
theorem opOf_bad (W : World) (a : Int) (ao : Option Addr) (n c : Nat) (k : Int) (h : n ≠ pgN k) :
    Calls Tryd.prog 38 #[.agg #[.int .i64 k, .int .u32 a, .slice ao n c]] W fun e W' => e = .returned (.tuple #[.nilIface, .int .i64 150]) ∧ Below W.heap.size W W' := by
  have HK := hid (fun w => pageOf_any w k)
  have hne : ((n : Int) != (pgN k : Int)) = true := by rw [bne_iff_ne]; omega
  have X0 : Hid (Cel (W.alloc (.cells #[.int .i64 k, .int .u32 a, .slice ao n c] 43)) W.heap.size 43 [.int .i64 k, .int .u32 a, .slice ao n c]) := hid (heap_alloc_new _ _)
  have HB : Hid (Below W.heap.size W (W.alloc (.cells #[.int .i64 k, .int .u32 a, .slice ao n c] 43))) := hid (below_one _ _)
  generalize pgN k = p at *
  clear h
  go_enter Tryd.func38, Tryd.ntmps38
  go_upto_region 1 with fail
  generalize World.alloc _ _ = X at *
  have HG : Hid (Below W.heap.size W X.drew) := hid HB.out.drew
  have Y0 : Hid (Cel X.drew W.heap.size 43 [.int .i64 k, .int .u32 a, .slice ao n c]) := hid X0.out
  clear HB X0
  generalize hgb : W.heap.size = gb at *
  refine wp_region_held_drew (S := fun w => Cel w gb 43 [.int .i64 k, .int .u32 a, .slice ao n c]) (by kernel_rfl) Y0.out (fun hHeld => ?_)
  generalize World.drew _ = w0 at *
  refine wpAnyH_take (i := 0) (oi := { dst := some 4, op := Op.fieldAddr 43 (Operand.tmp 1) 2, type := 0, pos := "operation.go:31", after := #[], guard := none }) (v := .pointer (some ⟨gb, 2, none⟩)) rfl (by kernel_rfl) (by kernel_rfl) (by kernel_rfl) (fun _ _ _ h => h) (Or.inl ⟨by rfl, by intro w hSw; go_simp⟩) (by assumption) ?_
  simp only [Act.put, List.setIfInBounds_toArray, List.set_cons_zero, List.set_cons_succ]
  refine wpAnyH_take (i := 1) (oi := { dst := some 5, op := Op.load 22 (Operand.tmp 4), type := 22, pos := "operation.go:31", after := #[{ on := 0, ground := Ground.data }], guard := none }) (v := .slice ao n c) rfl (by kernel_rfl) (by kernel_rfl) (by kernel_rfl) (fun _ _ _ h => h) (Or.inl ⟨by rfl, by intro w hSw; have hc := hSw.cell 2; simp only [List.getElem?_cons_zero, List.getElem?_cons_succ] at hc; go_simp⟩) (by assumption) ?_
  simp only [Act.put, List.setIfInBounds_toArray, List.set_cons_zero, List.set_cons_succ]
  refine wpAnyH_take (i := 2) (oi := { dst := some 6, op := Op.call { callee := Callee.builtin Builtin.len, args := #[Operand.tmp 5], argTypes := #[22] }, type := 3, pos := "operation.go:31", after := #[{ on := 1, ground := Ground.data }], guard := none }) (v := .int .i64 (n : Int)) rfl (by kernel_rfl) (by kernel_rfl) (by kernel_rfl) (fun _ _ _ h => h) (Or.inl ⟨by rfl, by intro w hSw; go_simp⟩) (by assumption) ?_
  simp only [Act.put, List.setIfInBounds_toArray, List.set_cons_zero, List.set_cons_succ]
  refine wpAnyH_take (i := 3) (oi := { dst := some 7, op := Op.fieldAddr 43 (Operand.tmp 1) 0, type := 0, pos := "operation.go:31", after := #[], guard := none }) (v := .pointer (some ⟨gb, 0, none⟩)) rfl (by kernel_rfl) (by kernel_rfl) (by kernel_rfl) (fun _ _ _ h => h) (Or.inl ⟨by rfl, by intro w hSw; go_simp⟩) (by assumption) ?_
  simp only [Act.put, List.setIfInBounds_toArray, List.set_cons_zero, List.set_cons_succ]
  refine wpAnyH_take (i := 4) (oi := { dst := some 8, op := Op.load 41 (Operand.tmp 7), type := 41, pos := "operation.go:31", after := #[{ on := 3, ground := Ground.data }], guard := none }) (v := .int .i64 k) rfl (by kernel_rfl) (by kernel_rfl) (by kernel_rfl) (fun _ _ _ h => h) (Or.inl ⟨by rfl, by intro w hSw; have hc := hSw.cell 0; simp only [List.getElem?_cons_zero] at hc; go_simp⟩) (by assumption) ?_
  simp only [Act.put, List.setIfInBounds_toArray, List.set_cons_zero, List.set_cons_succ]
  refine wpAnyH_ready (rs := [5]) (by kernel_rfl) (by simp) (AllReadyH.cons (o := { dst := some 9, op := Op.call { callee := Callee.value (Operand.func 55), args := #[Operand.tmp 8], argTypes := #[41] }, type := 3, pos := "operation.go:31", after := #[{ on := 4, ground := Ground.data }], guard := none }) rfl (fun KQ hK => ?_) AllReadyH.nil)
  go_simp
  refine (HK.out _).mono ?_
  rintro e w1 ⟨rfl, hw1⟩
  subst w1
  go_wp2_with fail
  refine hK.out _ _ Y0.out (fun hHeld => ?_)
  clear hK KQ
  try simp only [Act.put, List.setIfInBounds_toArray, List.set_cons_zero, List.set_cons_succ]
  refine wpAnyH_take (i := 6) (oi := { dst := some 10, op := Op.binOp BinOp.neq 3 (Operand.tmp 6) (Operand.tmp 9) 3, type := 4, pos := "operation.go:31", after := #[{ on := 2, ground := Ground.data }, { on := 5, ground := Ground.data }], guard := none }) (v := .bool true) rfl (by kernel_rfl) (by kernel_rfl) (by kernel_rfl) (fun _ _ _ h => h) (Or.inl ⟨by rfl, by intro w hSw; go_simp⟩) (by assumption) ?_
  simp only [Act.put, List.setIfInBounds_toArray, List.set_cons_zero, List.set_cons_succ]
  refine wpAnyH_done (by kernel_rfl) ?_ _
  go_wp2_with fail
  go_ret2
  subst hgb
  exact ⟨rfl, HG.out⟩
theorem opOf_0 (W : World) (a : Int) (ao : Option Addr) (n c : Nat) (k : Int) (h : n = pgN k) (h1 : (k == 1) = false) (h2 : (k == 2) = false) (h3 : (k == 3) = false) (h4 : (k == 4) = false) :
    Calls Tryd.prog 38 #[.agg #[.int .i64 k, .int .u32 a, .slice ao n c]] W fun e W' => e = .returned (.tuple #[.nilIface, .int .i64 150]) ∧ Below W.heap.size W W' := by
  have HK := hid (fun w => pageOf_any w k)
  have hne : ((n : Int) != (pgN k : Int)) = false := by rw [h]; simp
  have X0 : Hid (Cel (W.alloc (.cells #[.int .i64 k, .int .u32 a, .slice ao n c] 43)) W.heap.size 43 [.int .i64 k, .int .u32 a, .slice ao n c]) := hid (heap_alloc_new _ _)
  have HB : Hid (Below W.heap.size W (W.alloc (.cells #[.int .i64 k, .int .u32 a, .slice ao n c] 43))) := hid (below_one _ _)
  generalize pgN k = p at *
  clear h
  go_enter Tryd.func38, Tryd.ntmps38
  go_upto_region 1 with fail
  generalize World.alloc _ _ = X at *
  have HG : Hid (Below W.heap.size W X.drew) := hid HB.out.drew
  have Y0 : Hid (Cel X.drew W.heap.size 43 [.int .i64 k, .int .u32 a, .slice ao n c]) := hid X0.out
  clear HB X0
  generalize hgb : W.heap.size = gb at *
  refine wp_region_held_drew (S := fun w => Cel w gb 43 [.int .i64 k, .int .u32 a, .slice ao n c]) (by kernel_rfl) Y0.out (fun hHeld => ?_)
  generalize World.drew _ = w0 at *
  refine wpAnyH_take (i := 0) (oi := { dst := some 4, op := Op.fieldAddr 43 (Operand.tmp 1) 2, type := 0, pos := "operation.go:31", after := #[], guard := none }) (v := .pointer (some ⟨gb, 2, none⟩)) rfl (by kernel_rfl) (by kernel_rfl) (by kernel_rfl) (fun _ _ _ h => h) (Or.inl ⟨by rfl, by intro w hSw; go_simp⟩) (by assumption) ?_
  simp only [Act.put, List.setIfInBounds_toArray, List.set_cons_zero, List.set_cons_succ]
  refine wpAnyH_take (i := 1) (oi := { dst := some 5, op := Op.load 22 (Operand.tmp 4), type := 22, pos := "operation.go:31", after := #[{ on := 0, ground := Ground.data }], guard := none }) (v := .slice ao n c) rfl (by kernel_rfl) (by kernel_rfl) (by kernel_rfl) (fun _ _ _ h => h) (Or.inl ⟨by rfl, by intro w hSw; have hc := hSw.cell 2; simp only [List.getElem?_cons_zero, List.getElem?_cons_succ] at hc; go_simp⟩) (by assumption) ?_
  simp only [Act.put, List.setIfInBounds_toArray, List.set_cons_zero, List.set_cons_succ]
  refine wpAnyH_take (i := 2) (oi := { dst := some 6, op := Op.call { callee := Callee.builtin Builtin.len, args := #[Operand.tmp 5], argTypes := #[22] }, type := 3, pos := "operation.go:31", after := #[{ on := 1, ground := Ground.data }], guard := none }) (v := .int .i64 (n : Int)) rfl (by kernel_rfl) (by kernel_rfl) (by kernel_rfl) (fun _ _ _ h => h) (Or.inl ⟨by rfl, by intro w hSw; go_simp⟩) (by assumption) ?_
  simp only [Act.put, List.setIfInBounds_toArray, List.set_cons_zero, List.set_cons_succ]
  refine wpAnyH_take (i := 3) (oi := { dst := some 7, op := Op.fieldAddr 43 (Operand.tmp 1) 0, type := 0, pos := "operation.go:31", after := #[], guard := none }) (v := .pointer (some ⟨gb, 0, none⟩)) rfl (by kernel_rfl) (by kernel_rfl) (by kernel_rfl) (fun _ _ _ h => h) (Or.inl ⟨by rfl, by intro w hSw; go_simp⟩) (by assumption) ?_
  simp only [Act.put, List.setIfInBounds_toArray, List.set_cons_zero, List.set_cons_succ]
  refine wpAnyH_take (i := 4) (oi := { dst := some 8, op := Op.load 41 (Operand.tmp 7), type := 41, pos := "operation.go:31", after := #[{ on := 3, ground := Ground.data }], guard := none }) (v := .int .i64 k) rfl (by kernel_rfl) (by kernel_rfl) (by kernel_rfl) (fun _ _ _ h => h) (Or.inl ⟨by rfl, by intro w hSw; have hc := hSw.cell 0; simp only [List.getElem?_cons_zero] at hc; go_simp⟩) (by assumption) ?_
  simp only [Act.put, List.setIfInBounds_toArray, List.set_cons_zero, List.set_cons_succ]
  refine wpAnyH_ready (rs := [5]) (by kernel_rfl) (by simp) (AllReadyH.cons (o := { dst := some 9, op := Op.call { callee := Callee.value (Operand.func 55), args := #[Operand.tmp 8], argTypes := #[41] }, type := 3, pos := "operation.go:31", after := #[{ on := 4, ground := Ground.data }], guard := none }) rfl (fun KQ hK => ?_) AllReadyH.nil)
  go_simp
  refine (HK.out _).mono ?_
  rintro e w1 ⟨rfl, hw1⟩
  subst w1
  go_wp2_with fail
  refine hK.out _ _ Y0.out (fun hHeld => ?_)
  clear hK KQ
  try simp only [Act.put, List.setIfInBounds_toArray, List.set_cons_zero, List.set_cons_succ]
  refine wpAnyH_take (i := 6) (oi := { dst := some 10, op := Op.binOp BinOp.neq 3 (Operand.tmp 6) (Operand.tmp 9) 3, type := 4, pos := "operation.go:31", after := #[{ on := 2, ground := Ground.data }, { on := 5, ground := Ground.data }], guard := none }) (v := .bool false) rfl (by kernel_rfl) (by kernel_rfl) (by kernel_rfl) (fun _ _ _ h => h) (Or.inl ⟨by rfl, by intro w hSw; go_simp⟩) (by assumption) ?_
  simp only [Act.put, List.setIfInBounds_toArray, List.set_cons_zero, List.set_cons_succ]
  refine wpAnyH_done (by kernel_rfl) ?_ _
  have c0 := Y0.out.cell 0
  have c1 := Y0.out.cell 1
  have c2 := Y0.out.cell 2
  simp only [List.getElem?_cons_zero, List.getElem?_cons_succ] at c0 c1 c2
  go_wp2_with fail
  go_ret2
  subst hgb
  exact ⟨rfl, HG.out⟩
theorem opOf_1 (W : World) (a : Int) (ao : Option Addr) (n c : Nat) (h : n = pgN 1) :
    Calls Tryd.prog 38 #[.agg #[.int .i64 1, .int .u32 a, .slice ao n c]] W fun e W' => e = .returned (.tuple #[.iface 112 (.int .u32 a), .int .i64 0]) ∧ Below W.heap.size W W' := by
  have HK := hid (fun w => pageOf_any w 1)
  have hne : ((n : Int) != (pgN 1 : Int)) = false := by rw [h]; simp
  have X0 : Hid (Cel (W.alloc (.cells #[.int .i64 1, .int .u32 a, .slice ao n c] 43)) W.heap.size 43 [.int .i64 1, .int .u32 a, .slice ao n c]) := hid (heap_alloc_new _ _)
  have HB : Hid (Below W.heap.size W (W.alloc (.cells #[.int .i64 1, .int .u32 a, .slice ao n c] 43))) := hid (below_one _ _)
  generalize pgN 1 = p at *
  clear h
  go_enter Tryd.func38, Tryd.ntmps38
  go_upto_region 1 with fail
  generalize World.alloc _ _ = X at *
  have HG : Hid (Below W.heap.size W X.drew) := hid HB.out.drew
  have Y0 : Hid (Cel X.drew W.heap.size 43 [.int .i64 1, .int .u32 a, .slice ao n c]) := hid X0.out
  clear HB X0
  generalize hgb : W.heap.size = gb at *
  refine wp_region_held_drew (S := fun w => Cel w gb 43 [.int .i64 1, .int .u32 a, .slice ao n c]) (by kernel_rfl) Y0.out (fun hHeld => ?_)
  generalize World.drew _ = w0 at *
  refine wpAnyH_take (i := 0) (oi := { dst := some 4, op := Op.fieldAddr 43 (Operand.tmp 1) 2, type := 0, pos := "operation.go:31", after := #[], guard := none }) (v := .pointer (some ⟨gb, 2, none⟩)) rfl (by kernel_rfl) (by kernel_rfl) (by kernel_rfl) (fun _ _ _ h => h) (Or.inl ⟨by rfl, by intro w hSw; go_simp⟩) (by assumption) ?_
  simp only [Act.put, List.setIfInBounds_toArray, List.set_cons_zero, List.set_cons_succ]
  refine wpAnyH_take (i := 1) (oi := { dst := some 5, op := Op.load 22 (Operand.tmp 4), type := 22, pos := "operation.go:31", after := #[{ on := 0, ground := Ground.data }], guard := none }) (v := .slice ao n c) rfl (by kernel_rfl) (by kernel_rfl) (by kernel_rfl) (fun _ _ _ h => h) (Or.inl ⟨by rfl, by intro w hSw; have hc := hSw.cell 2; simp only [List.getElem?_cons_zero, List.getElem?_cons_succ] at hc; go_simp⟩) (by assumption) ?_
  simp only [Act.put, List.setIfInBounds_toArray, List.set_cons_zero, List.set_cons_succ]
  refine wpAnyH_take (i := 2) (oi := { dst := some 6, op := Op.call { callee := Callee.builtin Builtin.len, args := #[Operand.tmp 5], argTypes := #[22] }, type := 3, pos := "operation.go:31", after := #[{ on := 1, ground := Ground.data }], guard := none }) (v := .int .i64 (n : Int)) rfl (by kernel_rfl) (by kernel_rfl) (by kernel_rfl) (fun _ _ _ h => h) (Or.inl ⟨by rfl, by intro w hSw; go_simp⟩) (by assumption) ?_
  simp only [Act.put, List.setIfInBounds_toArray, List.set_cons_zero, List.set_cons_succ]
  refine wpAnyH_take (i := 3) (oi := { dst := some 7, op := Op.fieldAddr 43 (Operand.tmp 1) 0, type := 0, pos := "operation.go:31", after := #[], guard := none }) (v := .pointer (some ⟨gb, 0, none⟩)) rfl (by kernel_rfl) (by kernel_rfl) (by kernel_rfl) (fun _ _ _ h => h) (Or.inl ⟨by rfl, by intro w hSw; go_simp⟩) (by assumption) ?_
  simp only [Act.put, List.setIfInBounds_toArray, List.set_cons_zero, List.set_cons_succ]
  refine wpAnyH_take (i := 4) (oi := { dst := some 8, op := Op.load 41 (Operand.tmp 7), type := 41, pos := "operation.go:31", after := #[{ on := 3, ground := Ground.data }], guard := none }) (v := .int .i64 1) rfl (by kernel_rfl) (by kernel_rfl) (by kernel_rfl) (fun _ _ _ h => h) (Or.inl ⟨by rfl, by intro w hSw; have hc := hSw.cell 0; simp only [List.getElem?_cons_zero] at hc; go_simp⟩) (by assumption) ?_
  simp only [Act.put, List.setIfInBounds_toArray, List.set_cons_zero, List.set_cons_succ]
  refine wpAnyH_ready (rs := [5]) (by kernel_rfl) (by simp) (AllReadyH.cons (o := { dst := some 9, op := Op.call { callee := Callee.value (Operand.func 55), args := #[Operand.tmp 8], argTypes := #[41] }, type := 3, pos := "operation.go:31", after := #[{ on := 4, ground := Ground.data }], guard := none }) rfl (fun KQ hK => ?_) AllReadyH.nil)
  go_simp
  refine (HK.out _).mono ?_
  rintro e w1 ⟨rfl, hw1⟩
  subst w1
  go_wp2_with fail
  refine hK.out _ _ Y0.out (fun hHeld => ?_)
  clear hK KQ
  try simp only [Act.put, List.setIfInBounds_toArray, List.set_cons_zero, List.set_cons_succ]
  refine wpAnyH_take (i := 6) (oi := { dst := some 10, op := Op.binOp BinOp.neq 3 (Operand.tmp 6) (Operand.tmp 9) 3, type := 4, pos := "operation.go:31", after := #[{ on := 2, ground := Ground.data }, { on := 5, ground := Ground.data }], guard := none }) (v := .bool false) rfl (by kernel_rfl) (by kernel_rfl) (by kernel_rfl) (fun _ _ _ h => h) (Or.inl ⟨by rfl, by intro w hSw; go_simp⟩) (by assumption) ?_
  simp only [Act.put, List.setIfInBounds_toArray, List.set_cons_zero, List.set_cons_succ]
  refine wpAnyH_done (by kernel_rfl) ?_ _
  have c0 := Y0.out.cell 0
  have c1 := Y0.out.cell 1
  have c2 := Y0.out.cell 2
  simp only [List.getElem?_cons_zero, List.getElem?_cons_succ] at c0 c1 c2
  go_wp2_with fail
  go_ret2
  subst hgb
  exact ⟨rfl, HG.out⟩
theorem opOf_2 (W : World) (a : Int) (ao : Option Addr) (n c : Nat) (h : n = pgN 2) :
    Calls Tryd.prog 38 #[.agg #[.int .i64 2, .int .u32 a, .slice ao n c]] W fun e W' => e = .returned (.tuple #[.iface 113 (.int .u32 a), .int .i64 0]) ∧ Below W.heap.size W W' := by
  have HK := hid (fun w => pageOf_any w 2)
  have hne : ((n : Int) != (pgN 2 : Int)) = false := by rw [h]; simp
  have X0 : Hid (Cel (W.alloc (.cells #[.int .i64 2, .int .u32 a, .slice ao n c] 43)) W.heap.size 43 [.int .i64 2, .int .u32 a, .slice ao n c]) := hid (heap_alloc_new _ _)
  have HB : Hid (Below W.heap.size W (W.alloc (.cells #[.int .i64 2, .int .u32 a, .slice ao n c] 43))) := hid (below_one _ _)
  generalize pgN 2 = p at *
  clear h
  go_enter Tryd.func38, Tryd.ntmps38
  go_upto_region 1 with fail
  generalize World.alloc _ _ = X at *
  have HG : Hid (Below W.heap.size W X.drew) := hid HB.out.drew
  have Y0 : Hid (Cel X.drew W.heap.size 43 [.int .i64 2, .int .u32 a, .slice ao n c]) := hid X0.out
  clear HB X0
  generalize hgb : W.heap.size = gb at *
  refine wp_region_held_drew (S := fun w => Cel w gb 43 [.int .i64 2, .int .u32 a, .slice ao n c]) (by kernel_rfl) Y0.out (fun hHeld => ?_)
  generalize World.drew _ = w0 at *
  refine wpAnyH_take (i := 0) (oi := { dst := some 4, op := Op.fieldAddr 43 (Operand.tmp 1) 2, type := 0, pos := "operation.go:31", after := #[], guard := none }) (v := .pointer (some ⟨gb, 2, none⟩)) rfl (by kernel_rfl) (by kernel_rfl) (by kernel_rfl) (fun _ _ _ h => h) (Or.inl ⟨by rfl, by intro w hSw; go_simp⟩) (by assumption) ?_
  simp only [Act.put, List.setIfInBounds_toArray, List.set_cons_zero, List.set_cons_succ]
  refine wpAnyH_take (i := 1) (oi := { dst := some 5, op := Op.load 22 (Operand.tmp 4), type := 22, pos := "operation.go:31", after := #[{ on := 0, ground := Ground.data }], guard := none }) (v := .slice ao n c) rfl (by kernel_rfl) (by kernel_rfl) (by kernel_rfl) (fun _ _ _ h => h) (Or.inl ⟨by rfl, by intro w hSw; have hc := hSw.cell 2; simp only [List.getElem?_cons_zero, List.getElem?_cons_succ] at hc; go_simp⟩) (by assumption) ?_
  simp only [Act.put, List.setIfInBounds_toArray, List.set_cons_zero, List.set_cons_succ]
  refine wpAnyH_take (i := 2) (oi := { dst := some 6, op := Op.call { callee := Callee.builtin Builtin.len, args := #[Operand.tmp 5], argTypes := #[22] }, type := 3, pos := "operation.go:31", after := #[{ on := 1, ground := Ground.data }], guard := none }) (v := .int .i64 (n : Int)) rfl (by kernel_rfl) (by kernel_rfl) (by kernel_rfl) (fun _ _ _ h => h) (Or.inl ⟨by rfl, by intro w hSw; go_simp⟩) (by assumption) ?_
  simp only [Act.put, List.setIfInBounds_toArray, List.set_cons_zero, List.set_cons_succ]
  refine wpAnyH_take (i := 3) (oi := { dst := some 7, op := Op.fieldAddr 43 (Operand.tmp 1) 0, type := 0, pos := "operation.go:31", after := #[], guard := none }) (v := .pointer (some ⟨gb, 0, none⟩)) rfl (by kernel_rfl) (by kernel_rfl) (by kernel_rfl) (fun _ _ _ h => h) (Or.inl ⟨by rfl, by intro w hSw; go_simp⟩) (by assumption) ?_
  simp only [Act.put, List.setIfInBounds_toArray, List.set_cons_zero, List.set_cons_succ]
  refine wpAnyH_take (i := 4) (oi := { dst := some 8, op := Op.load 41 (Operand.tmp 7), type := 41, pos := "operation.go:31", after := #[{ on := 3, ground := Ground.data }], guard := none }) (v := .int .i64 2) rfl (by kernel_rfl) (by kernel_rfl) (by kernel_rfl) (fun _ _ _ h => h) (Or.inl ⟨by rfl, by intro w hSw; have hc := hSw.cell 0; simp only [List.getElem?_cons_zero] at hc; go_simp⟩) (by assumption) ?_
  simp only [Act.put, List.setIfInBounds_toArray, List.set_cons_zero, List.set_cons_succ]
  refine wpAnyH_ready (rs := [5]) (by kernel_rfl) (by simp) (AllReadyH.cons (o := { dst := some 9, op := Op.call { callee := Callee.value (Operand.func 55), args := #[Operand.tmp 8], argTypes := #[41] }, type := 3, pos := "operation.go:31", after := #[{ on := 4, ground := Ground.data }], guard := none }) rfl (fun KQ hK => ?_) AllReadyH.nil)
  go_simp
  refine (HK.out _).mono ?_
  rintro e w1 ⟨rfl, hw1⟩
  subst w1
  go_wp2_with fail
  refine hK.out _ _ Y0.out (fun hHeld => ?_)
  clear hK KQ
  try simp only [Act.put, List.setIfInBounds_toArray, List.set_cons_zero, List.set_cons_succ]
  refine wpAnyH_take (i := 6) (oi := { dst := some 10, op := Op.binOp BinOp.neq 3 (Operand.tmp 6) (Operand.tmp 9) 3, type := 4, pos := "operation.go:31", after := #[{ on := 2, ground := Ground.data }, { on := 5, ground := Ground.data }], guard := none }) (v := .bool false) rfl (by kernel_rfl) (by kernel_rfl) (by kernel_rfl) (fun _ _ _ h => h) (Or.inl ⟨by rfl, by intro w hSw; go_simp⟩) (by assumption) ?_
  simp only [Act.put, List.setIfInBounds_toArray, List.set_cons_zero, List.set_cons_succ]
  refine wpAnyH_done (by kernel_rfl) ?_ _
  have c0 := Y0.out.cell 0
  have c1 := Y0.out.cell 1
  have c2 := Y0.out.cell 2
  simp only [List.getElem?_cons_zero, List.getElem?_cons_succ] at c0 c1 c2
  go_wp2_with fail
  go_ret2
  subst hgb
  exact ⟨rfl, HG.out⟩
theorem opOf_3 (W : World) (a : Int) (ao : Option Addr) (n c : Nat) (h : n = pgN 3) :
    Calls Tryd.prog 38 #[.agg #[.int .i64 3, .int .u32 a, .slice ao n c]] W fun e W' => e = .returned (.tuple #[.iface 115 (.agg #[.int .u32 a, .slice ao n c]), .int .i64 0]) ∧ Below W.heap.size W W' := by
  have HK := hid (fun w => pageOf_any w 3)
  have hne : ((n : Int) != (pgN 3 : Int)) = false := by rw [h]; simp
  have X0 : Hid (Cel (W.alloc (.cells #[.int .i64 3, .int .u32 a, .slice ao n c] 43)) W.heap.size 43 [.int .i64 3, .int .u32 a, .slice ao n c]) := hid (heap_alloc_new _ _)
  have HB : Hid (Below W.heap.size W (W.alloc (.cells #[.int .i64 3, .int .u32 a, .slice ao n c] 43))) := hid (below_one _ _)
  generalize pgN 3 = p at *
  clear h
  go_enter Tryd.func38, Tryd.ntmps38
  go_upto_region 1 with fail
  generalize World.alloc _ _ = X at *
  have HG : Hid (Below W.heap.size W X.drew) := hid HB.out.drew
  have Y0 : Hid (Cel X.drew W.heap.size 43 [.int .i64 3, .int .u32 a, .slice ao n c]) := hid X0.out
  clear HB X0
  generalize hgb : W.heap.size = gb at *
  refine wp_region_held_drew (S := fun w => Cel w gb 43 [.int .i64 3, .int .u32 a, .slice ao n c]) (by kernel_rfl) Y0.out (fun hHeld => ?_)
  generalize World.drew _ = w0 at *
  refine wpAnyH_take (i := 0) (oi := { dst := some 4, op := Op.fieldAddr 43 (Operand.tmp 1) 2, type := 0, pos := "operation.go:31", after := #[], guard := none }) (v := .pointer (some ⟨gb, 2, none⟩)) rfl (by kernel_rfl) (by kernel_rfl) (by kernel_rfl) (fun _ _ _ h => h) (Or.inl ⟨by rfl, by intro w hSw; go_simp⟩) (by assumption) ?_
  simp only [Act.put, List.setIfInBounds_toArray, List.set_cons_zero, List.set_cons_succ]
  refine wpAnyH_take (i := 1) (oi := { dst := some 5, op := Op.load 22 (Operand.tmp 4), type := 22, pos := "operation.go:31", after := #[{ on := 0, ground := Ground.data }], guard := none }) (v := .slice ao n c) rfl (by kernel_rfl) (by kernel_rfl) (by kernel_rfl) (fun _ _ _ h => h) (Or.inl ⟨by rfl, by intro w hSw; have hc := hSw.cell 2; simp only [List.getElem?_cons_zero, List.getElem?_cons_succ] at hc; go_simp⟩) (by assumption) ?_
  simp only [Act.put, List.setIfInBounds_toArray, List.set_cons_zero, List.set_cons_succ]
  refine wpAnyH_take (i := 2) (oi := { dst := some 6, op := Op.call { callee := Callee.builtin Builtin.len, args := #[Operand.tmp 5], argTypes := #[22] }, type := 3, pos := "operation.go:31", after := #[{ on := 1, ground := Ground.data }], guard := none }) (v := .int .i64 (n : Int)) rfl (by kernel_rfl) (by kernel_rfl) (by kernel_rfl) (fun _ _ _ h => h) (Or.inl ⟨by rfl, by intro w hSw; go_simp⟩) (by assumption) ?_
  simp only [Act.put, List.setIfInBounds_toArray, List.set_cons_zero, List.set_cons_succ]
  refine wpAnyH_take (i := 3) (oi := { dst := some 7, op := Op.fieldAddr 43 (Operand.tmp 1) 0, type := 0, pos := "operation.go:31", after := #[], guard := none }) (v := .pointer (some ⟨gb, 0, none⟩)) rfl (by kernel_rfl) (by kernel_rfl) (by kernel_rfl) (fun _ _ _ h => h) (Or.inl ⟨by rfl, by intro w hSw; go_simp⟩) (by assumption) ?_
  simp only [Act.put, List.setIfInBounds_toArray, List.set_cons_zero, List.set_cons_succ]
  refine wpAnyH_take (i := 4) (oi := { dst := some 8, op := Op.load 41 (Operand.tmp 7), type := 41, pos := "operation.go:31", after := #[{ on := 3, ground := Ground.data }], guard := none }) (v := .int .i64 3) rfl (by kernel_rfl) (by kernel_rfl) (by kernel_rfl) (fun _ _ _ h => h) (Or.inl ⟨by rfl, by intro w hSw; have hc := hSw.cell 0; simp only [List.getElem?_cons_zero] at hc; go_simp⟩) (by assumption) ?_
  simp only [Act.put, List.setIfInBounds_toArray, List.set_cons_zero, List.set_cons_succ]
  refine wpAnyH_ready (rs := [5]) (by kernel_rfl) (by simp) (AllReadyH.cons (o := { dst := some 9, op := Op.call { callee := Callee.value (Operand.func 55), args := #[Operand.tmp 8], argTypes := #[41] }, type := 3, pos := "operation.go:31", after := #[{ on := 4, ground := Ground.data }], guard := none }) rfl (fun KQ hK => ?_) AllReadyH.nil)
  go_simp
  refine (HK.out _).mono ?_
  rintro e w1 ⟨rfl, hw1⟩
  subst w1
  go_wp2_with fail
  refine hK.out _ _ Y0.out (fun hHeld => ?_)
  clear hK KQ
  try simp only [Act.put, List.setIfInBounds_toArray, List.set_cons_zero, List.set_cons_succ]
  refine wpAnyH_take (i := 6) (oi := { dst := some 10, op := Op.binOp BinOp.neq 3 (Operand.tmp 6) (Operand.tmp 9) 3, type := 4, pos := "operation.go:31", after := #[{ on := 2, ground := Ground.data }, { on := 5, ground := Ground.data }], guard := none }) (v := .bool false) rfl (by kernel_rfl) (by kernel_rfl) (by kernel_rfl) (fun _ _ _ h => h) (Or.inl ⟨by rfl, by intro w hSw; go_simp⟩) (by assumption) ?_
  simp only [Act.put, List.setIfInBounds_toArray, List.set_cons_zero, List.set_cons_succ]
  refine wpAnyH_done (by kernel_rfl) ?_ _
  have c0 := Y0.out.cell 0
  have c1 := Y0.out.cell 1
  have c2 := Y0.out.cell 2
  simp only [List.getElem?_cons_zero, List.getElem?_cons_succ] at c0 c1 c2
  go_wp2_with fail
  go_ret2
  subst hgb
  exact ⟨rfl, HG.out⟩
theorem opOf_4 (W : World) (a : Int) (ao : Option Addr) (n c : Nat) (h : n = pgN 4) :
    Calls Tryd.prog 38 #[.agg #[.int .i64 4, .int .u32 a, .slice ao n c]] W fun e W' => e = .returned (.tuple #[.iface 116 (.int .u32 a), .int .i64 0]) ∧ Below W.heap.size W W' := by
  have HK := hid (fun w => pageOf_any w 4)
  have hne : ((n : Int) != (pgN 4 : Int)) = false := by rw [h]; simp
  have X0 : Hid (Cel (W.alloc (.cells #[.int .i64 4, .int .u32 a, .slice ao n c] 43)) W.heap.size 43 [.int .i64 4, .int .u32 a, .slice ao n c]) := hid (heap_alloc_new _ _)
  have HB : Hid (Below W.heap.size W (W.alloc (.cells #[.int .i64 4, .int .u32 a, .slice ao n c] 43))) := hid (below_one _ _)
  generalize pgN 4 = p at *
  clear h
  go_enter Tryd.func38, Tryd.ntmps38
  go_upto_region 1 with fail
  generalize World.alloc _ _ = X at *
  have HG : Hid (Below W.heap.size W X.drew) := hid HB.out.drew
  have Y0 : Hid (Cel X.drew W.heap.size 43 [.int .i64 4, .int .u32 a, .slice ao n c]) := hid X0.out
  clear HB X0
  generalize hgb : W.heap.size = gb at *
  refine wp_region_held_drew (S := fun w => Cel w gb 43 [.int .i64 4, .int .u32 a, .slice ao n c]) (by kernel_rfl) Y0.out (fun hHeld => ?_)
  generalize World.drew _ = w0 at *
  refine wpAnyH_take (i := 0) (oi := { dst := some 4, op := Op.fieldAddr 43 (Operand.tmp 1) 2, type := 0, pos := "operation.go:31", after := #[], guard := none }) (v := .pointer (some ⟨gb, 2, none⟩)) rfl (by kernel_rfl) (by kernel_rfl) (by kernel_rfl) (fun _ _ _ h => h) (Or.inl ⟨by rfl, by intro w hSw; go_simp⟩) (by assumption) ?_
  simp only [Act.put, List.setIfInBounds_toArray, List.set_cons_zero, List.set_cons_succ]
  refine wpAnyH_take (i := 1) (oi := { dst := some 5, op := Op.load 22 (Operand.tmp 4), type := 22, pos := "operation.go:31", after := #[{ on := 0, ground := Ground.data }], guard := none }) (v := .slice ao n c) rfl (by kernel_rfl) (by kernel_rfl) (by kernel_rfl) (fun _ _ _ h => h) (Or.inl ⟨by rfl, by intro w hSw; have hc := hSw.cell 2; simp only [List.getElem?_cons_zero, List.getElem?_cons_succ] at hc; go_simp⟩) (by assumption) ?_
  simp only [Act.put, List.setIfInBounds_toArray, List.set_cons_zero, List.set_cons_succ]
  refine wpAnyH_take (i := 2) (oi := { dst := some 6, op := Op.call { callee := Callee.builtin Builtin.len, args := #[Operand.tmp 5], argTypes := #[22] }, type := 3, pos := "operation.go:31", after := #[{ on := 1, ground := Ground.data }], guard := none }) (v := .int .i64 (n : Int)) rfl (by kernel_rfl) (by kernel_rfl) (by kernel_rfl) (fun _ _ _ h => h) (Or.inl ⟨by rfl, by intro w hSw; go_simp⟩) (by assumption) ?_
  simp only [Act.put, List.setIfInBounds_toArray, List.set_cons_zero, List.set_cons_succ]
  refine wpAnyH_take (i := 3) (oi := { dst := some 7, op := Op.fieldAddr 43 (Operand.tmp 1) 0, type := 0, pos := "operation.go:31", after := #[], guard := none }) (v := .pointer (some ⟨gb, 0, none⟩)) rfl (by kernel_rfl) (by kernel_rfl) (by kernel_rfl) (fun _ _ _ h => h) (Or.inl ⟨by rfl, by intro w hSw; go_simp⟩) (by assumption) ?_
  simp only [Act.put, List.setIfInBounds_toArray, List.set_cons_zero, List.set_cons_succ]
  refine wpAnyH_take (i := 4) (oi := { dst := some 8, op := Op.load 41 (Operand.tmp 7), type := 41, pos := "operation.go:31", after := #[{ on := 3, ground := Ground.data }], guard := none }) (v := .int .i64 4) rfl (by kernel_rfl) (by kernel_rfl) (by kernel_rfl) (fun _ _ _ h => h) (Or.inl ⟨by rfl, by intro w hSw; have hc := hSw.cell 0; simp only [List.getElem?_cons_zero] at hc; go_simp⟩) (by assumption) ?_
  simp only [Act.put, List.setIfInBounds_toArray, List.set_cons_zero, List.set_cons_succ]
  refine wpAnyH_ready (rs := [5]) (by kernel_rfl) (by simp) (AllReadyH.cons (o := { dst := some 9, op := Op.call { callee := Callee.value (Operand.func 55), args := #[Operand.tmp 8], argTypes := #[41] }, type := 3, pos := "operation.go:31", after := #[{ on := 4, ground := Ground.data }], guard := none }) rfl (fun KQ hK => ?_) AllReadyH.nil)
  go_simp
  refine (HK.out _).mono ?_
  rintro e w1 ⟨rfl, hw1⟩
  subst w1
  go_wp2_with fail
  refine hK.out _ _ Y0.out (fun hHeld => ?_)
  clear hK KQ
  try simp only [Act.put, List.setIfInBounds_toArray, List.set_cons_zero, List.set_cons_succ]
  refine wpAnyH_take (i := 6) (oi := { dst := some 10, op := Op.binOp BinOp.neq 3 (Operand.tmp 6) (Operand.tmp 9) 3, type := 4, pos := "operation.go:31", after := #[{ on := 2, ground := Ground.data }, { on := 5, ground := Ground.data }], guard := none }) (v := .bool false) rfl (by kernel_rfl) (by kernel_rfl) (by kernel_rfl) (fun _ _ _ h => h) (Or.inl ⟨by rfl, by intro w hSw; go_simp⟩) (by assumption) ?_
  simp only [Act.put, List.setIfInBounds_toArray, List.set_cons_zero, List.set_cons_succ]
  refine wpAnyH_done (by kernel_rfl) ?_ _
  have c0 := Y0.out.cell 0
  have c1 := Y0.out.cell 1
  have c2 := Y0.out.cell 2
  simp only [List.getElem?_cons_zero, List.getElem?_cons_succ] at c0 c1 c2
  go_wp2_with fail
  go_ret2
  subst hgb
  exact ⟨rfl, HG.out⟩
theorem opOf_any (W : World) (k a : Int) (ao : Option Addr) (n c : Nat) :
    Calls Tryd.prog 38 #[.agg #[.int .i64 k, .int .u32 a, .slice ao n c]] W fun e W' => e = .returned (if okk k n = true then .tuple #[ivk k a ao n c, .int .i64 0] else .tuple #[.nilIface, .int .i64 150]) ∧ Below W.heap.size W W' := by
  by_cases hn : n = pgN k
  · by_cases hk : 1 ≤ k ∧ k ≤ 4
    · have ho : okk k n = true := by unfold okk; exact decide_eq_true ⟨hk.1, hk.2, hn⟩
      rw [if_pos ho]
      have h4 : k = 1 ∨ k = 2 ∨ k = 3 ∨ k = 4 := by omega
      clear ho hk
      rcases h4 with rfl | rfl | rfl | rfl
      · exact opOf_1 W a ao n c hn
      · exact opOf_2 W a ao n c hn
      · exact opOf_3 W a ao n c hn
      · exact opOf_4 W a ao n c hn
    · have ho : ¬ okk k n = true := by unfold okk; rw [decide_eq_true_iff]; intro h; exact hk ⟨h.1, h.2.1⟩
      rw [if_neg ho]
      exact opOf_0 W a ao n c k hn (by simp; omega) (by simp; omega) (by simp; omega) (by simp; omega)
  · have ho : ¬ okk k n = true := by unfold okk; rw [decide_eq_true_iff]; intro h; exact hn h.2.2
    rw [if_neg ho]
    exact opOf_bad W a ao n c k hn
theorem check_any (W : World) (k a : Int) (ao : Option Addr) (n c : Nat) :
    Calls Tryd.prog 52 #[.agg #[.int .i64 k, .int .u32 a, .slice ao n c]] W fun e W' => e = .returned (.int .i64 (if okk k n = true then 0 else 150)) ∧ Below W.heap.size W W' := by
  have HO := hid (fun w => opOf_any w k a ao n c)
  have HB : Hid (Below W.heap.size W (W.alloc (.cells #[.int .i64 k, .int .u32 a, .slice ao n c] 43))) := hid (below_one _ _)
  cases ho : okk k n
  · rw [ho] at HO
    simp only [Bool.false_eq_true, if_false] at HO ⊢
    go_enter Tryd.func52, Tryd.ntmps52
    go_wp2_with (go_at_call 38; refine (HO.out _).mono ?_; rintro e w1 ⟨rfl, hb⟩; have HC := hid (below_on HB.out hb); clear hb)
    go_ret
    exact ⟨rfl, HC.out⟩
  · rw [ho] at HO
    simp only [if_true] at HO ⊢
    generalize ivk k a ao n c = iv at *
    go_enter Tryd.func52, Tryd.ntmps52
    go_wp2_with (go_at_call 38; refine (HO.out _).mono ?_; rintro e w1 ⟨rfl, hb⟩; have HC := hid (below_on HB.out hb); clear hb)
    go_ret
    exact ⟨rfl, HC.out⟩
/-- The words of an operation laid behind a list of the call's own. -/
theorem lay_any (V W : World) (v : Value) (L : List Int) (H : Holds V W .u32 24 v L) (hb : (L.length + 1026) * 4 ≤ 140737488355328) (o : MOp) (ho : o.Ok) (ao : Option Addr) (c : Nat) (hat : At V .u32 ao o.ws) :
    Calls Tryd.prog 39 #[v, ivk o.k o.a ao o.ws.length c] W fun e W' => ∃ v', e = .returned v' ∧ Holds V W' .u32 24 v' (L ++ o.wds) := by
  obtain ⟨k, a, ws⟩ := o
  obtain ⟨h1, h4, hw⟩ := ho
  simp only at *
  obtain ⟨av, cv, rfl, _⟩ := H.at'
  have hk : k = 1 ∨ k = 2 ∨ k = 3 ∨ k = 4 := by omega
  clear h1 h4
  unfold MOp.wds
  simp only
  rcases hk with rfl | rfl | rfl | rfl
  · obtain rfl : ws = [] := List.eq_nil_of_length_eq_zero hw
    exact lay_1 V W av _ cv L H hb a
  · obtain rfl : ws = [] := List.eq_nil_of_length_eq_zero hw
    exact lay_2 V W av _ cv L H hb a
  · have hw' : ws.length = 1024 := hw
    rw [hw']
    exact lay_3 V W av _ cv L H hb a ao c ws hw' hat
  · obtain rfl : ws = [] := List.eq_nil_of_length_eq_zero hw
    exact lay_4 V W av _ cv L H hb a
end Go.Proofs.YtmomidkodjihjaaDoor
