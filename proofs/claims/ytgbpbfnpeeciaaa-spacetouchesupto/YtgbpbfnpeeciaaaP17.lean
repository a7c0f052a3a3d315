import Derived.Test.YtgbpbfnpeeciaaaP16
import Derived.Test.YtgbpbfnpeeciaaaP01
namespace Go.Proofs.Ytgbpbfnpeeciaaa
open Go.RowKit
set_option maxHeartbeats 8000000
set_option maxRecDepth 100000
theorem exec_neV {a : Act} {w : World} {o : Oper} (T : TypeId) (x y : Operand) (ho : o.op = .binOp .neq T x y T) (u v : Array Value) (hx : a.eval x = .agg u) (hy : a.eval y = .agg v) (hg : Try.prog.eqGuardType Try.prog.depth T = false) (c b : Bool) (hb : (Op.equalIn 10000 T (.agg u) (.agg v)).run Try.prog w = .ok c w) (hc : (!c) = b) :
    (execOp a.eval o).run Try.prog w = .ok (.value (.bool b)) w := by rw [exec_ne T x y ho u v hx hy hg c hb, hc]
theorem check_any (W : World) (x : En) : Calls Try.prog 102 #[x.v] W fun e W' => e = .returned (.int .i64 (chk x)) ∧ Below W.heap.size W W' := by
  have HC := hid (Cel.new W 136 x.cs)
  have HB := hid (below_one W (.cells x.cs.toArray 136))
  unfold En.v
  go_enter Try.func102, Try.ntmps102
  go_upto_region 1 with fail
  generalize hX : World.alloc _ _ = X at *
  clear hX
  have HC0 := hid (HC.out.on (Below.refl _ _).drew)
  have HB0 := hid (below_on HB.out (Below.refl _ _).drew)
  generalize W.heap.size = g1 at HC HC0 ⊢
  clear HC HB
  rcases e1 : x.same x.used with _ | _
  · have hk : chk x = 110 := by simp [chk, En.ok, e1]
    refine wp_region_held_drew (S := fun w => Cel w g1 136 x.cs) (by kernel_rfl) HC0.out (fun hHeld => ?_)
    refine tk 0 ⟨some 3, .load 136 (.tmp 1), 136, "entry.go:42", #[], none⟩ x.v ?_ (hy := yieldsIf_load_mid (by rfl) _ _ rfl _ _ rfl _ _ (fun w hSw => hSw.range) underE rfl (by rw [sizeE]; rfl))
    simp only [Act.put, List.setIfInBounds_toArray, List.set_cons_zero, List.set_cons_succ]
    refine tk 1 ⟨some 4, .load 136 (.tmp 1), 136, "entry.go:42", #[], none⟩ x.v ?_ (hy := yieldsIf_load_mid (by rfl) _ _ rfl _ _ rfl _ _ (fun w hSw => hSw.range) underE rfl (by rw [sizeE]; rfl))
    simp only [Act.put, List.setIfInBounds_toArray, List.set_cons_zero, List.set_cons_succ]
    refine wpAnyH_ready (rs := [2]) (by kernel_rfl) (by simp) (AllReadyH.cons (o := ⟨some 5, .call { callee := .value (.func 105), args := #[.tmp 4], argTypes := #[136] }, 136, "entry.go:42", #[⟨1, .data⟩], none⟩) rfl (fun KQ hK => ?_) AllReadyH.nil)
    go_simp
    refine (used_any _ x).mono ?_
    rintro e w1 ⟨rfl, hb1⟩
    have HC1 := hid (HC0.out.on hb1)
    have HB1 := hid (below_on HB0.out hb1)
    clear hb1
    go_wp2_with fail
    refine hK.out _ _ HC1.out (fun hHeld => ?_)
    clear hK KQ
    try simp only [Act.put, List.setIfInBounds_toArray, List.set_cons_zero, List.set_cons_succ]
    refine tk 3 ⟨some 6, .binOp .neq 136 (.tmp 3) (.tmp 5) 136, 4, "entry.go:42", #[⟨0, .data⟩, ⟨2, .data⟩], none⟩ (.bool true) ?_ (hy := Or.inl ⟨by rfl, fun w hSw => exec_neV 136 _ _ rfl _ _ rfl rfl guardE _ _ (eqE w 9996 x x.used) (by rw [e1]; rfl)⟩)
    simp only [Act.put, List.setIfInBounds_toArray, List.set_cons_zero, List.set_cons_succ]
    refine tk 4 ⟨some 7, .move (.tmp 6), 4, "entry.go:42", #[⟨3, .data⟩, ⟨2, .chain⟩], none⟩ (.bool true) ?_
    simp only [Act.put, List.setIfInBounds_toArray, List.set_cons_zero, List.set_cons_succ]
    refine tk 5 ⟨some 8, .fieldAddr 136 (.tmp 1) 1, 0, "entry.go:42", #[⟨4, .guard⟩], some (4, false)⟩ undef ?_ (hy := Or.inr ⟨by rfl, rfl⟩)
    simp only [Act.put, List.setIfInBounds_toArray, List.set_cons_zero, List.set_cons_succ]
    refine tk 6 ⟨some 9, .load 3 (.tmp 8), 3, "entry.go:42", #[⟨5, .data⟩, ⟨4, .guard⟩], some (4, false)⟩ undef ?_ (hy := Or.inr ⟨by rfl, rfl⟩)
    simp only [Act.put, List.setIfInBounds_toArray, List.set_cons_zero, List.set_cons_succ]
    refine tk 7 ⟨some 10, .call { callee := .value (.func 106), args := #[.tmp 9], argTypes := #[3] }, 4, "entry.go:42", #[⟨6, .data⟩, ⟨4, .chain⟩, ⟨4, .guard⟩], some (4, false)⟩ undef ?_ (hy := Or.inr ⟨by rfl, rfl⟩)
    simp only [Act.put, List.setIfInBounds_toArray, List.set_cons_zero, List.set_cons_succ]
    refine tk 8 ⟨some 11, .unOp .not 4 (.tmp 10), 4, "entry.go:42", #[⟨7, .data⟩, ⟨4, .guard⟩], some (4, false)⟩ undef ?_ (hy := Or.inr ⟨by rfl, rfl⟩)
    simp only [Act.put, List.setIfInBounds_toArray, List.set_cons_zero, List.set_cons_succ]
    refine tk 9 ⟨some 12, .pick (.tmp 7) (.const (.bool true)) (.tmp 11), 4, "entry.go:42", #[⟨4, .data⟩, ⟨8, .data⟩], none⟩ (.bool true) ?_
    simp only [Act.put, List.setIfInBounds_toArray, List.set_cons_zero, List.set_cons_succ]
    refine tk 10 ⟨some 13, .move (.tmp 12), 4, "entry.go:42", #[⟨9, .data⟩, ⟨7, .chain⟩], none⟩ (.bool true) ?_
    simp only [Act.put, List.setIfInBounds_toArray, List.set_cons_zero, List.set_cons_succ]
    refine tk 11 ⟨some 14, .fieldAddr 136 (.tmp 1) 2, 0, "entry.go:42", #[⟨10, .guard⟩], some (10, false)⟩ undef ?_ (hy := Or.inr ⟨by rfl, rfl⟩)
    simp only [Act.put, List.setIfInBounds_toArray, List.set_cons_zero, List.set_cons_succ]
    refine tk 12 ⟨some 15, .load 3 (.tmp 14), 3, "entry.go:42", #[⟨11, .data⟩, ⟨10, .guard⟩], some (10, false)⟩ undef ?_ (hy := Or.inr ⟨by rfl, rfl⟩)
    simp only [Act.put, List.setIfInBounds_toArray, List.set_cons_zero, List.set_cons_succ]
    refine tk 13 ⟨some 16, .call { callee := .value (.func 106), args := #[.tmp 15], argTypes := #[3] }, 4, "entry.go:42", #[⟨12, .data⟩, ⟨10, .chain⟩, ⟨10, .guard⟩], some (10, false)⟩ undef ?_ (hy := Or.inr ⟨by rfl, rfl⟩)
    simp only [Act.put, List.setIfInBounds_toArray, List.set_cons_zero, List.set_cons_succ]
    refine tk 14 ⟨some 17, .unOp .not 4 (.tmp 16), 4, "entry.go:42", #[⟨13, .data⟩, ⟨10, .guard⟩], some (10, false)⟩ undef ?_ (hy := Or.inr ⟨by rfl, rfl⟩)
    simp only [Act.put, List.setIfInBounds_toArray, List.set_cons_zero, List.set_cons_succ]
    refine tk 15 ⟨some 18, .pick (.tmp 13) (.const (.bool true)) (.tmp 17), 4, "entry.go:42", #[⟨10, .data⟩, ⟨14, .data⟩], none⟩ (.bool true) ?_
    simp only [Act.put, List.setIfInBounds_toArray, List.set_cons_zero, List.set_cons_succ]
    refine tk 16 ⟨some 19, .move (.tmp 18), 4, "entry.go:42", #[⟨15, .data⟩, ⟨13, .chain⟩], none⟩ (.bool true) ?_
    simp only [Act.put, List.setIfInBounds_toArray, List.set_cons_zero, List.set_cons_succ]
    refine tk 17 ⟨some 20, .fieldAddr 136 (.tmp 1) 3, 0, "entry.go:42", #[⟨16, .guard⟩], some (16, false)⟩ undef ?_ (hy := Or.inr ⟨by rfl, rfl⟩)
    simp only [Act.put, List.setIfInBounds_toArray, List.set_cons_zero, List.set_cons_succ]
    refine tk 18 ⟨some 21, .load 134 (.tmp 20), 134, "entry.go:42", #[⟨17, .data⟩, ⟨16, .guard⟩], some (16, false)⟩ undef ?_ (hy := Or.inr ⟨by rfl, rfl⟩)
    simp only [Act.put, List.setIfInBounds_toArray, List.set_cons_zero, List.set_cons_succ]
    refine tk 19 ⟨some 22, .fieldAddr 136 (.tmp 1) 0, 0, "entry.go:42", #[⟨16, .guard⟩], some (16, false)⟩ undef ?_ (hy := Or.inr ⟨by rfl, rfl⟩)
    simp only [Act.put, List.setIfInBounds_toArray, List.set_cons_zero, List.set_cons_succ]
    refine tk 20 ⟨some 23, .load 86 (.tmp 22), 86, "entry.go:42", #[⟨19, .data⟩, ⟨16, .guard⟩], some (16, false)⟩ undef ?_ (hy := Or.inr ⟨by rfl, rfl⟩)
    simp only [Act.put, List.setIfInBounds_toArray, List.set_cons_zero, List.set_cons_succ]
    refine tk 21 ⟨some 24, .call { callee := .value (.func 107), args := #[.tmp 21, .tmp 23], argTypes := #[134, 86] }, 4, "entry.go:42", #[⟨18, .data⟩, ⟨20, .data⟩, ⟨16, .chain⟩, ⟨16, .guard⟩], some (16, false)⟩ undef ?_ (hy := Or.inr ⟨by rfl, rfl⟩)
    simp only [Act.put, List.setIfInBounds_toArray, List.set_cons_zero, List.set_cons_succ]
    refine tk 22 ⟨some 25, .unOp .not 4 (.tmp 24), 4, "entry.go:42", #[⟨21, .data⟩, ⟨16, .guard⟩], some (16, false)⟩ undef ?_ (hy := Or.inr ⟨by rfl, rfl⟩)
    simp only [Act.put, List.setIfInBounds_toArray, List.set_cons_zero, List.set_cons_succ]
    refine tk 23 ⟨some 26, .pick (.tmp 19) (.const (.bool true)) (.tmp 25), 4, "entry.go:42", #[⟨16, .data⟩, ⟨22, .data⟩], none⟩ (.bool true) ?_
    simp only [Act.put, List.setIfInBounds_toArray, List.set_cons_zero, List.set_cons_succ]
    refine wpAnyH_done (by kernel_rfl) ?_ _

    go_wp2_with fail
    go_ret
    exact ⟨by rw [hk]; rfl, HB1.out⟩
  rcases e2 : blw x.o with _ | _
  · have hk : chk x = 110 := by simp [chk, En.ok, e1, e2]
    refine wp_region_held_drew (S := fun w => Cel w g1 136 x.cs) (by kernel_rfl) HC0.out (fun hHeld => ?_)
    refine tk 0 ⟨some 3, .load 136 (.tmp 1), 136, "entry.go:42", #[], none⟩ x.v ?_ (hy := yieldsIf_load_mid (by rfl) _ _ rfl _ _ rfl _ _ (fun w hSw => hSw.range) underE rfl (by rw [sizeE]; rfl))
    simp only [Act.put, List.setIfInBounds_toArray, List.set_cons_zero, List.set_cons_succ]
    refine tk 1 ⟨some 4, .load 136 (.tmp 1), 136, "entry.go:42", #[], none⟩ x.v ?_ (hy := yieldsIf_load_mid (by rfl) _ _ rfl _ _ rfl _ _ (fun w hSw => hSw.range) underE rfl (by rw [sizeE]; rfl))
    simp only [Act.put, List.setIfInBounds_toArray, List.set_cons_zero, List.set_cons_succ]
    refine wpAnyH_ready (rs := [2]) (by kernel_rfl) (by simp) (AllReadyH.cons (o := ⟨some 5, .call { callee := .value (.func 105), args := #[.tmp 4], argTypes := #[136] }, 136, "entry.go:42", #[⟨1, .data⟩], none⟩) rfl (fun KQ hK => ?_) AllReadyH.nil)
    go_simp
    refine (used_any _ x).mono ?_
    rintro e w1 ⟨rfl, hb1⟩
    have HC1 := hid (HC0.out.on hb1)
    have HB1 := hid (below_on HB0.out hb1)
    clear hb1
    go_wp2_with fail
    refine hK.out _ _ HC1.out (fun hHeld => ?_)
    clear hK KQ
    try simp only [Act.put, List.setIfInBounds_toArray, List.set_cons_zero, List.set_cons_succ]
    refine tk 3 ⟨some 6, .binOp .neq 136 (.tmp 3) (.tmp 5) 136, 4, "entry.go:42", #[⟨0, .data⟩, ⟨2, .data⟩], none⟩ (.bool false) ?_ (hy := Or.inl ⟨by rfl, fun w hSw => exec_neV 136 _ _ rfl _ _ rfl rfl guardE _ _ (eqE w 9996 x x.used) (by rw [e1]; rfl)⟩)
    simp only [Act.put, List.setIfInBounds_toArray, List.set_cons_zero, List.set_cons_succ]
    refine tk 4 ⟨some 7, .move (.tmp 6), 4, "entry.go:42", #[⟨3, .data⟩, ⟨2, .chain⟩], none⟩ (.bool false) ?_
    simp only [Act.put, List.setIfInBounds_toArray, List.set_cons_zero, List.set_cons_succ]
    refine tk 5 ⟨some 8, .fieldAddr 136 (.tmp 1) 1, 0, "entry.go:42", #[⟨4, .guard⟩], some (4, false)⟩ (.pointer (some ⟨g1, 1, none⟩)) ?_
    simp only [Act.put, List.setIfInBounds_toArray, List.set_cons_zero, List.set_cons_succ]
    refine tk 6 ⟨some 9, .load 3 (.tmp 8), 3, "entry.go:42", #[⟨5, .data⟩, ⟨4, .guard⟩], some (4, false)⟩ (.int .i64 x.o) ?_ (hy := Or.inl ⟨by rfl, by intro w hSw; have hq : w.cell? ⟨g1, 1, none⟩ = some (.int .i64 x.o) := Cel.cell hSw 1; go_simp⟩)
    simp only [Act.put, List.setIfInBounds_toArray, List.set_cons_zero, List.set_cons_succ]
    refine wpAnyH_ready (rs := [7]) (by kernel_rfl) (by simp) (AllReadyH.cons (o := ⟨some 10, .call { callee := .value (.func 106), args := #[.tmp 9], argTypes := #[3] }, 4, "entry.go:42", #[⟨6, .data⟩, ⟨4, .chain⟩, ⟨4, .guard⟩], some (4, false)⟩) rfl (fun KQ hK => ?_) AllReadyH.nil)
    go_simp
    refine (below_any _ x.o).mono ?_
    rintro e w2 ⟨rfl, rfl⟩
    rw [e2]
    go_wp2_with fail
    refine hK.out _ _ HC1.out (fun hHeld => ?_)
    clear hK KQ
    try simp only [Act.put, List.setIfInBounds_toArray, List.set_cons_zero, List.set_cons_succ]
    refine tk 8 ⟨some 11, .unOp .not 4 (.tmp 10), 4, "entry.go:42", #[⟨7, .data⟩, ⟨4, .guard⟩], some (4, false)⟩ (.bool true) ?_
    simp only [Act.put, List.setIfInBounds_toArray, List.set_cons_zero, List.set_cons_succ]
    refine tk 9 ⟨some 12, .pick (.tmp 7) (.const (.bool true)) (.tmp 11), 4, "entry.go:42", #[⟨4, .data⟩, ⟨8, .data⟩], none⟩ (.bool true) ?_
    simp only [Act.put, List.setIfInBounds_toArray, List.set_cons_zero, List.set_cons_succ]
    refine tk 10 ⟨some 13, .move (.tmp 12), 4, "entry.go:42", #[⟨9, .data⟩, ⟨7, .chain⟩], none⟩ (.bool true) ?_
    simp only [Act.put, List.setIfInBounds_toArray, List.set_cons_zero, List.set_cons_succ]
    refine tk 11 ⟨some 14, .fieldAddr 136 (.tmp 1) 2, 0, "entry.go:42", #[⟨10, .guard⟩], some (10, false)⟩ undef ?_ (hy := Or.inr ⟨by rfl, rfl⟩)
    simp only [Act.put, List.setIfInBounds_toArray, List.set_cons_zero, List.set_cons_succ]
    refine tk 12 ⟨some 15, .load 3 (.tmp 14), 3, "entry.go:42", #[⟨11, .data⟩, ⟨10, .guard⟩], some (10, false)⟩ undef ?_ (hy := Or.inr ⟨by rfl, rfl⟩)
    simp only [Act.put, List.setIfInBounds_toArray, List.set_cons_zero, List.set_cons_succ]
    refine tk 13 ⟨some 16, .call { callee := .value (.func 106), args := #[.tmp 15], argTypes := #[3] }, 4, "entry.go:42", #[⟨12, .data⟩, ⟨10, .chain⟩, ⟨10, .guard⟩], some (10, false)⟩ undef ?_ (hy := Or.inr ⟨by rfl, rfl⟩)
    simp only [Act.put, List.setIfInBounds_toArray, List.set_cons_zero, List.set_cons_succ]
    refine tk 14 ⟨some 17, .unOp .not 4 (.tmp 16), 4, "entry.go:42", #[⟨13, .data⟩, ⟨10, .guard⟩], some (10, false)⟩ undef ?_ (hy := Or.inr ⟨by rfl, rfl⟩)
    simp only [Act.put, List.setIfInBounds_toArray, List.set_cons_zero, List.set_cons_succ]
    refine tk 15 ⟨some 18, .pick (.tmp 13) (.const (.bool true)) (.tmp 17), 4, "entry.go:42", #[⟨10, .data⟩, ⟨14, .data⟩], none⟩ (.bool true) ?_
    simp only [Act.put, List.setIfInBounds_toArray, List.set_cons_zero, List.set_cons_succ]
    refine tk 16 ⟨some 19, .move (.tmp 18), 4, "entry.go:42", #[⟨15, .data⟩, ⟨13, .chain⟩], none⟩ (.bool true) ?_
    simp only [Act.put, List.setIfInBounds_toArray, List.set_cons_zero, List.set_cons_succ]
    refine tk 17 ⟨some 20, .fieldAddr 136 (.tmp 1) 3, 0, "entry.go:42", #[⟨16, .guard⟩], some (16, false)⟩ undef ?_ (hy := Or.inr ⟨by rfl, rfl⟩)
    simp only [Act.put, List.setIfInBounds_toArray, List.set_cons_zero, List.set_cons_succ]
    refine tk 18 ⟨some 21, .load 134 (.tmp 20), 134, "entry.go:42", #[⟨17, .data⟩, ⟨16, .guard⟩], some (16, false)⟩ undef ?_ (hy := Or.inr ⟨by rfl, rfl⟩)
    simp only [Act.put, List.setIfInBounds_toArray, List.set_cons_zero, List.set_cons_succ]
    refine tk 19 ⟨some 22, .fieldAddr 136 (.tmp 1) 0, 0, "entry.go:42", #[⟨16, .guard⟩], some (16, false)⟩ undef ?_ (hy := Or.inr ⟨by rfl, rfl⟩)
    simp only [Act.put, List.setIfInBounds_toArray, List.set_cons_zero, List.set_cons_succ]
    refine tk 20 ⟨some 23, .load 86 (.tmp 22), 86, "entry.go:42", #[⟨19, .data⟩, ⟨16, .guard⟩], some (16, false)⟩ undef ?_ (hy := Or.inr ⟨by rfl, rfl⟩)
    simp only [Act.put, List.setIfInBounds_toArray, List.set_cons_zero, List.set_cons_succ]
    refine tk 21 ⟨some 24, .call { callee := .value (.func 107), args := #[.tmp 21, .tmp 23], argTypes := #[134, 86] }, 4, "entry.go:42", #[⟨18, .data⟩, ⟨20, .data⟩, ⟨16, .chain⟩, ⟨16, .guard⟩], some (16, false)⟩ undef ?_ (hy := Or.inr ⟨by rfl, rfl⟩)
    simp only [Act.put, List.setIfInBounds_toArray, List.set_cons_zero, List.set_cons_succ]
    refine tk 22 ⟨some 25, .unOp .not 4 (.tmp 24), 4, "entry.go:42", #[⟨21, .data⟩, ⟨16, .guard⟩], some (16, false)⟩ undef ?_ (hy := Or.inr ⟨by rfl, rfl⟩)
    simp only [Act.put, List.setIfInBounds_toArray, List.set_cons_zero, List.set_cons_succ]
    refine tk 23 ⟨some 26, .pick (.tmp 19) (.const (.bool true)) (.tmp 25), 4, "entry.go:42", #[⟨16, .data⟩, ⟨22, .data⟩], none⟩ (.bool true) ?_
    simp only [Act.put, List.setIfInBounds_toArray, List.set_cons_zero, List.set_cons_succ]
    refine wpAnyH_done (by kernel_rfl) ?_ _

    go_wp2_with fail
    go_ret
    exact ⟨by rw [hk]; rfl, HB1.out⟩
  rcases e3 : blw x.r with _ | _
  · have hk : chk x = 110 := by simp [chk, En.ok, e1, e2, e3]
    refine wp_region_held_drew (S := fun w => Cel w g1 136 x.cs) (by kernel_rfl) HC0.out (fun hHeld => ?_)
    refine tk 0 ⟨some 3, .load 136 (.tmp 1), 136, "entry.go:42", #[], none⟩ x.v ?_ (hy := yieldsIf_load_mid (by rfl) _ _ rfl _ _ rfl _ _ (fun w hSw => hSw.range) underE rfl (by rw [sizeE]; rfl))
    simp only [Act.put, List.setIfInBounds_toArray, List.set_cons_zero, List.set_cons_succ]
    refine tk 1 ⟨some 4, .load 136 (.tmp 1), 136, "entry.go:42", #[], none⟩ x.v ?_ (hy := yieldsIf_load_mid (by rfl) _ _ rfl _ _ rfl _ _ (fun w hSw => hSw.range) underE rfl (by rw [sizeE]; rfl))
    simp only [Act.put, List.setIfInBounds_toArray, List.set_cons_zero, List.set_cons_succ]
    refine wpAnyH_ready (rs := [2]) (by kernel_rfl) (by simp) (AllReadyH.cons (o := ⟨some 5, .call { callee := .value (.func 105), args := #[.tmp 4], argTypes := #[136] }, 136, "entry.go:42", #[⟨1, .data⟩], none⟩) rfl (fun KQ hK => ?_) AllReadyH.nil)
    go_simp
    refine (used_any _ x).mono ?_
    rintro e w1 ⟨rfl, hb1⟩
    have HC1 := hid (HC0.out.on hb1)
    have HB1 := hid (below_on HB0.out hb1)
    clear hb1
    go_wp2_with fail
    refine hK.out _ _ HC1.out (fun hHeld => ?_)
    clear hK KQ
    try simp only [Act.put, List.setIfInBounds_toArray, List.set_cons_zero, List.set_cons_succ]
    refine tk 3 ⟨some 6, .binOp .neq 136 (.tmp 3) (.tmp 5) 136, 4, "entry.go:42", #[⟨0, .data⟩, ⟨2, .data⟩], none⟩ (.bool false) ?_ (hy := Or.inl ⟨by rfl, fun w hSw => exec_neV 136 _ _ rfl _ _ rfl rfl guardE _ _ (eqE w 9996 x x.used) (by rw [e1]; rfl)⟩)
    simp only [Act.put, List.setIfInBounds_toArray, List.set_cons_zero, List.set_cons_succ]
    refine tk 4 ⟨some 7, .move (.tmp 6), 4, "entry.go:42", #[⟨3, .data⟩, ⟨2, .chain⟩], none⟩ (.bool false) ?_
    simp only [Act.put, List.setIfInBounds_toArray, List.set_cons_zero, List.set_cons_succ]
    refine tk 5 ⟨some 8, .fieldAddr 136 (.tmp 1) 1, 0, "entry.go:42", #[⟨4, .guard⟩], some (4, false)⟩ (.pointer (some ⟨g1, 1, none⟩)) ?_
    simp only [Act.put, List.setIfInBounds_toArray, List.set_cons_zero, List.set_cons_succ]
    refine tk 6 ⟨some 9, .load 3 (.tmp 8), 3, "entry.go:42", #[⟨5, .data⟩, ⟨4, .guard⟩], some (4, false)⟩ (.int .i64 x.o) ?_ (hy := Or.inl ⟨by rfl, by intro w hSw; have hq : w.cell? ⟨g1, 1, none⟩ = some (.int .i64 x.o) := Cel.cell hSw 1; go_simp⟩)
    simp only [Act.put, List.setIfInBounds_toArray, List.set_cons_zero, List.set_cons_succ]
    refine wpAnyH_ready (rs := [7]) (by kernel_rfl) (by simp) (AllReadyH.cons (o := ⟨some 10, .call { callee := .value (.func 106), args := #[.tmp 9], argTypes := #[3] }, 4, "entry.go:42", #[⟨6, .data⟩, ⟨4, .chain⟩, ⟨4, .guard⟩], some (4, false)⟩) rfl (fun KQ hK => ?_) AllReadyH.nil)
    go_simp
    refine (below_any _ x.o).mono ?_
    rintro e w2 ⟨rfl, rfl⟩
    rw [e2]
    go_wp2_with fail
    refine hK.out _ _ HC1.out (fun hHeld => ?_)
    clear hK KQ
    try simp only [Act.put, List.setIfInBounds_toArray, List.set_cons_zero, List.set_cons_succ]
    refine tk 8 ⟨some 11, .unOp .not 4 (.tmp 10), 4, "entry.go:42", #[⟨7, .data⟩, ⟨4, .guard⟩], some (4, false)⟩ (.bool false) ?_
    simp only [Act.put, List.setIfInBounds_toArray, List.set_cons_zero, List.set_cons_succ]
    refine tk 9 ⟨some 12, .pick (.tmp 7) (.const (.bool true)) (.tmp 11), 4, "entry.go:42", #[⟨4, .data⟩, ⟨8, .data⟩], none⟩ (.bool false) ?_
    simp only [Act.put, List.setIfInBounds_toArray, List.set_cons_zero, List.set_cons_succ]
    refine tk 10 ⟨some 13, .move (.tmp 12), 4, "entry.go:42", #[⟨9, .data⟩, ⟨7, .chain⟩], none⟩ (.bool false) ?_
    simp only [Act.put, List.setIfInBounds_toArray, List.set_cons_zero, List.set_cons_succ]
    refine tk 11 ⟨some 14, .fieldAddr 136 (.tmp 1) 2, 0, "entry.go:42", #[⟨10, .guard⟩], some (10, false)⟩ (.pointer (some ⟨g1, 2, none⟩)) ?_
    simp only [Act.put, List.setIfInBounds_toArray, List.set_cons_zero, List.set_cons_succ]
    refine tk 12 ⟨some 15, .load 3 (.tmp 14), 3, "entry.go:42", #[⟨11, .data⟩, ⟨10, .guard⟩], some (10, false)⟩ (.int .i64 x.r) ?_ (hy := Or.inl ⟨by rfl, by intro w hSw; have hq : w.cell? ⟨g1, 2, none⟩ = some (.int .i64 x.r) := Cel.cell hSw 2; go_simp⟩)
    simp only [Act.put, List.setIfInBounds_toArray, List.set_cons_zero, List.set_cons_succ]
    refine wpAnyH_ready (rs := [13]) (by kernel_rfl) (by simp) (AllReadyH.cons (o := ⟨some 16, .call { callee := .value (.func 106), args := #[.tmp 15], argTypes := #[3] }, 4, "entry.go:42", #[⟨12, .data⟩, ⟨10, .chain⟩, ⟨10, .guard⟩], some (10, false)⟩) rfl (fun KQ hK => ?_) AllReadyH.nil)
    go_simp
    refine (below_any _ x.r).mono ?_
    rintro e w3 ⟨rfl, rfl⟩
    rw [e3]
    go_wp2_with fail
    refine hK.out _ _ HC1.out (fun hHeld => ?_)
    clear hK KQ
    try simp only [Act.put, List.setIfInBounds_toArray, List.set_cons_zero, List.set_cons_succ]
    refine tk 14 ⟨some 17, .unOp .not 4 (.tmp 16), 4, "entry.go:42", #[⟨13, .data⟩, ⟨10, .guard⟩], some (10, false)⟩ (.bool true) ?_
    simp only [Act.put, List.setIfInBounds_toArray, List.set_cons_zero, List.set_cons_succ]
    refine tk 15 ⟨some 18, .pick (.tmp 13) (.const (.bool true)) (.tmp 17), 4, "entry.go:42", #[⟨10, .data⟩, ⟨14, .data⟩], none⟩ (.bool true) ?_
    simp only [Act.put, List.setIfInBounds_toArray, List.set_cons_zero, List.set_cons_succ]
    refine tk 16 ⟨some 19, .move (.tmp 18), 4, "entry.go:42", #[⟨15, .data⟩, ⟨13, .chain⟩], none⟩ (.bool true) ?_
    simp only [Act.put, List.setIfInBounds_toArray, List.set_cons_zero, List.set_cons_succ]
    refine tk 17 ⟨some 20, .fieldAddr 136 (.tmp 1) 3, 0, "entry.go:42", #[⟨16, .guard⟩], some (16, false)⟩ undef ?_ (hy := Or.inr ⟨by rfl, rfl⟩)
    simp only [Act.put, List.setIfInBounds_toArray, List.set_cons_zero, List.set_cons_succ]
    refine tk 18 ⟨some 21, .load 134 (.tmp 20), 134, "entry.go:42", #[⟨17, .data⟩, ⟨16, .guard⟩], some (16, false)⟩ undef ?_ (hy := Or.inr ⟨by rfl, rfl⟩)
    simp only [Act.put, List.setIfInBounds_toArray, List.set_cons_zero, List.set_cons_succ]
    refine tk 19 ⟨some 22, .fieldAddr 136 (.tmp 1) 0, 0, "entry.go:42", #[⟨16, .guard⟩], some (16, false)⟩ undef ?_ (hy := Or.inr ⟨by rfl, rfl⟩)
    simp only [Act.put, List.setIfInBounds_toArray, List.set_cons_zero, List.set_cons_succ]
    refine tk 20 ⟨some 23, .load 86 (.tmp 22), 86, "entry.go:42", #[⟨19, .data⟩, ⟨16, .guard⟩], some (16, false)⟩ undef ?_ (hy := Or.inr ⟨by rfl, rfl⟩)
    simp only [Act.put, List.setIfInBounds_toArray, List.set_cons_zero, List.set_cons_succ]
    refine tk 21 ⟨some 24, .call { callee := .value (.func 107), args := #[.tmp 21, .tmp 23], argTypes := #[134, 86] }, 4, "entry.go:42", #[⟨18, .data⟩, ⟨20, .data⟩, ⟨16, .chain⟩, ⟨16, .guard⟩], some (16, false)⟩ undef ?_ (hy := Or.inr ⟨by rfl, rfl⟩)
    simp only [Act.put, List.setIfInBounds_toArray, List.set_cons_zero, List.set_cons_succ]
    refine tk 22 ⟨some 25, .unOp .not 4 (.tmp 24), 4, "entry.go:42", #[⟨21, .data⟩, ⟨16, .guard⟩], some (16, false)⟩ undef ?_ (hy := Or.inr ⟨by rfl, rfl⟩)
    simp only [Act.put, List.setIfInBounds_toArray, List.set_cons_zero, List.set_cons_succ]
    refine tk 23 ⟨some 26, .pick (.tmp 19) (.const (.bool true)) (.tmp 25), 4, "entry.go:42", #[⟨16, .data⟩, ⟨22, .data⟩], none⟩ (.bool true) ?_
    simp only [Act.put, List.setIfInBounds_toArray, List.set_cons_zero, List.set_cons_succ]
    refine wpAnyH_done (by kernel_rfl) ?_ _

    go_wp2_with fail
    go_ret
    exact ⟨by rw [hk]; rfl, HB1.out⟩
  rcases e4 : fit x.s x.t with _ | _
  · have hk : chk x = 110 := by simp [chk, En.ok, e1, e2, e3, e4]
    refine wp_region_held_drew (S := fun w => Cel w g1 136 x.cs) (by kernel_rfl) HC0.out (fun hHeld => ?_)
    refine tk 0 ⟨some 3, .load 136 (.tmp 1), 136, "entry.go:42", #[], none⟩ x.v ?_ (hy := yieldsIf_load_mid (by rfl) _ _ rfl _ _ rfl _ _ (fun w hSw => hSw.range) underE rfl (by rw [sizeE]; rfl))
    simp only [Act.put, List.setIfInBounds_toArray, List.set_cons_zero, List.set_cons_succ]
    refine tk 1 ⟨some 4, .load 136 (.tmp 1), 136, "entry.go:42", #[], none⟩ x.v ?_ (hy := yieldsIf_load_mid (by rfl) _ _ rfl _ _ rfl _ _ (fun w hSw => hSw.range) underE rfl (by rw [sizeE]; rfl))
    simp only [Act.put, List.setIfInBounds_toArray, List.set_cons_zero, List.set_cons_succ]
    refine wpAnyH_ready (rs := [2]) (by kernel_rfl) (by simp) (AllReadyH.cons (o := ⟨some 5, .call { callee := .value (.func 105), args := #[.tmp 4], argTypes := #[136] }, 136, "entry.go:42", #[⟨1, .data⟩], none⟩) rfl (fun KQ hK => ?_) AllReadyH.nil)
    go_simp
    refine (used_any _ x).mono ?_
    rintro e w1 ⟨rfl, hb1⟩
    have HC1 := hid (HC0.out.on hb1)
    have HB1 := hid (below_on HB0.out hb1)
    clear hb1
    go_wp2_with fail
    refine hK.out _ _ HC1.out (fun hHeld => ?_)
    clear hK KQ
    try simp only [Act.put, List.setIfInBounds_toArray, List.set_cons_zero, List.set_cons_succ]
    refine tk 3 ⟨some 6, .binOp .neq 136 (.tmp 3) (.tmp 5) 136, 4, "entry.go:42", #[⟨0, .data⟩, ⟨2, .data⟩], none⟩ (.bool false) ?_ (hy := Or.inl ⟨by rfl, fun w hSw => exec_neV 136 _ _ rfl _ _ rfl rfl guardE _ _ (eqE w 9996 x x.used) (by rw [e1]; rfl)⟩)
    simp only [Act.put, List.setIfInBounds_toArray, List.set_cons_zero, List.set_cons_succ]
    refine tk 4 ⟨some 7, .move (.tmp 6), 4, "entry.go:42", #[⟨3, .data⟩, ⟨2, .chain⟩], none⟩ (.bool false) ?_
    simp only [Act.put, List.setIfInBounds_toArray, List.set_cons_zero, List.set_cons_succ]
    refine tk 5 ⟨some 8, .fieldAddr 136 (.tmp 1) 1, 0, "entry.go:42", #[⟨4, .guard⟩], some (4, false)⟩ (.pointer (some ⟨g1, 1, none⟩)) ?_
    simp only [Act.put, List.setIfInBounds_toArray, List.set_cons_zero, List.set_cons_succ]
    refine tk 6 ⟨some 9, .load 3 (.tmp 8), 3, "entry.go:42", #[⟨5, .data⟩, ⟨4, .guard⟩], some (4, false)⟩ (.int .i64 x.o) ?_ (hy := Or.inl ⟨by rfl, by intro w hSw; have hq : w.cell? ⟨g1, 1, none⟩ = some (.int .i64 x.o) := Cel.cell hSw 1; go_simp⟩)
    simp only [Act.put, List.setIfInBounds_toArray, List.set_cons_zero, List.set_cons_succ]
    refine wpAnyH_ready (rs := [7]) (by kernel_rfl) (by simp) (AllReadyH.cons (o := ⟨some 10, .call { callee := .value (.func 106), args := #[.tmp 9], argTypes := #[3] }, 4, "entry.go:42", #[⟨6, .data⟩, ⟨4, .chain⟩, ⟨4, .guard⟩], some (4, false)⟩) rfl (fun KQ hK => ?_) AllReadyH.nil)
    go_simp
    refine (below_any _ x.o).mono ?_
    rintro e w2 ⟨rfl, rfl⟩
    rw [e2]
    go_wp2_with fail
    refine hK.out _ _ HC1.out (fun hHeld => ?_)
    clear hK KQ
    try simp only [Act.put, List.setIfInBounds_toArray, List.set_cons_zero, List.set_cons_succ]
    refine tk 8 ⟨some 11, .unOp .not 4 (.tmp 10), 4, "entry.go:42", #[⟨7, .data⟩, ⟨4, .guard⟩], some (4, false)⟩ (.bool false) ?_
    simp only [Act.put, List.setIfInBounds_toArray, List.set_cons_zero, List.set_cons_succ]
    refine tk 9 ⟨some 12, .pick (.tmp 7) (.const (.bool true)) (.tmp 11), 4, "entry.go:42", #[⟨4, .data⟩, ⟨8, .data⟩], none⟩ (.bool false) ?_
    simp only [Act.put, List.setIfInBounds_toArray, List.set_cons_zero, List.set_cons_succ]
    refine tk 10 ⟨some 13, .move (.tmp 12), 4, "entry.go:42", #[⟨9, .data⟩, ⟨7, .chain⟩], none⟩ (.bool false) ?_
    simp only [Act.put, List.setIfInBounds_toArray, List.set_cons_zero, List.set_cons_succ]
    refine tk 11 ⟨some 14, .fieldAddr 136 (.tmp 1) 2, 0, "entry.go:42", #[⟨10, .guard⟩], some (10, false)⟩ (.pointer (some ⟨g1, 2, none⟩)) ?_
    simp only [Act.put, List.setIfInBounds_toArray, List.set_cons_zero, List.set_cons_succ]
    refine tk 12 ⟨some 15, .load 3 (.tmp 14), 3, "entry.go:42", #[⟨11, .data⟩, ⟨10, .guard⟩], some (10, false)⟩ (.int .i64 x.r) ?_ (hy := Or.inl ⟨by rfl, by intro w hSw; have hq : w.cell? ⟨g1, 2, none⟩ = some (.int .i64 x.r) := Cel.cell hSw 2; go_simp⟩)
    simp only [Act.put, List.setIfInBounds_toArray, List.set_cons_zero, List.set_cons_succ]
    refine wpAnyH_ready (rs := [13]) (by kernel_rfl) (by simp) (AllReadyH.cons (o := ⟨some 16, .call { callee := .value (.func 106), args := #[.tmp 15], argTypes := #[3] }, 4, "entry.go:42", #[⟨12, .data⟩, ⟨10, .chain⟩, ⟨10, .guard⟩], some (10, false)⟩) rfl (fun KQ hK => ?_) AllReadyH.nil)
    go_simp
    refine (below_any _ x.r).mono ?_
    rintro e w3 ⟨rfl, rfl⟩
    rw [e3]
    go_wp2_with fail
    refine hK.out _ _ HC1.out (fun hHeld => ?_)
    clear hK KQ
    try simp only [Act.put, List.setIfInBounds_toArray, List.set_cons_zero, List.set_cons_succ]
    refine tk 14 ⟨some 17, .unOp .not 4 (.tmp 16), 4, "entry.go:42", #[⟨13, .data⟩, ⟨10, .guard⟩], some (10, false)⟩ (.bool false) ?_
    simp only [Act.put, List.setIfInBounds_toArray, List.set_cons_zero, List.set_cons_succ]
    refine tk 15 ⟨some 18, .pick (.tmp 13) (.const (.bool true)) (.tmp 17), 4, "entry.go:42", #[⟨10, .data⟩, ⟨14, .data⟩], none⟩ (.bool false) ?_
    simp only [Act.put, List.setIfInBounds_toArray, List.set_cons_zero, List.set_cons_succ]
    refine tk 16 ⟨some 19, .move (.tmp 18), 4, "entry.go:42", #[⟨15, .data⟩, ⟨13, .chain⟩], none⟩ (.bool false) ?_
    simp only [Act.put, List.setIfInBounds_toArray, List.set_cons_zero, List.set_cons_succ]
    refine tk 17 ⟨some 20, .fieldAddr 136 (.tmp 1) 3, 0, "entry.go:42", #[⟨16, .guard⟩], some (16, false)⟩ (.pointer (some ⟨g1, 3, none⟩)) ?_
    simp only [Act.put, List.setIfInBounds_toArray, List.set_cons_zero, List.set_cons_succ]
    refine tk 18 ⟨some 21, .load 134 (.tmp 20), 134, "entry.go:42", #[⟨17, .data⟩, ⟨16, .guard⟩], some (16, false)⟩ (.int .i64 x.s) ?_ (hy := Or.inl ⟨by rfl, by intro w hSw; have hq : w.cell? ⟨g1, 3, none⟩ = some (.int .i64 x.s) := Cel.cell hSw 3; go_simp⟩)
    simp only [Act.put, List.setIfInBounds_toArray, List.set_cons_zero, List.set_cons_succ]
    refine tk 19 ⟨some 22, .fieldAddr 136 (.tmp 1) 0, 0, "entry.go:42", #[⟨16, .guard⟩], some (16, false)⟩ (.pointer (some ⟨g1, 0, none⟩)) ?_
    simp only [Act.put, List.setIfInBounds_toArray, List.set_cons_zero, List.set_cons_succ]
    refine tk 20 ⟨some 23, .load 86 (.tmp 22), 86, "entry.go:42", #[⟨19, .data⟩, ⟨16, .guard⟩], some (16, false)⟩ (.int .i64 x.t) ?_ (hy := Or.inl ⟨by rfl, by intro w hSw; have hq : w.cell? ⟨g1, 0, none⟩ = some (.int .i64 x.t) := Cel.cell hSw 0; go_simp⟩)
    simp only [Act.put, List.setIfInBounds_toArray, List.set_cons_zero, List.set_cons_succ]
    refine wpAnyH_ready (rs := [21]) (by kernel_rfl) (by simp) (AllReadyH.cons (o := ⟨some 24, .call { callee := .value (.func 107), args := #[.tmp 21, .tmp 23], argTypes := #[134, 86] }, 4, "entry.go:42", #[⟨18, .data⟩, ⟨20, .data⟩, ⟨16, .chain⟩, ⟨16, .guard⟩], some (16, false)⟩) rfl (fun KQ hK => ?_) AllReadyH.nil)
    go_simp
    refine (fits_any _ x.s x.t).mono ?_
    rintro e w4 ⟨rfl, rfl⟩
    rw [e4]
    go_wp2_with fail
    refine hK.out _ _ HC1.out (fun hHeld => ?_)
    clear hK KQ
    try simp only [Act.put, List.setIfInBounds_toArray, List.set_cons_zero, List.set_cons_succ]
    refine tk 22 ⟨some 25, .unOp .not 4 (.tmp 24), 4, "entry.go:42", #[⟨21, .data⟩, ⟨16, .guard⟩], some (16, false)⟩ (.bool true) ?_
    simp only [Act.put, List.setIfInBounds_toArray, List.set_cons_zero, List.set_cons_succ]
    refine tk 23 ⟨some 26, .pick (.tmp 19) (.const (.bool true)) (.tmp 25), 4, "entry.go:42", #[⟨16, .data⟩, ⟨22, .data⟩], none⟩ (.bool true) ?_
    simp only [Act.put, List.setIfInBounds_toArray, List.set_cons_zero, List.set_cons_succ]
    refine wpAnyH_done (by kernel_rfl) ?_ _

    go_wp2_with fail
    go_ret
    exact ⟨by rw [hk]; rfl, HB1.out⟩
  · have hk : chk x = 0 := by simp [chk, En.ok, e1, e2, e3, e4]
    refine wp_region_held_drew (S := fun w => Cel w g1 136 x.cs) (by kernel_rfl) HC0.out (fun hHeld => ?_)
    refine tk 0 ⟨some 3, .load 136 (.tmp 1), 136, "entry.go:42", #[], none⟩ x.v ?_ (hy := yieldsIf_load_mid (by rfl) _ _ rfl _ _ rfl _ _ (fun w hSw => hSw.range) underE rfl (by rw [sizeE]; rfl))
    simp only [Act.put, List.setIfInBounds_toArray, List.set_cons_zero, List.set_cons_succ]
    refine tk 1 ⟨some 4, .load 136 (.tmp 1), 136, "entry.go:42", #[], none⟩ x.v ?_ (hy := yieldsIf_load_mid (by rfl) _ _ rfl _ _ rfl _ _ (fun w hSw => hSw.range) underE rfl (by rw [sizeE]; rfl))
    simp only [Act.put, List.setIfInBounds_toArray, List.set_cons_zero, List.set_cons_succ]
    refine wpAnyH_ready (rs := [2]) (by kernel_rfl) (by simp) (AllReadyH.cons (o := ⟨some 5, .call { callee := .value (.func 105), args := #[.tmp 4], argTypes := #[136] }, 136, "entry.go:42", #[⟨1, .data⟩], none⟩) rfl (fun KQ hK => ?_) AllReadyH.nil)
    go_simp
    refine (used_any _ x).mono ?_
    rintro e w1 ⟨rfl, hb1⟩
    have HC1 := hid (HC0.out.on hb1)
    have HB1 := hid (below_on HB0.out hb1)
    clear hb1
    go_wp2_with fail
    refine hK.out _ _ HC1.out (fun hHeld => ?_)
    clear hK KQ
    try simp only [Act.put, List.setIfInBounds_toArray, List.set_cons_zero, List.set_cons_succ]
    refine tk 3 ⟨some 6, .binOp .neq 136 (.tmp 3) (.tmp 5) 136, 4, "entry.go:42", #[⟨0, .data⟩, ⟨2, .data⟩], none⟩ (.bool false) ?_ (hy := Or.inl ⟨by rfl, fun w hSw => exec_neV 136 _ _ rfl _ _ rfl rfl guardE _ _ (eqE w 9996 x x.used) (by rw [e1]; rfl)⟩)
    simp only [Act.put, List.setIfInBounds_toArray, List.set_cons_zero, List.set_cons_succ]
    refine tk 4 ⟨some 7, .move (.tmp 6), 4, "entry.go:42", #[⟨3, .data⟩, ⟨2, .chain⟩], none⟩ (.bool false) ?_
    simp only [Act.put, List.setIfInBounds_toArray, List.set_cons_zero, List.set_cons_succ]
    refine tk 5 ⟨some 8, .fieldAddr 136 (.tmp 1) 1, 0, "entry.go:42", #[⟨4, .guard⟩], some (4, false)⟩ (.pointer (some ⟨g1, 1, none⟩)) ?_
    simp only [Act.put, List.setIfInBounds_toArray, List.set_cons_zero, List.set_cons_succ]
    refine tk 6 ⟨some 9, .load 3 (.tmp 8), 3, "entry.go:42", #[⟨5, .data⟩, ⟨4, .guard⟩], some (4, false)⟩ (.int .i64 x.o) ?_ (hy := Or.inl ⟨by rfl, by intro w hSw; have hq : w.cell? ⟨g1, 1, none⟩ = some (.int .i64 x.o) := Cel.cell hSw 1; go_simp⟩)
    simp only [Act.put, List.setIfInBounds_toArray, List.set_cons_zero, List.set_cons_succ]
    refine wpAnyH_ready (rs := [7]) (by kernel_rfl) (by simp) (AllReadyH.cons (o := ⟨some 10, .call { callee := .value (.func 106), args := #[.tmp 9], argTypes := #[3] }, 4, "entry.go:42", #[⟨6, .data⟩, ⟨4, .chain⟩, ⟨4, .guard⟩], some (4, false)⟩) rfl (fun KQ hK => ?_) AllReadyH.nil)
    go_simp
    refine (below_any _ x.o).mono ?_
    rintro e w2 ⟨rfl, rfl⟩
    rw [e2]
    go_wp2_with fail
    refine hK.out _ _ HC1.out (fun hHeld => ?_)
    clear hK KQ
    try simp only [Act.put, List.setIfInBounds_toArray, List.set_cons_zero, List.set_cons_succ]
    refine tk 8 ⟨some 11, .unOp .not 4 (.tmp 10), 4, "entry.go:42", #[⟨7, .data⟩, ⟨4, .guard⟩], some (4, false)⟩ (.bool false) ?_
    simp only [Act.put, List.setIfInBounds_toArray, List.set_cons_zero, List.set_cons_succ]
    refine tk 9 ⟨some 12, .pick (.tmp 7) (.const (.bool true)) (.tmp 11), 4, "entry.go:42", #[⟨4, .data⟩, ⟨8, .data⟩], none⟩ (.bool false) ?_
    simp only [Act.put, List.setIfInBounds_toArray, List.set_cons_zero, List.set_cons_succ]
    refine tk 10 ⟨some 13, .move (.tmp 12), 4, "entry.go:42", #[⟨9, .data⟩, ⟨7, .chain⟩], none⟩ (.bool false) ?_
    simp only [Act.put, List.setIfInBounds_toArray, List.set_cons_zero, List.set_cons_succ]
    refine tk 11 ⟨some 14, .fieldAddr 136 (.tmp 1) 2, 0, "entry.go:42", #[⟨10, .guard⟩], some (10, false)⟩ (.pointer (some ⟨g1, 2, none⟩)) ?_
    simp only [Act.put, List.setIfInBounds_toArray, List.set_cons_zero, List.set_cons_succ]
    refine tk 12 ⟨some 15, .load 3 (.tmp 14), 3, "entry.go:42", #[⟨11, .data⟩, ⟨10, .guard⟩], some (10, false)⟩ (.int .i64 x.r) ?_ (hy := Or.inl ⟨by rfl, by intro w hSw; have hq : w.cell? ⟨g1, 2, none⟩ = some (.int .i64 x.r) := Cel.cell hSw 2; go_simp⟩)
    simp only [Act.put, List.setIfInBounds_toArray, List.set_cons_zero, List.set_cons_succ]
    refine wpAnyH_ready (rs := [13]) (by kernel_rfl) (by simp) (AllReadyH.cons (o := ⟨some 16, .call { callee := .value (.func 106), args := #[.tmp 15], argTypes := #[3] }, 4, "entry.go:42", #[⟨12, .data⟩, ⟨10, .chain⟩, ⟨10, .guard⟩], some (10, false)⟩) rfl (fun KQ hK => ?_) AllReadyH.nil)
    go_simp
    refine (below_any _ x.r).mono ?_
    rintro e w3 ⟨rfl, rfl⟩
    rw [e3]
    go_wp2_with fail
    refine hK.out _ _ HC1.out (fun hHeld => ?_)
    clear hK KQ
    try simp only [Act.put, List.setIfInBounds_toArray, List.set_cons_zero, List.set_cons_succ]
    refine tk 14 ⟨some 17, .unOp .not 4 (.tmp 16), 4, "entry.go:42", #[⟨13, .data⟩, ⟨10, .guard⟩], some (10, false)⟩ (.bool false) ?_
    simp only [Act.put, List.setIfInBounds_toArray, List.set_cons_zero, List.set_cons_succ]
    refine tk 15 ⟨some 18, .pick (.tmp 13) (.const (.bool true)) (.tmp 17), 4, "entry.go:42", #[⟨10, .data⟩, ⟨14, .data⟩], none⟩ (.bool false) ?_
    simp only [Act.put, List.setIfInBounds_toArray, List.set_cons_zero, List.set_cons_succ]
    refine tk 16 ⟨some 19, .move (.tmp 18), 4, "entry.go:42", #[⟨15, .data⟩, ⟨13, .chain⟩], none⟩ (.bool false) ?_
    simp only [Act.put, List.setIfInBounds_toArray, List.set_cons_zero, List.set_cons_succ]
    refine tk 17 ⟨some 20, .fieldAddr 136 (.tmp 1) 3, 0, "entry.go:42", #[⟨16, .guard⟩], some (16, false)⟩ (.pointer (some ⟨g1, 3, none⟩)) ?_
    simp only [Act.put, List.setIfInBounds_toArray, List.set_cons_zero, List.set_cons_succ]
    refine tk 18 ⟨some 21, .load 134 (.tmp 20), 134, "entry.go:42", #[⟨17, .data⟩, ⟨16, .guard⟩], some (16, false)⟩ (.int .i64 x.s) ?_ (hy := Or.inl ⟨by rfl, by intro w hSw; have hq : w.cell? ⟨g1, 3, none⟩ = some (.int .i64 x.s) := Cel.cell hSw 3; go_simp⟩)
    simp only [Act.put, List.setIfInBounds_toArray, List.set_cons_zero, List.set_cons_succ]
    refine tk 19 ⟨some 22, .fieldAddr 136 (.tmp 1) 0, 0, "entry.go:42", #[⟨16, .guard⟩], some (16, false)⟩ (.pointer (some ⟨g1, 0, none⟩)) ?_
    simp only [Act.put, List.setIfInBounds_toArray, List.set_cons_zero, List.set_cons_succ]
    refine tk 20 ⟨some 23, .load 86 (.tmp 22), 86, "entry.go:42", #[⟨19, .data⟩, ⟨16, .guard⟩], some (16, false)⟩ (.int .i64 x.t) ?_ (hy := Or.inl ⟨by rfl, by intro w hSw; have hq : w.cell? ⟨g1, 0, none⟩ = some (.int .i64 x.t) := Cel.cell hSw 0; go_simp⟩)
    simp only [Act.put, List.setIfInBounds_toArray, List.set_cons_zero, List.set_cons_succ]
    refine wpAnyH_ready (rs := [21]) (by kernel_rfl) (by simp) (AllReadyH.cons (o := ⟨some 24, .call { callee := .value (.func 107), args := #[.tmp 21, .tmp 23], argTypes := #[134, 86] }, 4, "entry.go:42", #[⟨18, .data⟩, ⟨20, .data⟩, ⟨16, .chain⟩, ⟨16, .guard⟩], some (16, false)⟩) rfl (fun KQ hK => ?_) AllReadyH.nil)
    go_simp
    refine (fits_any _ x.s x.t).mono ?_
    rintro e w4 ⟨rfl, rfl⟩
    rw [e4]
    go_wp2_with fail
    refine hK.out _ _ HC1.out (fun hHeld => ?_)
    clear hK KQ
    try simp only [Act.put, List.setIfInBounds_toArray, List.set_cons_zero, List.set_cons_succ]
    refine tk 22 ⟨some 25, .unOp .not 4 (.tmp 24), 4, "entry.go:42", #[⟨21, .data⟩, ⟨16, .guard⟩], some (16, false)⟩ (.bool false) ?_
    simp only [Act.put, List.setIfInBounds_toArray, List.set_cons_zero, List.set_cons_succ]
    refine tk 23 ⟨some 26, .pick (.tmp 19) (.const (.bool true)) (.tmp 25), 4, "entry.go:42", #[⟨16, .data⟩, ⟨22, .data⟩], none⟩ (.bool false) ?_
    simp only [Act.put, List.setIfInBounds_toArray, List.set_cons_zero, List.set_cons_succ]
    refine wpAnyH_done (by kernel_rfl) ?_ _

    go_wp2_with fail
    go_ret
    exact ⟨by rw [hk]; rfl, HB1.out⟩
end Go.Proofs.Ytgbpbfnpeeciaaa
