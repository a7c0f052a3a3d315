import Derived.Test.YtgbpbfnpeeciaaaGreatP07
import Derived.Test.YtgbpbfnpeeciaaaGreatP01
namespace Go.Proofs.YtgbpbfnpeeciaaaGreat
open Go.RowKit
set_option maxHeartbeats 8000000
set_option maxRecDepth 100000
theorem exec_neV {a : Act} {w : World} {o : Oper} (T : TypeId) (x y : Operand) (ho : o.op = .binOp .neq T x y T) (u v : Array Value) (hx : a.eval x = .agg u) (hy : a.eval y = .agg v) (hg : Tryz.prog.eqGuardType Tryz.prog.depth T = false) (c b : Bool) (hb : (Op.equalIn 10000 T (.agg u) (.agg v)).run Tryz.prog w = .ok c w) (hc : (!c) = b) :
    (execOp a.eval o).run Tryz.prog w = .ok (.value (.bool b)) w := by rw [exec_ne T x y ho u v hx hy hg c hb, hc]
theorem check_any (W : World) (x : En) : Calls Tryz.prog 122 #[x.v] W fun e W' => e = .returned (.int .i64 (chk x)) ∧ Below W.heap.size W W' := by
  have HC := hid (Cel.new W 125 x.cs)
  have HB := hid (below_one W (.cells x.cs.toArray 125))
  unfold En.v
  go_enter Tryz.func122, Tryz.ntmps122
  go_upto_region 1 with fail
  generalize hX : World.alloc _ _ = X at *
  clear hX
  have HC0 := hid (HC.out.on (Below.refl _ _).drew)
  have HB0 := hid (below_on HB.out (Below.refl _ _).drew)
  generalize W.heap.size = g1 at HC HC0 ⊢
  clear HC HB
  rcases e1 : x.same x.used with _ | _
  · have hk : chk x = 110 := by simp [chk, En.ok, e1]
    refine wp_region_held_drew (S := fun w => Cel w g1 125 x.cs) (by kernel_rfl) HC0.out (fun hHeld => ?_)
    refine tk 0 ⟨some 3, .load 125 (.tmp 1), 125, "entry.go:42", #[], none⟩ x.v ?_ (hy := yieldsIf_load_mid (by rfl) _ _ rfl _ _ rfl _ _ (fun w hSw => hSw.range) underE rfl (by rw [sizeE]; rfl))
    simp only [Act.put, List.setIfInBounds_toArray, List.set_cons_zero, List.set_cons_succ]
    refine tk 1 ⟨some 4, .load 125 (.tmp 1), 125, "entry.go:42", #[], none⟩ x.v ?_ (hy := yieldsIf_load_mid (by rfl) _ _ rfl _ _ rfl _ _ (fun w hSw => hSw.range) underE rfl (by rw [sizeE]; rfl))
    simp only [Act.put, List.setIfInBounds_toArray, List.set_cons_zero, List.set_cons_succ]
    refine wpAnyH_ready (rs := [2]) (by kernel_rfl) (by simp) (AllReadyH.cons (o := ⟨some 5, .call { callee := .value (.func 128), args := #[.tmp 4], argTypes := #[125] }, 125, "entry.go:42", #[⟨1, .data⟩], none⟩) rfl (fun KQ hK => ?_) AllReadyH.nil)
    go_simp
    refine (used_any _ x).mono ?_
    rintro e w1 ⟨rfl, hb1⟩
    have HC1 := hid (HC0.out.on hb1)
    have HB1 := hid (below_on HB0.out hb1)
    clear hb1
    go_wp2_with fail
    refine hK.out _ _ HC1.out (fun hHeld => ?_)
    clear hK KQ
    try simp only [Act.put, List.setIfInBounds_toArray, List.set_cons_zero, List.set_cons_succ]
    refine tk 3 ⟨some 6, .binOp .neq 125 (.tmp 3) (.tmp 5) 125, 4, "entry.go:42", #[⟨0, .data⟩, ⟨2, .data⟩], none⟩ (.bool true) ?_ (hy := Or.inl ⟨by rfl, fun w hSw => exec_neV 125 _ _ rfl _ _ rfl rfl guardE _ _ (eqE w 9996 x x.used) (by rw [e1]; rfl)⟩)
    simp only [Act.put, List.setIfInBounds_toArray, List.set_cons_zero, List.set_cons_succ]
    refine tk 4 ⟨some 7, .move (.tmp 6), 4, "entry.go:42", #[⟨3, .data⟩, ⟨2, .chain⟩], none⟩ (.bool true) ?_
    simp only [Act.put, List.setIfInBounds_toArray, List.set_cons_zero, List.set_cons_succ]
    refine tk 5 ⟨some 8, .fieldAddr 125 (.tmp 1) 1, 0, "entry.go:42", #[⟨4, .guard⟩], some (4, false)⟩ undef ?_ (hy := Or.inr ⟨by rfl, rfl⟩)
    simp only [Act.put, List.setIfInBounds_toArray, List.set_cons_zero, List.set_cons_succ]
    refine tk 6 ⟨some 9, .load 3 (.tmp 8), 3, "entry.go:42", #[⟨5, .data⟩, ⟨4, .guard⟩], some (4, false)⟩ undef ?_ (hy := Or.inr ⟨by rfl, rfl⟩)
    simp only [Act.put, List.setIfInBounds_toArray, List.set_cons_zero, List.set_cons_succ]
    refine tk 7 ⟨some 10, .call { callee := .value (.func 129), args := #[.tmp 9], argTypes := #[3] }, 4, "entry.go:42", #[⟨6, .data⟩, ⟨4, .chain⟩, ⟨4, .guard⟩], some (4, false)⟩ undef ?_ (hy := Or.inr ⟨by rfl, rfl⟩)
    simp only [Act.put, List.setIfInBounds_toArray, List.set_cons_zero, List.set_cons_succ]
    refine tk 8 ⟨some 11, .unOp .not 4 (.tmp 10), 4, "entry.go:42", #[⟨7, .data⟩, ⟨4, .guard⟩], some (4, false)⟩ undef ?_ (hy := Or.inr ⟨by rfl, rfl⟩)
    simp only [Act.put, List.setIfInBounds_toArray, List.set_cons_zero, List.set_cons_succ]
    refine tk 9 ⟨some 12, .pick (.tmp 7) (.const (.bool true)) (.tmp 11), 4, "entry.go:42", #[⟨4, .data⟩, ⟨8, .data⟩], none⟩ (.bool true) ?_
    simp only [Act.put, List.setIfInBounds_toArray, List.set_cons_zero, List.set_cons_succ]
    refine tk 10 ⟨some 13, .move (.tmp 12), 4, "entry.go:42", #[⟨9, .data⟩, ⟨7, .chain⟩], none⟩ (.bool true) ?_
    simp only [Act.put, List.setIfInBounds_toArray, List.set_cons_zero, List.set_cons_succ]
    refine tk 11 ⟨some 14, .fieldAddr 125 (.tmp 1) 2, 0, "entry.go:42", #[⟨10, .guard⟩], some (10, false)⟩ undef ?_ (hy := Or.inr ⟨by rfl, rfl⟩)
    simp only [Act.put, List.setIfInBounds_toArray, List.set_cons_zero, List.set_cons_succ]
    refine tk 12 ⟨some 15, .load 3 (.tmp 14), 3, "entry.go:42", #[⟨11, .data⟩, ⟨10, .guard⟩], some (10, false)⟩ undef ?_ (hy := Or.inr ⟨by rfl, rfl⟩)
    simp only [Act.put, List.setIfInBounds_toArray, List.set_cons_zero, List.set_cons_succ]
    refine tk 13 ⟨some 16, .call { callee := .value (.func 129), args := #[.tmp 15], argTypes := #[3] }, 4, "entry.go:42", #[⟨12, .data⟩, ⟨10, .chain⟩, ⟨10, .guard⟩], some (10, false)⟩ undef ?_ (hy := Or.inr ⟨by rfl, rfl⟩)
    simp only [Act.put, List.setIfInBounds_toArray, List.set_cons_zero, List.set_cons_succ]
    refine tk 14 ⟨some 17, .unOp .not 4 (.tmp 16), 4, "entry.go:42", #[⟨13, .data⟩, ⟨10, .guard⟩], some (10, false)⟩ undef ?_ (hy := Or.inr ⟨by rfl, rfl⟩)
    simp only [Act.put, List.setIfInBounds_toArray, List.set_cons_zero, List.set_cons_succ]
    refine tk 15 ⟨some 18, .pick (.tmp 13) (.const (.bool true)) (.tmp 17), 4, "entry.go:42", #[⟨10, .data⟩, ⟨14, .data⟩], none⟩ (.bool true) ?_
    simp only [Act.put, List.setIfInBounds_toArray, List.set_cons_zero, List.set_cons_succ]
    refine tk 16 ⟨some 19, .move (.tmp 18), 4, "entry.go:42", #[⟨15, .data⟩, ⟨13, .chain⟩], none⟩ (.bool true) ?_
    simp only [Act.put, List.setIfInBounds_toArray, List.set_cons_zero, List.set_cons_succ]
    refine tk 17 ⟨some 20, .fieldAddr 125 (.tmp 1) 3, 0, "entry.go:42", #[⟨16, .guard⟩], some (16, false)⟩ undef ?_ (hy := Or.inr ⟨by rfl, rfl⟩)
    simp only [Act.put, List.setIfInBounds_toArray, List.set_cons_zero, List.set_cons_succ]
    refine tk 18 ⟨some 21, .load 64 (.tmp 20), 64, "entry.go:42", #[⟨17, .data⟩, ⟨16, .guard⟩], some (16, false)⟩ undef ?_ (hy := Or.inr ⟨by rfl, rfl⟩)
    simp only [Act.put, List.setIfInBounds_toArray, List.set_cons_zero, List.set_cons_succ]
    refine tk 19 ⟨some 22, .fieldAddr 125 (.tmp 1) 0, 0, "entry.go:42", #[⟨16, .guard⟩], some (16, false)⟩ undef ?_ (hy := Or.inr ⟨by rfl, rfl⟩)
    simp only [Act.put, List.setIfInBounds_toArray, List.set_cons_zero, List.set_cons_succ]
    refine tk 20 ⟨some 23, .load 58 (.tmp 22), 58, "entry.go:42", #[⟨19, .data⟩, ⟨16, .guard⟩], some (16, false)⟩ undef ?_ (hy := Or.inr ⟨by rfl, rfl⟩)
    simp only [Act.put, List.setIfInBounds_toArray, List.set_cons_zero, List.set_cons_succ]
    refine tk 21 ⟨some 24, .call { callee := .value (.func 130), args := #[.tmp 21, .tmp 23], argTypes := #[64, 58] }, 4, "entry.go:42", #[⟨18, .data⟩, ⟨20, .data⟩, ⟨16, .chain⟩, ⟨16, .guard⟩], some (16, false)⟩ undef ?_ (hy := Or.inr ⟨by rfl, rfl⟩)
    simp only [Act.put, List.setIfInBounds_toArray, List.set_cons_zero, List.set_cons_succ]
    refine tk 22 ⟨some 25, .unOp .not 4 (.tmp 24), 4, "entry.go:42", #[⟨21, .data⟩, ⟨16, .guard⟩], some (16, false)⟩ undef ?_ (hy := Or.inr ⟨by rfl, rfl⟩)
    simp only [Act.put, List.setIfInBounds_toArray, List.set_cons_zero, List.set_cons_succ]
    refine tk 23 ⟨some 26, .pick (.tmp 19) (.const (.bool true)) (.tmp 25), 4, "entry.go:42", #[⟨16, .data⟩, ⟨22, .data⟩], none⟩ (.bool true) ?_
    simp only [Act.put, List.setIfInBounds_toArray, List.set_cons_zero, List.set_cons_succ]
    refine wpAnyH_done (by kernel_rfl) ?_ _

    go_wp2_with fail
    go_ret
    exact ⟨by rw [hk]; rfl, HB1.out⟩
  rcases e2 : blw x.o with _ | _
  · have hk : chk x = 110 := by simp [chk, En.ok, e1, e2]
    refine wp_region_held_drew (S := fun w => Cel w g1 125 x.cs) (by kernel_rfl) HC0.out (fun hHeld => ?_)
    refine tk 0 ⟨some 3, .load 125 (.tmp 1), 125, "entry.go:42", #[], none⟩ x.v ?_ (hy := yieldsIf_load_mid (by rfl) _ _ rfl _ _ rfl _ _ (fun w hSw => hSw.range) underE rfl (by rw [sizeE]; rfl))
    simp only [Act.put, List.setIfInBounds_toArray, List.set_cons_zero, List.set_cons_succ]
    refine tk 1 ⟨some 4, .load 125 (.tmp 1), 125, "entry.go:42", #[], none⟩ x.v ?_ (hy := yieldsIf_load_mid (by rfl) _ _ rfl _ _ rfl _ _ (fun w hSw => hSw.range) underE rfl (by rw [sizeE]; rfl))
    simp only [Act.put, List.setIfInBounds_toArray, List.set_cons_zero, List.set_cons_succ]
    refine wpAnyH_ready (rs := [2]) (by kernel_rfl) (by simp) (AllReadyH.cons (o := ⟨some 5, .call { callee := .value (.func 128), args := #[.tmp 4], argTypes := #[125] }, 125, "entry.go:42", #[⟨1, .data⟩], none⟩) rfl (fun KQ hK => ?_) AllReadyH.nil)
    go_simp
    refine (used_any _ x).mono ?_
    rintro e w1 ⟨rfl, hb1⟩
    have HC1 := hid (HC0.out.on hb1)
    have HB1 := hid (below_on HB0.out hb1)
    clear hb1
    go_wp2_with fail
    refine hK.out _ _ HC1.out (fun hHeld => ?_)
    clear hK KQ
    try simp only [Act.put, List.setIfInBounds_toArray, List.set_cons_zero, List.set_cons_succ]
    refine tk 3 ⟨some 6, .binOp .neq 125 (.tmp 3) (.tmp 5) 125, 4, "entry.go:42", #[⟨0, .data⟩, ⟨2, .data⟩], none⟩ (.bool false) ?_ (hy := Or.inl ⟨by rfl, fun w hSw => exec_neV 125 _ _ rfl _ _ rfl rfl guardE _ _ (eqE w 9996 x x.used) (by rw [e1]; rfl)⟩)
    simp only [Act.put, List.setIfInBounds_toArray, List.set_cons_zero, List.set_cons_succ]
    refine tk 4 ⟨some 7, .move (.tmp 6), 4, "entry.go:42", #[⟨3, .data⟩, ⟨2, .chain⟩], none⟩ (.bool false) ?_
    simp only [Act.put, List.setIfInBounds_toArray, List.set_cons_zero, List.set_cons_succ]
    refine tk 5 ⟨some 8, .fieldAddr 125 (.tmp 1) 1, 0, "entry.go:42", #[⟨4, .guard⟩], some (4, false)⟩ (.pointer (some ⟨g1, 1, none⟩)) ?_
    simp only [Act.put, List.setIfInBounds_toArray, List.set_cons_zero, List.set_cons_succ]
    refine tk 6 ⟨some 9, .load 3 (.tmp 8), 3, "entry.go:42", #[⟨5, .data⟩, ⟨4, .guard⟩], some (4, false)⟩ (.int .i64 x.o) ?_ (hy := Or.inl ⟨by rfl, by intro w hSw; have hq : w.cell? ⟨g1, 1, none⟩ = some (.int .i64 x.o) := Cel.cell hSw 1; go_simp⟩)
    simp only [Act.put, List.setIfInBounds_toArray, List.set_cons_zero, List.set_cons_succ]
    refine wpAnyH_ready (rs := [7]) (by kernel_rfl) (by simp) (AllReadyH.cons (o := ⟨some 10, .call { callee := .value (.func 129), args := #[.tmp 9], argTypes := #[3] }, 4, "entry.go:42", #[⟨6, .data⟩, ⟨4, .chain⟩, ⟨4, .guard⟩], some (4, false)⟩) rfl (fun KQ hK => ?_) AllReadyH.nil)
    go_simp
    refine (below_any _ x.o).mono ?_
    rintro e w2 ⟨rfl, rfl⟩
    rw [e2]
    go_wp2_with fail
    refine hK.out _ _ HC1.out (fun hHeld => ?_)
    clear hK KQ
    try simp only [Act.put, List.setIfInBounds_toArray, List.set_cons_zero, List.set_cons_succ]
    refine tk 8 ⟨some 11, .unOp .not 4 (.tmp 10), 4, "entry.go:42", #[⟨7, .data⟩, ⟨4, .guard⟩], some (4, false)⟩ (.bool true) ?_
    simp only [Act.put, List.setIfInBounds_toArray, List.set_cons_zero, List.set_cons_succ]
    refine tk 9 ⟨some 12, .pick (.tmp 7) (.const (.bool true)) (.tmp 11), 4, "entry.go:42", #[⟨4, .data⟩, ⟨8, .data⟩], none⟩ (.bool true) ?_
    simp only [Act.put, List.setIfInBounds_toArray, List.set_cons_zero, List.set_cons_succ]
    refine tk 10 ⟨some 13, .move (.tmp 12), 4, "entry.go:42", #[⟨9, .data⟩, ⟨7, .chain⟩], none⟩ (.bool true) ?_
    simp only [Act.put, List.setIfInBounds_toArray, List.set_cons_zero, List.set_cons_succ]
    refine tk 11 ⟨some 14, .fieldAddr 125 (.tmp 1) 2, 0, "entry.go:42", #[⟨10, .guard⟩], some (10, false)⟩ undef ?_ (hy := Or.inr ⟨by rfl, rfl⟩)
    simp only [Act.put, List.setIfInBounds_toArray, List.set_cons_zero, List.set_cons_succ]
    refine tk 12 ⟨some 15, .load 3 (.tmp 14), 3, "entry.go:42", #[⟨11, .data⟩, ⟨10, .guard⟩], some (10, false)⟩ undef ?_ (hy := Or.inr ⟨by rfl, rfl⟩)
    simp only [Act.put, List.setIfInBounds_toArray, List.set_cons_zero, List.set_cons_succ]
    refine tk 13 ⟨some 16, .call { callee := .value (.func 129), args := #[.tmp 15], argTypes := #[3] }, 4, "entry.go:42", #[⟨12, .data⟩, ⟨10, .chain⟩, ⟨10, .guard⟩], some (10, false)⟩ undef ?_ (hy := Or.inr ⟨by rfl, rfl⟩)
    simp only [Act.put, List.setIfInBounds_toArray, List.set_cons_zero, List.set_cons_succ]
    refine tk 14 ⟨some 17, .unOp .not 4 (.tmp 16), 4, "entry.go:42", #[⟨13, .data⟩, ⟨10, .guard⟩], some (10, false)⟩ undef ?_ (hy := Or.inr ⟨by rfl, rfl⟩)
    simp only [Act.put, List.setIfInBounds_toArray, List.set_cons_zero, List.set_cons_succ]
    refine tk 15 ⟨some 18, .pick (.tmp 13) (.const (.bool true)) (.tmp 17), 4, "entry.go:42", #[⟨10, .data⟩, ⟨14, .data⟩], none⟩ (.bool true) ?_
    simp only [Act.put, List.setIfInBounds_toArray, List.set_cons_zero, List.set_cons_succ]
    refine tk 16 ⟨some 19, .move (.tmp 18), 4, "entry.go:42", #[⟨15, .data⟩, ⟨13, .chain⟩], none⟩ (.bool true) ?_
    simp only [Act.put, List.setIfInBounds_toArray, List.set_cons_zero, List.set_cons_succ]
    refine tk 17 ⟨some 20, .fieldAddr 125 (.tmp 1) 3, 0, "entry.go:42", #[⟨16, .guard⟩], some (16, false)⟩ undef ?_ (hy := Or.inr ⟨by rfl, rfl⟩)
    simp only [Act.put, List.setIfInBounds_toArray, List.set_cons_zero, List.set_cons_succ]
    refine tk 18 ⟨some 21, .load 64 (.tmp 20), 64, "entry.go:42", #[⟨17, .data⟩, ⟨16, .guard⟩], some (16, false)⟩ undef ?_ (hy := Or.inr ⟨by rfl, rfl⟩)
    simp only [Act.put, List.setIfInBounds_toArray, List.set_cons_zero, List.set_cons_succ]
    refine tk 19 ⟨some 22, .fieldAddr 125 (.tmp 1) 0, 0, "entry.go:42", #[⟨16, .guard⟩], some (16, false)⟩ undef ?_ (hy := Or.inr ⟨by rfl, rfl⟩)
    simp only [Act.put, List.setIfInBounds_toArray, List.set_cons_zero, List.set_cons_succ]
    refine tk 20 ⟨some 23, .load 58 (.tmp 22), 58, "entry.go:42", #[⟨19, .data⟩, ⟨16, .guard⟩], some (16, false)⟩ undef ?_ (hy := Or.inr ⟨by rfl, rfl⟩)
    simp only [Act.put, List.setIfInBounds_toArray, List.set_cons_zero, List.set_cons_succ]
    refine tk 21 ⟨some 24, .call { callee := .value (.func 130), args := #[.tmp 21, .tmp 23], argTypes := #[64, 58] }, 4, "entry.go:42", #[⟨18, .data⟩, ⟨20, .data⟩, ⟨16, .chain⟩, ⟨16, .guard⟩], some (16, false)⟩ undef ?_ (hy := Or.inr ⟨by rfl, rfl⟩)
    simp only [Act.put, List.setIfInBounds_toArray, List.set_cons_zero, List.set_cons_succ]
    refine tk 22 ⟨some 25, .unOp .not 4 (.tmp 24), 4, "entry.go:42", #[⟨21, .data⟩, ⟨16, .guard⟩], some (16, false)⟩ undef ?_ (hy := Or.inr ⟨by rfl, rfl⟩)
    simp only [Act.put, List.setIfInBounds_toArray, List.set_cons_zero, List.set_cons_succ]
    refine tk 23 ⟨some 26, .pick (.tmp 19) (.const (.bool true)) (.tmp 25), 4, "entry.go:42", #[⟨16, .data⟩, ⟨22, .data⟩], none⟩ (.bool true) ?_
    simp only [Act.put, List.setIfInBounds_toArray, List.set_cons_zero, List.set_cons_succ]
    refine wpAnyH_done (by kernel_rfl) ?_ _

    go_wp2_with fail
    go_ret
    exact ⟨by rw [hk]; rfl, HB1.out⟩
  rcases e3 : blw x.r with _ | _
  · have hk : chk x = 110 := by simp [chk, En.ok, e1, e2, e3]
    refine wp_region_held_drew (S := fun w => Cel w g1 125 x.cs) (by kernel_rfl) HC0.out (fun hHeld => ?_)
    refine tk 0 ⟨some 3, .load 125 (.tmp 1), 125, "entry.go:42", #[], none⟩ x.v ?_ (hy := yieldsIf_load_mid (by rfl) _ _ rfl _ _ rfl _ _ (fun w hSw => hSw.range) underE rfl (by rw [sizeE]; rfl))
    simp only [Act.put, List.setIfInBounds_toArray, List.set_cons_zero, List.set_cons_succ]
    refine tk 1 ⟨some 4, .load 125 (.tmp 1), 125, "entry.go:42", #[], none⟩ x.v ?_ (hy := yieldsIf_load_mid (by rfl) _ _ rfl _ _ rfl _ _ (fun w hSw => hSw.range) underE rfl (by rw [sizeE]; rfl))
    simp only [Act.put, List.setIfInBounds_toArray, List.set_cons_zero, List.set_cons_succ]
    refine wpAnyH_ready (rs := [2]) (by kernel_rfl) (by simp) (AllReadyH.cons (o := ⟨some 5, .call { callee := .value (.func 128), args := #[.tmp 4], argTypes := #[125] }, 125, "entry.go:42", #[⟨1, .data⟩], none⟩) rfl (fun KQ hK => ?_) AllReadyH.nil)
    go_simp
    refine (used_any _ x).mono ?_
    rintro e w1 ⟨rfl, hb1⟩
    have HC1 := hid (HC0.out.on hb1)
    have HB1 := hid (below_on HB0.out hb1)
    clear hb1
    go_wp2_with fail
    refine hK.out _ _ HC1.out (fun hHeld => ?_)
    clear hK KQ
    try simp only [Act.put, List.setIfInBounds_toArray, List.set_cons_zero, List.set_cons_succ]
    refine tk 3 ⟨some 6, .binOp .neq 125 (.tmp 3) (.tmp 5) 125, 4, "entry.go:42", #[⟨0, .data⟩, ⟨2, .data⟩], none⟩ (.bool false) ?_ (hy := Or.inl ⟨by rfl, fun w hSw => exec_neV 125 _ _ rfl _ _ rfl rfl guardE _ _ (eqE w 9996 x x.used) (by rw [e1]; rfl)⟩)
    simp only [Act.put, List.setIfInBounds_toArray, List.set_cons_zero, List.set_cons_succ]
    refine tk 4 ⟨some 7, .move (.tmp 6), 4, "entry.go:42", #[⟨3, .data⟩, ⟨2, .chain⟩], none⟩ (.bool false) ?_
    simp only [Act.put, List.setIfInBounds_toArray, List.set_cons_zero, List.set_cons_succ]
    refine tk 5 ⟨some 8, .fieldAddr 125 (.tmp 1) 1, 0, "entry.go:42", #[⟨4, .guard⟩], some (4, false)⟩ (.pointer (some ⟨g1, 1, none⟩)) ?_
    simp only [Act.put, List.setIfInBounds_toArray, List.set_cons_zero, List.set_cons_succ]
    refine tk 6 ⟨some 9, .load 3 (.tmp 8), 3, "entry.go:42", #[⟨5, .data⟩, ⟨4, .guard⟩], some (4, false)⟩ (.int .i64 x.o) ?_ (hy := Or.inl ⟨by rfl, by intro w hSw; have hq : w.cell? ⟨g1, 1, none⟩ = some (.int .i64 x.o) := Cel.cell hSw 1; go_simp⟩)
    simp only [Act.put, List.setIfInBounds_toArray, List.set_cons_zero, List.set_cons_succ]
    refine wpAnyH_ready (rs := [7]) (by kernel_rfl) (by simp) (AllReadyH.cons (o := ⟨some 10, .call { callee := .value (.func 129), args := #[.tmp 9], argTypes := #[3] }, 4, "entry.go:42", #[⟨6, .data⟩, ⟨4, .chain⟩, ⟨4, .guard⟩], some (4, false)⟩) rfl (fun KQ hK => ?_) AllReadyH.nil)
    go_simp
    refine (below_any _ x.o).mono ?_
    rintro e w2 ⟨rfl, rfl⟩
    rw [e2]
    go_wp2_with fail
    refine hK.out _ _ HC1.out (fun hHeld => ?_)
    clear hK KQ
    try simp only [Act.put, List.setIfInBounds_toArray, List.set_cons_zero, List.set_cons_succ]
    refine tk 8 ⟨some 11, .unOp .not 4 (.tmp 10), 4, "entry.go:42", #[⟨7, .data⟩, ⟨4, .guard⟩], some (4, false)⟩ (.bool false) ?_
    simp only [Act.put, List.setIfInBounds_toArray, List.set_cons_zero, List.set_cons_succ]
    refine tk 9 ⟨some 12, .pick (.tmp 7) (.const (.bool true)) (.tmp 11), 4, "entry.go:42", #[⟨4, .data⟩, ⟨8, .data⟩], none⟩ (.bool false) ?_
    simp only [Act.put, List.setIfInBounds_toArray, List.set_cons_zero, List.set_cons_succ]
    refine tk 10 ⟨some 13, .move (.tmp 12), 4, "entry.go:42", #[⟨9, .data⟩, ⟨7, .chain⟩], none⟩ (.bool false) ?_
    simp only [Act.put, List.setIfInBounds_toArray, List.set_cons_zero, List.set_cons_succ]
    refine tk 11 ⟨some 14, .fieldAddr 125 (.tmp 1) 2, 0, "entry.go:42", #[⟨10, .guard⟩], some (10, false)⟩ (.pointer (some ⟨g1, 2, none⟩)) ?_
    simp only [Act.put, List.setIfInBounds_toArray, List.set_cons_zero, List.set_cons_succ]
    refine tk 12 ⟨some 15, .load 3 (.tmp 14), 3, "entry.go:42", #[⟨11, .data⟩, ⟨10, .guard⟩], some (10, false)⟩ (.int .i64 x.r) ?_ (hy := Or.inl ⟨by rfl, by intro w hSw; have hq : w.cell? ⟨g1, 2, none⟩ = some (.int .i64 x.r) := Cel.cell hSw 2; go_simp⟩)
    simp only [Act.put, List.setIfInBounds_toArray, List.set_cons_zero, List.set_cons_succ]
    refine wpAnyH_ready (rs := [13]) (by kernel_rfl) (by simp) (AllReadyH.cons (o := ⟨some 16, .call { callee := .value (.func 129), args := #[.tmp 15], argTypes := #[3] }, 4, "entry.go:42", #[⟨12, .data⟩, ⟨10, .chain⟩, ⟨10, .guard⟩], some (10, false)⟩) rfl (fun KQ hK => ?_) AllReadyH.nil)
    go_simp
    refine (below_any _ x.r).mono ?_
    rintro e w3 ⟨rfl, rfl⟩
    rw [e3]
    go_wp2_with fail
    refine hK.out _ _ HC1.out (fun hHeld => ?_)
    clear hK KQ
    try simp only [Act.put, List.setIfInBounds_toArray, List.set_cons_zero, List.set_cons_succ]
    refine tk 14 ⟨some 17, .unOp .not 4 (.tmp 16), 4, "entry.go:42", #[⟨13, .data⟩, ⟨10, .guard⟩], some (10, false)⟩ (.bool true) ?_
    simp only [Act.put, List.setIfInBounds_toArray, List.set_cons_zero, List.set_cons_succ]
    refine tk 15 ⟨some 18, .pick (.tmp 13) (.const (.bool true)) (.tmp 17), 4, "entry.go:42", #[⟨10, .data⟩, ⟨14, .data⟩], none⟩ (.bool true) ?_
    simp only [Act.put, List.setIfInBounds_toArray, List.set_cons_zero, List.set_cons_succ]
    refine tk 16 ⟨some 19, .move (.tmp 18), 4, "entry.go:42", #[⟨15, .data⟩, ⟨13, .chain⟩], none⟩ (.bool true) ?_
    simp only [Act.put, List.setIfInBounds_toArray, List.set_cons_zero, List.set_cons_succ]
    refine tk 17 ⟨some 20, .fieldAddr 125 (.tmp 1) 3, 0, "entry.go:42", #[⟨16, .guard⟩], some (16, false)⟩ undef ?_ (hy := Or.inr ⟨by rfl, rfl⟩)
    simp only [Act.put, List.setIfInBounds_toArray, List.set_cons_zero, List.set_cons_succ]
    refine tk 18 ⟨some 21, .load 64 (.tmp 20), 64, "entry.go:42", #[⟨17, .data⟩, ⟨16, .guard⟩], some (16, false)⟩ undef ?_ (hy := Or.inr ⟨by rfl, rfl⟩)
    simp only [Act.put, List.setIfInBounds_toArray, List.set_cons_zero, List.set_cons_succ]
    refine tk 19 ⟨some 22, .fieldAddr 125 (.tmp 1) 0, 0, "entry.go:42", #[⟨16, .guard⟩], some (16, false)⟩ undef ?_ (hy := Or.inr ⟨by rfl, rfl⟩)
    simp only [Act.put, List.setIfInBounds_toArray, List.set_cons_zero, List.set_cons_succ]
    refine tk 20 ⟨some 23, .load 58 (.tmp 22), 58, "entry.go:42", #[⟨19, .data⟩, ⟨16, .guard⟩], some (16, false)⟩ undef ?_ (hy := Or.inr ⟨by rfl, rfl⟩)
    simp only [Act.put, List.setIfInBounds_toArray, List.set_cons_zero, List.set_cons_succ]
    refine tk 21 ⟨some 24, .call { callee := .value (.func 130), args := #[.tmp 21, .tmp 23], argTypes := #[64, 58] }, 4, "entry.go:42", #[⟨18, .data⟩, ⟨20, .data⟩, ⟨16, .chain⟩, ⟨16, .guard⟩], some (16, false)⟩ undef ?_ (hy := Or.inr ⟨by rfl, rfl⟩)
    simp only [Act.put, List.setIfInBounds_toArray, List.set_cons_zero, List.set_cons_succ]
    refine tk 22 ⟨some 25, .unOp .not 4 (.tmp 24), 4, "entry.go:42", #[⟨21, .data⟩, ⟨16, .guard⟩], some (16, false)⟩ undef ?_ (hy := Or.inr ⟨by rfl, rfl⟩)
    simp only [Act.put, List.setIfInBounds_toArray, List.set_cons_zero, List.set_cons_succ]
    refine tk 23 ⟨some 26, .pick (.tmp 19) (.const (.bool true)) (.tmp 25), 4, "entry.go:42", #[⟨16, .data⟩, ⟨22, .data⟩], none⟩ (.bool true) ?_
    simp only [Act.put, List.setIfInBounds_toArray, List.set_cons_zero, List.set_cons_succ]
    refine wpAnyH_done (by kernel_rfl) ?_ _

    go_wp2_with fail
    go_ret
    exact ⟨by rw [hk]; rfl, HB1.out⟩
  rcases e4 : fit x.s x.t with _ | _
  · have hk : chk x = 110 := by simp [chk, En.ok, e1, e2, e3, e4]
    refine wp_region_held_drew (S := fun w => Cel w g1 125 x.cs) (by kernel_rfl) HC0.out (fun hHeld => ?_)
    refine tk 0 ⟨some 3, .load 125 (.tmp 1), 125, "entry.go:42", #[], none⟩ x.v ?_ (hy := yieldsIf_load_mid (by rfl) _ _ rfl _ _ rfl _ _ (fun w hSw => hSw.range) underE rfl (by rw [sizeE]; rfl))
    simp only [Act.put, List.setIfInBounds_toArray, List.set_cons_zero, List.set_cons_succ]
    refine tk 1 ⟨some 4, .load 125 (.tmp 1), 125, "entry.go:42", #[], none⟩ x.v ?_ (hy := yieldsIf_load_mid (by rfl) _ _ rfl _ _ rfl _ _ (fun w hSw => hSw.range) underE rfl (by rw [sizeE]; rfl))
    simp only [Act.put, List.setIfInBounds_toArray, List.set_cons_zero, List.set_cons_succ]
    refine wpAnyH_ready (rs := [2]) (by kernel_rfl) (by simp) (AllReadyH.cons (o := ⟨some 5, .call { callee := .value (.func 128), args := #[.tmp 4], argTypes := #[125] }, 125, "entry.go:42", #[⟨1, .data⟩], none⟩) rfl (fun KQ hK => ?_) AllReadyH.nil)
    go_simp
    refine (used_any _ x).mono ?_
    rintro e w1 ⟨rfl, hb1⟩
    have HC1 := hid (HC0.out.on hb1)
    have HB1 := hid (below_on HB0.out hb1)
    clear hb1
    go_wp2_with fail
    refine hK.out _ _ HC1.out (fun hHeld => ?_)
    clear hK KQ
    try simp only [Act.put, List.setIfInBounds_toArray, List.set_cons_zero, List.set_cons_succ]
    refine tk 3 ⟨some 6, .binOp .neq 125 (.tmp 3) (.tmp 5) 125, 4, "entry.go:42", #[⟨0, .data⟩, ⟨2, .data⟩], none⟩ (.bool false) ?_ (hy := Or.inl ⟨by rfl, fun w hSw => exec_neV 125 _ _ rfl _ _ rfl rfl guardE _ _ (eqE w 9996 x x.used) (by rw [e1]; rfl)⟩)
    simp only [Act.put, List.setIfInBounds_toArray, List.set_cons_zero, List.set_cons_succ]
    refine tk 4 ⟨some 7, .move (.tmp 6), 4, "entry.go:42", #[⟨3, .data⟩, ⟨2, .chain⟩], none⟩ (.bool false) ?_
    simp only [Act.put, List.setIfInBounds_toArray, List.set_cons_zero, List.set_cons_succ]
    refine tk 5 ⟨some 8, .fieldAddr 125 (.tmp 1) 1, 0, "entry.go:42", #[⟨4, .guard⟩], some (4, false)⟩ (.pointer (some ⟨g1, 1, none⟩)) ?_
    simp only [Act.put, List.setIfInBounds_toArray, List.set_cons_zero, List.set_cons_succ]
    refine tk 6 ⟨some 9, .load 3 (.tmp 8), 3, "entry.go:42", #[⟨5, .data⟩, ⟨4, .guard⟩], some (4, false)⟩ (.int .i64 x.o) ?_ (hy := Or.inl ⟨by rfl, by intro w hSw; have hq : w.cell? ⟨g1, 1, none⟩ = some (.int .i64 x.o) := Cel.cell hSw 1; go_simp⟩)
    simp only [Act.put, List.setIfInBounds_toArray, List.set_cons_zero, List.set_cons_succ]
    refine wpAnyH_ready (rs := [7]) (by kernel_rfl) (by simp) (AllReadyH.cons (o := ⟨some 10, .call { callee := .value (.func 129), args := #[.tmp 9], argTypes := #[3] }, 4, "entry.go:42", #[⟨6, .data⟩, ⟨4, .chain⟩, ⟨4, .guard⟩], some (4, false)⟩) rfl (fun KQ hK => ?_) AllReadyH.nil)
    go_simp
    refine (below_any _ x.o).mono ?_
    rintro e w2 ⟨rfl, rfl⟩
    rw [e2]
    go_wp2_with fail
    refine hK.out _ _ HC1.out (fun hHeld => ?_)
    clear hK KQ
    try simp only [Act.put, List.setIfInBounds_toArray, List.set_cons_zero, List.set_cons_succ]
    refine tk 8 ⟨some 11, .unOp .not 4 (.tmp 10), 4, "entry.go:42", #[⟨7, .data⟩, ⟨4, .guard⟩], some (4, false)⟩ (.bool false) ?_
    simp only [Act.put, List.setIfInBounds_toArray, List.set_cons_zero, List.set_cons_succ]
    refine tk 9 ⟨some 12, .pick (.tmp 7) (.const (.bool true)) (.tmp 11), 4, "entry.go:42", #[⟨4, .data⟩, ⟨8, .data⟩], none⟩ (.bool false) ?_
    simp only [Act.put, List.setIfInBounds_toArray, List.set_cons_zero, List.set_cons_succ]
    refine tk 10 ⟨some 13, .move (.tmp 12), 4, "entry.go:42", #[⟨9, .data⟩, ⟨7, .chain⟩], none⟩ (.bool false) ?_
    simp only [Act.put, List.setIfInBounds_toArray, List.set_cons_zero, List.set_cons_succ]
    refine tk 11 ⟨some 14, .fieldAddr 125 (.tmp 1) 2, 0, "entry.go:42", #[⟨10, .guard⟩], some (10, false)⟩ (.pointer (some ⟨g1, 2, none⟩)) ?_
    simp only [Act.put, List.setIfInBounds_toArray, List.set_cons_zero, List.set_cons_succ]
    refine tk 12 ⟨some 15, .load 3 (.tmp 14), 3, "entry.go:42", #[⟨11, .data⟩, ⟨10, .guard⟩], some (10, false)⟩ (.int .i64 x.r) ?_ (hy := Or.inl ⟨by rfl, by intro w hSw; have hq : w.cell? ⟨g1, 2, none⟩ = some (.int .i64 x.r) := Cel.cell hSw 2; go_simp⟩)
    simp only [Act.put, List.setIfInBounds_toArray, List.set_cons_zero, List.set_cons_succ]
    refine wpAnyH_ready (rs := [13]) (by kernel_rfl) (by simp) (AllReadyH.cons (o := ⟨some 16, .call { callee := .value (.func 129), args := #[.tmp 15], argTypes := #[3] }, 4, "entry.go:42", #[⟨12, .data⟩, ⟨10, .chain⟩, ⟨10, .guard⟩], some (10, false)⟩) rfl (fun KQ hK => ?_) AllReadyH.nil)
    go_simp
    refine (below_any _ x.r).mono ?_
    rintro e w3 ⟨rfl, rfl⟩
    rw [e3]
    go_wp2_with fail
    refine hK.out _ _ HC1.out (fun hHeld => ?_)
    clear hK KQ
    try simp only [Act.put, List.setIfInBounds_toArray, List.set_cons_zero, List.set_cons_succ]
    refine tk 14 ⟨some 17, .unOp .not 4 (.tmp 16), 4, "entry.go:42", #[⟨13, .data⟩, ⟨10, .guard⟩], some (10, false)⟩ (.bool false) ?_
    simp only [Act.put, List.setIfInBounds_toArray, List.set_cons_zero, List.set_cons_succ]
    refine tk 15 ⟨some 18, .pick (.tmp 13) (.const (.bool true)) (.tmp 17), 4, "entry.go:42", #[⟨10, .data⟩, ⟨14, .data⟩], none⟩ (.bool false) ?_
    simp only [Act.put, List.setIfInBounds_toArray, List.set_cons_zero, List.set_cons_succ]
    refine tk 16 ⟨some 19, .move (.tmp 18), 4, "entry.go:42", #[⟨15, .data⟩, ⟨13, .chain⟩], none⟩ (.bool false) ?_
    simp only [Act.put, List.setIfInBounds_toArray, List.set_cons_zero, List.set_cons_succ]
    refine tk 17 ⟨some 20, .fieldAddr 125 (.tmp 1) 3, 0, "entry.go:42", #[⟨16, .guard⟩], some (16, false)⟩ (.pointer (some ⟨g1, 3, none⟩)) ?_
    simp only [Act.put, List.setIfInBounds_toArray, List.set_cons_zero, List.set_cons_succ]
    refine tk 18 ⟨some 21, .load 64 (.tmp 20), 64, "entry.go:42", #[⟨17, .data⟩, ⟨16, .guard⟩], some (16, false)⟩ (.int .i64 x.s) ?_ (hy := Or.inl ⟨by rfl, by intro w hSw; have hq : w.cell? ⟨g1, 3, none⟩ = some (.int .i64 x.s) := Cel.cell hSw 3; go_simp⟩)
    simp only [Act.put, List.setIfInBounds_toArray, List.set_cons_zero, List.set_cons_succ]
    refine tk 19 ⟨some 22, .fieldAddr 125 (.tmp 1) 0, 0, "entry.go:42", #[⟨16, .guard⟩], some (16, false)⟩ (.pointer (some ⟨g1, 0, none⟩)) ?_
    simp only [Act.put, List.setIfInBounds_toArray, List.set_cons_zero, List.set_cons_succ]
    refine tk 20 ⟨some 23, .load 58 (.tmp 22), 58, "entry.go:42", #[⟨19, .data⟩, ⟨16, .guard⟩], some (16, false)⟩ (.int .i64 x.t) ?_ (hy := Or.inl ⟨by rfl, by intro w hSw; have hq : w.cell? ⟨g1, 0, none⟩ = some (.int .i64 x.t) := Cel.cell hSw 0; go_simp⟩)
    simp only [Act.put, List.setIfInBounds_toArray, List.set_cons_zero, List.set_cons_succ]
    refine wpAnyH_ready (rs := [21]) (by kernel_rfl) (by simp) (AllReadyH.cons (o := ⟨some 24, .call { callee := .value (.func 130), args := #[.tmp 21, .tmp 23], argTypes := #[64, 58] }, 4, "entry.go:42", #[⟨18, .data⟩, ⟨20, .data⟩, ⟨16, .chain⟩, ⟨16, .guard⟩], some (16, false)⟩) rfl (fun KQ hK => ?_) AllReadyH.nil)
    go_simp
    refine (fits_any _ x.s x.t).mono ?_
    rintro e w4 ⟨rfl, rfl⟩
    rw [e4]
    go_wp2_with fail
    refine hK.out _ _ HC1.out (fun hHeld => ?_)
    clear hK KQ
    try simp only [Act.put, List.setIfInBounds_toArray, List.set_cons_zero, List.set_cons_succ]
    refine tk 22 ⟨some 25, .unOp .not 4 (.tmp 24), 4, "entry.go:42", #[⟨21, .data⟩, ⟨16, .guard⟩], some (16, false)⟩ (.bool true) ?_
    simp only [Act.put, List.setIfInBounds_toArray, List.set_cons_zero, List.set_cons_succ]
    refine tk 23 ⟨some 26, .pick (.tmp 19) (.const (.bool true)) (.tmp 25), 4, "entry.go:42", #[⟨16, .data⟩, ⟨22, .data⟩], none⟩ (.bool true) ?_
    simp only [Act.put, List.setIfInBounds_toArray, List.set_cons_zero, List.set_cons_succ]
    refine wpAnyH_done (by kernel_rfl) ?_ _

    go_wp2_with fail
    go_ret
    exact ⟨by rw [hk]; rfl, HB1.out⟩
  · have hk : chk x = 0 := by simp [chk, En.ok, e1, e2, e3, e4]
    refine wp_region_held_drew (S := fun w => Cel w g1 125 x.cs) (by kernel_rfl) HC0.out (fun hHeld => ?_)
    refine tk 0 ⟨some 3, .load 125 (.tmp 1), 125, "entry.go:42", #[], none⟩ x.v ?_ (hy := yieldsIf_load_mid (by rfl) _ _ rfl _ _ rfl _ _ (fun w hSw => hSw.range) underE rfl (by rw [sizeE]; rfl))
    simp only [Act.put, List.setIfInBounds_toArray, List.set_cons_zero, List.set_cons_succ]
    refine tk 1 ⟨some 4, .load 125 (.tmp 1), 125, "entry.go:42", #[], none⟩ x.v ?_ (hy := yieldsIf_load_mid (by rfl) _ _ rfl _ _ rfl _ _ (fun w hSw => hSw.range) underE rfl (by rw [sizeE]; rfl))
    simp only [Act.put, List.setIfInBounds_toArray, List.set_cons_zero, List.set_cons_succ]
    refine wpAnyH_ready (rs := [2]) (by kernel_rfl) (by simp) (AllReadyH.cons (o := ⟨some 5, .call { callee := .value (.func 128), args := #[.tmp 4], argTypes := #[125] }, 125, "entry.go:42", #[⟨1, .data⟩], none⟩) rfl (fun KQ hK => ?_) AllReadyH.nil)
    go_simp
    refine (used_any _ x).mono ?_
    rintro e w1 ⟨rfl, hb1⟩
    have HC1 := hid (HC0.out.on hb1)
    have HB1 := hid (below_on HB0.out hb1)
    clear hb1
    go_wp2_with fail
    refine hK.out _ _ HC1.out (fun hHeld => ?_)
    clear hK KQ
    try simp only [Act.put, List.setIfInBounds_toArray, List.set_cons_zero, List.set_cons_succ]
    refine tk 3 ⟨some 6, .binOp .neq 125 (.tmp 3) (.tmp 5) 125, 4, "entry.go:42", #[⟨0, .data⟩, ⟨2, .data⟩], none⟩ (.bool false) ?_ (hy := Or.inl ⟨by rfl, fun w hSw => exec_neV 125 _ _ rfl _ _ rfl rfl guardE _ _ (eqE w 9996 x x.used) (by rw [e1]; rfl)⟩)
    simp only [Act.put, List.setIfInBounds_toArray, List.set_cons_zero, List.set_cons_succ]
    refine tk 4 ⟨some 7, .move (.tmp 6), 4, "entry.go:42", #[⟨3, .data⟩, ⟨2, .chain⟩], none⟩ (.bool false) ?_
    simp only [Act.put, List.setIfInBounds_toArray, List.set_cons_zero, List.set_cons_succ]
    refine tk 5 ⟨some 8, .fieldAddr 125 (.tmp 1) 1, 0, "entry.go:42", #[⟨4, .guard⟩], some (4, false)⟩ (.pointer (some ⟨g1, 1, none⟩)) ?_
    simp only [Act.put, List.setIfInBounds_toArray, List.set_cons_zero, List.set_cons_succ]
    refine tk 6 ⟨some 9, .load 3 (.tmp 8), 3, "entry.go:42", #[⟨5, .data⟩, ⟨4, .guard⟩], some (4, false)⟩ (.int .i64 x.o) ?_ (hy := Or.inl ⟨by rfl, by intro w hSw; have hq : w.cell? ⟨g1, 1, none⟩ = some (.int .i64 x.o) := Cel.cell hSw 1; go_simp⟩)
    simp only [Act.put, List.setIfInBounds_toArray, List.set_cons_zero, List.set_cons_succ]
    refine wpAnyH_ready (rs := [7]) (by kernel_rfl) (by simp) (AllReadyH.cons (o := ⟨some 10, .call { callee := .value (.func 129), args := #[.tmp 9], argTypes := #[3] }, 4, "entry.go:42", #[⟨6, .data⟩, ⟨4, .chain⟩, ⟨4, .guard⟩], some (4, false)⟩) rfl (fun KQ hK => ?_) AllReadyH.nil)
    go_simp
    refine (below_any _ x.o).mono ?_
    rintro e w2 ⟨rfl, rfl⟩
    rw [e2]
    go_wp2_with fail
    refine hK.out _ _ HC1.out (fun hHeld => ?_)
    clear hK KQ
    try simp only [Act.put, List.setIfInBounds_toArray, List.set_cons_zero, List.set_cons_succ]
    refine tk 8 ⟨some 11, .unOp .not 4 (.tmp 10), 4, "entry.go:42", #[⟨7, .data⟩, ⟨4, .guard⟩], some (4, false)⟩ (.bool false) ?_
    simp only [Act.put, List.setIfInBounds_toArray, List.set_cons_zero, List.set_cons_succ]
    refine tk 9 ⟨some 12, .pick (.tmp 7) (.const (.bool true)) (.tmp 11), 4, "entry.go:42", #[⟨4, .data⟩, ⟨8, .data⟩], none⟩ (.bool false) ?_
    simp only [Act.put, List.setIfInBounds_toArray, List.set_cons_zero, List.set_cons_succ]
    refine tk 10 ⟨some 13, .move (.tmp 12), 4, "entry.go:42", #[⟨9, .data⟩, ⟨7, .chain⟩], none⟩ (.bool false) ?_
    simp only [Act.put, List.setIfInBounds_toArray, List.set_cons_zero, List.set_cons_succ]
    refine tk 11 ⟨some 14, .fieldAddr 125 (.tmp 1) 2, 0, "entry.go:42", #[⟨10, .guard⟩], some (10, false)⟩ (.pointer (some ⟨g1, 2, none⟩)) ?_
    simp only [Act.put, List.setIfInBounds_toArray, List.set_cons_zero, List.set_cons_succ]
    refine tk 12 ⟨some 15, .load 3 (.tmp 14), 3, "entry.go:42", #[⟨11, .data⟩, ⟨10, .guard⟩], some (10, false)⟩ (.int .i64 x.r) ?_ (hy := Or.inl ⟨by rfl, by intro w hSw; have hq : w.cell? ⟨g1, 2, none⟩ = some (.int .i64 x.r) := Cel.cell hSw 2; go_simp⟩)
    simp only [Act.put, List.setIfInBounds_toArray, List.set_cons_zero, List.set_cons_succ]
    refine wpAnyH_ready (rs := [13]) (by kernel_rfl) (by simp) (AllReadyH.cons (o := ⟨some 16, .call { callee := .value (.func 129), args := #[.tmp 15], argTypes := #[3] }, 4, "entry.go:42", #[⟨12, .data⟩, ⟨10, .chain⟩, ⟨10, .guard⟩], some (10, false)⟩) rfl (fun KQ hK => ?_) AllReadyH.nil)
    go_simp
    refine (below_any _ x.r).mono ?_
    rintro e w3 ⟨rfl, rfl⟩
    rw [e3]
    go_wp2_with fail
    refine hK.out _ _ HC1.out (fun hHeld => ?_)
    clear hK KQ
    try simp only [Act.put, List.setIfInBounds_toArray, List.set_cons_zero, List.set_cons_succ]
    refine tk 14 ⟨some 17, .unOp .not 4 (.tmp 16), 4, "entry.go:42", #[⟨13, .data⟩, ⟨10, .guard⟩], some (10, false)⟩ (.bool false) ?_
    simp only [Act.put, List.setIfInBounds_toArray, List.set_cons_zero, List.set_cons_succ]
    refine tk 15 ⟨some 18, .pick (.tmp 13) (.const (.bool true)) (.tmp 17), 4, "entry.go:42", #[⟨10, .data⟩, ⟨14, .data⟩], none⟩ (.bool false) ?_
    simp only [Act.put, List.setIfInBounds_toArray, List.set_cons_zero, List.set_cons_succ]
    refine tk 16 ⟨some 19, .move (.tmp 18), 4, "entry.go:42", #[⟨15, .data⟩, ⟨13, .chain⟩], none⟩ (.bool false) ?_
    simp only [Act.put, List.setIfInBounds_toArray, List.set_cons_zero, List.set_cons_succ]
    refine tk 17 ⟨some 20, .fieldAddr 125 (.tmp 1) 3, 0, "entry.go:42", #[⟨16, .guard⟩], some (16, false)⟩ (.pointer (some ⟨g1, 3, none⟩)) ?_
    simp only [Act.put, List.setIfInBounds_toArray, List.set_cons_zero, List.set_cons_succ]
    refine tk 18 ⟨some 21, .load 64 (.tmp 20), 64, "entry.go:42", #[⟨17, .data⟩, ⟨16, .guard⟩], some (16, false)⟩ (.int .i64 x.s) ?_ (hy := Or.inl ⟨by rfl, by intro w hSw; have hq : w.cell? ⟨g1, 3, none⟩ = some (.int .i64 x.s) := Cel.cell hSw 3; go_simp⟩)
    simp only [Act.put, List.setIfInBounds_toArray, List.set_cons_zero, List.set_cons_succ]
    refine tk 19 ⟨some 22, .fieldAddr 125 (.tmp 1) 0, 0, "entry.go:42", #[⟨16, .guard⟩], some (16, false)⟩ (.pointer (some ⟨g1, 0, none⟩)) ?_
    simp only [Act.put, List.setIfInBounds_toArray, List.set_cons_zero, List.set_cons_succ]
    refine tk 20 ⟨some 23, .load 58 (.tmp 22), 58, "entry.go:42", #[⟨19, .data⟩, ⟨16, .guard⟩], some (16, false)⟩ (.int .i64 x.t) ?_ (hy := Or.inl ⟨by rfl, by intro w hSw; have hq : w.cell? ⟨g1, 0, none⟩ = some (.int .i64 x.t) := Cel.cell hSw 0; go_simp⟩)
    simp only [Act.put, List.setIfInBounds_toArray, List.set_cons_zero, List.set_cons_succ]
    refine wpAnyH_ready (rs := [21]) (by kernel_rfl) (by simp) (AllReadyH.cons (o := ⟨some 24, .call { callee := .value (.func 130), args := #[.tmp 21, .tmp 23], argTypes := #[64, 58] }, 4, "entry.go:42", #[⟨18, .data⟩, ⟨20, .data⟩, ⟨16, .chain⟩, ⟨16, .guard⟩], some (16, false)⟩) rfl (fun KQ hK => ?_) AllReadyH.nil)
    go_simp
    refine (fits_any _ x.s x.t).mono ?_
    rintro e w4 ⟨rfl, rfl⟩
    rw [e4]
    go_wp2_with fail
    refine hK.out _ _ HC1.out (fun hHeld => ?_)
    clear hK KQ
    try simp only [Act.put, List.setIfInBounds_toArray, List.set_cons_zero, List.set_cons_succ]
    refine tk 22 ⟨some 25, .unOp .not 4 (.tmp 24), 4, "entry.go:42", #[⟨21, .data⟩, ⟨16, .guard⟩], some (16, false)⟩ (.bool false) ?_
    simp only [Act.put, List.setIfInBounds_toArray, List.set_cons_zero, List.set_cons_succ]
    refine tk 23 ⟨some 26, .pick (.tmp 19) (.const (.bool true)) (.tmp 25), 4, "entry.go:42", #[⟨16, .data⟩, ⟨22, .data⟩], none⟩ (.bool false) ?_
    simp only [Act.put, List.setIfInBounds_toArray, List.set_cons_zero, List.set_cons_succ]
    refine wpAnyH_done (by kernel_rfl) ?_ _

    go_wp2_with fail
    go_ret
    exact ⟨by rw [hk]; rfl, HB1.out⟩
end Go.Proofs.YtgbpbfnpeeciaaaGreat
namespace Go.Proofs.YtgbpbfnpeeciaaaGreat
open Go.RowKit
set_option maxHeartbeats 8000000
set_option maxRecDepth 100000
theorem w64 (x : Int) (h0 : 0 ≤ x) (h1 : x < 4294967296) : wrap64 x = x := by unfold wrap64; omega
theorem fields_any (W : World) (a b : Int) (a0 : 0 ≤ a) (a1 : a < 4294967296) (b0 : 0 ≤ b) (b1 : b < 4294967296) : Calls Tryz.prog 123 #[twoV a b] W fun e W' => e = .returned (fld a b).v ∧ Below W.heap.size W W' := by
  have HX := hid (Bx.new W 178 125 (two a b) En.zero.cs)
  have h1 : bits .and .u32 a 7 = a % 8 := by have := and_mask 3 7 a (by simp) a0 a1 (by decide); simpa using this
  have h2 : bits .and .u32 (a / 65536) 63 = a / 65536 % 64 := by have := and_mask 6 63 (a / 65536) (by simp) (by omega) (by omega) (by decide); simpa using this
  have h3 : bits .and .u32 b 63 = b % 64 := by have := and_mask 6 63 b (by simp) b0 b1 (by decide); simpa using this
  have h4 : bits .and .u32 (a / 16) 3 = a / 16 % 4 := by have := and_mask 2 3 (a / 16) (by simp) (by omega) (by omega) (by decide); simpa using this
  have h5 : bits .and .u32 (a / 256) 1 = a / 256 % 2 := by have := and_mask 1 1 (a / 256) (by simp) (by omega) (by omega) (by decide); simpa using this
  have k1 : wrap64 (a % 8) = a % 8 := w64 _ (by omega) (by omega)
  have k2 : wrap64 (a / 65536 % 64) = a / 65536 % 64 := w64 _ (by omega) (by omega)
  have k3 : wrap64 (b % 64) = b % 64 := w64 _ (by omega) (by omega)
  have k4 : wrap64 (a / 16 % 4) = a / 16 % 4 := w64 _ (by omega) (by omega)
  simp only [En.v, twoV, two, En.zero, En.cs, fld] at HX ⊢
  generalize q1 : a % 8 = x1 at *
  generalize q2 : a / 65536 % 64 = x2 at *
  generalize q3 : b % 64 = x3 at *
  generalize q4 : a / 16 % 4 = x4 at *
  generalize q5 : a / 256 % 2 = x5 at *
  clear q1 q2 q3 q4 q5
  go_enter Tryz.func123, Tryz.ntmps123
  go_upto_region 1 with fail
  generalize hX : (W.alloc _).alloc _ = X at *
  clear hX
  generalize W.heap.size + 1 = g2 at *
  generalize W.heap.size = g1 at *
  have c0 := HX.out.a.cell 0
  have c1 := HX.out.a.cell 1
  simp only [List.getElem?_cons_zero, List.getElem?_cons_succ] at c0 c1
  go_wp2_with (refine wpList_store_st rfl 125 _ _ rfl g2 [Value.int .i64 x1, .int .i64 x2, .int .i64 x3, .int .i64 x4, .bool (x5 == 1)] rfl rfl HX.out.b sizeE rfl rfl ?_; intro w2 hc2 hb2 hs2; have HF := hid (HX.out.put hc2 hb2); clear hc2 hb2 hs2)
  exact ret_st rfl rfl g2 _ rfl HF.out.1 underE rfl (by rw [sizeE]; rfl) ⟨rfl, HF.out.2⟩
theorem or_enc {x : En} (h : x.Ok) : bits .or .u32 (bits .or .u32 (x.t % 4294967296) (x.s % 4294967296 * 16 % 4294967296)) (x.o % 4294967296 * 65536 % 4294967296) = x.t + 16 * x.s + 65536 * x.o := by
  obtain ⟨t0, t1, o0, o1, r0, r1, s0, s1, z, sp, ns, en⟩ := h
  rw [show x.t % 4294967296 = x.t by omega, show x.s % 4294967296 * 16 % 4294967296 = x.s * 16 by omega, show x.o % 4294967296 * 65536 % 4294967296 = x.o * 65536 by omega]
  rw [or_add 4 x.t (x.s * 16) x.s (by simp) t0 (by simp; omega) s0 (by omega) (by omega), or_add 16 _ (x.o * 65536) x.o (by simp) (by omega) (by simp; omega) o0 (by omega) (by omega)]
  omega
theorem encode_any (W : World) (x : En) : Calls Tryz.prog 103 #[x.v] W fun e W' => e = .returned (.tuple #[twoV (e0 x) (e1 x), .int .i64 (chk x)]) ∧ Below W.heap.size W W' := by
  have HX := hid (Bx.new W 125 178 x.cs (two 0 0))
  have HK := hid (fun W => check_any W x)
  cases hok : x.ok
  · have hc : chk x = 110 := by simp [chk, hok]
    have h0 : e0 x = 0 := by simp [e0, hok]
    have h1 : e1 x = 0 := by simp [e1, hok]
    rw [hc] at HK
    rw [hc, h0, h1]
    clear hc h0 h1 hok
    simp only [twoV, two, En.v] at *
    go_enter Tryz.func103, Tryz.ntmps103
    go_upto_region 1 with fail
    generalize hX : (W.alloc _).alloc _ = X at *
    clear hX
    generalize W.heap.size + 1 = g2 at *
    generalize W.heap.size = g1 at *
    go_wp2_with (first | (refine wpList_load_mid rfl 125 _ rfl g1 0 rfl _ _ HX.out.a.range underE rfl (by rw [sizeE]; rfl) ?_) | (go_at_call 122; refine (HK.out _).mono ?_; rintro e w1 ⟨rfl, hb1⟩; have HX1 := hid (HX.out.on hb1); clear hb1) | (refine wpList_store_st rfl 178 _ _ rfl g2 (two 0 0) rfl rfl HX1.out.b sizeA rfl rfl ?_; intro w2 hc2 hb2 hs2; have HF := hid (HX1.out.put hc2 hb2); clear hc2 hb2 hs2))
    exact ret_st2 rfl rfl g2 _ rfl HF.out.1 underA rfl sizeA ⟨rfl, HF.out.2⟩
  · have hO := x.ok_iff.1 hok
    have hc : chk x = 0 := by simp [chk, hok]
    have h0 : e0 x = x.w := by simp [e0, hok]
    have h1 : e1 x = x.r := by simp [e1, hok]
    have q1 : bits .or .u32 (bits .or .u32 (x.t % 4294967296) (x.s % 4294967296 * 16 % 4294967296)) (x.o % 4294967296 * 65536 % 4294967296) = x.t + 16 * x.s + 65536 * x.o := or_enc hO
    have q2 : x.r % 4294967296 = x.r := by have := hO.r0; have := hO.r1; omega
    have q3 : x.e = false → x.t + 16 * x.s + 65536 * x.o = x.w := fun he => by rw [En.w, he]; simp
    have q4 : x.e = true → bits .or .u32 (x.t + 16 * x.s + 65536 * x.o) 256 = x.w := fun he => by
      have ht := hO.en he
      have hs := (hO.ns (by omega)).2
      have := or_256 x.o hO.o0 hO.o1
      rw [En.w, he, ht, hs]
      simpa using this
    rw [hc] at HK
    rw [hc, h0, h1]
    clear hc h0 h1 hok hO
    simp only [twoV, two, En.v] at HX HK ⊢
    generalize x.t + 16 * x.s + 65536 * x.o = y at *
    generalize x.w = xw at *
    obtain ⟨t, o, r, s, e⟩ := x
    simp only [En.cs] at *
    go_enter Tryz.func103, Tryz.ntmps103
    go_upto_region 1 with fail
    generalize hX : (W.alloc _).alloc _ = X at *
    clear hX
    generalize W.heap.size + 1 = g2 at *
    generalize W.heap.size = g1 at *
    have HQ := hid (And.intro q1 (And.intro q2 (And.intro q3 q4)))
    clear q1 q2 q3 q4
    go_upto_region 2 with (first | (refine wpList_load_mid rfl 125 _ rfl g1 0 rfl _ _ HX.out.a.range underE rfl (by rw [sizeE]; rfl) ?_) | (go_at_call 122; refine (HK.out _).mono ?_; rintro e1 w1 ⟨rfl, hb1⟩; have HX1 := hid (HX.out.on hb1); clear hb1))
    have c0 := HX1.out.a.cell 0
    have c1 := HX1.out.a.cell 1
    have c2 := HX1.out.a.cell 2
    have c3 := HX1.out.a.cell 3
    have c4 := HX1.out.a.cell 4
    simp only [List.getElem?_cons_zero, List.getElem?_cons_succ] at c0 c1 c2 c3 c4
    obtain ⟨q1, q2, q3, q4⟩ := HQ.out
    clear HQ
    cases e
    · have q5 := q3 rfl
      subst q5
      clear q3 q4
      go_wp2_with (refine wpList_store_st rfl 178 _ _ rfl g2 [Value.int .u32 y, .int .u32 r] rfl rfl HX1.out.b sizeA rfl rfl ?_; intro w2 hc2 hb2 hs2; have HF := hid (HX1.out.put hc2 hb2); clear hc2 hb2 hs2)
      exact ret_st2 rfl rfl g2 _ rfl HF.out.1 underA rfl sizeA ⟨rfl, HF.out.2⟩
    · have q5 := q4 rfl
      clear q3 q4
      go_wp2_with (refine wpList_store_st rfl 178 _ _ rfl g2 [Value.int .u32 xw, .int .u32 r] rfl rfl HX1.out.b sizeA rfl rfl ?_; intro w2 hc2 hb2 hs2; have HF := hid (HX1.out.put hc2 hb2); clear hc2 hb2 hs2)
      exact ret_st2 rfl rfl g2 _ rfl HF.out.1 underA rfl sizeA ⟨rfl, HF.out.2⟩
end Go.Proofs.YtgbpbfnpeeciaaaGreat
