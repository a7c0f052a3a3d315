import Derived.Test.YtildhjiddidghaaGreatDoorP38
import Derived.Test.YtildhjiddidghaaGreatDoorP01
import Derived.Test.YtildhjiddidghaaGreatDoorP41
namespace Go.Proofs.YtildhjiddidghaaGreatDoor
open Go.RowKit
set_option maxHeartbeats 4000000
set_option maxRecDepth 100000
structure SX (W w : World) (g : Nat) (p : Dp) (r : Rp) (d e : DS) (g3 : Nat) (cs : List Value) : Prop where
  ss : SS W w g p r d e
  bx : Cel w g3 42 cs
theorem SX.on {W w w' : World} {g : Nat} {p : Dp} {r : Rp} {d e : DS} {g3 : Nat} {cs : List Value} (h : SX W w g p r d e g3 cs) (hb : Below w.heap.size w w') : SX W w' g p r d e g3 cs := ⟨h.ss.on hb, h.bx.on hb⟩
theorem SX.stepA {W w w' : World} {g : Nat} {p : Dp} {r : Rp} {d d' e : DS} {g3 : Nat} {cs : List Value} (h : SX W w g p r d e g3 cs) (hd : DB w' p d') (hb : ButL p.w w w') : SX W w' g p r d' e g3 cs :=
  ⟨h.ss.stepA hd hb, h.bx.but hb (fun hm => by
    rcases h.ss.own.ty g3 (Dp.w_all hm) 42 _ h.bx with e | e | e | e | e <;> (revert e; decide))⟩
theorem SX.stepR {W w w' : World} {g : Nat} {p : Dp} {r q : Rp} {d e e' : DS} {g3 : Nat} {cs : List Value} (h : SX W w g p r d e g3 cs) (hR : RG w w' r q e') : SX W w' g p q d e' g3 cs :=
  ⟨h.ss.stepR hR, h.bx.but hR.but (fun hm => by
    rcases h.ss.doc.ty g3 hm 42 _ h.bx with e | e | e | e | e <;> (revert e; decide))⟩
theorem SX.hold {W w : World} {g : Nat} {p : Dp} {r : Rp} {d e : DS} {g3 : Nat} {cs : List Value} (h : SX W w g p r d e g3 cs) {rg : Nat} (hr : r.g = rg) : Cel w g3 42 cs ∧ w.cell? ⟨g, 1, none⟩ = some (.pointer (some ⟨p.g, 0, none⟩)) ∧ w.cell? ⟨g, 2, none⟩ = some (.pointer (some ⟨rg, 0, none⟩)) := ⟨h.bx, h.ss.c.2.1, by rw [← hr]; exact h.ss.c.2.2⟩
theorem act_1 (W w : World) (g : Nat) (p : Dp) (r : Rp) (d : DS) (h : SS W w g p r d d) (a b c v : Int) (u : Value) :
    Calls Tryz.prog 11 #[.pointer (some ⟨g, 0, none⟩), .agg #[.int .i64 1, .int .i64 a, .int .i64 b, .int .i64 c, .int .u32 v, u]] w fun e w' => e = .returned (.bool true) ∧ ∃ q, SS W w' g p q (d.takeSpace a b) (d.takeSpace a b) := by
  have X0 : Hid (SX W (w.alloc (.cells #[.int .i64 1, .int .i64 a, .int .i64 b, .int .i64 c, .int .u32 v, u] 42)) g p r d d w.heap.size [.int .i64 1, .int .i64 a, .int .i64 b, .int .i64 c, .int .u32 v, u]) := hid ⟨h.on (below_one _ _), Cel.new w 42 [.int .i64 1, .int .i64 a, .int .i64 b, .int .i64 c, .int .u32 v, u]⟩
  have HA := hid (fun w (hw : DB w p d) => takeSpace_any w p d hw a b)
  have HR := hid (fun w (hw : RDB w r d) => rtakeSpace_any w r d hw a b)
  have HNm := hid (fun w x => num_l w x)
  clear h
  simp only [ptr] at *
  generalize hd2 : d.takeSpace a b = d2 at *
  clear hd2
  generalize d.bearE a b = ff at *
  go_enter Tryz.func11, Tryz.ntmps11
  go_upto_region 1 with fail
  generalize World.alloc _ _ = X at *
  generalize w.heap.size = g3 at *
  have y0 : X.cell? ⟨g3, 0, none⟩ = some (.int .i64 1) := X0.out.bx.cell 0
  go_upto_region 3 with fail
  clear y0
  have X1 := hid (X0.out.on (Below.refl _ _).drew)
  clear X0
  refine wp_region_held_drew (S := fun w => Cel w g3 42 [.int .i64 1, .int .i64 a, .int .i64 b, .int .i64 c, .int .u32 v, u] ∧ w.cell? ⟨g, 1, none⟩ = some (.pointer (some ⟨p.g, 0, none⟩)) ∧ w.cell? ⟨g, 2, none⟩ = some (.pointer (some ⟨r.g, 0, none⟩))) (by kernel_rfl) (X1.out.hold rfl) (fun hHeld => ?_)
  generalize World.drew _ = w1 at *
  refine tk 0 ⟨some 9, .move (.tmp 0), 26, "law.go:123", #[], none⟩ (.pointer (some ⟨g, 0, none⟩)) ?_
  simp only [Act.put, List.setIfInBounds_toArray, List.set_cons_zero, List.set_cons_succ]
  refine tk 1 ⟨some 10, .nilCheck (.tmp 9), 0, "law.go:123", #[⟨0, .data⟩], none⟩ (.pointer (some ⟨g, 0, none⟩)) ?_
  simp only [Act.put, List.setIfInBounds_toArray, List.set_cons_zero, List.set_cons_succ]
  refine tk 2 ⟨some 11, .fieldAddr 34 (.tmp 10) 1, 0, "law.go:123", #[⟨1, .data⟩], none⟩ (.pointer (some ⟨g, 1, none⟩)) ?_
  simp only [Act.put, List.setIfInBounds_toArray, List.set_cons_zero, List.set_cons_succ]
  refine tk 3 ⟨some 12, .load 31 (.tmp 11), 31, "law.go:123", #[⟨2, .data⟩], none⟩ (.pointer (some ⟨p.g, 0, none⟩)) ?_ (hy := Or.inl ⟨by rfl, by intro w hSw; have hc := hSw.2.1; go_simp⟩)
  simp only [Act.put, List.setIfInBounds_toArray, List.set_cons_zero, List.set_cons_succ]
  refine tk 4 ⟨some 13, .fieldAddr 42 (.tmp 3) 1, 0, "law.go:123", #[], none⟩ (.pointer (some ⟨g3, 1, none⟩)) ?_
  simp only [Act.put, List.setIfInBounds_toArray, List.set_cons_zero, List.set_cons_succ]
  refine tk 5 ⟨some 14, .load 3 (.tmp 13), 3, "law.go:123", #[⟨4, .data⟩], none⟩ (.int .i64 a) ?_ (hy := Or.inl ⟨by rfl, by intro w hSw; have hc : w.cell? ⟨g3, 1, none⟩ = some (.int .i64 a) := hSw.1.cell 1; go_simp⟩)
  simp only [Act.put, List.setIfInBounds_toArray, List.set_cons_zero, List.set_cons_succ]
  refine tk 6 ⟨some 15, .fieldAddr 42 (.tmp 3) 2, 0, "law.go:123", #[], none⟩ (.pointer (some ⟨g3, 2, none⟩)) ?_
  simp only [Act.put, List.setIfInBounds_toArray, List.set_cons_zero, List.set_cons_succ]
  refine tk 7 ⟨some 16, .load 3 (.tmp 15), 3, "law.go:123", #[⟨6, .data⟩], none⟩ (.int .i64 b) ?_ (hy := Or.inl ⟨by rfl, by intro w hSw; have hc : w.cell? ⟨g3, 2, none⟩ = some (.int .i64 b) := hSw.1.cell 2; go_simp⟩)
  simp only [Act.put, List.setIfInBounds_toArray, List.set_cons_zero, List.set_cons_succ]
  refine tk 10 ⟨some 19, .move (.tmp 0), 26, "law.go:123", #[], none⟩ (.pointer (some ⟨g, 0, none⟩)) ?_
  simp only [Act.put, List.setIfInBounds_toArray, List.set_cons_zero, List.set_cons_succ]
  refine tk 11 ⟨some 20, .nilCheck (.tmp 19), 0, "law.go:123", #[⟨10, .data⟩], none⟩ (.pointer (some ⟨g, 0, none⟩)) ?_
  simp only [Act.put, List.setIfInBounds_toArray, List.set_cons_zero, List.set_cons_succ]
  refine tk 12 ⟨some 21, .fieldAddr 34 (.tmp 20) 2, 0, "law.go:123", #[⟨11, .data⟩], none⟩ (.pointer (some ⟨g, 2, none⟩)) ?_
  simp only [Act.put, List.setIfInBounds_toArray, List.set_cons_zero, List.set_cons_succ]
  refine tk 13 ⟨some 22, .load 32 (.tmp 21), 32, "law.go:123", #[⟨12, .data⟩], none⟩ (.pointer (some ⟨r.g, 0, none⟩)) ?_ (hy := Or.inl ⟨by rfl, by intro w hSw; have hc := hSw.2.2; go_simp⟩)
  simp only [Act.put, List.setIfInBounds_toArray, List.set_cons_zero, List.set_cons_succ]
  refine tk 14 ⟨some 23, .fieldAddr 42 (.tmp 3) 1, 0, "law.go:123", #[], none⟩ (.pointer (some ⟨g3, 1, none⟩)) ?_
  simp only [Act.put, List.setIfInBounds_toArray, List.set_cons_zero, List.set_cons_succ]
  refine tk 15 ⟨some 24, .load 3 (.tmp 23), 3, "law.go:123", #[⟨14, .data⟩], none⟩ (.int .i64 a) ?_ (hy := Or.inl ⟨by rfl, by intro w hSw; have hc : w.cell? ⟨g3, 1, none⟩ = some (.int .i64 a) := hSw.1.cell 1; go_simp⟩)
  simp only [Act.put, List.setIfInBounds_toArray, List.set_cons_zero, List.set_cons_succ]
  refine tk 16 ⟨some 25, .fieldAddr 42 (.tmp 3) 2, 0, "law.go:123", #[], none⟩ (.pointer (some ⟨g3, 2, none⟩)) ?_
  simp only [Act.put, List.setIfInBounds_toArray, List.set_cons_zero, List.set_cons_succ]
  refine tk 17 ⟨some 26, .load 3 (.tmp 25), 3, "law.go:123", #[⟨16, .data⟩], none⟩ (.int .i64 b) ?_ (hy := Or.inl ⟨by rfl, by intro w hSw; have hc : w.cell? ⟨g3, 2, none⟩ = some (.int .i64 b) := hSw.1.cell 2; go_simp⟩)
  simp only [Act.put, List.setIfInBounds_toArray, List.set_cons_zero, List.set_cons_succ]
  refine wpAnyH_ready (rs := [8]) (by kernel_rfl) (by simp) (AllReadyH.cons (o := ⟨some 17, .call { callee := .value (.func 31), args := #[.tmp 12, .tmp 14, .tmp 16], argTypes := #[31, 3, 3] }, 54, "law.go:123", #[⟨3, .data⟩, ⟨5, .data⟩, ⟨7, .data⟩], none⟩) rfl (fun KQ hK => ?_) AllReadyH.nil)
  go_simp
  refine (HA.out _ X1.out.ss.own).mono ?_
  rintro e w2 ⟨rfl, hd, hb⟩
  have X2 := hid (X1.out.stepA hd hb)
  clear hd hb X1
  go_wp2_with fail
  refine hK.out _ _ (X2.out.hold rfl) (fun hHeld => ?_)
  clear hK KQ
  try simp only [Act.put, List.setIfInBounds_toArray, List.set_cons_zero, List.set_cons_succ]
  refine wpAnyH_ready (rs := [9]) (by kernel_rfl) (by simp) (AllReadyH.cons (o := ⟨some 18, .call { callee := .value (.func 25), args := #[.tmp 17], argTypes := #[54] }, 3, "law.go:123", #[⟨8, .data⟩, ⟨8, .chain⟩], none⟩) rfl (fun KQ hK => ?_) AllReadyH.nil)
  go_simp
  refine (HNm.out _ _).mono ?_
  rintro e wx ⟨rfl, hw⟩
  subst wx
  go_wp2_with fail
  refine hK.out _ _ (X2.out.hold rfl) (fun hHeld => ?_)
  clear hK KQ
  try simp only [Act.put, List.setIfInBounds_toArray, List.set_cons_zero, List.set_cons_succ]
  refine wpAnyH_ready (rs := [18]) (by kernel_rfl) (by simp) (AllReadyH.cons (o := ⟨some 27, .call { callee := .value (.func 32), args := #[.tmp 22, .tmp 24, .tmp 26], argTypes := #[32, 3, 3] }, 3, "law.go:123", #[⟨13, .data⟩, ⟨15, .data⟩, ⟨17, .data⟩, ⟨9, .chain⟩], none⟩) rfl (fun KQ hK => ?_) AllReadyH.nil)
  go_simp
  refine (HR.out _ X2.out.ss.doc).mono ?_
  rintro e w3 ⟨rfl, r1, hg⟩
  have X3 := hid (X2.out.stepR hg)
  clear hg X2
  go_wp2_with fail
  refine hK.out _ _ (X3.out.hold rfl) (fun hHeld => ?_)
  clear hK KQ
  try simp only [Act.put, List.setIfInBounds_toArray, List.set_cons_zero, List.set_cons_succ]
  refine tk 19 ⟨some 28, .binOp .eql 3 (.tmp 18) (.tmp 27) 3, 4, "law.go:123", #[⟨9, .data⟩, ⟨18, .data⟩], none⟩ (.bool true) ?_
  simp only [Act.put, List.setIfInBounds_toArray, List.set_cons_zero, List.set_cons_succ]
  refine wpAnyH_ready (rs := [20]) (by kernel_rfl) (by simp) (AllReadyH.cons (o := ⟨some 4, .assign (.tmp 28), 4, "law.go:123", #[⟨19, .data⟩, ⟨18, .chain⟩, ⟨0, .phase⟩, ⟨1, .phase⟩, ⟨2, .phase⟩, ⟨3, .phase⟩, ⟨4, .phase⟩, ⟨5, .phase⟩, ⟨6, .phase⟩, ⟨7, .phase⟩, ⟨8, .phase⟩, ⟨9, .phase⟩, ⟨10, .phase⟩, ⟨11, .phase⟩, ⟨12, .phase⟩, ⟨13, .phase⟩, ⟨14, .phase⟩, ⟨15, .phase⟩, ⟨16, .phase⟩, ⟨17, .phase⟩, ⟨18, .phase⟩, ⟨19, .phase⟩], none⟩) rfl (fun KQ hK => ?_) AllReadyH.nil)
  go_simp
  refine hK.out _ _ (X3.out.hold rfl) (fun hHeld => ?_)
  clear hK KQ
  try simp only [Act.put, List.setIfInBounds_toArray, List.set_cons_zero, List.set_cons_succ]
  refine wpAnyH_done (by kernel_rfl) ?_ _
  go_wp2_with fail
  go_ret
  exact ⟨rfl, _, X3.out.ss⟩
theorem act_2 (W w : World) (g : Nat) (p : Dp) (r : Rp) (d : DS) (h : SS W w g p r d d) (a b c v : Int) (u : Value) :
    Calls Tryz.prog 11 #[.pointer (some ⟨g, 0, none⟩), .agg #[.int .i64 2, .int .i64 a, .int .i64 b, .int .i64 c, .int .u32 v, u]] w fun e w' => e = .returned (.bool true) ∧ ∃ q, SS W w' g p q (d.take a b c) (d.take a b c) := by
  have X0 : Hid (SX W (w.alloc (.cells #[.int .i64 2, .int .i64 a, .int .i64 b, .int .i64 c, .int .u32 v, u] 42)) g p r d d w.heap.size [.int .i64 2, .int .i64 a, .int .i64 b, .int .i64 c, .int .u32 v, u]) := hid ⟨h.on (below_one _ _), Cel.new w 42 [.int .i64 2, .int .i64 a, .int .i64 b, .int .i64 c, .int .u32 v, u]⟩
  have HA := hid (fun w (hw : DB w p d) => take_any w p d hw a b c)
  have HR := hid (fun w (hw : RDB w r d) => rtake_any w r d hw a b c)
  have HNm := hid (fun w x => num_l w x)
  clear h
  simp only [ptr] at *
  generalize hd2 : d.take a b c = d2 at *
  clear hd2
  generalize d.takeE a b c = ff at *
  go_enter Tryz.func11, Tryz.ntmps11
  go_upto_region 1 with fail
  generalize World.alloc _ _ = X at *
  generalize w.heap.size = g3 at *
  have y0 : X.cell? ⟨g3, 0, none⟩ = some (.int .i64 2) := X0.out.bx.cell 0
  go_upto_region 5 with fail
  clear y0
  have X1 := hid (X0.out.on (Below.refl _ _).drew)
  clear X0
  refine wp_region_held_drew (S := fun w => Cel w g3 42 [.int .i64 2, .int .i64 a, .int .i64 b, .int .i64 c, .int .u32 v, u] ∧ w.cell? ⟨g, 1, none⟩ = some (.pointer (some ⟨p.g, 0, none⟩)) ∧ w.cell? ⟨g, 2, none⟩ = some (.pointer (some ⟨r.g, 0, none⟩))) (by kernel_rfl) (X1.out.hold rfl) (fun hHeld => ?_)
  generalize World.drew _ = w1 at *
  refine tk 0 ⟨some 31, .move (.tmp 0), 26, "law.go:125", #[], none⟩ (.pointer (some ⟨g, 0, none⟩)) ?_
  simp only [Act.put, List.setIfInBounds_toArray, List.set_cons_zero, List.set_cons_succ]
  refine tk 1 ⟨some 32, .nilCheck (.tmp 31), 0, "law.go:125", #[⟨0, .data⟩], none⟩ (.pointer (some ⟨g, 0, none⟩)) ?_
  simp only [Act.put, List.setIfInBounds_toArray, List.set_cons_zero, List.set_cons_succ]
  refine tk 2 ⟨some 33, .fieldAddr 34 (.tmp 32) 1, 0, "law.go:125", #[⟨1, .data⟩], none⟩ (.pointer (some ⟨g, 1, none⟩)) ?_
  simp only [Act.put, List.setIfInBounds_toArray, List.set_cons_zero, List.set_cons_succ]
  refine tk 3 ⟨some 34, .load 31 (.tmp 33), 31, "law.go:125", #[⟨2, .data⟩], none⟩ (.pointer (some ⟨p.g, 0, none⟩)) ?_ (hy := Or.inl ⟨by rfl, by intro w hSw; have hc := hSw.2.1; go_simp⟩)
  simp only [Act.put, List.setIfInBounds_toArray, List.set_cons_zero, List.set_cons_succ]
  refine tk 4 ⟨some 35, .fieldAddr 42 (.tmp 3) 1, 0, "law.go:125", #[], none⟩ (.pointer (some ⟨g3, 1, none⟩)) ?_
  simp only [Act.put, List.setIfInBounds_toArray, List.set_cons_zero, List.set_cons_succ]
  refine tk 5 ⟨some 36, .load 3 (.tmp 35), 3, "law.go:125", #[⟨4, .data⟩], none⟩ (.int .i64 a) ?_ (hy := Or.inl ⟨by rfl, by intro w hSw; have hc : w.cell? ⟨g3, 1, none⟩ = some (.int .i64 a) := hSw.1.cell 1; go_simp⟩)
  simp only [Act.put, List.setIfInBounds_toArray, List.set_cons_zero, List.set_cons_succ]
  refine tk 6 ⟨some 37, .fieldAddr 42 (.tmp 3) 2, 0, "law.go:125", #[], none⟩ (.pointer (some ⟨g3, 2, none⟩)) ?_
  simp only [Act.put, List.setIfInBounds_toArray, List.set_cons_zero, List.set_cons_succ]
  refine tk 7 ⟨some 38, .load 3 (.tmp 37), 3, "law.go:125", #[⟨6, .data⟩], none⟩ (.int .i64 b) ?_ (hy := Or.inl ⟨by rfl, by intro w hSw; have hc : w.cell? ⟨g3, 2, none⟩ = some (.int .i64 b) := hSw.1.cell 2; go_simp⟩)
  simp only [Act.put, List.setIfInBounds_toArray, List.set_cons_zero, List.set_cons_succ]
  refine tk 8 ⟨some 39, .fieldAddr 42 (.tmp 3) 3, 0, "law.go:125", #[], none⟩ (.pointer (some ⟨g3, 3, none⟩)) ?_
  simp only [Act.put, List.setIfInBounds_toArray, List.set_cons_zero, List.set_cons_succ]
  refine tk 9 ⟨some 40, .load 3 (.tmp 39), 3, "law.go:125", #[⟨8, .data⟩], none⟩ (.int .i64 c) ?_ (hy := Or.inl ⟨by rfl, by intro w hSw; have hc : w.cell? ⟨g3, 3, none⟩ = some (.int .i64 c) := hSw.1.cell 3; go_simp⟩)
  simp only [Act.put, List.setIfInBounds_toArray, List.set_cons_zero, List.set_cons_succ]
  refine tk 12 ⟨some 43, .move (.tmp 0), 26, "law.go:125", #[], none⟩ (.pointer (some ⟨g, 0, none⟩)) ?_
  simp only [Act.put, List.setIfInBounds_toArray, List.set_cons_zero, List.set_cons_succ]
  refine tk 13 ⟨some 44, .nilCheck (.tmp 43), 0, "law.go:125", #[⟨12, .data⟩], none⟩ (.pointer (some ⟨g, 0, none⟩)) ?_
  simp only [Act.put, List.setIfInBounds_toArray, List.set_cons_zero, List.set_cons_succ]
  refine tk 14 ⟨some 45, .fieldAddr 34 (.tmp 44) 2, 0, "law.go:125", #[⟨13, .data⟩], none⟩ (.pointer (some ⟨g, 2, none⟩)) ?_
  simp only [Act.put, List.setIfInBounds_toArray, List.set_cons_zero, List.set_cons_succ]
  refine tk 15 ⟨some 46, .load 32 (.tmp 45), 32, "law.go:125", #[⟨14, .data⟩], none⟩ (.pointer (some ⟨r.g, 0, none⟩)) ?_ (hy := Or.inl ⟨by rfl, by intro w hSw; have hc := hSw.2.2; go_simp⟩)
  simp only [Act.put, List.setIfInBounds_toArray, List.set_cons_zero, List.set_cons_succ]
  refine tk 16 ⟨some 47, .fieldAddr 42 (.tmp 3) 1, 0, "law.go:125", #[], none⟩ (.pointer (some ⟨g3, 1, none⟩)) ?_
  simp only [Act.put, List.setIfInBounds_toArray, List.set_cons_zero, List.set_cons_succ]
  refine tk 17 ⟨some 48, .load 3 (.tmp 47), 3, "law.go:125", #[⟨16, .data⟩], none⟩ (.int .i64 a) ?_ (hy := Or.inl ⟨by rfl, by intro w hSw; have hc : w.cell? ⟨g3, 1, none⟩ = some (.int .i64 a) := hSw.1.cell 1; go_simp⟩)
  simp only [Act.put, List.setIfInBounds_toArray, List.set_cons_zero, List.set_cons_succ]
  refine tk 18 ⟨some 49, .fieldAddr 42 (.tmp 3) 2, 0, "law.go:125", #[], none⟩ (.pointer (some ⟨g3, 2, none⟩)) ?_
  simp only [Act.put, List.setIfInBounds_toArray, List.set_cons_zero, List.set_cons_succ]
  refine tk 19 ⟨some 50, .load 3 (.tmp 49), 3, "law.go:125", #[⟨18, .data⟩], none⟩ (.int .i64 b) ?_ (hy := Or.inl ⟨by rfl, by intro w hSw; have hc : w.cell? ⟨g3, 2, none⟩ = some (.int .i64 b) := hSw.1.cell 2; go_simp⟩)
  simp only [Act.put, List.setIfInBounds_toArray, List.set_cons_zero, List.set_cons_succ]
  refine tk 20 ⟨some 51, .fieldAddr 42 (.tmp 3) 3, 0, "law.go:125", #[], none⟩ (.pointer (some ⟨g3, 3, none⟩)) ?_
  simp only [Act.put, List.setIfInBounds_toArray, List.set_cons_zero, List.set_cons_succ]
  refine tk 21 ⟨some 52, .load 3 (.tmp 51), 3, "law.go:125", #[⟨20, .data⟩], none⟩ (.int .i64 c) ?_ (hy := Or.inl ⟨by rfl, by intro w hSw; have hc : w.cell? ⟨g3, 3, none⟩ = some (.int .i64 c) := hSw.1.cell 3; go_simp⟩)
  simp only [Act.put, List.setIfInBounds_toArray, List.set_cons_zero, List.set_cons_succ]
  refine wpAnyH_ready (rs := [10]) (by kernel_rfl) (by simp) (AllReadyH.cons (o := ⟨some 41, .call { callee := .value (.func 33), args := #[.tmp 34, .tmp 36, .tmp 38, .tmp 40], argTypes := #[31, 3, 76, 3] }, 54, "law.go:125", #[⟨3, .data⟩, ⟨5, .data⟩, ⟨7, .data⟩, ⟨9, .data⟩], none⟩) rfl (fun KQ hK => ?_) AllReadyH.nil)
  go_simp
  refine (HA.out _ X1.out.ss.own).mono ?_
  rintro e w2 ⟨rfl, hd, hb⟩
  have X2 := hid (X1.out.stepA hd hb)
  clear hd hb X1
  go_wp2_with fail
  refine hK.out _ _ (X2.out.hold rfl) (fun hHeld => ?_)
  clear hK KQ
  try simp only [Act.put, List.setIfInBounds_toArray, List.set_cons_zero, List.set_cons_succ]
  refine wpAnyH_ready (rs := [11]) (by kernel_rfl) (by simp) (AllReadyH.cons (o := ⟨some 42, .call { callee := .value (.func 25), args := #[.tmp 41], argTypes := #[54] }, 3, "law.go:125", #[⟨10, .data⟩, ⟨10, .chain⟩], none⟩) rfl (fun KQ hK => ?_) AllReadyH.nil)
  go_simp
  refine (HNm.out _ _).mono ?_
  rintro e wx ⟨rfl, hw⟩
  subst wx
  go_wp2_with fail
  refine hK.out _ _ (X2.out.hold rfl) (fun hHeld => ?_)
  clear hK KQ
  try simp only [Act.put, List.setIfInBounds_toArray, List.set_cons_zero, List.set_cons_succ]
  refine wpAnyH_ready (rs := [22]) (by kernel_rfl) (by simp) (AllReadyH.cons (o := ⟨some 53, .call { callee := .value (.func 34), args := #[.tmp 46, .tmp 48, .tmp 50, .tmp 52], argTypes := #[32, 3, 3, 3] }, 3, "law.go:125", #[⟨15, .data⟩, ⟨17, .data⟩, ⟨19, .data⟩, ⟨21, .data⟩, ⟨11, .chain⟩], none⟩) rfl (fun KQ hK => ?_) AllReadyH.nil)
  go_simp
  refine (HR.out _ X2.out.ss.doc).mono ?_
  rintro e w3 ⟨rfl, hg⟩
  have X3 := hid (X2.out.stepR hg)
  clear hg X2
  go_wp2_with fail
  refine hK.out _ _ (X3.out.hold rfl) (fun hHeld => ?_)
  clear hK KQ
  try simp only [Act.put, List.setIfInBounds_toArray, List.set_cons_zero, List.set_cons_succ]
  refine tk 23 ⟨some 54, .binOp .eql 3 (.tmp 42) (.tmp 53) 3, 4, "law.go:125", #[⟨11, .data⟩, ⟨22, .data⟩], none⟩ (.bool true) ?_
  simp only [Act.put, List.setIfInBounds_toArray, List.set_cons_zero, List.set_cons_succ]
  refine wpAnyH_ready (rs := [24]) (by kernel_rfl) (by simp) (AllReadyH.cons (o := ⟨some 4, .assign (.tmp 54), 4, "law.go:125", #[⟨23, .data⟩, ⟨22, .chain⟩, ⟨0, .phase⟩, ⟨1, .phase⟩, ⟨2, .phase⟩, ⟨3, .phase⟩, ⟨4, .phase⟩, ⟨5, .phase⟩, ⟨6, .phase⟩, ⟨7, .phase⟩, ⟨8, .phase⟩, ⟨9, .phase⟩, ⟨10, .phase⟩, ⟨11, .phase⟩, ⟨12, .phase⟩, ⟨13, .phase⟩, ⟨14, .phase⟩, ⟨15, .phase⟩, ⟨16, .phase⟩, ⟨17, .phase⟩, ⟨18, .phase⟩, ⟨19, .phase⟩, ⟨20, .phase⟩, ⟨21, .phase⟩, ⟨22, .phase⟩, ⟨23, .phase⟩], none⟩) rfl (fun KQ hK => ?_) AllReadyH.nil)
  go_simp
  refine hK.out _ _ (X3.out.hold rfl) (fun hHeld => ?_)
  clear hK KQ
  try simp only [Act.put, List.setIfInBounds_toArray, List.set_cons_zero, List.set_cons_succ]
  refine wpAnyH_done (by kernel_rfl) ?_ _
  go_wp2_with fail
  go_ret
  exact ⟨rfl, _, X3.out.ss⟩
theorem act_3 (W w : World) (g : Nat) (p : Dp) (r : Rp) (d : DS) (h : SS W w g p r d d) (a b c v : Int) (u : Value) :
    Calls Tryz.prog 11 #[.pointer (some ⟨g, 0, none⟩), .agg #[.int .i64 3, .int .i64 a, .int .i64 b, .int .i64 c, .int .u32 v, u]] w fun e w' => e = .returned (.bool true) ∧ ∃ q, SS W w' g p q (d.turn a b) (d.turn a b) := by
  have X0 : Hid (SX W (w.alloc (.cells #[.int .i64 3, .int .i64 a, .int .i64 b, .int .i64 c, .int .u32 v, u] 42)) g p r d d w.heap.size [.int .i64 3, .int .i64 a, .int .i64 b, .int .i64 c, .int .u32 v, u]) := hid ⟨h.on (below_one _ _), Cel.new w 42 [.int .i64 3, .int .i64 a, .int .i64 b, .int .i64 c, .int .u32 v, u]⟩
  have HA := hid (fun w (hw : DB w p d) => turn_any w p d hw a b)
  have HR := hid (fun w (hw : RDB w r d) => rturn_any w r d hw a b)
  have HNm := hid (fun w x => num_l w x)
  clear h
  simp only [ptr] at *
  generalize hd2 : d.turn a b = d2 at *
  clear hd2
  generalize d.turnE a b = ff at *
  go_enter Tryz.func11, Tryz.ntmps11
  go_upto_region 1 with fail
  generalize World.alloc _ _ = X at *
  generalize w.heap.size = g3 at *
  have y0 : X.cell? ⟨g3, 0, none⟩ = some (.int .i64 3) := X0.out.bx.cell 0
  go_upto_region 7 with fail
  clear y0
  have X1 := hid (X0.out.on (Below.refl _ _).drew)
  clear X0
  refine wp_region_held_drew (S := fun w => Cel w g3 42 [.int .i64 3, .int .i64 a, .int .i64 b, .int .i64 c, .int .u32 v, u] ∧ w.cell? ⟨g, 1, none⟩ = some (.pointer (some ⟨p.g, 0, none⟩)) ∧ w.cell? ⟨g, 2, none⟩ = some (.pointer (some ⟨r.g, 0, none⟩))) (by kernel_rfl) (X1.out.hold rfl) (fun hHeld => ?_)
  generalize World.drew _ = w1 at *
  refine tk 0 ⟨some 57, .move (.tmp 0), 26, "law.go:127", #[], none⟩ (.pointer (some ⟨g, 0, none⟩)) ?_
  simp only [Act.put, List.setIfInBounds_toArray, List.set_cons_zero, List.set_cons_succ]
  refine tk 1 ⟨some 58, .nilCheck (.tmp 57), 0, "law.go:127", #[⟨0, .data⟩], none⟩ (.pointer (some ⟨g, 0, none⟩)) ?_
  simp only [Act.put, List.setIfInBounds_toArray, List.set_cons_zero, List.set_cons_succ]
  refine tk 2 ⟨some 59, .fieldAddr 34 (.tmp 58) 1, 0, "law.go:127", #[⟨1, .data⟩], none⟩ (.pointer (some ⟨g, 1, none⟩)) ?_
  simp only [Act.put, List.setIfInBounds_toArray, List.set_cons_zero, List.set_cons_succ]
  refine tk 3 ⟨some 60, .load 31 (.tmp 59), 31, "law.go:127", #[⟨2, .data⟩], none⟩ (.pointer (some ⟨p.g, 0, none⟩)) ?_ (hy := Or.inl ⟨by rfl, by intro w hSw; have hc := hSw.2.1; go_simp⟩)
  simp only [Act.put, List.setIfInBounds_toArray, List.set_cons_zero, List.set_cons_succ]
  refine tk 4 ⟨some 61, .fieldAddr 42 (.tmp 3) 1, 0, "law.go:127", #[], none⟩ (.pointer (some ⟨g3, 1, none⟩)) ?_
  simp only [Act.put, List.setIfInBounds_toArray, List.set_cons_zero, List.set_cons_succ]
  refine tk 5 ⟨some 62, .load 3 (.tmp 61), 3, "law.go:127", #[⟨4, .data⟩], none⟩ (.int .i64 a) ?_ (hy := Or.inl ⟨by rfl, by intro w hSw; have hc : w.cell? ⟨g3, 1, none⟩ = some (.int .i64 a) := hSw.1.cell 1; go_simp⟩)
  simp only [Act.put, List.setIfInBounds_toArray, List.set_cons_zero, List.set_cons_succ]
  refine tk 6 ⟨some 63, .fieldAddr 42 (.tmp 3) 2, 0, "law.go:127", #[], none⟩ (.pointer (some ⟨g3, 2, none⟩)) ?_
  simp only [Act.put, List.setIfInBounds_toArray, List.set_cons_zero, List.set_cons_succ]
  refine tk 7 ⟨some 64, .load 3 (.tmp 63), 3, "law.go:127", #[⟨6, .data⟩], none⟩ (.int .i64 b) ?_ (hy := Or.inl ⟨by rfl, by intro w hSw; have hc : w.cell? ⟨g3, 2, none⟩ = some (.int .i64 b) := hSw.1.cell 2; go_simp⟩)
  simp only [Act.put, List.setIfInBounds_toArray, List.set_cons_zero, List.set_cons_succ]
  refine tk 10 ⟨some 67, .move (.tmp 0), 26, "law.go:127", #[], none⟩ (.pointer (some ⟨g, 0, none⟩)) ?_
  simp only [Act.put, List.setIfInBounds_toArray, List.set_cons_zero, List.set_cons_succ]
  refine tk 11 ⟨some 68, .nilCheck (.tmp 67), 0, "law.go:127", #[⟨10, .data⟩], none⟩ (.pointer (some ⟨g, 0, none⟩)) ?_
  simp only [Act.put, List.setIfInBounds_toArray, List.set_cons_zero, List.set_cons_succ]
  refine tk 12 ⟨some 69, .fieldAddr 34 (.tmp 68) 2, 0, "law.go:127", #[⟨11, .data⟩], none⟩ (.pointer (some ⟨g, 2, none⟩)) ?_
  simp only [Act.put, List.setIfInBounds_toArray, List.set_cons_zero, List.set_cons_succ]
  refine tk 13 ⟨some 70, .load 32 (.tmp 69), 32, "law.go:127", #[⟨12, .data⟩], none⟩ (.pointer (some ⟨r.g, 0, none⟩)) ?_ (hy := Or.inl ⟨by rfl, by intro w hSw; have hc := hSw.2.2; go_simp⟩)
  simp only [Act.put, List.setIfInBounds_toArray, List.set_cons_zero, List.set_cons_succ]
  refine tk 14 ⟨some 71, .fieldAddr 42 (.tmp 3) 1, 0, "law.go:127", #[], none⟩ (.pointer (some ⟨g3, 1, none⟩)) ?_
  simp only [Act.put, List.setIfInBounds_toArray, List.set_cons_zero, List.set_cons_succ]
  refine tk 15 ⟨some 72, .load 3 (.tmp 71), 3, "law.go:127", #[⟨14, .data⟩], none⟩ (.int .i64 a) ?_ (hy := Or.inl ⟨by rfl, by intro w hSw; have hc : w.cell? ⟨g3, 1, none⟩ = some (.int .i64 a) := hSw.1.cell 1; go_simp⟩)
  simp only [Act.put, List.setIfInBounds_toArray, List.set_cons_zero, List.set_cons_succ]
  refine tk 16 ⟨some 73, .fieldAddr 42 (.tmp 3) 2, 0, "law.go:127", #[], none⟩ (.pointer (some ⟨g3, 2, none⟩)) ?_
  simp only [Act.put, List.setIfInBounds_toArray, List.set_cons_zero, List.set_cons_succ]
  refine tk 17 ⟨some 74, .load 3 (.tmp 73), 3, "law.go:127", #[⟨16, .data⟩], none⟩ (.int .i64 b) ?_ (hy := Or.inl ⟨by rfl, by intro w hSw; have hc : w.cell? ⟨g3, 2, none⟩ = some (.int .i64 b) := hSw.1.cell 2; go_simp⟩)
  simp only [Act.put, List.setIfInBounds_toArray, List.set_cons_zero, List.set_cons_succ]
  refine wpAnyH_ready (rs := [8]) (by kernel_rfl) (by simp) (AllReadyH.cons (o := ⟨some 65, .call { callee := .value (.func 35), args := #[.tmp 60, .tmp 62, .tmp 64], argTypes := #[31, 3, 76] }, 54, "law.go:127", #[⟨3, .data⟩, ⟨5, .data⟩, ⟨7, .data⟩], none⟩) rfl (fun KQ hK => ?_) AllReadyH.nil)
  go_simp
  refine (HA.out _ X1.out.ss.own).mono ?_
  rintro e w2 ⟨rfl, hd, hb⟩
  have X2 := hid (X1.out.stepA hd hb)
  clear hd hb X1
  go_wp2_with fail
  refine hK.out _ _ (X2.out.hold rfl) (fun hHeld => ?_)
  clear hK KQ
  try simp only [Act.put, List.setIfInBounds_toArray, List.set_cons_zero, List.set_cons_succ]
  refine wpAnyH_ready (rs := [9]) (by kernel_rfl) (by simp) (AllReadyH.cons (o := ⟨some 66, .call { callee := .value (.func 25), args := #[.tmp 65], argTypes := #[54] }, 3, "law.go:127", #[⟨8, .data⟩, ⟨8, .chain⟩], none⟩) rfl (fun KQ hK => ?_) AllReadyH.nil)
  go_simp
  refine (HNm.out _ _).mono ?_
  rintro e wx ⟨rfl, hw⟩
  subst wx
  go_wp2_with fail
  refine hK.out _ _ (X2.out.hold rfl) (fun hHeld => ?_)
  clear hK KQ
  try simp only [Act.put, List.setIfInBounds_toArray, List.set_cons_zero, List.set_cons_succ]
  refine wpAnyH_ready (rs := [18]) (by kernel_rfl) (by simp) (AllReadyH.cons (o := ⟨some 75, .call { callee := .value (.func 36), args := #[.tmp 70, .tmp 72, .tmp 74], argTypes := #[32, 3, 3] }, 3, "law.go:127", #[⟨13, .data⟩, ⟨15, .data⟩, ⟨17, .data⟩, ⟨9, .chain⟩], none⟩) rfl (fun KQ hK => ?_) AllReadyH.nil)
  go_simp
  refine (HR.out _ X2.out.ss.doc).mono ?_
  rintro e w3 ⟨rfl, r1, hg⟩
  have X3 := hid (X2.out.stepR hg)
  clear hg X2
  go_wp2_with fail
  refine hK.out _ _ (X3.out.hold rfl) (fun hHeld => ?_)
  clear hK KQ
  try simp only [Act.put, List.setIfInBounds_toArray, List.set_cons_zero, List.set_cons_succ]
  refine tk 19 ⟨some 76, .binOp .eql 3 (.tmp 66) (.tmp 75) 3, 4, "law.go:127", #[⟨9, .data⟩, ⟨18, .data⟩], none⟩ (.bool true) ?_
  simp only [Act.put, List.setIfInBounds_toArray, List.set_cons_zero, List.set_cons_succ]
  refine wpAnyH_ready (rs := [20]) (by kernel_rfl) (by simp) (AllReadyH.cons (o := ⟨some 4, .assign (.tmp 76), 4, "law.go:127", #[⟨19, .data⟩, ⟨18, .chain⟩, ⟨0, .phase⟩, ⟨1, .phase⟩, ⟨2, .phase⟩, ⟨3, .phase⟩, ⟨4, .phase⟩, ⟨5, .phase⟩, ⟨6, .phase⟩, ⟨7, .phase⟩, ⟨8, .phase⟩, ⟨9, .phase⟩, ⟨10, .phase⟩, ⟨11, .phase⟩, ⟨12, .phase⟩, ⟨13, .phase⟩, ⟨14, .phase⟩, ⟨15, .phase⟩, ⟨16, .phase⟩, ⟨17, .phase⟩, ⟨18, .phase⟩, ⟨19, .phase⟩], none⟩) rfl (fun KQ hK => ?_) AllReadyH.nil)
  go_simp
  refine hK.out _ _ (X3.out.hold rfl) (fun hHeld => ?_)
  clear hK KQ
  try simp only [Act.put, List.setIfInBounds_toArray, List.set_cons_zero, List.set_cons_succ]
  refine wpAnyH_done (by kernel_rfl) ?_ _
  go_wp2_with fail
  go_ret
  exact ⟨rfl, _, X3.out.ss⟩
theorem act_4 (W w : World) (g : Nat) (p : Dp) (r : Rp) (d : DS) (h : SS W w g p r d d) (a b c v : Int) (u : Value) :
    Calls Tryz.prog 11 #[.pointer (some ⟨g, 0, none⟩), .agg #[.int .i64 4, .int .i64 a, .int .i64 b, .int .i64 c, .int .u32 v, u]] w fun e w' => e = .returned (.bool true) ∧ ∃ q, SS W w' g p q (d.give a) (d.give a) := by
  have X0 : Hid (SX W (w.alloc (.cells #[.int .i64 4, .int .i64 a, .int .i64 b, .int .i64 c, .int .u32 v, u] 42)) g p r d d w.heap.size [.int .i64 4, .int .i64 a, .int .i64 b, .int .i64 c, .int .u32 v, u]) := hid ⟨h.on (below_one _ _), Cel.new w 42 [.int .i64 4, .int .i64 a, .int .i64 b, .int .i64 c, .int .u32 v, u]⟩
  have HA := hid (fun w (hw : DB w p d) => give_any w p d hw a)
  have HR := hid (fun w (hw : RDB w r d) => rgive_any w r d hw a)
  have HNm := hid (fun w x => num_l w x)
  clear h
  simp only [ptr] at *
  generalize hd2 : d.give a = d2 at *
  clear hd2
  generalize d.giveE a = ff at *
  go_enter Tryz.func11, Tryz.ntmps11
  go_upto_region 1 with fail
  generalize World.alloc _ _ = X at *
  generalize w.heap.size = g3 at *
  have y0 : X.cell? ⟨g3, 0, none⟩ = some (.int .i64 4) := X0.out.bx.cell 0
  go_upto_region 9 with fail
  clear y0
  have X1 := hid (X0.out.on (Below.refl _ _).drew)
  clear X0
  refine wp_region_held_drew (S := fun w => Cel w g3 42 [.int .i64 4, .int .i64 a, .int .i64 b, .int .i64 c, .int .u32 v, u] ∧ w.cell? ⟨g, 1, none⟩ = some (.pointer (some ⟨p.g, 0, none⟩)) ∧ w.cell? ⟨g, 2, none⟩ = some (.pointer (some ⟨r.g, 0, none⟩))) (by kernel_rfl) (X1.out.hold rfl) (fun hHeld => ?_)
  generalize World.drew _ = w1 at *
  refine tk 0 ⟨some 79, .move (.tmp 0), 26, "law.go:129", #[], none⟩ (.pointer (some ⟨g, 0, none⟩)) ?_
  simp only [Act.put, List.setIfInBounds_toArray, List.set_cons_zero, List.set_cons_succ]
  refine tk 1 ⟨some 80, .nilCheck (.tmp 79), 0, "law.go:129", #[⟨0, .data⟩], none⟩ (.pointer (some ⟨g, 0, none⟩)) ?_
  simp only [Act.put, List.setIfInBounds_toArray, List.set_cons_zero, List.set_cons_succ]
  refine tk 2 ⟨some 81, .fieldAddr 34 (.tmp 80) 1, 0, "law.go:129", #[⟨1, .data⟩], none⟩ (.pointer (some ⟨g, 1, none⟩)) ?_
  simp only [Act.put, List.setIfInBounds_toArray, List.set_cons_zero, List.set_cons_succ]
  refine tk 3 ⟨some 82, .load 31 (.tmp 81), 31, "law.go:129", #[⟨2, .data⟩], none⟩ (.pointer (some ⟨p.g, 0, none⟩)) ?_ (hy := Or.inl ⟨by rfl, by intro w hSw; have hc := hSw.2.1; go_simp⟩)
  simp only [Act.put, List.setIfInBounds_toArray, List.set_cons_zero, List.set_cons_succ]
  refine tk 4 ⟨some 83, .fieldAddr 42 (.tmp 3) 1, 0, "law.go:129", #[], none⟩ (.pointer (some ⟨g3, 1, none⟩)) ?_
  simp only [Act.put, List.setIfInBounds_toArray, List.set_cons_zero, List.set_cons_succ]
  refine tk 5 ⟨some 84, .load 3 (.tmp 83), 3, "law.go:129", #[⟨4, .data⟩], none⟩ (.int .i64 a) ?_ (hy := Or.inl ⟨by rfl, by intro w hSw; have hc : w.cell? ⟨g3, 1, none⟩ = some (.int .i64 a) := hSw.1.cell 1; go_simp⟩)
  simp only [Act.put, List.setIfInBounds_toArray, List.set_cons_zero, List.set_cons_succ]
  refine tk 8 ⟨some 87, .move (.tmp 0), 26, "law.go:129", #[], none⟩ (.pointer (some ⟨g, 0, none⟩)) ?_
  simp only [Act.put, List.setIfInBounds_toArray, List.set_cons_zero, List.set_cons_succ]
  refine tk 9 ⟨some 88, .nilCheck (.tmp 87), 0, "law.go:129", #[⟨8, .data⟩], none⟩ (.pointer (some ⟨g, 0, none⟩)) ?_
  simp only [Act.put, List.setIfInBounds_toArray, List.set_cons_zero, List.set_cons_succ]
  refine tk 10 ⟨some 89, .fieldAddr 34 (.tmp 88) 2, 0, "law.go:129", #[⟨9, .data⟩], none⟩ (.pointer (some ⟨g, 2, none⟩)) ?_
  simp only [Act.put, List.setIfInBounds_toArray, List.set_cons_zero, List.set_cons_succ]
  refine tk 11 ⟨some 90, .load 32 (.tmp 89), 32, "law.go:129", #[⟨10, .data⟩], none⟩ (.pointer (some ⟨r.g, 0, none⟩)) ?_ (hy := Or.inl ⟨by rfl, by intro w hSw; have hc := hSw.2.2; go_simp⟩)
  simp only [Act.put, List.setIfInBounds_toArray, List.set_cons_zero, List.set_cons_succ]
  refine tk 12 ⟨some 91, .fieldAddr 42 (.tmp 3) 1, 0, "law.go:129", #[], none⟩ (.pointer (some ⟨g3, 1, none⟩)) ?_
  simp only [Act.put, List.setIfInBounds_toArray, List.set_cons_zero, List.set_cons_succ]
  refine tk 13 ⟨some 92, .load 3 (.tmp 91), 3, "law.go:129", #[⟨12, .data⟩], none⟩ (.int .i64 a) ?_ (hy := Or.inl ⟨by rfl, by intro w hSw; have hc : w.cell? ⟨g3, 1, none⟩ = some (.int .i64 a) := hSw.1.cell 1; go_simp⟩)
  simp only [Act.put, List.setIfInBounds_toArray, List.set_cons_zero, List.set_cons_succ]
  refine wpAnyH_ready (rs := [6]) (by kernel_rfl) (by simp) (AllReadyH.cons (o := ⟨some 85, .call { callee := .value (.func 37), args := #[.tmp 82, .tmp 84], argTypes := #[31, 3] }, 54, "law.go:129", #[⟨3, .data⟩, ⟨5, .data⟩], none⟩) rfl (fun KQ hK => ?_) AllReadyH.nil)
  go_simp
  refine (HA.out _ X1.out.ss.own).mono ?_
  rintro e w2 ⟨rfl, hd, hb⟩
  have X2 := hid (X1.out.stepA hd hb)
  clear hd hb X1
  go_wp2_with fail
  refine hK.out _ _ (X2.out.hold rfl) (fun hHeld => ?_)
  clear hK KQ
  try simp only [Act.put, List.setIfInBounds_toArray, List.set_cons_zero, List.set_cons_succ]
  refine wpAnyH_ready (rs := [7]) (by kernel_rfl) (by simp) (AllReadyH.cons (o := ⟨some 86, .call { callee := .value (.func 25), args := #[.tmp 85], argTypes := #[54] }, 3, "law.go:129", #[⟨6, .data⟩, ⟨6, .chain⟩], none⟩) rfl (fun KQ hK => ?_) AllReadyH.nil)
  go_simp
  refine (HNm.out _ _).mono ?_
  rintro e wx ⟨rfl, hw⟩
  subst wx
  go_wp2_with fail
  refine hK.out _ _ (X2.out.hold rfl) (fun hHeld => ?_)
  clear hK KQ
  try simp only [Act.put, List.setIfInBounds_toArray, List.set_cons_zero, List.set_cons_succ]
  refine wpAnyH_ready (rs := [14]) (by kernel_rfl) (by simp) (AllReadyH.cons (o := ⟨some 93, .call { callee := .value (.func 38), args := #[.tmp 90, .tmp 92], argTypes := #[32, 3] }, 3, "law.go:129", #[⟨11, .data⟩, ⟨13, .data⟩, ⟨7, .chain⟩], none⟩) rfl (fun KQ hK => ?_) AllReadyH.nil)
  go_simp
  refine (HR.out _ X2.out.ss.doc).mono ?_
  rintro e w3 ⟨rfl, r1, hg⟩
  have X3 := hid (X2.out.stepR hg)
  clear hg X2
  go_wp2_with fail
  refine hK.out _ _ (X3.out.hold rfl) (fun hHeld => ?_)
  clear hK KQ
  try simp only [Act.put, List.setIfInBounds_toArray, List.set_cons_zero, List.set_cons_succ]
  refine tk 15 ⟨some 94, .binOp .eql 3 (.tmp 86) (.tmp 93) 3, 4, "law.go:129", #[⟨7, .data⟩, ⟨14, .data⟩], none⟩ (.bool true) ?_
  simp only [Act.put, List.setIfInBounds_toArray, List.set_cons_zero, List.set_cons_succ]
  refine wpAnyH_ready (rs := [16]) (by kernel_rfl) (by simp) (AllReadyH.cons (o := ⟨some 4, .assign (.tmp 94), 4, "law.go:129", #[⟨15, .data⟩, ⟨14, .chain⟩, ⟨0, .phase⟩, ⟨1, .phase⟩, ⟨2, .phase⟩, ⟨3, .phase⟩, ⟨4, .phase⟩, ⟨5, .phase⟩, ⟨6, .phase⟩, ⟨7, .phase⟩, ⟨8, .phase⟩, ⟨9, .phase⟩, ⟨10, .phase⟩, ⟨11, .phase⟩, ⟨12, .phase⟩, ⟨13, .phase⟩, ⟨14, .phase⟩, ⟨15, .phase⟩], none⟩) rfl (fun KQ hK => ?_) AllReadyH.nil)
  go_simp
  refine hK.out _ _ (X3.out.hold rfl) (fun hHeld => ?_)
  clear hK KQ
  try simp only [Act.put, List.setIfInBounds_toArray, List.set_cons_zero, List.set_cons_succ]
  refine wpAnyH_done (by kernel_rfl) ?_ _
  go_wp2_with fail
  go_ret
  exact ⟨rfl, _, X3.out.ss⟩
theorem act_5 (W w : World) (g : Nat) (p : Dp) (r : Rp) (d : DS) (h : SS W w g p r d d) (a b c v : Int) (u : Value) :
    Calls Tryz.prog 11 #[.pointer (some ⟨g, 0, none⟩), .agg #[.int .i64 5, .int .i64 a, .int .i64 b, .int .i64 c, .int .u32 v, u]] w fun e w' => e = .returned (.bool true) ∧ ∃ q, SS W w' g p q (d.state a b) (d.state a b) := by
  have X0 : Hid (SX W (w.alloc (.cells #[.int .i64 5, .int .i64 a, .int .i64 b, .int .i64 c, .int .u32 v, u] 42)) g p r d d w.heap.size [.int .i64 5, .int .i64 a, .int .i64 b, .int .i64 c, .int .u32 v, u]) := hid ⟨h.on (below_one _ _), Cel.new w 42 [.int .i64 5, .int .i64 a, .int .i64 b, .int .i64 c, .int .u32 v, u]⟩
  have HA := hid (fun w (hw : DB w p d) => setState_any w p d hw a b)
  have HR := hid (fun w (hw : RDB w r d) => rsetState_any w r d hw a b)
  have HNm := hid (fun w x => num_l w x)
  clear h
  simp only [ptr] at *
  generalize hd2 : d.state a b = d2 at *
  clear hd2
  generalize d.stateE a b = ff at *
  go_enter Tryz.func11, Tryz.ntmps11
  go_upto_region 1 with fail
  generalize World.alloc _ _ = X at *
  generalize w.heap.size = g3 at *
  have y0 : X.cell? ⟨g3, 0, none⟩ = some (.int .i64 5) := X0.out.bx.cell 0
  go_upto_region 11 with fail
  clear y0
  have X1 := hid (X0.out.on (Below.refl _ _).drew)
  clear X0
  refine wp_region_held_drew (S := fun w => Cel w g3 42 [.int .i64 5, .int .i64 a, .int .i64 b, .int .i64 c, .int .u32 v, u] ∧ w.cell? ⟨g, 1, none⟩ = some (.pointer (some ⟨p.g, 0, none⟩)) ∧ w.cell? ⟨g, 2, none⟩ = some (.pointer (some ⟨r.g, 0, none⟩))) (by kernel_rfl) (X1.out.hold rfl) (fun hHeld => ?_)
  generalize World.drew _ = w1 at *
  refine tk 0 ⟨some 97, .move (.tmp 0), 26, "law.go:131", #[], none⟩ (.pointer (some ⟨g, 0, none⟩)) ?_
  simp only [Act.put, List.setIfInBounds_toArray, List.set_cons_zero, List.set_cons_succ]
  refine tk 1 ⟨some 98, .nilCheck (.tmp 97), 0, "law.go:131", #[⟨0, .data⟩], none⟩ (.pointer (some ⟨g, 0, none⟩)) ?_
  simp only [Act.put, List.setIfInBounds_toArray, List.set_cons_zero, List.set_cons_succ]
  refine tk 2 ⟨some 99, .fieldAddr 34 (.tmp 98) 1, 0, "law.go:131", #[⟨1, .data⟩], none⟩ (.pointer (some ⟨g, 1, none⟩)) ?_
  simp only [Act.put, List.setIfInBounds_toArray, List.set_cons_zero, List.set_cons_succ]
  refine tk 3 ⟨some 100, .load 31 (.tmp 99), 31, "law.go:131", #[⟨2, .data⟩], none⟩ (.pointer (some ⟨p.g, 0, none⟩)) ?_ (hy := Or.inl ⟨by rfl, by intro w hSw; have hc := hSw.2.1; go_simp⟩)
  simp only [Act.put, List.setIfInBounds_toArray, List.set_cons_zero, List.set_cons_succ]
  refine tk 4 ⟨some 101, .fieldAddr 42 (.tmp 3) 1, 0, "law.go:131", #[], none⟩ (.pointer (some ⟨g3, 1, none⟩)) ?_
  simp only [Act.put, List.setIfInBounds_toArray, List.set_cons_zero, List.set_cons_succ]
  refine tk 5 ⟨some 102, .load 3 (.tmp 101), 3, "law.go:131", #[⟨4, .data⟩], none⟩ (.int .i64 a) ?_ (hy := Or.inl ⟨by rfl, by intro w hSw; have hc : w.cell? ⟨g3, 1, none⟩ = some (.int .i64 a) := hSw.1.cell 1; go_simp⟩)
  simp only [Act.put, List.setIfInBounds_toArray, List.set_cons_zero, List.set_cons_succ]
  refine tk 6 ⟨some 103, .fieldAddr 42 (.tmp 3) 2, 0, "law.go:131", #[], none⟩ (.pointer (some ⟨g3, 2, none⟩)) ?_
  simp only [Act.put, List.setIfInBounds_toArray, List.set_cons_zero, List.set_cons_succ]
  refine tk 7 ⟨some 104, .load 3 (.tmp 103), 3, "law.go:131", #[⟨6, .data⟩], none⟩ (.int .i64 b) ?_ (hy := Or.inl ⟨by rfl, by intro w hSw; have hc : w.cell? ⟨g3, 2, none⟩ = some (.int .i64 b) := hSw.1.cell 2; go_simp⟩)
  simp only [Act.put, List.setIfInBounds_toArray, List.set_cons_zero, List.set_cons_succ]
  refine tk 10 ⟨some 107, .move (.tmp 0), 26, "law.go:131", #[], none⟩ (.pointer (some ⟨g, 0, none⟩)) ?_
  simp only [Act.put, List.setIfInBounds_toArray, List.set_cons_zero, List.set_cons_succ]
  refine tk 11 ⟨some 108, .nilCheck (.tmp 107), 0, "law.go:131", #[⟨10, .data⟩], none⟩ (.pointer (some ⟨g, 0, none⟩)) ?_
  simp only [Act.put, List.setIfInBounds_toArray, List.set_cons_zero, List.set_cons_succ]
  refine tk 12 ⟨some 109, .fieldAddr 34 (.tmp 108) 2, 0, "law.go:131", #[⟨11, .data⟩], none⟩ (.pointer (some ⟨g, 2, none⟩)) ?_
  simp only [Act.put, List.setIfInBounds_toArray, List.set_cons_zero, List.set_cons_succ]
  refine tk 13 ⟨some 110, .load 32 (.tmp 109), 32, "law.go:131", #[⟨12, .data⟩], none⟩ (.pointer (some ⟨r.g, 0, none⟩)) ?_ (hy := Or.inl ⟨by rfl, by intro w hSw; have hc := hSw.2.2; go_simp⟩)
  simp only [Act.put, List.setIfInBounds_toArray, List.set_cons_zero, List.set_cons_succ]
  refine tk 14 ⟨some 111, .fieldAddr 42 (.tmp 3) 1, 0, "law.go:131", #[], none⟩ (.pointer (some ⟨g3, 1, none⟩)) ?_
  simp only [Act.put, List.setIfInBounds_toArray, List.set_cons_zero, List.set_cons_succ]
  refine tk 15 ⟨some 112, .load 3 (.tmp 111), 3, "law.go:131", #[⟨14, .data⟩], none⟩ (.int .i64 a) ?_ (hy := Or.inl ⟨by rfl, by intro w hSw; have hc : w.cell? ⟨g3, 1, none⟩ = some (.int .i64 a) := hSw.1.cell 1; go_simp⟩)
  simp only [Act.put, List.setIfInBounds_toArray, List.set_cons_zero, List.set_cons_succ]
  refine tk 16 ⟨some 113, .fieldAddr 42 (.tmp 3) 2, 0, "law.go:131", #[], none⟩ (.pointer (some ⟨g3, 2, none⟩)) ?_
  simp only [Act.put, List.setIfInBounds_toArray, List.set_cons_zero, List.set_cons_succ]
  refine tk 17 ⟨some 114, .load 3 (.tmp 113), 3, "law.go:131", #[⟨16, .data⟩], none⟩ (.int .i64 b) ?_ (hy := Or.inl ⟨by rfl, by intro w hSw; have hc : w.cell? ⟨g3, 2, none⟩ = some (.int .i64 b) := hSw.1.cell 2; go_simp⟩)
  simp only [Act.put, List.setIfInBounds_toArray, List.set_cons_zero, List.set_cons_succ]
  refine wpAnyH_ready (rs := [8]) (by kernel_rfl) (by simp) (AllReadyH.cons (o := ⟨some 105, .call { callee := .value (.func 39), args := #[.tmp 100, .tmp 102, .tmp 104], argTypes := #[31, 3, 81] }, 54, "law.go:131", #[⟨3, .data⟩, ⟨5, .data⟩, ⟨7, .data⟩], none⟩) rfl (fun KQ hK => ?_) AllReadyH.nil)
  go_simp
  refine (HA.out _ X1.out.ss.own).mono ?_
  rintro e w2 ⟨rfl, hd, hb⟩
  have X2 := hid (X1.out.stepA hd hb)
  clear hd hb X1
  go_wp2_with fail
  refine hK.out _ _ (X2.out.hold rfl) (fun hHeld => ?_)
  clear hK KQ
  try simp only [Act.put, List.setIfInBounds_toArray, List.set_cons_zero, List.set_cons_succ]
  refine wpAnyH_ready (rs := [9]) (by kernel_rfl) (by simp) (AllReadyH.cons (o := ⟨some 106, .call { callee := .value (.func 25), args := #[.tmp 105], argTypes := #[54] }, 3, "law.go:131", #[⟨8, .data⟩, ⟨8, .chain⟩], none⟩) rfl (fun KQ hK => ?_) AllReadyH.nil)
  go_simp
  refine (HNm.out _ _).mono ?_
  rintro e wx ⟨rfl, hw⟩
  subst wx
  go_wp2_with fail
  refine hK.out _ _ (X2.out.hold rfl) (fun hHeld => ?_)
  clear hK KQ
  try simp only [Act.put, List.setIfInBounds_toArray, List.set_cons_zero, List.set_cons_succ]
  refine wpAnyH_ready (rs := [18]) (by kernel_rfl) (by simp) (AllReadyH.cons (o := ⟨some 115, .call { callee := .value (.func 40), args := #[.tmp 110, .tmp 112, .tmp 114], argTypes := #[32, 3, 3] }, 3, "law.go:131", #[⟨13, .data⟩, ⟨15, .data⟩, ⟨17, .data⟩, ⟨9, .chain⟩], none⟩) rfl (fun KQ hK => ?_) AllReadyH.nil)
  go_simp
  refine (HR.out _ X2.out.ss.doc).mono ?_
  rintro e w3 ⟨rfl, hg⟩
  have X3 := hid (X2.out.stepR hg)
  clear hg X2
  go_wp2_with fail
  refine hK.out _ _ (X3.out.hold rfl) (fun hHeld => ?_)
  clear hK KQ
  try simp only [Act.put, List.setIfInBounds_toArray, List.set_cons_zero, List.set_cons_succ]
  refine tk 19 ⟨some 116, .binOp .eql 3 (.tmp 106) (.tmp 115) 3, 4, "law.go:131", #[⟨9, .data⟩, ⟨18, .data⟩], none⟩ (.bool true) ?_
  simp only [Act.put, List.setIfInBounds_toArray, List.set_cons_zero, List.set_cons_succ]
  refine wpAnyH_ready (rs := [20]) (by kernel_rfl) (by simp) (AllReadyH.cons (o := ⟨some 4, .assign (.tmp 116), 4, "law.go:131", #[⟨19, .data⟩, ⟨18, .chain⟩, ⟨0, .phase⟩, ⟨1, .phase⟩, ⟨2, .phase⟩, ⟨3, .phase⟩, ⟨4, .phase⟩, ⟨5, .phase⟩, ⟨6, .phase⟩, ⟨7, .phase⟩, ⟨8, .phase⟩, ⟨9, .phase⟩, ⟨10, .phase⟩, ⟨11, .phase⟩, ⟨12, .phase⟩, ⟨13, .phase⟩, ⟨14, .phase⟩, ⟨15, .phase⟩, ⟨16, .phase⟩, ⟨17, .phase⟩, ⟨18, .phase⟩, ⟨19, .phase⟩], none⟩) rfl (fun KQ hK => ?_) AllReadyH.nil)
  go_simp
  refine hK.out _ _ (X3.out.hold rfl) (fun hHeld => ?_)
  clear hK KQ
  try simp only [Act.put, List.setIfInBounds_toArray, List.set_cons_zero, List.set_cons_succ]
  refine wpAnyH_done (by kernel_rfl) ?_ _
  go_wp2_with fail
  go_ret
  exact ⟨rfl, _, X3.out.ss⟩
end Go.Proofs.YtildhjiddidghaaGreatDoor
namespace Go.Proofs.YtildhjiddidghaaGreatDoor
open Go.RowKit
set_option maxHeartbeats 4000000
set_option maxRecDepth 100000
theorem act_7 (W w : World) (g : Nat) (p : Dp) (r : Rp) (d : DS) (h : SS W w g p r d d) (a b c v : Int) (u : Value) :
    Calls Tryz.prog 11 #[.pointer (some ⟨g, 0, none⟩), .agg #[.int .i64 7, .int .i64 a, .int .i64 b, .int .i64 c, .int .u32 v, u]] w fun e w' => e = .returned (.bool true) ∧ ∃ q, SS W w' g p q { d with m := d.m.write true a b v } { d with m := d.m.write true a b v } := by
  have X0 : Hid (SX W (w.alloc (.cells #[.int .i64 7, .int .i64 a, .int .i64 b, .int .i64 c, .int .u32 v, u] 42)) g p r d d w.heap.size [.int .i64 7, .int .i64 a, .int .i64 b, .int .i64 c, .int .u32 v, u]) := hid ⟨h.on (below_one _ _), Cel.new w 42 [.int .i64 7, .int .i64 a, .int .i64 b, .int .i64 c, .int .u32 v, u]⟩
  have HW := hid (fun w (h : SS W w g p r d d) => write_l W w g p r d h a b v)
  clear h
  generalize hm2 : d.m.write true a b v = m2 at *
  clear hm2
  go_enter Tryz.func11, Tryz.ntmps11
  go_upto_region 1 with fail
  generalize World.alloc _ _ = X at *
  generalize w.heap.size = g3 at *
  have y0 : X.cell? ⟨g3, 0, none⟩ = some (.int .i64 7) := X0.out.bx.cell 0
  have y1 : X.cell? ⟨g3, 1, none⟩ = some (.int .i64 a) := X0.out.bx.cell 1
  have y2 : X.cell? ⟨g3, 2, none⟩ = some (.int .i64 b) := X0.out.bx.cell 2
  have y4 : X.cell? ⟨g3, 4, none⟩ = some (.int .u32 v) := X0.out.bx.cell 4
  go_wp2_with (go_at_call 8; refine (HW.out _ X0.out.ss).mono ?_; rintro e w1 ⟨rfl, r1, hs⟩; have S1 := hid hs; clear hs)
  go_ret
  exact ⟨rfl, _, S1.out⟩
theorem act_0 (W w : World) (g : Nat) (p : Dp) (r : Rp) (d : DS) (h : SS W w g p r d d) (k a b c v : Int) (u : Value) (hk : ¬ (1 ≤ k ∧ k ≤ 9)) :
    Calls Tryz.prog 11 #[.pointer (some ⟨g, 0, none⟩), .agg #[.int .i64 k, .int .i64 a, .int .i64 b, .int .i64 c, .int .u32 v, u]] w fun e w' => e = .returned (.bool true) ∧ ∃ q, SS W w' g p q d d := by
  have X0 : Hid (SX W (w.alloc (.cells #[.int .i64 k, .int .i64 a, .int .i64 b, .int .i64 c, .int .u32 v, u] 42)) g p r d d w.heap.size [.int .i64 k, .int .i64 a, .int .i64 b, .int .i64 c, .int .u32 v, u]) := hid ⟨h.on (below_one _ _), Cel.new w 42 [.int .i64 k, .int .i64 a, .int .i64 b, .int .i64 c, .int .u32 v, u]⟩
  have k1 : (k == 1) = false := by rw [beq_eq_false_iff_ne]; omega
  have k2 : (k == 2) = false := by rw [beq_eq_false_iff_ne]; omega
  have k3 : (k == 3) = false := by rw [beq_eq_false_iff_ne]; omega
  have k4 : (k == 4) = false := by rw [beq_eq_false_iff_ne]; omega
  have k5 : (k == 5) = false := by rw [beq_eq_false_iff_ne]; omega
  have k6 : (k == 6) = false := by rw [beq_eq_false_iff_ne]; omega
  have k7 : (k == 7) = false := by rw [beq_eq_false_iff_ne]; omega
  have k8 : (k == 8) = false := by rw [beq_eq_false_iff_ne]; omega
  have k9 : (k == 9) = false := by rw [beq_eq_false_iff_ne]; omega
  clear h hk
  go_enter Tryz.func11, Tryz.ntmps11
  go_upto_region 1 with fail
  generalize World.alloc _ _ = X at *
  generalize w.heap.size = g3 at *
  have y0 : X.cell? ⟨g3, 0, none⟩ = some (.int .i64 k) := X0.out.bx.cell 0
  go_wp2_with fail
  go_ret
  exact ⟨rfl, _, X0.out.ss⟩
end Go.Proofs.YtildhjiddidghaaGreatDoor
namespace Go.Proofs.YtildhjiddidghaaGreatDoor
open Go.RowKit
set_option maxHeartbeats 4000000
set_option maxRecDepth 100000
theorem act_6 (W w : World) (g : Nat) (p : Dp) (r : Rp) (d : DS) (h : SS W w g p r d d) (a b c v : Int) (u : Value) :
    Calls Tryz.prog 11 #[.pointer (some ⟨g, 0, none⟩), .agg #[.int .i64 6, .int .i64 a, .int .i64 b, .int .i64 c, .int .u32 v, u]] w fun e w' => e = .returned (.bool true) ∧ ∃ q, SS W w' g p q (d.entered a (b.tmod 2 != 0)) (d.entered a (b.tmod 2 != 0)) := by
  have X0 : Hid (SX W (w.alloc (.cells #[.int .i64 6, .int .i64 a, .int .i64 b, .int .i64 c, .int .u32 v, u] 42)) g p r d d w.heap.size [.int .i64 6, .int .i64 a, .int .i64 b, .int .i64 c, .int .u32 v, u]) := hid ⟨h.on (below_one _ _), Cel.new w 42 [.int .i64 6, .int .i64 a, .int .i64 b, .int .i64 c, .int .u32 v, u]⟩
  have HA := hid (fun w (hw : DB w p d) => setEntered_any w p d hw a (b.tmod 2 != 0))
  have HR := hid (fun w (hw : RDB w r d) => rsetEntered_any w r d hw a (b.tmod 2 != 0))
  have HNm := hid (fun w x => num_l w x)
  clear h
  simp only [ptr] at *
  generalize hon : (b.tmod 2 != 0) = on at *
  generalize hd2 : d.entered a on = d2 at *
  clear hd2
  generalize d.enteredE a = ff at *
  go_enter Tryz.func11, Tryz.ntmps11
  go_upto_region 1 with fail
  generalize World.alloc _ _ = X at *
  generalize w.heap.size = g3 at *
  have y0 : X.cell? ⟨g3, 0, none⟩ = some (.int .i64 6) := X0.out.bx.cell 0
  go_upto_region 13 with fail
  clear y0
  have X1 := hid (X0.out.on (Below.refl _ _).drew)
  clear X0
  refine wp_region_held_drew (S := fun w => Cel w g3 42 [.int .i64 6, .int .i64 a, .int .i64 b, .int .i64 c, .int .u32 v, u] ∧ w.cell? ⟨g, 1, none⟩ = some (.pointer (some ⟨p.g, 0, none⟩)) ∧ w.cell? ⟨g, 2, none⟩ = some (.pointer (some ⟨r.g, 0, none⟩))) (by kernel_rfl) (X1.out.hold rfl) (fun hHeld => ?_)
  generalize World.drew _ = w1 at *
  refine tk 0 ⟨some 119, .move (.tmp 0), 26, "law.go:133", #[], none⟩ (.pointer (some ⟨g, 0, none⟩)) ?_
  simp only [Act.put, List.setIfInBounds_toArray, List.set_cons_zero, List.set_cons_succ]
  refine tk 1 ⟨some 120, .nilCheck (.tmp 119), 0, "law.go:133", #[⟨0, .data⟩], none⟩ (.pointer (some ⟨g, 0, none⟩)) ?_
  simp only [Act.put, List.setIfInBounds_toArray, List.set_cons_zero, List.set_cons_succ]
  refine tk 2 ⟨some 121, .fieldAddr 34 (.tmp 120) 1, 0, "law.go:133", #[⟨1, .data⟩], none⟩ (.pointer (some ⟨g, 1, none⟩)) ?_
  simp only [Act.put, List.setIfInBounds_toArray, List.set_cons_zero, List.set_cons_succ]
  refine tk 3 ⟨some 122, .load 31 (.tmp 121), 31, "law.go:133", #[⟨2, .data⟩], none⟩ (.pointer (some ⟨p.g, 0, none⟩)) ?_ (hy := Or.inl ⟨by rfl, by intro w hSw; have hc := hSw.2.1; go_simp⟩)
  simp only [Act.put, List.setIfInBounds_toArray, List.set_cons_zero, List.set_cons_succ]
  refine tk 4 ⟨some 123, .fieldAddr 42 (.tmp 3) 1, 0, "law.go:133", #[], none⟩ (.pointer (some ⟨g3, 1, none⟩)) ?_
  simp only [Act.put, List.setIfInBounds_toArray, List.set_cons_zero, List.set_cons_succ]
  refine tk 5 ⟨some 124, .load 3 (.tmp 123), 3, "law.go:133", #[⟨4, .data⟩], none⟩ (.int .i64 a) ?_ (hy := Or.inl ⟨by rfl, by intro w hSw; have hc : w.cell? ⟨g3, 1, none⟩ = some (.int .i64 a) := hSw.1.cell 1; go_simp⟩)
  simp only [Act.put, List.setIfInBounds_toArray, List.set_cons_zero, List.set_cons_succ]
  refine tk 6 ⟨some 125, .fieldAddr 42 (.tmp 3) 2, 0, "law.go:133", #[], none⟩ (.pointer (some ⟨g3, 2, none⟩)) ?_
  simp only [Act.put, List.setIfInBounds_toArray, List.set_cons_zero, List.set_cons_succ]
  refine tk 7 ⟨some 126, .load 3 (.tmp 125), 3, "law.go:133", #[⟨6, .data⟩], none⟩ (.int .i64 b) ?_ (hy := Or.inl ⟨by rfl, by intro w hSw; have hc : w.cell? ⟨g3, 2, none⟩ = some (.int .i64 b) := hSw.1.cell 2; go_simp⟩)
  simp only [Act.put, List.setIfInBounds_toArray, List.set_cons_zero, List.set_cons_succ]
  refine tk 8 ⟨some 127, .binOp .rem 3 (.tmp 126) (.const (.int .i64 2)) 3, 3, "law.go:133", #[⟨7, .data⟩], none⟩ (.int .i64 (b.tmod 2)) ?_
  simp only [Act.put, List.setIfInBounds_toArray, List.set_cons_zero, List.set_cons_succ]
  refine tk 9 ⟨some 128, .binOp .neq 3 (.tmp 127) (.const (.int .i64 0)) 3, 4, "law.go:133", #[⟨8, .data⟩], none⟩ (.bool on) ?_
  simp only [Act.put, List.setIfInBounds_toArray, List.set_cons_zero, List.set_cons_succ]
  refine tk 12 ⟨some 131, .move (.tmp 0), 26, "law.go:133", #[], none⟩ (.pointer (some ⟨g, 0, none⟩)) ?_
  simp only [Act.put, List.setIfInBounds_toArray, List.set_cons_zero, List.set_cons_succ]
  refine tk 13 ⟨some 132, .nilCheck (.tmp 131), 0, "law.go:133", #[⟨12, .data⟩], none⟩ (.pointer (some ⟨g, 0, none⟩)) ?_
  simp only [Act.put, List.setIfInBounds_toArray, List.set_cons_zero, List.set_cons_succ]
  refine tk 14 ⟨some 133, .fieldAddr 34 (.tmp 132) 2, 0, "law.go:133", #[⟨13, .data⟩], none⟩ (.pointer (some ⟨g, 2, none⟩)) ?_
  simp only [Act.put, List.setIfInBounds_toArray, List.set_cons_zero, List.set_cons_succ]
  refine tk 15 ⟨some 134, .load 32 (.tmp 133), 32, "law.go:133", #[⟨14, .data⟩], none⟩ (.pointer (some ⟨r.g, 0, none⟩)) ?_ (hy := Or.inl ⟨by rfl, by intro w hSw; have hc := hSw.2.2; go_simp⟩)
  simp only [Act.put, List.setIfInBounds_toArray, List.set_cons_zero, List.set_cons_succ]
  refine tk 16 ⟨some 135, .fieldAddr 42 (.tmp 3) 1, 0, "law.go:133", #[], none⟩ (.pointer (some ⟨g3, 1, none⟩)) ?_
  simp only [Act.put, List.setIfInBounds_toArray, List.set_cons_zero, List.set_cons_succ]
  refine tk 17 ⟨some 136, .load 3 (.tmp 135), 3, "law.go:133", #[⟨16, .data⟩], none⟩ (.int .i64 a) ?_ (hy := Or.inl ⟨by rfl, by intro w hSw; have hc : w.cell? ⟨g3, 1, none⟩ = some (.int .i64 a) := hSw.1.cell 1; go_simp⟩)
  simp only [Act.put, List.setIfInBounds_toArray, List.set_cons_zero, List.set_cons_succ]
  refine tk 18 ⟨some 137, .fieldAddr 42 (.tmp 3) 2, 0, "law.go:133", #[], none⟩ (.pointer (some ⟨g3, 2, none⟩)) ?_
  simp only [Act.put, List.setIfInBounds_toArray, List.set_cons_zero, List.set_cons_succ]
  refine tk 19 ⟨some 138, .load 3 (.tmp 137), 3, "law.go:133", #[⟨18, .data⟩], none⟩ (.int .i64 b) ?_ (hy := Or.inl ⟨by rfl, by intro w hSw; have hc : w.cell? ⟨g3, 2, none⟩ = some (.int .i64 b) := hSw.1.cell 2; go_simp⟩)
  simp only [Act.put, List.setIfInBounds_toArray, List.set_cons_zero, List.set_cons_succ]
  refine tk 20 ⟨some 139, .binOp .rem 3 (.tmp 138) (.const (.int .i64 2)) 3, 3, "law.go:133", #[⟨19, .data⟩], none⟩ (.int .i64 (b.tmod 2)) ?_
  simp only [Act.put, List.setIfInBounds_toArray, List.set_cons_zero, List.set_cons_succ]
  refine tk 21 ⟨some 140, .binOp .neq 3 (.tmp 139) (.const (.int .i64 0)) 3, 4, "law.go:133", #[⟨20, .data⟩], none⟩ (.bool on) ?_
  simp only [Act.put, List.setIfInBounds_toArray, List.set_cons_zero, List.set_cons_succ]
  refine wpAnyH_ready (rs := [10]) (by kernel_rfl) (by simp) (AllReadyH.cons (o := ⟨some 129, .call { callee := .value (.func 41), args := #[.tmp 122, .tmp 124, .tmp 128], argTypes := #[31, 3, 4] }, 54, "law.go:133", #[⟨3, .data⟩, ⟨5, .data⟩, ⟨9, .data⟩], none⟩) rfl (fun KQ hK => ?_) AllReadyH.nil)
  go_simp
  refine (HA.out _ X1.out.ss.own).mono ?_
  rintro e w2 ⟨rfl, hd, hb⟩
  have X2 := hid (X1.out.stepA hd hb)
  clear hd hb X1
  go_wp2_with fail
  refine hK.out _ _ (X2.out.hold rfl) (fun hHeld => ?_)
  clear hK KQ
  try simp only [Act.put, List.setIfInBounds_toArray, List.set_cons_zero, List.set_cons_succ]
  refine wpAnyH_ready (rs := [11]) (by kernel_rfl) (by simp) (AllReadyH.cons (o := ⟨some 130, .call { callee := .value (.func 25), args := #[.tmp 129], argTypes := #[54] }, 3, "law.go:133", #[⟨10, .data⟩, ⟨10, .chain⟩], none⟩) rfl (fun KQ hK => ?_) AllReadyH.nil)
  go_simp
  refine (HNm.out _ _).mono ?_
  rintro e wx ⟨rfl, hw⟩
  subst wx
  go_wp2_with fail
  refine hK.out _ _ (X2.out.hold rfl) (fun hHeld => ?_)
  clear hK KQ
  try simp only [Act.put, List.setIfInBounds_toArray, List.set_cons_zero, List.set_cons_succ]
  refine wpAnyH_ready (rs := [22]) (by kernel_rfl) (by simp) (AllReadyH.cons (o := ⟨some 141, .call { callee := .value (.func 42), args := #[.tmp 134, .tmp 136, .tmp 140], argTypes := #[32, 3, 4] }, 3, "law.go:133", #[⟨15, .data⟩, ⟨17, .data⟩, ⟨21, .data⟩, ⟨11, .chain⟩], none⟩) rfl (fun KQ hK => ?_) AllReadyH.nil)
  go_simp
  refine (HR.out _ X2.out.ss.doc).mono ?_
  rintro e w3 ⟨rfl, hg⟩
  have X3 := hid (X2.out.stepR hg)
  clear hg X2
  go_wp2_with fail
  refine hK.out _ _ (X3.out.hold rfl) (fun hHeld => ?_)
  clear hK KQ
  try simp only [Act.put, List.setIfInBounds_toArray, List.set_cons_zero, List.set_cons_succ]
  refine tk 23 ⟨some 142, .binOp .eql 3 (.tmp 130) (.tmp 141) 3, 4, "law.go:133", #[⟨11, .data⟩, ⟨22, .data⟩], none⟩ (.bool true) ?_
  simp only [Act.put, List.setIfInBounds_toArray, List.set_cons_zero, List.set_cons_succ]
  refine wpAnyH_ready (rs := [24]) (by kernel_rfl) (by simp) (AllReadyH.cons (o := ⟨some 4, .assign (.tmp 142), 4, "law.go:133", #[⟨23, .data⟩, ⟨22, .chain⟩, ⟨0, .phase⟩, ⟨1, .phase⟩, ⟨2, .phase⟩, ⟨3, .phase⟩, ⟨4, .phase⟩, ⟨5, .phase⟩, ⟨6, .phase⟩, ⟨7, .phase⟩, ⟨8, .phase⟩, ⟨9, .phase⟩, ⟨10, .phase⟩, ⟨11, .phase⟩, ⟨12, .phase⟩, ⟨13, .phase⟩, ⟨14, .phase⟩, ⟨15, .phase⟩, ⟨16, .phase⟩, ⟨17, .phase⟩, ⟨18, .phase⟩, ⟨19, .phase⟩, ⟨20, .phase⟩, ⟨21, .phase⟩, ⟨22, .phase⟩, ⟨23, .phase⟩], none⟩) rfl (fun KQ hK => ?_) AllReadyH.nil)
  go_simp
  refine hK.out _ _ (X3.out.hold rfl) (fun hHeld => ?_)
  clear hK KQ
  try simp only [Act.put, List.setIfInBounds_toArray, List.set_cons_zero, List.set_cons_succ]
  refine wpAnyH_done (by kernel_rfl) ?_ _
  go_wp2_with fail
  go_ret
  exact ⟨rfl, _, X3.out.ss⟩
end Go.Proofs.YtildhjiddidghaaGreatDoor
namespace Go.Proofs.YtildhjiddidghaaGreatDoor
open Go.RowKit
theorem wd_set2 (L : List Int) (i j : Nat) (v : Int) : wd (L.set i v) j = if i = j ∧ j < L.length then v else wd L j := by
  unfold wd
  rw [List.getD_eq_getElem?_getD, List.getD_eq_getElem?_getD, List.getElem?_set]
  by_cases e : i = j
  · subst e
    by_cases h : i < L.length
    · simp [h]
    · simp [h]
  · simp [e]
theorem MS.p_set (m : MS) (k i : Nat) (L : List Int) (c : Int) : (MS.mk m.ns (m.P.set k L) c).p i = if k = i ∧ i < m.P.length then L else m.p i := by
  unfold MS.p
  simp only [List.getD_eq_getElem?_getD, List.getElem?_set]
  by_cases e : k = i
  · subst e
    by_cases h : k < m.P.length
    · simp [h]
    · simp [h]
  · simp [e]
theorem MS.zero_w (m : MS) (s : Bool) (p : Int) (i j : Nat) : wd ((m.zero s p).p i) j = 0 ∨ wd ((m.zero s p).p i) j = wd (m.p i) j := by
  unfold MS.zero
  split
  · exact .inr rfl
  · rename_i k _
    have := MS.p_set m k i zs (m.tick 1024).c
    show wd ((MS.mk m.ns (m.P.set k zs) (m.tick 1024).c).p i) j = 0 ∨ wd ((MS.mk m.ns (m.P.set k zs) (m.tick 1024).c).p i) j = wd (m.p i) j
    rw [this]
    split
    · exact .inl (wd_zsR j)
    · exact .inr rfl
theorem MS.write_w (m : MS) (s : Bool) (p off v : Int) (i j : Nat) : wd ((m.write s p off v).p i) j = v ∨ wd ((m.write s p off v).p i) j = wd (m.p i) j := by
  unfold MS.write
  split
  · exact .inr rfl
  · rename_i k _
    split
    · show wd ((MS.mk m.ns (m.P.set k ((m.p k).set off.toNat v)) (m.tick 1).c).p i) j = v ∨ wd ((MS.mk m.ns (m.P.set k ((m.p k).set off.toNat v)) (m.tick 1).c).p i) j = wd (m.p i) j
      rw [MS.p_set]
      split
      · rename_i h
        rw [wd_set2]
        split
        · exact .inl rfl
        · rw [h.1]; exact .inr rfl
      · exact .inr rfl
    · exact .inr rfl
theorem MS.U.write {m : MS} (h : m.U) (s : Bool) (p o v : Int) (h0 : 0 ≤ v) (h1 : v < 4294967296) : (m.write s p o v).U := fun k j => by
  rcases m.write_w s p o v k j with e | e <;> rw [e]
  · exact ⟨h0, h1⟩
  · exact h k j
theorem MS.U.zero {m : MS} (h : m.U) (s : Bool) (p : Int) : (m.zero s p).U := fun k j => by
  rcases m.zero_w s p k j with e | e <;> rw [e]
  · decide
  · exact h k j
def MS.Z (m : MS) : Prop := ∀ k j, wd (m.p k) j = 0
theorem MS.Z.u {m : MS} (h : m.Z) : m.U := fun k j => by rw [h k j]; decide
theorem MS.Z.new (s n : Nat) : (MS.new s n).Z := fun k j => by
  unfold MS.new MS.p
  simp only [List.getD_eq_getElem?_getD, List.getElem?_replicate]
  split
  · exact wd_zsR j
  · simp [wd]
theorem MS.Z.zero {m : MS} (h : m.Z) (s : Bool) (p : Int) : (m.zero s p).Z := fun k j => by
  rcases m.zero_w s p k j with e | e <;> rw [e]
  exact h k j
theorem MS.Z.zall {m : MS} (h : m.Z) : ∀ k, (m.zall k).Z
  | 0 => h
  | k + 1 => (MS.Z.zall h k).zero true (k : Int)
theorem MS.Z.word {m : MS} (h : m.Z) (s : Bool) (p off : Int) : m.word s p off = 0 := by
  unfold MS.word
  split
  · rfl
  · split
    · exact h _ _
    · rfl
theorem begun_Z (a b : Int) : (DS.begun a b).m.Z := (MS.Z.new (sz a) (sz b)).zall _
theorem begun_ns (a b : Int) : (DS.begun a b).m.ns = sz a := by
  show (MS.zall _ _).ns = _
  rw [MS.zall_ns]
  rfl
theorem begun_at (a b : Int) (k : Nat) : (DS.begun a b).at k = En.zero := rep_at _ k
theorem fb_none {d : DS} : ∀ (n c : Nat), (∀ i, c ≤ i → i < c + n → ∀ q, q < d.m.ns → d.at12 i q = true) → d.fb c n = (0, 0)
  | 0, _, _ => rfl
  | n + 1, c, h => by
    have h1 : d.bad c = none := bad_none (fun j hj => h c (Nat.le_refl _) (by omega) j hj)
    unfold DS.fb
    rw [h1]
    exact fb_none n (c + 1) (fun i hi hi' q hq => h i (by omega) (by omega) q hq)
theorem begun_fb (a b : Int) : (DS.begun a b).fb 1 12 = (0, 0) := by
  refine fb_none 12 1 (fun i h1 h2 q hq => ?_)
  have hz : (DS.begun a b).zr (q : Int) 0 1024 = true := DS.zr_yes (fun k _ _ => (begun_Z a b).word true _ _)
  have he := begun_at a b q
  unfold DS.at12
  have hc : i - 1 = 0 ∨ i - 1 = 1 ∨ i - 1 = 2 ∨ i - 1 = 3 ∨ i - 1 = 4 ∨ i - 1 = 5 ∨ i - 1 = 6 ∨ i - 1 = 7 ∨ i - 1 = 8 ∨ i - 1 = 9 ∨ i - 1 = 10 ∨ i - 1 = 11 := by omega
  rcases hc with e | e | e | e | e | e | e | e | e | e | e | e <;> rw [e] <;> simp [DS.cl, he, En.zero, hz]
end Go.Proofs.YtildhjiddidghaaGreatDoor
