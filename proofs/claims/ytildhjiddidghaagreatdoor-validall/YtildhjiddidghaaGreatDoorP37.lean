import Derived.Test.YtildhjiddidghaaGreatDoorP33
import Derived.Test.YtildhjiddidghaaGreatDoorP01
import Derived.Test.YtildhjiddidghaaGreatDoorP36
namespace Go.Proofs.YtildhjiddidghaaGreatDoor
open Go.RowKit
set_option maxHeartbeats 4000000
set_option maxRecDepth 100000
structure SX (W w : World) (g : Nat) (p : Dp) (r : Rp) (d e : DS) (g3 : Nat) (cs : List Value) : Prop where
  ss : SS W w g p r d e
  bx : Cel w g3 42 cs
theorem SX.on {W w w' : World} {g : Nat} {p : Dp} {r : Rp} {d e : DS} {g3 : Nat} {cs : List Value} (h : SX W w g p r d e g3 cs) (hb : Below w.heap.size w w') : SX W w' g p r d e g3 cs := ⟨h.ss.on hb, h.bx.on hb⟩
theorem SX.stepA {W w w' : World} {g : Nat} {p : Dp} {r : Rp} {d d' e : DS} {g3 : Nat} {cs : List Value} (h : SX W w g p r d e g3 cs) (hd : DB w' p d') (hb : ButL p.w w w') : SX W w' g p r d' e g3 cs :=
  ⟨h.ss.stepA hd hb, h.bx.but hb (fun hm => by
    rcases h.ss.own.ty g3 (Dp.w_all hm) 42 _ h.bx with e | e | e | e | e <;> (revert e; decide))⟩
theorem SX.stepR {W w w' : World} {g : Nat} {p : Dp} {r q : Rp} {d e e' : DS} {g3 : Nat} {cs : List Value} (h : SX W w g p r d e g3 cs) (hR : RG w w' r q e') : SX W w' g p q d e' g3 cs :=
  ⟨h.ss.stepR hR, h.bx.but hR.but (fun hm => by
    rcases h.ss.doc.ty g3 hm 42 _ h.bx with e | e | e | e | e <;> (revert e; decide))⟩
theorem SX.hold {W w : World} {g : Nat} {p : Dp} {r : Rp} {d e : DS} {g3 : Nat} {cs : List Value} (h : SX W w g p r d e g3 cs) {rg : Nat} (hr : r.g = rg) : Cel w g3 42 cs ∧ w.cell? ⟨g, 1, none⟩ = some (.pointer (some ⟨p.g, 0, none⟩)) ∧ w.cell? ⟨g, 2, none⟩ = some (.pointer (some ⟨rg, 0, none⟩)) := ⟨h.bx, h.ss.c.2.1, by rw [← hr]; exact h.ss.c.2.2⟩
theorem act_1 (W w : World) (g : Nat) (p : Dp) (r : Rp) (d : DS) (h : SS W w g p r d d) (a b c v : Int) (u : Value) :
    Calls Tryz.prog 11 #[.pointer (some ⟨g, 0, none⟩), .agg #[.int .i64 1, .int .i64 a, .int .i64 b, .int .i64 c, .int .u32 v, u]] w fun e w' => e = .returned (.bool true) ∧ ∃ q, SS W w' g p q (d.takeSpace a b) (d.takeSpace a b) := by
  have X0 : Hid (SX W (w.alloc (.cells #[.int .i64 1, .int .i64 a, .int .i64 b, .int .i64 c, .int .u32 v, u] 42)) g p r d d w.heap.size [.int .i64 1, .int .i64 a, .int .i64 b, .int .i64 c, .int .u32 v, u]) := hid ⟨h.on (below_one _ _), Cel.new w 42 [.int .i64 1, .int .i64 a, .int .i64 b, .int .i64 c, .int .u32 v, u]⟩
  have HA := hid (fun w (hw : DB w p d) => takeSpace_any w p d hw a b)
  have HR := hid (fun w (hw : RDB w r d) => rtakeSpace_any w r d hw a b)
  have HNm := hid (fun w x => num_l w x)
  clear h
  simp only [ptr] at *
  generalize hd2 : d.takeSpace a b = d2 at *
  clear hd2
  generalize d.bearE a b = ff at *
  go_enter Tryz.func11, Tryz.ntmps11
  go_upto_region 1 with fail
  generalize World.alloc _ _ = X at *
  generalize w.heap.size = g3 at *
  have y0 : X.cell? ⟨g3, 0, none⟩ = some (.int .i64 1) := X0.out.bx.cell 0
  go_upto_region 3 with fail
  clear y0
  have X1 := hid (X0.out.on (Below.refl _ _).drew)
  clear X0
  refine wp_region_held_drew (S := fun w => Cel w g3 42 [.int .i64 1, .int .i64 a, .int .i64 b, .int .i64 c, .int .u32 v, u] ∧ w.cell? ⟨g, 1, none⟩ = some (.pointer (some ⟨p.g, 0, none⟩)) ∧ w.cell? ⟨g, 2, none⟩ = some (.pointer (some ⟨r.g, 0, none⟩))) (by kernel_rfl) (X1.out.hold rfl) (fun hHeld => ?_)
  generalize World.drew _ = w1 at *
  refine tk 0 (some 9) (.pointer (some ⟨g, 0, none⟩)) ?_
  simp only [Act.put, tqA, tqZ, tqS]
  refine tk 1 (some 10) (.pointer (some ⟨g, 0, none⟩)) ?_
  simp only [Act.put, tqA, tqZ, tqS]
  refine tk 2 (some 11) (.pointer (some ⟨g, 1, none⟩)) ?_
  simp only [Act.put, tqA, tqZ, tqS]
  refine tk 3 (some 12) (.pointer (some ⟨p.g, 0, none⟩)) ?_ (hy := Or.inl ⟨by rfl, by intro w hSw; have hc := hSw.2.1; go_simp⟩)
  simp only [Act.put, tqA, tqZ, tqS]
  refine tk 4 (some 13) (.pointer (some ⟨g3, 1, none⟩)) ?_
  simp only [Act.put, tqA, tqZ, tqS]
  refine tk 5 (some 14) (.int .i64 a) ?_ (hy := Or.inl ⟨by rfl, by intro w hSw; have hc : w.cell? ⟨g3, 1, none⟩ = some (.int .i64 a) := hSw.1.cell 1; go_simp⟩)
  simp only [Act.put, tqA, tqZ, tqS]
  refine tk 6 (some 15) (.pointer (some ⟨g3, 2, none⟩)) ?_
  simp only [Act.put, tqA, tqZ, tqS]
  refine tk 7 (some 16) (.int .i64 b) ?_ (hy := Or.inl ⟨by rfl, by intro w hSw; have hc : w.cell? ⟨g3, 2, none⟩ = some (.int .i64 b) := hSw.1.cell 2; go_simp⟩)
  simp only [Act.put, tqA, tqZ, tqS]
  refine tk 10 (some 19) (.pointer (some ⟨g, 0, none⟩)) ?_
  simp only [Act.put, tqA, tqZ, tqS]
  refine tk 11 (some 20) (.pointer (some ⟨g, 0, none⟩)) ?_
  simp only [Act.put, tqA, tqZ, tqS]
  refine tk 12 (some 21) (.pointer (some ⟨g, 2, none⟩)) ?_
  simp only [Act.put, tqA, tqZ, tqS]
  refine tk 13 (some 22) (.pointer (some ⟨r.g, 0, none⟩)) ?_ (hy := Or.inl ⟨by rfl, by intro w hSw; have hc := hSw.2.2; go_simp⟩)
  simp only [Act.put, tqA, tqZ, tqS]
  refine tk 14 (some 23) (.pointer (some ⟨g3, 1, none⟩)) ?_
  simp only [Act.put, tqA, tqZ, tqS]
  refine tk 15 (some 24) (.int .i64 a) ?_ (hy := Or.inl ⟨by rfl, by intro w hSw; have hc : w.cell? ⟨g3, 1, none⟩ = some (.int .i64 a) := hSw.1.cell 1; go_simp⟩)
  simp only [Act.put, tqA, tqZ, tqS]
  refine tk 16 (some 25) (.pointer (some ⟨g3, 2, none⟩)) ?_
  simp only [Act.put, tqA, tqZ, tqS]
  refine tk 17 (some 26) (.int .i64 b) ?_ (hy := Or.inl ⟨by rfl, by intro w hSw; have hc : w.cell? ⟨g3, 2, none⟩ = some (.int .i64 b) := hSw.1.cell 2; go_simp⟩)
  simp only [Act.put, tqA, tqZ, tqS]
  refine wpAnyH_ready (rs := [8]) (by kernel_rfl) (by simp) (AllReadyH.cons (o := ⟨some 17, .call { callee := .value (.func 31), args := #[.tmp 12, .tmp 14, .tmp 16], argTypes := #[31, 3, 3] }, 54, "law.go:123", #[⟨3, .data⟩, ⟨5, .data⟩, ⟨7, .data⟩], none⟩) rfl (fun KQ hK => ?_) AllReadyH.nil)
  go_simp
  refine (HA.out _ X1.out.ss.own).mono ?_
  rintro e w2 ⟨rfl, hd, hb⟩
  have X2 := hid (X1.out.stepA hd hb)
  clear hd hb X1
  go_wp2_with fail
  refine hK.out _ _ (X2.out.hold rfl) (fun hHeld => ?_)
  clear hK KQ
  try simp only [Act.put, tqA, tqZ, tqS]
  refine wpAnyH_ready (rs := [9]) (by kernel_rfl) (by simp) (AllReadyH.cons (o := ⟨some 18, .call { callee := .value (.func 25), args := #[.tmp 17], argTypes := #[54] }, 3, "law.go:123", #[⟨8, .data⟩, ⟨8, .chain⟩], none⟩) rfl (fun KQ hK => ?_) AllReadyH.nil)
  go_simp
  refine (HNm.out _ _).mono ?_
  rintro e wx ⟨rfl, hw⟩
  subst wx
  go_wp2_with fail
  refine hK.out _ _ (X2.out.hold rfl) (fun hHeld => ?_)
  clear hK KQ
  try simp only [Act.put, tqA, tqZ, tqS]
  refine wpAnyH_ready (rs := [18]) (by kernel_rfl) (by simp) (AllReadyH.cons (o := ⟨some 27, .call { callee := .value (.func 32), args := #[.tmp 22, .tmp 24, .tmp 26], argTypes := #[32, 3, 3] }, 3, "law.go:123", #[⟨13, .data⟩, ⟨15, .data⟩, ⟨17, .data⟩, ⟨9, .chain⟩], none⟩) rfl (fun KQ hK => ?_) AllReadyH.nil)
  go_simp
  refine (HR.out _ X2.out.ss.doc).mono ?_
  rintro e w3 ⟨rfl, r1, hg⟩
  have X3 := hid (X2.out.stepR hg)
  clear hg X2
  go_wp2_with fail
  refine hK.out _ _ (X3.out.hold rfl) (fun hHeld => ?_)
  clear hK KQ
  try simp only [Act.put, tqA, tqZ, tqS]
  refine tk 19 (some 28) (.bool true) ?_
  simp only [Act.put, tqA, tqZ, tqS]
  refine wpAnyH_ready (rs := [20]) (by kernel_rfl) (by simp) (AllReadyH.cons (o := ⟨some 4, .assign (.tmp 28), 4, "law.go:123", #[⟨19, .data⟩, ⟨18, .chain⟩, ⟨0, .phase⟩, ⟨1, .phase⟩, ⟨2, .phase⟩, ⟨3, .phase⟩, ⟨4, .phase⟩, ⟨5, .phase⟩, ⟨6, .phase⟩, ⟨7, .phase⟩, ⟨8, .phase⟩, ⟨9, .phase⟩, ⟨10, .phase⟩, ⟨11, .phase⟩, ⟨12, .phase⟩, ⟨13, .phase⟩, ⟨14, .phase⟩, ⟨15, .phase⟩, ⟨16, .phase⟩, ⟨17, .phase⟩, ⟨18, .phase⟩, ⟨19, .phase⟩], none⟩) rfl (fun KQ hK => ?_) AllReadyH.nil)
  go_simp
  refine hK.out _ _ (X3.out.hold rfl) (fun hHeld => ?_)
  clear hK KQ
  try simp only [Act.put, tqA, tqZ, tqS]
  refine wpAnyH_done (by kernel_rfl) ?_ _
  go_wp2_with fail
  go_ret
  exact ⟨rfl, _, X3.out.ss⟩
theorem act_2 (W w : World) (g : Nat) (p : Dp) (r : Rp) (d : DS) (h : SS W w g p r d d) (a b c v : Int) (u : Value) :
    Calls Tryz.prog 11 #[.pointer (some ⟨g, 0, none⟩), .agg #[.int .i64 2, .int .i64 a, .int .i64 b, .int .i64 c, .int .u32 v, u]] w fun e w' => e = .returned (.bool true) ∧ ∃ q, SS W w' g p q (d.take a b c) (d.take a b c) := by
  have X0 : Hid (SX W (w.alloc (.cells #[.int .i64 2, .int .i64 a, .int .i64 b, .int .i64 c, .int .u32 v, u] 42)) g p r d d w.heap.size [.int .i64 2, .int .i64 a, .int .i64 b, .int .i64 c, .int .u32 v, u]) := hid ⟨h.on (below_one _ _), Cel.new w 42 [.int .i64 2, .int .i64 a, .int .i64 b, .int .i64 c, .int .u32 v, u]⟩
  have HA := hid (fun w (hw : DB w p d) => take_any w p d hw a b c)
  have HR := hid (fun w (hw : RDB w r d) => rtake_any w r d hw a b c)
  have HNm := hid (fun w x => num_l w x)
  clear h
  simp only [ptr] at *
  generalize hd2 : d.take a b c = d2 at *
  clear hd2
  generalize d.takeE a b c = ff at *
  go_enter Tryz.func11, Tryz.ntmps11
  go_upto_region 1 with fail
  generalize World.alloc _ _ = X at *
  generalize w.heap.size = g3 at *
  have y0 : X.cell? ⟨g3, 0, none⟩ = some (.int .i64 2) := X0.out.bx.cell 0
  go_upto_region 5 with fail
  clear y0
  have X1 := hid (X0.out.on (Below.refl _ _).drew)
  clear X0
  refine wp_region_held_drew (S := fun w => Cel w g3 42 [.int .i64 2, .int .i64 a, .int .i64 b, .int .i64 c, .int .u32 v, u] ∧ w.cell? ⟨g, 1, none⟩ = some (.pointer (some ⟨p.g, 0, none⟩)) ∧ w.cell? ⟨g, 2, none⟩ = some (.pointer (some ⟨r.g, 0, none⟩))) (by kernel_rfl) (X1.out.hold rfl) (fun hHeld => ?_)
  generalize World.drew _ = w1 at *
  refine tk 0 (some 31) (.pointer (some ⟨g, 0, none⟩)) ?_
  simp only [Act.put, tqA, tqZ, tqS]
  refine tk 1 (some 32) (.pointer (some ⟨g, 0, none⟩)) ?_
  simp only [Act.put, tqA, tqZ, tqS]
  refine tk 2 (some 33) (.pointer (some ⟨g, 1, none⟩)) ?_
  simp only [Act.put, tqA, tqZ, tqS]
  refine tk 3 (some 34) (.pointer (some ⟨p.g, 0, none⟩)) ?_ (hy := Or.inl ⟨by rfl, by intro w hSw; have hc := hSw.2.1; go_simp⟩)
  simp only [Act.put, tqA, tqZ, tqS]
  refine tk 4 (some 35) (.pointer (some ⟨g3, 1, none⟩)) ?_
  simp only [Act.put, tqA, tqZ, tqS]
  refine tk 5 (some 36) (.int .i64 a) ?_ (hy := Or.inl ⟨by rfl, by intro w hSw; have hc : w.cell? ⟨g3, 1, none⟩ = some (.int .i64 a) := hSw.1.cell 1; go_simp⟩)
  simp only [Act.put, tqA, tqZ, tqS]
  refine tk 6 (some 37) (.pointer (some ⟨g3, 2, none⟩)) ?_
  simp only [Act.put, tqA, tqZ, tqS]
  refine tk 7 (some 38) (.int .i64 b) ?_ (hy := Or.inl ⟨by rfl, by intro w hSw; have hc : w.cell? ⟨g3, 2, none⟩ = some (.int .i64 b) := hSw.1.cell 2; go_simp⟩)
  simp only [Act.put, tqA, tqZ, tqS]
  refine tk 8 (some 39) (.pointer (some ⟨g3, 3, none⟩)) ?_
  simp only [Act.put, tqA, tqZ, tqS]
  refine tk 9 (some 40) (.int .i64 c) ?_ (hy := Or.inl ⟨by rfl, by intro w hSw; have hc : w.cell? ⟨g3, 3, none⟩ = some (.int .i64 c) := hSw.1.cell 3; go_simp⟩)
  simp only [Act.put, tqA, tqZ, tqS]
  refine tk 12 (some 43) (.pointer (some ⟨g, 0, none⟩)) ?_
  simp only [Act.put, tqA, tqZ, tqS]
  refine tk 13 (some 44) (.pointer (some ⟨g, 0, none⟩)) ?_
  simp only [Act.put, tqA, tqZ, tqS]
  refine tk 14 (some 45) (.pointer (some ⟨g, 2, none⟩)) ?_
  simp only [Act.put, tqA, tqZ, tqS]
  refine tk 15 (some 46) (.pointer (some ⟨r.g, 0, none⟩)) ?_ (hy := Or.inl ⟨by rfl, by intro w hSw; have hc := hSw.2.2; go_simp⟩)
  simp only [Act.put, tqA, tqZ, tqS]
  refine tk 16 (some 47) (.pointer (some ⟨g3, 1, none⟩)) ?_
  simp only [Act.put, tqA, tqZ, tqS]
  refine tk 17 (some 48) (.int .i64 a) ?_ (hy := Or.inl ⟨by rfl, by intro w hSw; have hc : w.cell? ⟨g3, 1, none⟩ = some (.int .i64 a) := hSw.1.cell 1; go_simp⟩)
  simp only [Act.put, tqA, tqZ, tqS]
  refine tk 18 (some 49) (.pointer (some ⟨g3, 2, none⟩)) ?_
  simp only [Act.put, tqA, tqZ, tqS]
  refine tk 19 (some 50) (.int .i64 b) ?_ (hy := Or.inl ⟨by rfl, by intro w hSw; have hc : w.cell? ⟨g3, 2, none⟩ = some (.int .i64 b) := hSw.1.cell 2; go_simp⟩)
  simp only [Act.put, tqA, tqZ, tqS]
  refine tk 20 (some 51) (.pointer (some ⟨g3, 3, none⟩)) ?_
  simp only [Act.put, tqA, tqZ, tqS]
  refine tk 21 (some 52) (.int .i64 c) ?_ (hy := Or.inl ⟨by rfl, by intro w hSw; have hc : w.cell? ⟨g3, 3, none⟩ = some (.int .i64 c) := hSw.1.cell 3; go_simp⟩)
  simp only [Act.put, tqA, tqZ, tqS]
  refine wpAnyH_ready (rs := [10]) (by kernel_rfl) (by simp) (AllReadyH.cons (o := ⟨some 41, .call { callee := .value (.func 33), args := #[.tmp 34, .tmp 36, .tmp 38, .tmp 40], argTypes := #[31, 3, 76, 3] }, 54, "law.go:125", #[⟨3, .data⟩, ⟨5, .data⟩, ⟨7, .data⟩, ⟨9, .data⟩], none⟩) rfl (fun KQ hK => ?_) AllReadyH.nil)
  go_simp
  refine (HA.out _ X1.out.ss.own).mono ?_
  rintro e w2 ⟨rfl, hd, hb⟩
  have X2 := hid (X1.out.stepA hd hb)
  clear hd hb X1
  go_wp2_with fail
  refine hK.out _ _ (X2.out.hold rfl) (fun hHeld => ?_)
  clear hK KQ
  try simp only [Act.put, tqA, tqZ, tqS]
  refine wpAnyH_ready (rs := [11]) (by kernel_rfl) (by simp) (AllReadyH.cons (o := ⟨some 42, .call { callee := .value (.func 25), args := #[.tmp 41], argTypes := #[54] }, 3, "law.go:125", #[⟨10, .data⟩, ⟨10, .chain⟩], none⟩) rfl (fun KQ hK => ?_) AllReadyH.nil)
  go_simp
  refine (HNm.out _ _).mono ?_
  rintro e wx ⟨rfl, hw⟩
  subst wx
  go_wp2_with fail
  refine hK.out _ _ (X2.out.hold rfl) (fun hHeld => ?_)
  clear hK KQ
  try simp only [Act.put, tqA, tqZ, tqS]
  refine wpAnyH_ready (rs := [22]) (by kernel_rfl) (by simp) (AllReadyH.cons (o := ⟨some 53, .call { callee := .value (.func 34), args := #[.tmp 46, .tmp 48, .tmp 50, .tmp 52], argTypes := #[32, 3, 3, 3] }, 3, "law.go:125", #[⟨15, .data⟩, ⟨17, .data⟩, ⟨19, .data⟩, ⟨21, .data⟩, ⟨11, .chain⟩], none⟩) rfl (fun KQ hK => ?_) AllReadyH.nil)
  go_simp
  refine (HR.out _ X2.out.ss.doc).mono ?_
  rintro e w3 ⟨rfl, hg⟩
  have X3 := hid (X2.out.stepR hg)
  clear hg X2
  go_wp2_with fail
  refine hK.out _ _ (X3.out.hold rfl) (fun hHeld => ?_)
  clear hK KQ
  try simp only [Act.put, tqA, tqZ, tqS]
  refine tk 23 (some 54) (.bool true) ?_
  simp only [Act.put, tqA, tqZ, tqS]
  refine wpAnyH_ready (rs := [24]) (by kernel_rfl) (by simp) (AllReadyH.cons (o := ⟨some 4, .assign (.tmp 54), 4, "law.go:125", #[⟨23, .data⟩, ⟨22, .chain⟩, ⟨0, .phase⟩, ⟨1, .phase⟩, ⟨2, .phase⟩, ⟨3, .phase⟩, ⟨4, .phase⟩, ⟨5, .phase⟩, ⟨6, .phase⟩, ⟨7, .phase⟩, ⟨8, .phase⟩, ⟨9, .phase⟩, ⟨10, .phase⟩, ⟨11, .phase⟩, ⟨12, .phase⟩, ⟨13, .phase⟩, ⟨14, .phase⟩, ⟨15, .phase⟩, ⟨16, .phase⟩, ⟨17, .phase⟩, ⟨18, .phase⟩, ⟨19, .phase⟩, ⟨20, .phase⟩, ⟨21, .phase⟩, ⟨22, .phase⟩, ⟨23, .phase⟩], none⟩) rfl (fun KQ hK => ?_) AllReadyH.nil)
  go_simp
  refine hK.out _ _ (X3.out.hold rfl) (fun hHeld => ?_)
  clear hK KQ
  try simp only [Act.put, tqA, tqZ, tqS]
  refine wpAnyH_done (by kernel_rfl) ?_ _
  go_wp2_with fail
  go_ret
  exact ⟨rfl, _, X3.out.ss⟩
theorem act_3 (W w : World) (g : Nat) (p : Dp) (r : Rp) (d : DS) (h : SS W w g p r d d) (a b c v : Int) (u : Value) :
    Calls Tryz.prog 11 #[.pointer (some ⟨g, 0, none⟩), .agg #[.int .i64 3, .int .i64 a, .int .i64 b, .int .i64 c, .int .u32 v, u]] w fun e w' => e = .returned (.bool true) ∧ ∃ q, SS W w' g p q (d.turn a b) (d.turn a b) := by
  have X0 : Hid (SX W (w.alloc (.cells #[.int .i64 3, .int .i64 a, .int .i64 b, .int .i64 c, .int .u32 v, u] 42)) g p r d d w.heap.size [.int .i64 3, .int .i64 a, .int .i64 b, .int .i64 c, .int .u32 v, u]) := hid ⟨h.on (below_one _ _), Cel.new w 42 [.int .i64 3, .int .i64 a, .int .i64 b, .int .i64 c, .int .u32 v, u]⟩
  have HA := hid (fun w (hw : DB w p d) => turn_any w p d hw a b)
  have HR := hid (fun w (hw : RDB w r d) => rturn_any w r d hw a b)
  have HNm := hid (fun w x => num_l w x)
  clear h
  simp only [ptr] at *
  generalize hd2 : d.turn a b = d2 at *
  clear hd2
  generalize d.turnE a b = ff at *
  go_enter Tryz.func11, Tryz.ntmps11
  go_upto_region 1 with fail
  generalize World.alloc _ _ = X at *
  generalize w.heap.size = g3 at *
  have y0 : X.cell? ⟨g3, 0, none⟩ = some (.int .i64 3) := X0.out.bx.cell 0
  go_upto_region 7 with fail
  clear y0
  have X1 := hid (X0.out.on (Below.refl _ _).drew)
  clear X0
  refine wp_region_held_drew (S := fun w => Cel w g3 42 [.int .i64 3, .int .i64 a, .int .i64 b, .int .i64 c, .int .u32 v, u] ∧ w.cell? ⟨g, 1, none⟩ = some (.pointer (some ⟨p.g, 0, none⟩)) ∧ w.cell? ⟨g, 2, none⟩ = some (.pointer (some ⟨r.g, 0, none⟩))) (by kernel_rfl) (X1.out.hold rfl) (fun hHeld => ?_)
  generalize World.drew _ = w1 at *
  refine tk 0 (some 57) (.pointer (some ⟨g, 0, none⟩)) ?_
  simp only [Act.put, tqA, tqZ, tqS]
  refine tk 1 (some 58) (.pointer (some ⟨g, 0, none⟩)) ?_
  simp only [Act.put, tqA, tqZ, tqS]
  refine tk 2 (some 59) (.pointer (some ⟨g, 1, none⟩)) ?_
  simp only [Act.put, tqA, tqZ, tqS]
  refine tk 3 (some 60) (.pointer (some ⟨p.g, 0, none⟩)) ?_ (hy := Or.inl ⟨by rfl, by intro w hSw; have hc := hSw.2.1; go_simp⟩)
  simp only [Act.put, tqA, tqZ, tqS]
  refine tk 4 (some 61) (.pointer (some ⟨g3, 1, none⟩)) ?_
  simp only [Act.put, tqA, tqZ, tqS]
  refine tk 5 (some 62) (.int .i64 a) ?_ (hy := Or.inl ⟨by rfl, by intro w hSw; have hc : w.cell? ⟨g3, 1, none⟩ = some (.int .i64 a) := hSw.1.cell 1; go_simp⟩)
  simp only [Act.put, tqA, tqZ, tqS]
  refine tk 6 (some 63) (.pointer (some ⟨g3, 2, none⟩)) ?_
  simp only [Act.put, tqA, tqZ, tqS]
  refine tk 7 (some 64) (.int .i64 b) ?_ (hy := Or.inl ⟨by rfl, by intro w hSw; have hc : w.cell? ⟨g3, 2, none⟩ = some (.int .i64 b) := hSw.1.cell 2; go_simp⟩)
  simp only [Act.put, tqA, tqZ, tqS]
  refine tk 10 (some 67) (.pointer (some ⟨g, 0, none⟩)) ?_
  simp only [Act.put, tqA, tqZ, tqS]
  refine tk 11 (some 68) (.pointer (some ⟨g, 0, none⟩)) ?_
  simp only [Act.put, tqA, tqZ, tqS]
  refine tk 12 (some 69) (.pointer (some ⟨g, 2, none⟩)) ?_
  simp only [Act.put, tqA, tqZ, tqS]
  refine tk 13 (some 70) (.pointer (some ⟨r.g, 0, none⟩)) ?_ (hy := Or.inl ⟨by rfl, by intro w hSw; have hc := hSw.2.2; go_simp⟩)
  simp only [Act.put, tqA, tqZ, tqS]
  refine tk 14 (some 71) (.pointer (some ⟨g3, 1, none⟩)) ?_
  simp only [Act.put, tqA, tqZ, tqS]
  refine tk 15 (some 72) (.int .i64 a) ?_ (hy := Or.inl ⟨by rfl, by intro w hSw; have hc : w.cell? ⟨g3, 1, none⟩ = some (.int .i64 a) := hSw.1.cell 1; go_simp⟩)
  simp only [Act.put, tqA, tqZ, tqS]
  refine tk 16 (some 73) (.pointer (some ⟨g3, 2, none⟩)) ?_
  simp only [Act.put, tqA, tqZ, tqS]
  refine tk 17 (some 74) (.int .i64 b) ?_ (hy := Or.inl ⟨by rfl, by intro w hSw; have hc : w.cell? ⟨g3, 2, none⟩ = some (.int .i64 b) := hSw.1.cell 2; go_simp⟩)
  simp only [Act.put, tqA, tqZ, tqS]
  refine wpAnyH_ready (rs := [8]) (by kernel_rfl) (by simp) (AllReadyH.cons (o := ⟨some 65, .call { callee := .value (.func 35), args := #[.tmp 60, .tmp 62, .tmp 64], argTypes := #[31, 3, 76] }, 54, "law.go:127", #[⟨3, .data⟩, ⟨5, .data⟩, ⟨7, .data⟩], none⟩) rfl (fun KQ hK => ?_) AllReadyH.nil)
  go_simp
  refine (HA.out _ X1.out.ss.own).mono ?_
  rintro e w2 ⟨rfl, hd, hb⟩
  have X2 := hid (X1.out.stepA hd hb)
  clear hd hb X1
  go_wp2_with fail
  refine hK.out _ _ (X2.out.hold rfl) (fun hHeld => ?_)
  clear hK KQ
  try simp only [Act.put, tqA, tqZ, tqS]
  refine wpAnyH_ready (rs := [9]) (by kernel_rfl) (by simp) (AllReadyH.cons (o := ⟨some 66, .call { callee := .value (.func 25), args := #[.tmp 65], argTypes := #[54] }, 3, "law.go:127", #[⟨8, .data⟩, ⟨8, .chain⟩], none⟩) rfl (fun KQ hK => ?_) AllReadyH.nil)
  go_simp
  refine (HNm.out _ _).mono ?_
  rintro e wx ⟨rfl, hw⟩
  subst wx
  go_wp2_with fail
  refine hK.out _ _ (X2.out.hold rfl) (fun hHeld => ?_)
  clear hK KQ
  try simp only [Act.put, tqA, tqZ, tqS]
  refine wpAnyH_ready (rs := [18]) (by kernel_rfl) (by simp) (AllReadyH.cons (o := ⟨some 75, .call { callee := .value (.func 36), args := #[.tmp 70, .tmp 72, .tmp 74], argTypes := #[32, 3, 3] }, 3, "law.go:127", #[⟨13, .data⟩, ⟨15, .data⟩, ⟨17, .data⟩, ⟨9, .chain⟩], none⟩) rfl (fun KQ hK => ?_) AllReadyH.nil)
  go_simp
  refine (HR.out _ X2.out.ss.doc).mono ?_
  rintro e w3 ⟨rfl, r1, hg⟩
  have X3 := hid (X2.out.stepR hg)
  clear hg X2
  go_wp2_with fail
  refine hK.out _ _ (X3.out.hold rfl) (fun hHeld => ?_)
  clear hK KQ
  try simp only [Act.put, tqA, tqZ, tqS]
  refine tk 19 (some 76) (.bool true) ?_
  simp only [Act.put, tqA, tqZ, tqS]
  refine wpAnyH_ready (rs := [20]) (by kernel_rfl) (by simp) (AllReadyH.cons (o := ⟨some 4, .assign (.tmp 76), 4, "law.go:127", #[⟨19, .data⟩, ⟨18, .chain⟩, ⟨0, .phase⟩, ⟨1, .phase⟩, ⟨2, .phase⟩, ⟨3, .phase⟩, ⟨4, .phase⟩, ⟨5, .phase⟩, ⟨6, .phase⟩, ⟨7, .phase⟩, ⟨8, .phase⟩, ⟨9, .phase⟩, ⟨10, .phase⟩, ⟨11, .phase⟩, ⟨12, .phase⟩, ⟨13, .phase⟩, ⟨14, .phase⟩, ⟨15, .phase⟩, ⟨16, .phase⟩, ⟨17, .phase⟩, ⟨18, .phase⟩, ⟨19, .phase⟩], none⟩) rfl (fun KQ hK => ?_) AllReadyH.nil)
  go_simp
  refine hK.out _ _ (X3.out.hold rfl) (fun hHeld => ?_)
  clear hK KQ
  try simp only [Act.put, tqA, tqZ, tqS]
  refine wpAnyH_done (by kernel_rfl) ?_ _
  go_wp2_with fail
  go_ret
  exact ⟨rfl, _, X3.out.ss⟩
theorem act_4 (W w : World) (g : Nat) (p : Dp) (r : Rp) (d : DS) (h : SS W w g p r d d) (a b c v : Int) (u : Value) :
    Calls Tryz.prog 11 #[.pointer (some ⟨g, 0, none⟩), .agg #[.int .i64 4, .int .i64 a, .int .i64 b, .int .i64 c, .int .u32 v, u]] w fun e w' => e = .returned (.bool true) ∧ ∃ q, SS W w' g p q (d.give a) (d.give a) := by
  have X0 : Hid (SX W (w.alloc (.cells #[.int .i64 4, .int .i64 a, .int .i64 b, .int .i64 c, .int .u32 v, u] 42)) g p r d d w.heap.size [.int .i64 4, .int .i64 a, .int .i64 b, .int .i64 c, .int .u32 v, u]) := hid ⟨h.on (below_one _ _), Cel.new w 42 [.int .i64 4, .int .i64 a, .int .i64 b, .int .i64 c, .int .u32 v, u]⟩
  have HA := hid (fun w (hw : DB w p d) => give_any w p d hw a)
  have HR := hid (fun w (hw : RDB w r d) => rgive_any w r d hw a)
  have HNm := hid (fun w x => num_l w x)
  clear h
  simp only [ptr] at *
  generalize hd2 : d.give a = d2 at *
  clear hd2
  generalize d.giveE a = ff at *
  go_enter Tryz.func11, Tryz.ntmps11
  go_upto_region 1 with fail
  generalize World.alloc _ _ = X at *
  generalize w.heap.size = g3 at *
  have y0 : X.cell? ⟨g3, 0, none⟩ = some (.int .i64 4) := X0.out.bx.cell 0
  go_upto_region 9 with fail
  clear y0
  have X1 := hid (X0.out.on (Below.refl _ _).drew)
  clear X0
  refine wp_region_held_drew (S := fun w => Cel w g3 42 [.int .i64 4, .int .i64 a, .int .i64 b, .int .i64 c, .int .u32 v, u] ∧ w.cell? ⟨g, 1, none⟩ = some (.pointer (some ⟨p.g, 0, none⟩)) ∧ w.cell? ⟨g, 2, none⟩ = some (.pointer (some ⟨r.g, 0, none⟩))) (by kernel_rfl) (X1.out.hold rfl) (fun hHeld => ?_)
  generalize World.drew _ = w1 at *
  refine tk 0 (some 79) (.pointer (some ⟨g, 0, none⟩)) ?_
  simp only [Act.put, tqA, tqZ, tqS]
  refine tk 1 (some 80) (.pointer (some ⟨g, 0, none⟩)) ?_
  simp only [Act.put, tqA, tqZ, tqS]
  refine tk 2 (some 81) (.pointer (some ⟨g, 1, none⟩)) ?_
  simp only [Act.put, tqA, tqZ, tqS]
  refine tk 3 (some 82) (.pointer (some ⟨p.g, 0, none⟩)) ?_ (hy := Or.inl ⟨by rfl, by intro w hSw; have hc := hSw.2.1; go_simp⟩)
  simp only [Act.put, tqA, tqZ, tqS]
  refine tk 4 (some 83) (.pointer (some ⟨g3, 1, none⟩)) ?_
  simp only [Act.put, tqA, tqZ, tqS]
  refine tk 5 (some 84) (.int .i64 a) ?_ (hy := Or.inl ⟨by rfl, by intro w hSw; have hc : w.cell? ⟨g3, 1, none⟩ = some (.int .i64 a) := hSw.1.cell 1; go_simp⟩)
  simp only [Act.put, tqA, tqZ, tqS]
  refine tk 8 (some 87) (.pointer (some ⟨g, 0, none⟩)) ?_
  simp only [Act.put, tqA, tqZ, tqS]
  refine tk 9 (some 88) (.pointer (some ⟨g, 0, none⟩)) ?_
  simp only [Act.put, tqA, tqZ, tqS]
  refine tk 10 (some 89) (.pointer (some ⟨g, 2, none⟩)) ?_
  simp only [Act.put, tqA, tqZ, tqS]
  refine tk 11 (some 90) (.pointer (some ⟨r.g, 0, none⟩)) ?_ (hy := Or.inl ⟨by rfl, by intro w hSw; have hc := hSw.2.2; go_simp⟩)
  simp only [Act.put, tqA, tqZ, tqS]
  refine tk 12 (some 91) (.pointer (some ⟨g3, 1, none⟩)) ?_
  simp only [Act.put, tqA, tqZ, tqS]
  refine tk 13 (some 92) (.int .i64 a) ?_ (hy := Or.inl ⟨by rfl, by intro w hSw; have hc : w.cell? ⟨g3, 1, none⟩ = some (.int .i64 a) := hSw.1.cell 1; go_simp⟩)
  simp only [Act.put, tqA, tqZ, tqS]
  refine wpAnyH_ready (rs := [6]) (by kernel_rfl) (by simp) (AllReadyH.cons (o := ⟨some 85, .call { callee := .value (.func 37), args := #[.tmp 82, .tmp 84], argTypes := #[31, 3] }, 54, "law.go:129", #[⟨3, .data⟩, ⟨5, .data⟩], none⟩) rfl (fun KQ hK => ?_) AllReadyH.nil)
  go_simp
  refine (HA.out _ X1.out.ss.own).mono ?_
  rintro e w2 ⟨rfl, hd, hb⟩
  have X2 := hid (X1.out.stepA hd hb)
  clear hd hb X1
  go_wp2_with fail
  refine hK.out _ _ (X2.out.hold rfl) (fun hHeld => ?_)
  clear hK KQ
  try simp only [Act.put, tqA, tqZ, tqS]
  refine wpAnyH_ready (rs := [7]) (by kernel_rfl) (by simp) (AllReadyH.cons (o := ⟨some 86, .call { callee := .value (.func 25), args := #[.tmp 85], argTypes := #[54] }, 3, "law.go:129", #[⟨6, .data⟩, ⟨6, .chain⟩], none⟩) rfl (fun KQ hK => ?_) AllReadyH.nil)
  go_simp
  refine (HNm.out _ _).mono ?_
  rintro e wx ⟨rfl, hw⟩
  subst wx
  go_wp2_with fail
  refine hK.out _ _ (X2.out.hold rfl) (fun hHeld => ?_)
  clear hK KQ
  try simp only [Act.put, tqA, tqZ, tqS]
  refine wpAnyH_ready (rs := [14]) (by kernel_rfl) (by simp) (AllReadyH.cons (o := ⟨some 93, .call { callee := .value (.func 38), args := #[.tmp 90, .tmp 92], argTypes := #[32, 3] }, 3, "law.go:129", #[⟨11, .data⟩, ⟨13, .data⟩, ⟨7, .chain⟩], none⟩) rfl (fun KQ hK => ?_) AllReadyH.nil)
  go_simp
  refine (HR.out _ X2.out.ss.doc).mono ?_
  rintro e w3 ⟨rfl, r1, hg⟩
  have X3 := hid (X2.out.stepR hg)
  clear hg X2
  go_wp2_with fail
  refine hK.out _ _ (X3.out.hold rfl) (fun hHeld => ?_)
  clear hK KQ
  try simp only [Act.put, tqA, tqZ, tqS]
  refine tk 15 (some 94) (.bool true) ?_
  simp only [Act.put, tqA, tqZ, tqS]
  refine wpAnyH_ready (rs := [16]) (by kernel_rfl) (by simp) (AllReadyH.cons (o := ⟨some 4, .assign (.tmp 94), 4, "law.go:129", #[⟨15, .data⟩, ⟨14, .chain⟩, ⟨0, .phase⟩, ⟨1, .phase⟩, ⟨2, .phase⟩, ⟨3, .phase⟩, ⟨4, .phase⟩, ⟨5, .phase⟩, ⟨6, .phase⟩, ⟨7, .phase⟩, ⟨8, .phase⟩, ⟨9, .phase⟩, ⟨10, .phase⟩, ⟨11, .phase⟩, ⟨12, .phase⟩, ⟨13, .phase⟩, ⟨14, .phase⟩, ⟨15, .phase⟩], none⟩) rfl (fun KQ hK => ?_) AllReadyH.nil)
  go_simp
  refine hK.out _ _ (X3.out.hold rfl) (fun hHeld => ?_)
  clear hK KQ
  try simp only [Act.put, tqA, tqZ, tqS]
  refine wpAnyH_done (by kernel_rfl) ?_ _
  go_wp2_with fail
  go_ret
  exact ⟨rfl, _, X3.out.ss⟩
theorem act_5 (W w : World) (g : Nat) (p : Dp) (r : Rp) (d : DS) (h : SS W w g p r d d) (a b c v : Int) (u : Value) :
    Calls Tryz.prog 11 #[.pointer (some ⟨g, 0, none⟩), .agg #[.int .i64 5, .int .i64 a, .int .i64 b, .int .i64 c, .int .u32 v, u]] w fun e w' => e = .returned (.bool true) ∧ ∃ q, SS W w' g p q (d.state a b) (d.state a b) := by
  have X0 : Hid (SX W (w.alloc (.cells #[.int .i64 5, .int .i64 a, .int .i64 b, .int .i64 c, .int .u32 v, u] 42)) g p r d d w.heap.size [.int .i64 5, .int .i64 a, .int .i64 b, .int .i64 c, .int .u32 v, u]) := hid ⟨h.on (below_one _ _), Cel.new w 42 [.int .i64 5, .int .i64 a, .int .i64 b, .int .i64 c, .int .u32 v, u]⟩
  have HA := hid (fun w (hw : DB w p d) => setState_any w p d hw a b)
  have HR := hid (fun w (hw : RDB w r d) => rsetState_any w r d hw a b)
  have HNm := hid (fun w x => num_l w x)
  clear h
  simp only [ptr] at *
  generalize hd2 : d.state a b = d2 at *
  clear hd2
  generalize d.stateE a b = ff at *
  go_enter Tryz.func11, Tryz.ntmps11
  go_upto_region 1 with fail
  generalize World.alloc _ _ = X at *
  generalize w.heap.size = g3 at *
  have y0 : X.cell? ⟨g3, 0, none⟩ = some (.int .i64 5) := X0.out.bx.cell 0
  go_upto_region 11 with fail
  clear y0
  have X1 := hid (X0.out.on (Below.refl _ _).drew)
  clear X0
  refine wp_region_held_drew (S := fun w => Cel w g3 42 [.int .i64 5, .int .i64 a, .int .i64 b, .int .i64 c, .int .u32 v, u] ∧ w.cell? ⟨g, 1, none⟩ = some (.pointer (some ⟨p.g, 0, none⟩)) ∧ w.cell? ⟨g, 2, none⟩ = some (.pointer (some ⟨r.g, 0, none⟩))) (by kernel_rfl) (X1.out.hold rfl) (fun hHeld => ?_)
  generalize World.drew _ = w1 at *
  refine tk 0 (some 97) (.pointer (some ⟨g, 0, none⟩)) ?_
  simp only [Act.put, tqA, tqZ, tqS]
  refine tk 1 (some 98) (.pointer (some ⟨g, 0, none⟩)) ?_
  simp only [Act.put, tqA, tqZ, tqS]
  refine tk 2 (some 99) (.pointer (some ⟨g, 1, none⟩)) ?_
  simp only [Act.put, tqA, tqZ, tqS]
  refine tk 3 (some 100) (.pointer (some ⟨p.g, 0, none⟩)) ?_ (hy := Or.inl ⟨by rfl, by intro w hSw; have hc := hSw.2.1; go_simp⟩)
  simp only [Act.put, tqA, tqZ, tqS]
  refine tk 4 (some 101) (.pointer (some ⟨g3, 1, none⟩)) ?_
  simp only [Act.put, tqA, tqZ, tqS]
  refine tk 5 (some 102) (.int .i64 a) ?_ (hy := Or.inl ⟨by rfl, by intro w hSw; have hc : w.cell? ⟨g3, 1, none⟩ = some (.int .i64 a) := hSw.1.cell 1; go_simp⟩)
  simp only [Act.put, tqA, tqZ, tqS]
  refine tk 6 (some 103) (.pointer (some ⟨g3, 2, none⟩)) ?_
  simp only [Act.put, tqA, tqZ, tqS]
  refine tk 7 (some 104) (.int .i64 b) ?_ (hy := Or.inl ⟨by rfl, by intro w hSw; have hc : w.cell? ⟨g3, 2, none⟩ = some (.int .i64 b) := hSw.1.cell 2; go_simp⟩)
  simp only [Act.put, tqA, tqZ, tqS]
  refine tk 10 (some 107) (.pointer (some ⟨g, 0, none⟩)) ?_
  simp only [Act.put, tqA, tqZ, tqS]
  refine tk 11 (some 108) (.pointer (some ⟨g, 0, none⟩)) ?_
  simp only [Act.put, tqA, tqZ, tqS]
  refine tk 12 (some 109) (.pointer (some ⟨g, 2, none⟩)) ?_
  simp only [Act.put, tqA, tqZ, tqS]
  refine tk 13 (some 110) (.pointer (some ⟨r.g, 0, none⟩)) ?_ (hy := Or.inl ⟨by rfl, by intro w hSw; have hc := hSw.2.2; go_simp⟩)
  simp only [Act.put, tqA, tqZ, tqS]
  refine tk 14 (some 111) (.pointer (some ⟨g3, 1, none⟩)) ?_
  simp only [Act.put, tqA, tqZ, tqS]
  refine tk 15 (some 112) (.int .i64 a) ?_ (hy := Or.inl ⟨by rfl, by intro w hSw; have hc : w.cell? ⟨g3, 1, none⟩ = some (.int .i64 a) := hSw.1.cell 1; go_simp⟩)
  simp only [Act.put, tqA, tqZ, tqS]
  refine tk 16 (some 113) (.pointer (some ⟨g3, 2, none⟩)) ?_
  simp only [Act.put, tqA, tqZ, tqS]
  refine tk 17 (some 114) (.int .i64 b) ?_ (hy := Or.inl ⟨by rfl, by intro w hSw; have hc : w.cell? ⟨g3, 2, none⟩ = some (.int .i64 b) := hSw.1.cell 2; go_simp⟩)
  simp only [Act.put, tqA, tqZ, tqS]
  refine wpAnyH_ready (rs := [8]) (by kernel_rfl) (by simp) (AllReadyH.cons (o := ⟨some 105, .call { callee := .value (.func 39), args := #[.tmp 100, .tmp 102, .tmp 104], argTypes := #[31, 3, 81] }, 54, "law.go:131", #[⟨3, .data⟩, ⟨5, .data⟩, ⟨7, .data⟩], none⟩) rfl (fun KQ hK => ?_) AllReadyH.nil)
  go_simp
  refine (HA.out _ X1.out.ss.own).mono ?_
  rintro e w2 ⟨rfl, hd, hb⟩
  have X2 := hid (X1.out.stepA hd hb)
  clear hd hb X1
  go_wp2_with fail
  refine hK.out _ _ (X2.out.hold rfl) (fun hHeld => ?_)
  clear hK KQ
  try simp only [Act.put, tqA, tqZ, tqS]
  refine wpAnyH_ready (rs := [9]) (by kernel_rfl) (by simp) (AllReadyH.cons (o := ⟨some 106, .call { callee := .value (.func 25), args := #[.tmp 105], argTypes := #[54] }, 3, "law.go:131", #[⟨8, .data⟩, ⟨8, .chain⟩], none⟩) rfl (fun KQ hK => ?_) AllReadyH.nil)
  go_simp
  refine (HNm.out _ _).mono ?_
  rintro e wx ⟨rfl, hw⟩
  subst wx
  go_wp2_with fail
  refine hK.out _ _ (X2.out.hold rfl) (fun hHeld => ?_)
  clear hK KQ
  try simp only [Act.put, tqA, tqZ, tqS]
  refine wpAnyH_ready (rs := [18]) (by kernel_rfl) (by simp) (AllReadyH.cons (o := ⟨some 115, .call { callee := .value (.func 40), args := #[.tmp 110, .tmp 112, .tmp 114], argTypes := #[32, 3, 3] }, 3, "law.go:131", #[⟨13, .data⟩, ⟨15, .data⟩, ⟨17, .data⟩, ⟨9, .chain⟩], none⟩) rfl (fun KQ hK => ?_) AllReadyH.nil)
  go_simp
  refine (HR.out _ X2.out.ss.doc).mono ?_
  rintro e w3 ⟨rfl, hg⟩
  have X3 := hid (X2.out.stepR hg)
  clear hg X2
  go_wp2_with fail
  refine hK.out _ _ (X3.out.hold rfl) (fun hHeld => ?_)
  clear hK KQ
  try simp only [Act.put, tqA, tqZ, tqS]
  refine tk 19 (some 116) (.bool true) ?_
  simp only [Act.put, tqA, tqZ, tqS]
  refine wpAnyH_ready (rs := [20]) (by kernel_rfl) (by simp) (AllReadyH.cons (o := ⟨some 4, .assign (.tmp 116), 4, "law.go:131", #[⟨19, .data⟩, ⟨18, .chain⟩, ⟨0, .phase⟩, ⟨1, .phase⟩, ⟨2, .phase⟩, ⟨3, .phase⟩, ⟨4, .phase⟩, ⟨5, .phase⟩, ⟨6, .phase⟩, ⟨7, .phase⟩, ⟨8, .phase⟩, ⟨9, .phase⟩, ⟨10, .phase⟩, ⟨11, .phase⟩, ⟨12, .phase⟩, ⟨13, .phase⟩, ⟨14, .phase⟩, ⟨15, .phase⟩, ⟨16, .phase⟩, ⟨17, .phase⟩, ⟨18, .phase⟩, ⟨19, .phase⟩], none⟩) rfl (fun KQ hK => ?_) AllReadyH.nil)
  go_simp
  refine hK.out _ _ (X3.out.hold rfl) (fun hHeld => ?_)
  clear hK KQ
  try simp only [Act.put, tqA, tqZ, tqS]
  refine wpAnyH_done (by kernel_rfl) ?_ _
  go_wp2_with fail
  go_ret
  exact ⟨rfl, _, X3.out.ss⟩
end Go.Proofs.YtildhjiddidghaaGreatDoor
namespace Go.Proofs.YtildhjiddidghaaGreatDoor
open Go.RowKit
set_option maxHeartbeats 4000000
set_option maxRecDepth 100000
theorem act_7 (W w : World) (g : Nat) (p : Dp) (r : Rp) (d : DS) (h : SS W w g p r d d) (a b c v : Int) (u : Value) :
    Calls Tryz.prog 11 #[.pointer (some ⟨g, 0, none⟩), .agg #[.int .i64 7, .int .i64 a, .int .i64 b, .int .i64 c, .int .u32 v, u]] w fun e w' => e = .returned (.bool true) ∧ ∃ q, SS W w' g p q { d with m := d.m.write true a b v } { d with m := d.m.write true a b v } := by
  have X0 : Hid (SX W (w.alloc (.cells #[.int .i64 7, .int .i64 a, .int .i64 b, .int .i64 c, .int .u32 v, u] 42)) g p r d d w.heap.size [.int .i64 7, .int .i64 a, .int .i64 b, .int .i64 c, .int .u32 v, u]) := hid ⟨h.on (below_one _ _), Cel.new w 42 [.int .i64 7, .int .i64 a, .int .i64 b, .int .i64 c, .int .u32 v, u]⟩
  have HW := hid (fun w (h : SS W w g p r d d) => write_l W w g p r d h a b v)
  clear h
  generalize hm2 : d.m.write true a b v = m2 at *
  clear hm2
  go_enter Tryz.func11, Tryz.ntmps11
  go_upto_region 1 with fail
  generalize World.alloc _ _ = X at *
  generalize w.heap.size = g3 at *
  have y0 : X.cell? ⟨g3, 0, none⟩ = some (.int .i64 7) := X0.out.bx.cell 0
  have y1 : X.cell? ⟨g3, 1, none⟩ = some (.int .i64 a) := X0.out.bx.cell 1
  have y2 : X.cell? ⟨g3, 2, none⟩ = some (.int .i64 b) := X0.out.bx.cell 2
  have y4 : X.cell? ⟨g3, 4, none⟩ = some (.int .u32 v) := X0.out.bx.cell 4
  go_wp2_with (go_at_call 8; refine (HW.out _ X0.out.ss).mono ?_; rintro e w1 ⟨rfl, r1, hs⟩; have S1 := hid hs; clear hs)
  go_ret
  exact ⟨rfl, _, S1.out⟩
theorem act_0 (W w : World) (g : Nat) (p : Dp) (r : Rp) (d : DS) (h : SS W w g p r d d) (k a b c v : Int) (u : Value) (hk : ¬ (1 ≤ k ∧ k ≤ 9)) :
    Calls Tryz.prog 11 #[.pointer (some ⟨g, 0, none⟩), .agg #[.int .i64 k, .int .i64 a, .int .i64 b, .int .i64 c, .int .u32 v, u]] w fun e w' => e = .returned (.bool true) ∧ ∃ q, SS W w' g p q d d := by
  have X0 : Hid (SX W (w.alloc (.cells #[.int .i64 k, .int .i64 a, .int .i64 b, .int .i64 c, .int .u32 v, u] 42)) g p r d d w.heap.size [.int .i64 k, .int .i64 a, .int .i64 b, .int .i64 c, .int .u32 v, u]) := hid ⟨h.on (below_one _ _), Cel.new w 42 [.int .i64 k, .int .i64 a, .int .i64 b, .int .i64 c, .int .u32 v, u]⟩
  have k1 : (k == 1) = false := by rw [beq_eq_false_iff_ne]; omega
  have k2 : (k == 2) = false := by rw [beq_eq_false_iff_ne]; omega
  have k3 : (k == 3) = false := by rw [beq_eq_false_iff_ne]; omega
  have k4 : (k == 4) = false := by rw [beq_eq_false_iff_ne]; omega
  have k5 : (k == 5) = false := by rw [beq_eq_false_iff_ne]; omega
  have k6 : (k == 6) = false := by rw [beq_eq_false_iff_ne]; omega
  have k7 : (k == 7) = false := by rw [beq_eq_false_iff_ne]; omega
  have k8 : (k == 8) = false := by rw [beq_eq_false_iff_ne]; omega
  have k9 : (k == 9) = false := by rw [beq_eq_false_iff_ne]; omega
  clear h hk
  go_enter Tryz.func11, Tryz.ntmps11
  go_upto_region 1 with fail
  generalize World.alloc _ _ = X at *
  generalize w.heap.size = g3 at *
  have y0 : X.cell? ⟨g3, 0, none⟩ = some (.int .i64 k) := X0.out.bx.cell 0
  go_wp2_with fail
  go_ret
  exact ⟨rfl, _, X0.out.ss⟩
end Go.Proofs.YtildhjiddidghaaGreatDoor
