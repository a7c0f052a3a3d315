/- cpu's address 49, jump 47. -/
import Derived.Test.YteldpapacdbbiaaGreatDoorC2
namespace Go.Proofs.YteldpapacdbbiaaGreatDoor
open Go.RowKit
set_option maxHeartbeats 4000000
set_option maxRecDepth 100000
attribute [-simp] Tryz.isAgg26 Tryz.sizeOf26 Tryz.isAgg24
def ad (f : F) (i : Ins) : Int := if i.op = 17 ∨ i.op = 18 then (rg f i.b + rg f i.c) % 4294967296 else (rg f i.b + im i) % 4294967296
theorem address_any (W : World) (f : F) (i : Ins) (h : IOk i) : Calls Tryz.prog 55 #[f.v, i.v] W fun e W' => e = .returned (.int .u32 (ad f i)) ∧ Below W.heap.size W W' := by
  have HX := hid (FI.new W f i)
  have HI := hid (fun W => imm_any W i)
  obtain ⟨a0, a1, b0, b1, c0, c1⟩ := h
  unfold F.v ad
  generalize im i = v at *
  obtain ⟨op, cond, a, b, c, imm⟩ := i
  simp only [I.Ins.v] at *
  simp only [I.Ins.cs] at HX
  generalize hcf : f.cs.toArray = D at *
  clear hcf
  by_cases e1 : op = 17
  · subst e1
    rw [if_pos (.inl rfl)]
    go_enter Tryz.func55, Tryz.ntmps55
    go_upto_region 1 with fail
    generalize hX : (W.alloc _).alloc _ = X at *
    clear hX
    generalize W.heap.size + 1 = gi at *
    generalize hg : W.heap.size = gf at *
    obtain ⟨q0, q1, q2, q3, q4, q5⟩ := cel6 HX.out.ci
    simp only at q0 q1 q2 q3 q4 q5
    go_upto_region 4 with fail
    clear q0 q1 q2 q3 q4 q5
    have HD := hid (HX.out.on (Below.refl _ _).drew)
    refine wp_region_held_drew (S := fun x => FI W x gf gi f ⟨17, cond, a, b, c, imm⟩) (by kernel_rfl) HD.out (fun hHeld => ?_)
    refine wpAnyH_take (i := 0) (oi := { dst := some 10, op := Op.fieldAddr 78 (Operand.tmp 3) 3, type := 0, pos := "sum.go:58", after := #[], guard := none }) (v := .pointer (some ⟨gi, 3, none⟩)) rfl (by kernel_rfl) (by kernel_rfl) (by kernel_rfl) (fun _ _ _ h => h) (Or.inl ⟨by rfl, by intro w hSw; go_simp⟩) (by assumption) ?_
    simp only [Act.put, List.setIfInBounds_toArray, List.set_cons_zero, List.set_cons_succ]
    refine wpAnyH_take (i := 1) (oi := { dst := some 11, op := Op.load 3 (Operand.tmp 10), type := 3, pos := "sum.go:58", after := #[{ on := 0, ground := Ground.data }], guard := none }) (v := .int .i64 b) rfl (by kernel_rfl) (by kernel_rfl) (by kernel_rfl) (fun _ _ _ h => h) (Or.inl ⟨by rfl, by intro w hSw; have hq := cel6 hSw.ci; obtain ⟨q0, q1, q2, q3, q4, q5⟩ := hq; go_simp⟩) (by assumption) ?_
    simp only [Act.put, List.setIfInBounds_toArray, List.set_cons_zero, List.set_cons_succ]
    refine wpAnyH_take (i := 2) (oi := { dst := some 12, op := Op.fieldAddr 26 (Operand.tmp 2) 0, type := 0, pos := "sum.go:58", after := #[], guard := none }) (v := .pointer (some ⟨gf, 0, none⟩)) rfl (by kernel_rfl) (by kernel_rfl) (by kernel_rfl) (fun _ _ _ h => h) (Or.inl ⟨by rfl, by intro w hSw; go_simp⟩) (by assumption) ?_
    simp only [Act.put, List.setIfInBounds_toArray, List.set_cons_zero, List.set_cons_succ]
    refine wpAnyH_take (i := 3) (oi := { dst := some 13, op := Op.indexAddr 24 (Operand.tmp 12) (Operand.tmp 11), type := 0, pos := "sum.go:58", after := #[{ on := 2, ground := Ground.data }, { on := 1, ground := Ground.data }], guard := none }) (v := .pointer (some ⟨gf, b.toNat, none⟩)) rfl (by kernel_rfl) (by kernel_rfl) (by kernel_rfl) (fun _ _ _ h => h) (Or.inl ⟨by rfl, by intro w hSw; go_simp⟩) (by assumption) ?_
    simp only [Act.put, List.setIfInBounds_toArray, List.set_cons_zero, List.set_cons_succ]
    refine wpAnyH_take (i := 4) (oi := { dst := some 14, op := Op.load 23 (Operand.tmp 13), type := 23, pos := "sum.go:58", after := #[{ on := 3, ground := Ground.data }], guard := none }) (v := .int .u32 (rg f b)) rfl (by kernel_rfl) (by kernel_rfl) (by kernel_rfl) (fun _ _ _ h => h) (Or.inl ⟨by rfl, by intro w hSw; have hq := hSw.b b b0 b1; go_simp⟩) (by assumption) ?_
    simp only [Act.put, List.setIfInBounds_toArray, List.set_cons_zero, List.set_cons_succ]
    refine wpAnyH_take (i := 5) (oi := { dst := some 15, op := Op.fieldAddr 78 (Operand.tmp 3) 4, type := 0, pos := "sum.go:58", after := #[], guard := none }) (v := .pointer (some ⟨gi, 4, none⟩)) rfl (by kernel_rfl) (by kernel_rfl) (by kernel_rfl) (fun _ _ _ h => h) (Or.inl ⟨by rfl, by intro w hSw; go_simp⟩) (by assumption) ?_
    simp only [Act.put, List.setIfInBounds_toArray, List.set_cons_zero, List.set_cons_succ]
    refine wpAnyH_take (i := 6) (oi := { dst := some 16, op := Op.load 3 (Operand.tmp 15), type := 3, pos := "sum.go:58", after := #[{ on := 5, ground := Ground.data }], guard := none }) (v := .int .i64 c) rfl (by kernel_rfl) (by kernel_rfl) (by kernel_rfl) (fun _ _ _ h => h) (Or.inl ⟨by rfl, by intro w hSw; have hq := cel6 hSw.ci; obtain ⟨q0, q1, q2, q3, q4, q5⟩ := hq; go_simp⟩) (by assumption) ?_
    simp only [Act.put, List.setIfInBounds_toArray, List.set_cons_zero, List.set_cons_succ]
    refine wpAnyH_take (i := 7) (oi := { dst := some 17, op := Op.fieldAddr 26 (Operand.tmp 2) 0, type := 0, pos := "sum.go:58", after := #[], guard := none }) (v := .pointer (some ⟨gf, 0, none⟩)) rfl (by kernel_rfl) (by kernel_rfl) (by kernel_rfl) (fun _ _ _ h => h) (Or.inl ⟨by rfl, by intro w hSw; go_simp⟩) (by assumption) ?_
    simp only [Act.put, List.setIfInBounds_toArray, List.set_cons_zero, List.set_cons_succ]
    refine wpAnyH_take (i := 8) (oi := { dst := some 18, op := Op.indexAddr 24 (Operand.tmp 17) (Operand.tmp 16), type := 0, pos := "sum.go:58", after := #[{ on := 7, ground := Ground.data }, { on := 6, ground := Ground.data }], guard := none }) (v := .pointer (some ⟨gf, c.toNat, none⟩)) rfl (by kernel_rfl) (by kernel_rfl) (by kernel_rfl) (fun _ _ _ h => h) (Or.inl ⟨by rfl, by intro w hSw; go_simp⟩) (by assumption) ?_
    simp only [Act.put, List.setIfInBounds_toArray, List.set_cons_zero, List.set_cons_succ]
    refine wpAnyH_take (i := 9) (oi := { dst := some 19, op := Op.load 23 (Operand.tmp 18), type := 23, pos := "sum.go:58", after := #[{ on := 8, ground := Ground.data }], guard := none }) (v := .int .u32 (rg f c)) rfl (by kernel_rfl) (by kernel_rfl) (by kernel_rfl) (fun _ _ _ h => h) (Or.inl ⟨by rfl, by intro w hSw; have hq := hSw.b c c0 c1; go_simp⟩) (by assumption) ?_
    simp only [Act.put, List.setIfInBounds_toArray, List.set_cons_zero, List.set_cons_succ]
    refine wpAnyH_take (i := 10) (oi := { dst := some 20, op := Op.binOp BinOp.add 23 (Operand.tmp 14) (Operand.tmp 19) 23, type := 23, pos := "sum.go:58", after := #[{ on := 4, ground := Ground.data }, { on := 9, ground := Ground.data }], guard := none }) (v := .int .u32 ((rg f b + rg f c) % 4294967296)) rfl (by kernel_rfl) (by kernel_rfl) (by kernel_rfl) (fun _ _ _ h => h) (Or.inl ⟨by rfl, by intro w hSw; go_simp; rfl⟩) (by assumption) ?_
    simp only [Act.put, List.setIfInBounds_toArray, List.set_cons_zero, List.set_cons_succ]
    refine wpAnyH_ready (rs := [11]) (by kernel_rfl) (by simp) (AllReadyH.cons (o := { dst := some 4, op := Op.assign (Operand.tmp 20), type := 23, pos := "sum.go:58", after := #[{ on := 10, ground := Ground.data }, { on := 0, ground := Ground.phase }, { on := 1, ground := Ground.phase }, { on := 2, ground := Ground.phase }, { on := 3, ground := Ground.phase }, { on := 4, ground := Ground.phase }, { on := 5, ground := Ground.phase }, { on := 6, ground := Ground.phase }, { on := 7, ground := Ground.phase }, { on := 8, ground := Ground.phase }, { on := 9, ground := Ground.phase }, { on := 10, ground := Ground.phase }], guard := none }) rfl (fun KQ hK => ?_) AllReadyH.nil)
    go_simp
    refine hK.out _ _ HD.out (fun hHeld => ?_)
    clear hK KQ
    try simp only [Act.put, List.setIfInBounds_toArray, List.set_cons_zero, List.set_cons_succ]
    refine wpAnyH_done (by kernel_rfl) ?_ _
    subst hg
    go_wp2_with fail
    go_ret
    exact ⟨rfl, HD.out.below⟩
  by_cases e2 : op = 18
  · subst e2
    rw [if_pos (.inr rfl)]
    clear e1
    go_enter Tryz.func55, Tryz.ntmps55
    go_upto_region 1 with fail
    generalize hX : (W.alloc _).alloc _ = X at *
    clear hX
    generalize W.heap.size + 1 = gi at *
    generalize hg : W.heap.size = gf at *
    obtain ⟨q0, q1, q2, q3, q4, q5⟩ := cel6 HX.out.ci
    simp only at q0 q1 q2 q3 q4 q5
    go_upto_region 4 with fail
    clear q0 q1 q2 q3 q4 q5
    have HD := hid (HX.out.on (Below.refl _ _).drew)
    refine wp_region_held_drew (S := fun x => FI W x gf gi f ⟨18, cond, a, b, c, imm⟩) (by kernel_rfl) HD.out (fun hHeld => ?_)
    refine wpAnyH_take (i := 0) (oi := { dst := some 10, op := Op.fieldAddr 78 (Operand.tmp 3) 3, type := 0, pos := "sum.go:58", after := #[], guard := none }) (v := .pointer (some ⟨gi, 3, none⟩)) rfl (by kernel_rfl) (by kernel_rfl) (by kernel_rfl) (fun _ _ _ h => h) (Or.inl ⟨by rfl, by intro w hSw; go_simp⟩) (by assumption) ?_
    simp only [Act.put, List.setIfInBounds_toArray, List.set_cons_zero, List.set_cons_succ]
    refine wpAnyH_take (i := 1) (oi := { dst := some 11, op := Op.load 3 (Operand.tmp 10), type := 3, pos := "sum.go:58", after := #[{ on := 0, ground := Ground.data }], guard := none }) (v := .int .i64 b) rfl (by kernel_rfl) (by kernel_rfl) (by kernel_rfl) (fun _ _ _ h => h) (Or.inl ⟨by rfl, by intro w hSw; have hq := cel6 hSw.ci; obtain ⟨q0, q1, q2, q3, q4, q5⟩ := hq; go_simp⟩) (by assumption) ?_
    simp only [Act.put, List.setIfInBounds_toArray, List.set_cons_zero, List.set_cons_succ]
    refine wpAnyH_take (i := 2) (oi := { dst := some 12, op := Op.fieldAddr 26 (Operand.tmp 2) 0, type := 0, pos := "sum.go:58", after := #[], guard := none }) (v := .pointer (some ⟨gf, 0, none⟩)) rfl (by kernel_rfl) (by kernel_rfl) (by kernel_rfl) (fun _ _ _ h => h) (Or.inl ⟨by rfl, by intro w hSw; go_simp⟩) (by assumption) ?_
    simp only [Act.put, List.setIfInBounds_toArray, List.set_cons_zero, List.set_cons_succ]
    refine wpAnyH_take (i := 3) (oi := { dst := some 13, op := Op.indexAddr 24 (Operand.tmp 12) (Operand.tmp 11), type := 0, pos := "sum.go:58", after := #[{ on := 2, ground := Ground.data }, { on := 1, ground := Ground.data }], guard := none }) (v := .pointer (some ⟨gf, b.toNat, none⟩)) rfl (by kernel_rfl) (by kernel_rfl) (by kernel_rfl) (fun _ _ _ h => h) (Or.inl ⟨by rfl, by intro w hSw; go_simp⟩) (by assumption) ?_
    simp only [Act.put, List.setIfInBounds_toArray, List.set_cons_zero, List.set_cons_succ]
    refine wpAnyH_take (i := 4) (oi := { dst := some 14, op := Op.load 23 (Operand.tmp 13), type := 23, pos := "sum.go:58", after := #[{ on := 3, ground := Ground.data }], guard := none }) (v := .int .u32 (rg f b)) rfl (by kernel_rfl) (by kernel_rfl) (by kernel_rfl) (fun _ _ _ h => h) (Or.inl ⟨by rfl, by intro w hSw; have hq := hSw.b b b0 b1; go_simp⟩) (by assumption) ?_
    simp only [Act.put, List.setIfInBounds_toArray, List.set_cons_zero, List.set_cons_succ]
    refine wpAnyH_take (i := 5) (oi := { dst := some 15, op := Op.fieldAddr 78 (Operand.tmp 3) 4, type := 0, pos := "sum.go:58", after := #[], guard := none }) (v := .pointer (some ⟨gi, 4, none⟩)) rfl (by kernel_rfl) (by kernel_rfl) (by kernel_rfl) (fun _ _ _ h => h) (Or.inl ⟨by rfl, by intro w hSw; go_simp⟩) (by assumption) ?_
    simp only [Act.put, List.setIfInBounds_toArray, List.set_cons_zero, List.set_cons_succ]
    refine wpAnyH_take (i := 6) (oi := { dst := some 16, op := Op.load 3 (Operand.tmp 15), type := 3, pos := "sum.go:58", after := #[{ on := 5, ground := Ground.data }], guard := none }) (v := .int .i64 c) rfl (by kernel_rfl) (by kernel_rfl) (by kernel_rfl) (fun _ _ _ h => h) (Or.inl ⟨by rfl, by intro w hSw; have hq := cel6 hSw.ci; obtain ⟨q0, q1, q2, q3, q4, q5⟩ := hq; go_simp⟩) (by assumption) ?_
    simp only [Act.put, List.setIfInBounds_toArray, List.set_cons_zero, List.set_cons_succ]
    refine wpAnyH_take (i := 7) (oi := { dst := some 17, op := Op.fieldAddr 26 (Operand.tmp 2) 0, type := 0, pos := "sum.go:58", after := #[], guard := none }) (v := .pointer (some ⟨gf, 0, none⟩)) rfl (by kernel_rfl) (by kernel_rfl) (by kernel_rfl) (fun _ _ _ h => h) (Or.inl ⟨by rfl, by intro w hSw; go_simp⟩) (by assumption) ?_
    simp only [Act.put, List.setIfInBounds_toArray, List.set_cons_zero, List.set_cons_succ]
    refine wpAnyH_take (i := 8) (oi := { dst := some 18, op := Op.indexAddr 24 (Operand.tmp 17) (Operand.tmp 16), type := 0, pos := "sum.go:58", after := #[{ on := 7, ground := Ground.data }, { on := 6, ground := Ground.data }], guard := none }) (v := .pointer (some ⟨gf, c.toNat, none⟩)) rfl (by kernel_rfl) (by kernel_rfl) (by kernel_rfl) (fun _ _ _ h => h) (Or.inl ⟨by rfl, by intro w hSw; go_simp⟩) (by assumption) ?_
    simp only [Act.put, List.setIfInBounds_toArray, List.set_cons_zero, List.set_cons_succ]
    refine wpAnyH_take (i := 9) (oi := { dst := some 19, op := Op.load 23 (Operand.tmp 18), type := 23, pos := "sum.go:58", after := #[{ on := 8, ground := Ground.data }], guard := none }) (v := .int .u32 (rg f c)) rfl (by kernel_rfl) (by kernel_rfl) (by kernel_rfl) (fun _ _ _ h => h) (Or.inl ⟨by rfl, by intro w hSw; have hq := hSw.b c c0 c1; go_simp⟩) (by assumption) ?_
    simp only [Act.put, List.setIfInBounds_toArray, List.set_cons_zero, List.set_cons_succ]
    refine wpAnyH_take (i := 10) (oi := { dst := some 20, op := Op.binOp BinOp.add 23 (Operand.tmp 14) (Operand.tmp 19) 23, type := 23, pos := "sum.go:58", after := #[{ on := 4, ground := Ground.data }, { on := 9, ground := Ground.data }], guard := none }) (v := .int .u32 ((rg f b + rg f c) % 4294967296)) rfl (by kernel_rfl) (by kernel_rfl) (by kernel_rfl) (fun _ _ _ h => h) (Or.inl ⟨by rfl, by intro w hSw; go_simp; rfl⟩) (by assumption) ?_
    simp only [Act.put, List.setIfInBounds_toArray, List.set_cons_zero, List.set_cons_succ]
    refine wpAnyH_ready (rs := [11]) (by kernel_rfl) (by simp) (AllReadyH.cons (o := { dst := some 4, op := Op.assign (Operand.tmp 20), type := 23, pos := "sum.go:58", after := #[{ on := 10, ground := Ground.data }, { on := 0, ground := Ground.phase }, { on := 1, ground := Ground.phase }, { on := 2, ground := Ground.phase }, { on := 3, ground := Ground.phase }, { on := 4, ground := Ground.phase }, { on := 5, ground := Ground.phase }, { on := 6, ground := Ground.phase }, { on := 7, ground := Ground.phase }, { on := 8, ground := Ground.phase }, { on := 9, ground := Ground.phase }, { on := 10, ground := Ground.phase }], guard := none }) rfl (fun KQ hK => ?_) AllReadyH.nil)
    go_simp
    refine hK.out _ _ HD.out (fun hHeld => ?_)
    clear hK KQ
    try simp only [Act.put, List.setIfInBounds_toArray, List.set_cons_zero, List.set_cons_succ]
    refine wpAnyH_done (by kernel_rfl) ?_ _
    subst hg
    go_wp2_with fail
    go_ret
    exact ⟨rfl, HD.out.below⟩
  · rw [if_neg (by omega)]
    have e1' : (op == 17) = false := by simpa using e1
    have e2' : (op == 18) = false := by simpa using e2
    clear e1 e2
    go_enter Tryz.func55, Tryz.ntmps55
    go_upto_region 1 with fail
    generalize hX : (W.alloc _).alloc _ = X at *
    clear hX
    generalize W.heap.size + 1 = gi at *
    generalize hg : W.heap.size = gf at *
    obtain ⟨q0, q1, q2, q3, q4, q5⟩ := cel6 HX.out.ci
    simp only at q0 q1 q2 q3 q4 q5
    go_upto_region 5 with fail
    clear q0 q1 q2 q3 q4 q5
    have HD := hid (HX.out.on (Below.refl _ _).drew)
    refine wp_region_held_drew (S := fun x => FI W x gf gi f ⟨op, cond, a, b, c, imm⟩) (by kernel_rfl) HD.out (fun hHeld => ?_)
    refine wpAnyH_take (i := 0) (oi := { dst := some 21, op := Op.fieldAddr 78 (Operand.tmp 3) 3, type := 0, pos := "sum.go:60", after := #[], guard := none }) (v := .pointer (some ⟨gi, 3, none⟩)) rfl (by kernel_rfl) (by kernel_rfl) (by kernel_rfl) (fun _ _ _ h => h) (Or.inl ⟨by rfl, by intro w hSw; go_simp⟩) (by assumption) ?_
    simp only [Act.put, List.setIfInBounds_toArray, List.set_cons_zero, List.set_cons_succ]
    refine wpAnyH_take (i := 1) (oi := { dst := some 22, op := Op.load 3 (Operand.tmp 21), type := 3, pos := "sum.go:60", after := #[{ on := 0, ground := Ground.data }], guard := none }) (v := .int .i64 b) rfl (by kernel_rfl) (by kernel_rfl) (by kernel_rfl) (fun _ _ _ h => h) (Or.inl ⟨by rfl, by intro w hSw; have hq := cel6 hSw.ci; obtain ⟨q0, q1, q2, q3, q4, q5⟩ := hq; go_simp⟩) (by assumption) ?_
    simp only [Act.put, List.setIfInBounds_toArray, List.set_cons_zero, List.set_cons_succ]
    refine wpAnyH_take (i := 2) (oi := { dst := some 23, op := Op.fieldAddr 26 (Operand.tmp 2) 0, type := 0, pos := "sum.go:60", after := #[], guard := none }) (v := .pointer (some ⟨gf, 0, none⟩)) rfl (by kernel_rfl) (by kernel_rfl) (by kernel_rfl) (fun _ _ _ h => h) (Or.inl ⟨by rfl, by intro w hSw; go_simp⟩) (by assumption) ?_
    simp only [Act.put, List.setIfInBounds_toArray, List.set_cons_zero, List.set_cons_succ]
    refine wpAnyH_take (i := 3) (oi := { dst := some 24, op := Op.indexAddr 24 (Operand.tmp 23) (Operand.tmp 22), type := 0, pos := "sum.go:60", after := #[{ on := 2, ground := Ground.data }, { on := 1, ground := Ground.data }], guard := none }) (v := .pointer (some ⟨gf, b.toNat, none⟩)) rfl (by kernel_rfl) (by kernel_rfl) (by kernel_rfl) (fun _ _ _ h => h) (Or.inl ⟨by rfl, by intro w hSw; go_simp⟩) (by assumption) ?_
    simp only [Act.put, List.setIfInBounds_toArray, List.set_cons_zero, List.set_cons_succ]
    refine wpAnyH_take (i := 4) (oi := { dst := some 25, op := Op.load 23 (Operand.tmp 24), type := 23, pos := "sum.go:60", after := #[{ on := 3, ground := Ground.data }], guard := none }) (v := .int .u32 (rg f b)) rfl (by kernel_rfl) (by kernel_rfl) (by kernel_rfl) (fun _ _ _ h => h) (Or.inl ⟨by rfl, by intro w hSw; have hq := hSw.b b b0 b1; go_simp⟩) (by assumption) ?_
    simp only [Act.put, List.setIfInBounds_toArray, List.set_cons_zero, List.set_cons_succ]
    refine wpAnyH_take (i := 5) (oi := { dst := some 26, op := Op.load 78 (Operand.tmp 3), type := 78, pos := "sum.go:60", after := #[], guard := none }) (v := .agg #[.int .i64 op, .int .i64 cond, .int .i64 a, .int .i64 b, .int .i64 c, .int .i32 imm]) rfl (by kernel_rfl) (by kernel_rfl) (by kernel_rfl) (fun _ _ _ h => h) (Or.inl ⟨by rfl, by intro w hSw; have hq := cel6 hSw.ci; obtain ⟨q0, q1, q2, q3, q4, q5⟩ := hq; go_simp⟩) (by assumption) ?_
    simp only [Act.put, List.setIfInBounds_toArray, List.set_cons_zero, List.set_cons_succ]
    refine wpAnyH_ready (rs := [6]) (by kernel_rfl) (by simp) (AllReadyH.cons (o := { dst := some 27, op := Op.call { callee := Callee.value (Operand.func 54), args := #[Operand.tmp 26], argTypes := #[78] }, type := 23, pos := "sum.go:60", after := #[{ on := 5, ground := Ground.data }], guard := none }) rfl (fun KQ hK => ?_) AllReadyH.nil)
    go_simp
    refine (HI.out _).mono ?_
    rintro e w1 ⟨rfl, hb1⟩
    have HD1 := hid (HD.out.on hb1)
    clear hb1
    go_wp2_with fail
    refine hK.out _ _ HD1.out (fun hHeld => ?_)
    clear hK KQ
    try simp only [Act.put, List.setIfInBounds_toArray, List.set_cons_zero, List.set_cons_succ]
    refine wpAnyH_take (i := 7) (oi := { dst := some 28, op := Op.binOp BinOp.add 23 (Operand.tmp 25) (Operand.tmp 27) 23, type := 23, pos := "sum.go:60", after := #[{ on := 4, ground := Ground.data }, { on := 6, ground := Ground.data }], guard := none }) (v := .int .u32 ((rg f b + v) % 4294967296)) rfl (by kernel_rfl) (by kernel_rfl) (by kernel_rfl) (fun _ _ _ h => h) (Or.inl ⟨by rfl, by intro w hSw; go_simp; rfl⟩) (by assumption) ?_
    simp only [Act.put, List.setIfInBounds_toArray, List.set_cons_zero, List.set_cons_succ]
    refine wpAnyH_ready (rs := [8]) (by kernel_rfl) (by simp) (AllReadyH.cons (o := { dst := some 4, op := Op.assign (Operand.tmp 28), type := 23, pos := "sum.go:60", after := #[{ on := 7, ground := Ground.data }, { on := 6, ground := Ground.chain }, { on := 0, ground := Ground.phase }, { on := 1, ground := Ground.phase }, { on := 2, ground := Ground.phase }, { on := 3, ground := Ground.phase }, { on := 4, ground := Ground.phase }, { on := 5, ground := Ground.phase }, { on := 6, ground := Ground.phase }, { on := 7, ground := Ground.phase }], guard := none }) rfl (fun KQ hK => ?_) AllReadyH.nil)
    go_simp
    refine hK.out _ _ HD1.out (fun hHeld => ?_)
    clear hK KQ
    try simp only [Act.put, List.setIfInBounds_toArray, List.set_cons_zero, List.set_cons_succ]
    refine wpAnyH_done (by kernel_rfl) ?_ _
    subst hg
    go_wp2_with fail
    go_ret
    exact ⟨rfl, HD1.out.below⟩
/-- Where a jump leads. -/
def jm (g : F) (i : Ins) : F :=
  if i.op = 21 then (if hold i.cond g.z g.n g.l then { g with pc := (g.pc + 4 * im i) % 4294967296 } else g)
  else if i.op = 22 then { g.put 14 g.pc with pc := (g.pc + 4 * im i) % 4294967296 }
  else if i.op = 23 then { g with pc := rg g i.a } else g
/-- A file and an instruction in their boxes, and a file that is to be the answer. -/
structure FJ (W x : World) (gf gi gr : Nat) (f : F) (i : Ins) (r : F) : Prop where
  cf : Cel x gf 26 f.cs
  ci : Cel x gi 78 i.cs
  cr : Cel x gr 26 r.cs
  below : Below W.heap.size W x
  lf : W.heap.size ≤ gf
  lr : W.heap.size ≤ gr
  ne : gf ≠ gr
theorem FJ.on {W x x' : World} {gf gi gr : Nat} {f r : F} {i : Ins} (h : FJ W x gf gi gr f i r) (hb : Below x.heap.size x x') : FJ W x' gf gi gr f i r := ⟨h.cf.on hb, h.ci.on hb, h.cr.on hb, below_on h.below hb, h.lf, h.lr, h.ne⟩
theorem FJ.new (W : World) (f : F) (i : Ins) : FJ W (((W.alloc (.cells f.cs.toArray 26)).alloc (.cells i.cs.toArray 78)).alloc (.cells #[.int .u32 0, .int .u32 0, .int .u32 0, .int .u32 0, .int .u32 0, .int .u32 0, .int .u32 0, .int .u32 0, .int .u32 0, .int .u32 0, .int .u32 0, .int .u32 0, .int .u32 0, .int .u32 0, .int .u32 0, .int .u32 0, .bool false, .bool false, .bool false] 26)) W.heap.size (W.heap.size + 1) (W.heap.size + 1 + 1) f i F.zero := by
  rw [zc]
  have h := FI.new W f i
  have h2 := Cel.new ((W.alloc (.cells f.cs.toArray 26)).alloc (.cells i.cs.toArray 78)) 26 F.zero.cs
  rw [World.size_alloc, World.size_alloc] at h2
  have h3 := h.on (below_one _ (.cells F.zero.cs.toArray 26))
  exact ⟨h3.cf, h3.ci, h2, h3.below, Nat.le_refl _, by omega, by omega⟩
theorem FJ.set {W x : World} {gf gi gr : Nat} {f f' r : F} {i : Ins} (h : FJ W x gf gi gr f i r) (j : Nat) (u : Value) (hs : f.cs.set j u = f'.cs) : FJ W (x.setCell ⟨gf, j, none⟩ u) gf gi gr f' i r := by
  have hb := ButL.setCell (G := [gf]) x gf j u (by simp)
  have h1 : gi ≠ gf := fun e => by have := h.ci; rw [e] at this; exact absurd (this.ty h.cf) (by decide)
  exact ⟨by rw [← hs]; exact h.cf.setCell j u, h.ci.but hb (by simpa using h1), h.cr.but hb (by simpa using h.ne.symm), h.below.trans (hb.below (by simpa using h.lf) h.below.size), h.lf, h.lr, h.ne⟩
theorem FJ.ret {W x w' : World} {gf gi gr : Nat} {f r r' : F} {i : Ins} (h : FJ W x gf gi gr f i r) (hc : Cel w' gr 26 r'.cs) (hb : ButL [gr] x w') : Cel w' gr 26 r'.cs ∧ Below W.heap.size W w' :=
  ⟨hc, h.below.trans (hb.below (by simpa using h.lr) h.below.size)⟩
theorem FJ.b {W x : World} {gf gi gr : Nat} {f r : F} {i : Ins} (h : FJ W x gf gi gr f i r) (k : Int) (h0 : 0 ≤ k) (h1 : k < 15) : x.cell? ⟨gf, k.toNat, none⟩ = some (.int .u32 (rg f k)) := (h.cf.cell _).trans (f.at _ (by omega))
theorem jump_any (W : World) (f : F) (i : Ins) (h : IOk i) (h1 : 21 ≤ i.op) (h2 : i.op ≤ 23) : Calls Tryz.prog 53 #[f.v, i.v] W fun e W' => e = .returned (jm f i).v ∧ Below W.heap.size W W' := by
  have HX := hid (FJ.new W f i)
  have HI := hid (fun W => imm_any W i)
  have HH := hid (fun W => holds_any W f i.cond)
  obtain ⟨a0, a1, b0, b1, c0, c1⟩ := h
  unfold jm
  obtain ⟨op, cond, a, b, c, imm⟩ := i
  simp only [I.Ins.v] at *
  simp only [I.Ins.cs] at HX
  generalize im ⟨op, cond, a, b, c, imm⟩ = v at *
  unfold F.v at *
  have hop : op = 21 ∨ op = 22 ∨ op = 23 := by omega
  clear h1 h2 b0 b1 c0 c1
  rcases hop with rfl | rfl | rfl
  · rw [if_pos rfl]
    cases hh : hold cond f.z f.n f.l
    · rw [if_neg (by simp)]
      rw [hh] at HH
      clear hh HI a0 a1
      go_enter Tryz.func53, Tryz.ntmps53
      go_upto_region 1 with fail
      generalize hX : ((W.alloc _).alloc _).alloc _ = X at *
      clear hX
      generalize W.heap.size + 1 + 1 = gr at *
      generalize W.heap.size + 1 = gi at *
      generalize hg : W.heap.size = gf at *
      obtain ⟨q0, q1, q2, q3, q4, q5⟩ := cel6 HX.out.ci
      simp only at q0 q1 q2 q3 q4 q5
      have y15 := (HX.out.cf.cell 15).trans f.at15
      have f15 := HX.out.cf.free 15
      go_upto_region 11 with (first | (refine wpList_load_f rfl _ rfl gf f rfl HX.out.cf ?_) | (go_at_call 87; refine (HH.out _).mono ?_; rintro e w1 ⟨rfl, hb1⟩; have HX1 := hid (HX.out.on hb1); clear hb1 q0 q1 q2 q3 q4 q5 y15 f15))
      go_wp2_with (first | (refine wpList_load_f rfl _ rfl gf f rfl HX1.out.cf ?_) | (refine wpList_store_f rfl _ _ rfl gr F.zero f rfl rfl HX1.out.cr ?_; intro w9 hc9 hb9 hs9; have HRR := hid (HX1.out.ret hc9 hb9); clear hc9 hb9 hs9))
      refine ret_st rfl rfl gr _ rfl HRR.out.1 under27 rfl (by rw [size27]; simp [F.len]) ⟨by first | rfl | rw [← HF.out], by first | exact HRR.out.2 | (rw [← hg]; exact HRR.out.2)⟩
    · rw [if_pos rfl]
      rw [hh] at HH
      clear hh a0 a1
      go_enter Tryz.func53, Tryz.ntmps53
      go_upto_region 1 with fail
      generalize hX : ((W.alloc _).alloc _).alloc _ = X at *
      clear hX
      generalize W.heap.size + 1 + 1 = gr at *
      generalize W.heap.size + 1 = gi at *
      generalize hg : W.heap.size = gf at *
      obtain ⟨q0, q1, q2, q3, q4, q5⟩ := cel6 HX.out.ci
      simp only at q0 q1 q2 q3 q4 q5
      have y15 := (HX.out.cf.cell 15).trans f.at15
      have f15 := HX.out.cf.free 15
      go_upto_region 5 with (first | (refine wpList_load_f rfl _ rfl gf f rfl HX.out.cf ?_) | (go_at_call 87; refine (HH.out _).mono ?_; rintro e w1 ⟨rfl, hb1⟩; have HX1 := hid (HX.out.on hb1); clear hb1 q0 q1 q2 q3 q4 q5 y15 f15))
      obtain ⟨q0, q1, q2, q3, q4, q5⟩ := cel6 HX1.out.ci
      simp only at q0 q1 q2 q3 q4 q5
      have y15 := (HX1.out.cf.cell 15).trans f.at15
      have f15 := HX1.out.cf.free 15
      go_wp2_with fail
      refine (HI.out _).mono ?_
      rintro e wi ⟨rfl, hbi⟩
      have HX2 := hid (HX1.out.on hbi)
      clear hbi q0 q1 q2 q3 q4 q5 y15 f15
      have y15 := (HX2.out.cf.cell 15).trans f.at15
      have f15 := HX2.out.cf.free 15
      have HX3 := hid (HX2.out.set (f' := { f with pc := (f.pc + 4 * v) % 4294967296 }) 15 (.int .u32 ((f.pc + 4 * v) % 4294967296)) (f.set15 _))
      go_upto_region 11 with fail
      generalize hX9 : World.setCell _ _ _ = X9 at *
      clear hX9
      generalize hF : ({ f with pc := (f.pc + 4 * v) % 4294967296 } : F) = f' at HX3
      have HF := hid hF
      clear hF y15 f15
      go_wp2_with (first | (refine wpList_load_f rfl _ rfl gf f' rfl HX3.out.cf ?_) | (refine wpList_store_f rfl _ _ rfl gr F.zero f' rfl rfl HX3.out.cr ?_; intro w9 hc9 hb9 hs9; have HRR := hid (HX3.out.ret hc9 hb9); clear hc9 hb9 hs9))
      refine ret_st rfl rfl gr _ rfl HRR.out.1 under27 rfl (by rw [size27]; simp [F.len]) ⟨by first | rfl | rw [← HF.out], by first | exact HRR.out.2 | (rw [← hg]; exact HRR.out.2)⟩
  · rw [if_neg (by decide), if_pos rfl]
    clear HH a0 a1
    go_enter Tryz.func53, Tryz.ntmps53
    go_upto_region 1 with fail
    generalize hX : ((W.alloc _).alloc _).alloc _ = X at *
    clear hX
    generalize W.heap.size + 1 + 1 = gr at *
    generalize W.heap.size + 1 = gi at *
    generalize hg : W.heap.size = gf at *
    obtain ⟨q0, q1, q2, q3, q4, q5⟩ := cel6 HX.out.ci
    simp only at q0 q1 q2 q3 q4 q5
    have y15 := (HX.out.cf.cell 15).trans f.at15
    have f15 := HX.out.cf.free 15
    have y14 := (HX.out.cf.cell 14).trans (f.at 14 (by decide))
    have f14 := HX.out.cf.free 14
    go_upto_region 8 with fail
    have HX1 := hid (HX.out.set (f' := f.put 14 f.pc) 14 (.int .u32 f.pc) (f.set 14 (by decide) _))
    generalize hX : X.setCell _ _ = X1 at *
    clear hX q0 q1 q2 q3 q4 q5 y15 f15 y14 f14
    obtain ⟨q0, q1, q2, q3, q4, q5⟩ := cel6 HX1.out.ci
    simp only at q0 q1 q2 q3 q4 q5
    go_wp2_with fail
    refine (HI.out _).mono ?_
    rintro e wi ⟨rfl, hbi⟩
    have HX2 := hid (HX1.out.on hbi)
    clear hbi q0 q1 q2 q3 q4 q5
    have y15 := (HX2.out.cf.cell 15).trans (F.at15 _)
    have f15 := HX2.out.cf.free 15
    have HX3 := hid (HX2.out.set (f' := { f.put 14 f.pc with pc := (f.pc + 4 * v) % 4294967296 }) 15 (.int .u32 ((f.pc + 4 * v) % 4294967296)) (F.set15 _ _))
    go_upto_region 11 with fail
    generalize hX9 : World.setCell _ _ _ = X9 at *
    clear hX9
    generalize hF : ({ f.put 14 f.pc with pc := (f.pc + 4 * v) % 4294967296 } : F) = f' at HX3
    have HF := hid hF
    clear hF y15 f15
    go_wp2_with (first | (refine wpList_load_f rfl _ rfl gf f' rfl HX3.out.cf ?_) | (refine wpList_store_f rfl _ _ rfl gr F.zero f' rfl rfl HX3.out.cr ?_; intro w9 hc9 hb9 hs9; have HRR := hid (HX3.out.ret hc9 hb9); clear hc9 hb9 hs9))
    refine ret_st rfl rfl gr _ rfl HRR.out.1 under27 rfl (by rw [size27]; simp [F.len]) ⟨by first | rfl | rw [← HF.out], by first | exact HRR.out.2 | (rw [← hg]; exact HRR.out.2)⟩
  · rw [if_neg (by decide), if_neg (by decide), if_pos rfl]
    clear HH HI
    go_enter Tryz.func53, Tryz.ntmps53
    go_upto_region 1 with fail
    generalize hX : ((W.alloc _).alloc _).alloc _ = X at *
    clear hX
    generalize W.heap.size + 1 + 1 = gr at *
    generalize W.heap.size + 1 = gi at *
    generalize hg : W.heap.size = gf at *
    obtain ⟨q0, q1, q2, q3, q4, q5⟩ := cel6 HX.out.ci
    simp only at q0 q1 q2 q3 q4 q5
    have y15 := (HX.out.cf.cell 15).trans f.at15
    have f15 := HX.out.cf.free 15
    have ya := HX.out.b a a0 a1
    have HX3 := hid (HX.out.set (f' := { f with pc := rg f a }) 15 (.int .u32 (rg f a)) (F.set15 _ _))
    go_upto_region 11 with fail
    generalize hX9 : World.setCell _ _ _ = X9 at *
    clear hX9
    go_wp2_with (first | (refine wpList_load_f rfl _ rfl gf { f with pc := rg f a } rfl HX3.out.cf ?_) | (refine wpList_store_f rfl _ _ rfl gr F.zero { f with pc := rg f a } rfl rfl HX3.out.cr ?_; intro w9 hc9 hb9 hs9; have HRR := hid (HX3.out.ret hc9 hb9); clear hc9 hb9 hs9))
    refine ret_st rfl rfl gr _ rfl HRR.out.1 under27 rfl (by rw [size27]; simp [F.len]) ⟨by first | rfl | rw [← HF.out], by first | exact HRR.out.2 | (rw [← hg]; exact HRR.out.2)⟩
end Go.Proofs.YteldpapacdbbiaaGreatDoor
