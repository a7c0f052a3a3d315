/- RegsAll: one call (18). -/
import Derived.Test.YthpkodkilbcepaaA3
import Derived.Test.YthpkodkilbcepaaP5d
namespace Go.Proofs.Ythpkodkilbcepaa
open Go.RowKit
set_option maxHeartbeats 4000000
set_option maxRecDepth 100000
attribute [-simp] Try.isAgg27 Try.sizeOf27 Try.isAgg25 Try.isAgg23 Try.isAgg46 Try.sizeOf46
structure Oq where
  k : Int
  f : F
  r : Int
  a : Int
  b : Int
  c : Int
  d : Int
  ao : Option Addr
  n : Nat
  cp : Nat
def Oq.cs (q : Oq) : List Value := .int .i64 q.k :: (q.f.cs ++ [.int .i64 q.r, .int .u32 q.a, .int .u32 q.b, .int .u32 q.c, .int .u32 q.d, .slice q.ao q.n q.cp])
theorem Oq.len (q : Oq) : q.cs.length = 26 := by simp [Oq.cs, F.len]
theorem Oq.at (q : Oq) (j : Nat) : q.cs[20 + j]? = [Value.int .i64 q.r, .int .u32 q.a, .int .u32 q.b, .int .u32 q.c, .int .u32 q.d, .slice q.ao q.n q.cp][j]? := by
  rw [Oq.cs, show 20 + j = (19 + j) + 1 by omega, List.getElem?_cons_succ, List.getElem?_append_right (by rw [F.len]; omega), F.len, show 19 + j - 19 = j by omega]
structure OB (W wr : World) (q : Oq) : Prop where
  cel : Cel wr W.heap.size 55 q.cs
  below : Below W.heap.size W wr
theorem OB.on {W wr w' : World} {q : Oq} (h : OB W wr q) (hb : Below wr.heap.size wr w') : OB W w' q := ⟨h.cel.on hb, below_on h.below hb⟩
theorem OB.y0 {W wr : World} {q : Oq} (h : OB W wr q) : wr.cell? ⟨W.heap.size, 0, none⟩ = some (.int .i64 q.k) := h.cel.cell 0
theorem OB.yr {W wr : World} {q : Oq} (h : OB W wr q) : wr.cell? ⟨W.heap.size, 20, none⟩ = some (.int .i64 q.r) := (h.cel.cell 20).trans (q.at 0)
theorem OB.ya {W wr : World} {q : Oq} (h : OB W wr q) : wr.cell? ⟨W.heap.size, 21, none⟩ = some (.int .u32 q.a) := (h.cel.cell 21).trans (q.at 1)
theorem OB.yb {W wr : World} {q : Oq} (h : OB W wr q) : wr.cell? ⟨W.heap.size, 22, none⟩ = some (.int .u32 q.b) := (h.cel.cell 22).trans (q.at 2)
theorem OB.yc {W wr : World} {q : Oq} (h : OB W wr q) : wr.cell? ⟨W.heap.size, 23, none⟩ = some (.int .u32 q.c) := (h.cel.cell 23).trans (q.at 3)
theorem OB.yd {W wr : World} {q : Oq} (h : OB W wr q) : wr.cell? ⟨W.heap.size, 24, none⟩ = some (.int .u32 q.d) := (h.cel.cell 24).trans (q.at 4)
theorem OB.yw {W wr : World} {q : Oq} (h : OB W wr q) : wr.cell? ⟨W.heap.size, 25, none⟩ = some (.slice q.ao q.n q.cp) := (h.cel.cell 25).trans (q.at 5)
theorem OB.rng {W wr : World} {q : Oq} (h : OB W wr q) : wr.rangeAt W.heap.size 1 q.f.cs := fun j v hv => by
  rw [h.cel.cell, Nat.add_comm, Oq.cs, List.getElem?_cons_succ]
  have hj : j < 19 := by have := (List.getElem?_eq_some_iff.1 hv).1; rwa [F.len] at this
  rw [List.getElem?_append_left (by rw [F.len]; exact hj)]
  exact hv
theorem ob_new (W : World) (q : Oq) : OB W (W.alloc (.cells q.cs.toArray 55)) q := ⟨Cel.new W 55 q.cs, below_one _ _⟩
theorem exec_eql_pk {a : Act} {w : World} {o : Oper} (x y : Operand) (ho : o.op = .binOp .eql 46 x y 46) (r : Nat → Int) (p q : Int) (hx : a.eval x = .agg (pk r p q).toArray) (hy : a.eval y = .agg (pk r p q).toArray) :
    (execOp a.eval o).run Try.prog w = .ok (.value (.bool true)) w := by
  have hg : (eqGuard .eql 46 x y (.agg (pk r p q).toArray) (.agg (pk r p q).toArray)).run Try.prog w = .ok () w := run_eqGuard_agg w .eql 46 x y _ _ (by kernel_rfl)
  have hr : (binOp .eql 46 (.agg (pk r p q).toArray) (.agg (pk r p q).toArray)).run Try.prog w = .ok (.bool true) w := by
    have := run_equalIn_pk w 9998 ((List.range 15).map r ++ [p, q]) (by simp)
    rw [← pk_u32s] at this
    rw [run_eql_struct, this]; rfl
  unfold execOp
  simp only [ho, hx, hy, Sem.run_bind, Sem.run_pure, hg, hr, Result.andThen_ok]
theorem same_self_any (W : World) (f : F) : Calls Try.prog 27 #[f.v, f.v] W fun e W' => e = .returned (.bool true) ∧ Below W.heap.size W W' := by
  have := same_any W f f
  rwa [F.same_self] at this
theorem play_compare (W : World) (q : Oq) (hk : q.k = 2) (ha : 0 ≤ q.a ∧ q.a < 4294967296) (hb : 0 ≤ q.b ∧ q.b < 4294967296) : Calls Try.prog 18 #[.agg q.cs.toArray] W fun e W' => e = .returned (.bool true) ∧ Below W.heap.size W W' := by
  have HO := hid (ob_new W q)
  have y0 := HO.out.y0
  rw [hk] at y0
  have HRC := hid fun w => rcompare_any w q.f q.a q.b ha.1 ha.2 hb.1 hb.2
  clear ha hb
  generalize hc : q.cs.toArray = C at *
  clear hc hk
  go_enter Try.func18, Try.ntmps18
  go_upto_region 1 with fail
  generalize hX : W.alloc _ = X at *
  clear hX
  go_upto_region 9 with fail
  clear y0
  have HD := hid (HO.out.on (Below.refl _ _).drew)
  clear HO
  refine wp_region_held_drew (S := fun x => OB W x q) (by kernel_rfl) HD.out (fun hHeld => ?_)
  refine wpAnyH_take (i := 0) (oi := { dst := some 81, op := Op.fieldAddr 55 (Operand.tmp 1) 1, type := 0, pos := "law.go:58", after := #[], guard := none }) (v := .pointer (some ⟨W.heap.size, 1, none⟩)) rfl (by kernel_rfl) (by kernel_rfl) (by kernel_rfl) (fun _ _ _ h => h) (Or.inl ⟨by rfl, by intro w hSw; go_simp⟩) (by assumption) ?_
  simp only [Act.put, List.setIfInBounds_toArray, List.set_cons_zero, List.set_cons_succ]
  refine wpAnyH_take (i := 1) (oi := { dst := some 82, op := Op.load 25 (Operand.tmp 81), type := 25, pos := "law.go:58", after := #[{ on := 0, ground := Ground.data }], guard := none }) (v := q.f.v) rfl (by kernel_rfl) (by kernel_rfl) (by kernel_rfl) (fun _ _ _ h => h) (yieldsIf_load_mid (by rfl) 25 _ rfl W.heap.size 1 rfl q.f.cs _ (fun w hSw => hSw.rng) under25 rfl (by rw [size25, F.len])) (by assumption) ?_
  simp only [Act.put, List.setIfInBounds_toArray, List.set_cons_zero, List.set_cons_succ]
  refine wpAnyH_take (i := 3) (oi := { dst := some 84, op := Op.fieldAddr 55 (Operand.tmp 1) 3, type := 0, pos := "law.go:58", after := #[], guard := none }) (v := .pointer (some ⟨W.heap.size, 21, none⟩)) rfl (by kernel_rfl) (by kernel_rfl) (by kernel_rfl) (fun _ _ _ h => h) (Or.inl ⟨by rfl, by intro w hSw; go_simp⟩) (by assumption) ?_
  simp only [Act.put, List.setIfInBounds_toArray, List.set_cons_zero, List.set_cons_succ]
  refine wpAnyH_take (i := 4) (oi := { dst := some 85, op := Op.load 22 (Operand.tmp 84), type := 22, pos := "law.go:58", after := #[{ on := 3, ground := Ground.data }], guard := none }) (v := .int .u32 q.a) rfl (by kernel_rfl) (by kernel_rfl) (by kernel_rfl) (fun _ _ _ h => h) (Or.inl ⟨by rfl, by intro w hSw; have y := hSw.ya; go_simp⟩) (by assumption) ?_
  simp only [Act.put, List.setIfInBounds_toArray, List.set_cons_zero, List.set_cons_succ]
  refine wpAnyH_take (i := 5) (oi := { dst := some 86, op := Op.fieldAddr 55 (Operand.tmp 1) 4, type := 0, pos := "law.go:58", after := #[], guard := none }) (v := .pointer (some ⟨W.heap.size, 22, none⟩)) rfl (by kernel_rfl) (by kernel_rfl) (by kernel_rfl) (fun _ _ _ h => h) (Or.inl ⟨by rfl, by intro w hSw; go_simp⟩) (by assumption) ?_
  simp only [Act.put, List.setIfInBounds_toArray, List.set_cons_zero, List.set_cons_succ]
  refine wpAnyH_take (i := 6) (oi := { dst := some 87, op := Op.load 22 (Operand.tmp 86), type := 22, pos := "law.go:58", after := #[{ on := 5, ground := Ground.data }], guard := none }) (v := .int .u32 q.b) rfl (by kernel_rfl) (by kernel_rfl) (by kernel_rfl) (fun _ _ _ h => h) (Or.inl ⟨by rfl, by intro w hSw; have y := hSw.yb; go_simp⟩) (by assumption) ?_
  simp only [Act.put, List.setIfInBounds_toArray, List.set_cons_zero, List.set_cons_succ]
  refine wpAnyH_take (i := 8) (oi := { dst := some 89, op := Op.fieldAddr 55 (Operand.tmp 1) 1, type := 0, pos := "law.go:58", after := #[], guard := none }) (v := .pointer (some ⟨W.heap.size, 1, none⟩)) rfl (by kernel_rfl) (by kernel_rfl) (by kernel_rfl) (fun _ _ _ h => h) (Or.inl ⟨by rfl, by intro w hSw; go_simp⟩) (by assumption) ?_
  simp only [Act.put, List.setIfInBounds_toArray, List.set_cons_zero, List.set_cons_succ]
  refine wpAnyH_take (i := 9) (oi := { dst := some 90, op := Op.load 25 (Operand.tmp 89), type := 25, pos := "law.go:58", after := #[{ on := 8, ground := Ground.data }], guard := none }) (v := q.f.v) rfl (by kernel_rfl) (by kernel_rfl) (by kernel_rfl) (fun _ _ _ h => h) (yieldsIf_load_mid (by rfl) 25 _ rfl W.heap.size 1 rfl q.f.cs _ (fun w hSw => hSw.rng) under25 rfl (by rw [size25, F.len])) (by assumption) ?_
  simp only [Act.put, List.setIfInBounds_toArray, List.set_cons_zero, List.set_cons_succ]
  refine wpAnyH_take (i := 10) (oi := { dst := some 91, op := Op.fieldAddr 55 (Operand.tmp 1) 3, type := 0, pos := "law.go:58", after := #[], guard := none }) (v := .pointer (some ⟨W.heap.size, 21, none⟩)) rfl (by kernel_rfl) (by kernel_rfl) (by kernel_rfl) (fun _ _ _ h => h) (Or.inl ⟨by rfl, by intro w hSw; go_simp⟩) (by assumption) ?_
  simp only [Act.put, List.setIfInBounds_toArray, List.set_cons_zero, List.set_cons_succ]
  refine wpAnyH_take (i := 11) (oi := { dst := some 92, op := Op.load 22 (Operand.tmp 91), type := 22, pos := "law.go:58", after := #[{ on := 10, ground := Ground.data }], guard := none }) (v := .int .u32 q.a) rfl (by kernel_rfl) (by kernel_rfl) (by kernel_rfl) (fun _ _ _ h => h) (Or.inl ⟨by rfl, by intro w hSw; have y := hSw.ya; go_simp⟩) (by assumption) ?_
  simp only [Act.put, List.setIfInBounds_toArray, List.set_cons_zero, List.set_cons_succ]
  refine wpAnyH_take (i := 12) (oi := { dst := some 93, op := Op.fieldAddr 55 (Operand.tmp 1) 4, type := 0, pos := "law.go:58", after := #[], guard := none }) (v := .pointer (some ⟨W.heap.size, 22, none⟩)) rfl (by kernel_rfl) (by kernel_rfl) (by kernel_rfl) (fun _ _ _ h => h) (Or.inl ⟨by rfl, by intro w hSw; go_simp⟩) (by assumption) ?_
  simp only [Act.put, List.setIfInBounds_toArray, List.set_cons_zero, List.set_cons_succ]
  refine wpAnyH_take (i := 13) (oi := { dst := some 94, op := Op.load 22 (Operand.tmp 93), type := 22, pos := "law.go:58", after := #[{ on := 12, ground := Ground.data }], guard := none }) (v := .int .u32 q.b) rfl (by kernel_rfl) (by kernel_rfl) (by kernel_rfl) (fun _ _ _ h => h) (Or.inl ⟨by rfl, by intro w hSw; have y := hSw.yb; go_simp⟩) (by assumption) ?_
  simp only [Act.put, List.setIfInBounds_toArray, List.set_cons_zero, List.set_cons_succ]
  refine wpAnyH_ready (rs := [2]) (by kernel_rfl) (by simp) (AllReadyH.cons (o := { dst := some 83, op := Op.call { callee := Callee.value (Operand.func 9), args := #[Operand.tmp 82], argTypes := #[25] }, type := 27, pos := "law.go:58", after := #[{ on := 1, ground := Ground.data }], guard := none }) rfl (fun KQ hK => ?_) AllReadyH.nil)
  go_simp
  refine (file_any _ _).mono ?_
  rintro e wc1 ⟨rfl, hb1⟩
  have HD1 := hid (HD.out.on hb1)
  clear hb1 HD
  go_wp2_with fail
  refine hK.out _ _ HD1.out (fun hHeld => ?_)
  clear hK KQ
  try simp only [Act.put, List.setIfInBounds_toArray, List.set_cons_zero, List.set_cons_succ]
  refine wpAnyH_ready (rs := [7]) (by kernel_rfl) (by simp) (AllReadyH.cons (o := { dst := some 88, op := Op.call { callee := Callee.value (Operand.func 8), args := #[Operand.tmp 83, Operand.tmp 85, Operand.tmp 87], argTypes := #[27, 22, 22] }, type := 27, pos := "law.go:58", after := #[{ on := 2, ground := Ground.data }, { on := 4, ground := Ground.data }, { on := 6, ground := Ground.data }, { on := 2, ground := Ground.chain }], guard := none }) rfl (fun KQ hK => ?_) AllReadyH.nil)
  go_simp
  refine (compare_any _ _ _ _).mono ?_
  rintro e wc2 ⟨rfl, hb2⟩
  have HD2 := hid (HD1.out.on hb2)
  clear hb2 HD1
  go_wp2_with fail
  refine hK.out _ _ HD2.out (fun hHeld => ?_)
  clear hK KQ
  try simp only [Act.put, List.setIfInBounds_toArray, List.set_cons_zero, List.set_cons_succ]
  refine wpAnyH_ready (rs := [14]) (by kernel_rfl) (by simp) (AllReadyH.cons (o := { dst := some 95, op := Op.call { callee := Callee.value (Operand.func 28), args := #[Operand.tmp 90, Operand.tmp 92, Operand.tmp 94], argTypes := #[25, 22, 22] }, type := 25, pos := "law.go:58", after := #[{ on := 9, ground := Ground.data }, { on := 11, ground := Ground.data }, { on := 13, ground := Ground.data }, { on := 7, ground := Ground.chain }], guard := none }) rfl (fun KQ hK => ?_) AllReadyH.nil)
  go_simp
  refine (HRC.out _).mono ?_
  rintro e wc3 ⟨rfl, hb3⟩
  have HD3 := hid (HD2.out.on hb3)
  clear hb3 HD2
  go_wp2_with fail
  refine hK.out _ _ HD3.out (fun hHeld => ?_)
  clear hK KQ
  try simp only [Act.put, List.setIfInBounds_toArray, List.set_cons_zero, List.set_cons_succ]
  refine wpAnyH_ready (rs := [15]) (by kernel_rfl) (by simp) (AllReadyH.cons (o := { dst := some 96, op := Op.call { callee := Callee.value (Operand.func 27), args := #[Operand.tmp 88, Operand.tmp 95], argTypes := #[27, 25] }, type := 4, pos := "law.go:58", after := #[{ on := 7, ground := Ground.data }, { on := 14, ground := Ground.data }, { on := 14, ground := Ground.chain }], guard := none }) rfl (fun KQ hK => ?_) AllReadyH.nil)
  go_simp
  refine (same_self_any _ _).mono ?_
  rintro e wc4 ⟨rfl, hb4⟩
  have HD4 := hid (HD3.out.on hb4)
  clear hb4 HD3
  go_wp2_with fail
  refine hK.out _ _ HD4.out (fun hHeld => ?_)
  clear hK KQ
  try simp only [Act.put, List.setIfInBounds_toArray, List.set_cons_zero, List.set_cons_succ]
  refine wpAnyH_ready (rs := [16]) (by kernel_rfl) (by simp) (AllReadyH.cons (o := { dst := some 2, op := Op.assign (Operand.tmp 96), type := 4, pos := "law.go:58", after := #[{ on := 15, ground := Ground.data }, { on := 15, ground := Ground.chain }, { on := 0, ground := Ground.phase }, { on := 1, ground := Ground.phase }, { on := 2, ground := Ground.phase }, { on := 3, ground := Ground.phase }, { on := 4, ground := Ground.phase }, { on := 5, ground := Ground.phase }, { on := 6, ground := Ground.phase }, { on := 7, ground := Ground.phase }, { on := 8, ground := Ground.phase }, { on := 9, ground := Ground.phase }, { on := 10, ground := Ground.phase }, { on := 11, ground := Ground.phase }, { on := 12, ground := Ground.phase }, { on := 13, ground := Ground.phase }, { on := 14, ground := Ground.phase }, { on := 15, ground := Ground.phase }], guard := none }) rfl (fun KQ hK => ?_) AllReadyH.nil)
  go_simp
  refine hK.out _ _ HD4.out (fun hHeld => ?_)
  clear hK KQ
  try simp only [Act.put, List.setIfInBounds_toArray, List.set_cons_zero, List.set_cons_succ]
  refine wpAnyH_done (by kernel_rfl) ?_ _
  go_wp2_with fail
  go_ret
  exact ⟨rfl, HD4.out.below⟩
theorem play_holds (W : World) (q : Oq) (hk : q.k = 3) : Calls Try.prog 18 #[.agg q.cs.toArray] W fun e W' => e = .returned (.bool true) ∧ Below W.heap.size W W' := by
  have HO := hid (ob_new W q)
  have y0 := HO.out.y0
  rw [hk] at y0
  have HH := hid fun w => holds_any w q.f q.r
  have HR := hid fun w => rholds_any w q.f q.r
  generalize hold q.r q.f.z q.f.n q.f.l = hv at *
  generalize hc : q.cs.toArray = C at *
  clear hc hk
  go_enter Try.func18, Try.ntmps18
  go_upto_region 1 with fail
  generalize hX : W.alloc _ = X at *
  clear hX
  go_upto_region 11 with fail
  clear y0
  have HD := hid (HO.out.on (Below.refl _ _).drew)
  clear HO
  refine wp_region_held_drew (S := fun x => OB W x q) (by kernel_rfl) HD.out (fun hHeld => ?_)
  refine wpAnyH_take (i := 0) (oi := { dst := some 99, op := Op.fieldAddr 55 (Operand.tmp 1) 1, type := 0, pos := "law.go:60", after := #[], guard := none }) (v := .pointer (some ⟨W.heap.size, 1, none⟩)) rfl (by kernel_rfl) (by kernel_rfl) (by kernel_rfl) (fun _ _ _ h => h) (Or.inl ⟨by rfl, by intro w hSw; go_simp⟩) (by assumption) ?_
  simp only [Act.put, List.setIfInBounds_toArray, List.set_cons_zero, List.set_cons_succ]
  refine wpAnyH_take (i := 1) (oi := { dst := some 100, op := Op.load 25 (Operand.tmp 99), type := 25, pos := "law.go:60", after := #[{ on := 0, ground := Ground.data }], guard := none }) (v := q.f.v) rfl (by kernel_rfl) (by kernel_rfl) (by kernel_rfl) (fun _ _ _ h => h) (yieldsIf_load_mid (by rfl) 25 _ rfl W.heap.size 1 rfl q.f.cs _ (fun w hSw => hSw.rng) under25 rfl (by rw [size25, F.len])) (by assumption) ?_
  simp only [Act.put, List.setIfInBounds_toArray, List.set_cons_zero, List.set_cons_succ]
  refine wpAnyH_take (i := 3) (oi := { dst := some 102, op := Op.fieldAddr 55 (Operand.tmp 1) 2, type := 0, pos := "law.go:60", after := #[], guard := none }) (v := .pointer (some ⟨W.heap.size, 20, none⟩)) rfl (by kernel_rfl) (by kernel_rfl) (by kernel_rfl) (fun _ _ _ h => h) (Or.inl ⟨by rfl, by intro w hSw; go_simp⟩) (by assumption) ?_
  simp only [Act.put, List.setIfInBounds_toArray, List.set_cons_zero, List.set_cons_succ]
  refine wpAnyH_take (i := 4) (oi := { dst := some 103, op := Op.load 3 (Operand.tmp 102), type := 3, pos := "law.go:60", after := #[{ on := 3, ground := Ground.data }], guard := none }) (v := .int .i64 q.r) rfl (by kernel_rfl) (by kernel_rfl) (by kernel_rfl) (fun _ _ _ h => h) (Or.inl ⟨by rfl, by intro w hSw; have y := hSw.yr; go_simp⟩) (by assumption) ?_
  simp only [Act.put, List.setIfInBounds_toArray, List.set_cons_zero, List.set_cons_succ]
  refine wpAnyH_take (i := 6) (oi := { dst := some 105, op := Op.fieldAddr 55 (Operand.tmp 1) 1, type := 0, pos := "law.go:60", after := #[], guard := none }) (v := .pointer (some ⟨W.heap.size, 1, none⟩)) rfl (by kernel_rfl) (by kernel_rfl) (by kernel_rfl) (fun _ _ _ h => h) (Or.inl ⟨by rfl, by intro w hSw; go_simp⟩) (by assumption) ?_
  simp only [Act.put, List.setIfInBounds_toArray, List.set_cons_zero, List.set_cons_succ]
  refine wpAnyH_take (i := 7) (oi := { dst := some 106, op := Op.load 25 (Operand.tmp 105), type := 25, pos := "law.go:60", after := #[{ on := 6, ground := Ground.data }], guard := none }) (v := q.f.v) rfl (by kernel_rfl) (by kernel_rfl) (by kernel_rfl) (fun _ _ _ h => h) (yieldsIf_load_mid (by rfl) 25 _ rfl W.heap.size 1 rfl q.f.cs _ (fun w hSw => hSw.rng) under25 rfl (by rw [size25, F.len])) (by assumption) ?_
  simp only [Act.put, List.setIfInBounds_toArray, List.set_cons_zero, List.set_cons_succ]
  refine wpAnyH_take (i := 8) (oi := { dst := some 107, op := Op.fieldAddr 55 (Operand.tmp 1) 2, type := 0, pos := "law.go:60", after := #[], guard := none }) (v := .pointer (some ⟨W.heap.size, 20, none⟩)) rfl (by kernel_rfl) (by kernel_rfl) (by kernel_rfl) (fun _ _ _ h => h) (Or.inl ⟨by rfl, by intro w hSw; go_simp⟩) (by assumption) ?_
  simp only [Act.put, List.setIfInBounds_toArray, List.set_cons_zero, List.set_cons_succ]
  refine wpAnyH_take (i := 9) (oi := { dst := some 108, op := Op.load 3 (Operand.tmp 107), type := 3, pos := "law.go:60", after := #[{ on := 8, ground := Ground.data }], guard := none }) (v := .int .i64 q.r) rfl (by kernel_rfl) (by kernel_rfl) (by kernel_rfl) (fun _ _ _ h => h) (Or.inl ⟨by rfl, by intro w hSw; have y := hSw.yr; go_simp⟩) (by assumption) ?_
  simp only [Act.put, List.setIfInBounds_toArray, List.set_cons_zero, List.set_cons_succ]
  refine wpAnyH_ready (rs := [2]) (by kernel_rfl) (by simp) (AllReadyH.cons (o := { dst := some 101, op := Op.call { callee := Callee.value (Operand.func 9), args := #[Operand.tmp 100], argTypes := #[25] }, type := 27, pos := "law.go:60", after := #[{ on := 1, ground := Ground.data }], guard := none }) rfl (fun KQ hK => ?_) AllReadyH.nil)
  go_simp
  refine (file_any _ _).mono ?_
  rintro e wc5 ⟨rfl, hb5⟩
  have HD5 := hid (HD.out.on hb5)
  clear hb5 HD
  go_wp2_with fail
  refine hK.out _ _ HD5.out (fun hHeld => ?_)
  clear hK KQ
  try simp only [Act.put, List.setIfInBounds_toArray, List.set_cons_zero, List.set_cons_succ]
  refine wpAnyH_ready (rs := [5]) (by kernel_rfl) (by simp) (AllReadyH.cons (o := { dst := some 104, op := Op.call { callee := Callee.value (Operand.func 10), args := #[Operand.tmp 101, Operand.tmp 103], argTypes := #[27, 32] }, type := 4, pos := "law.go:60", after := #[{ on := 2, ground := Ground.data }, { on := 4, ground := Ground.data }, { on := 2, ground := Ground.chain }], guard := none }) rfl (fun KQ hK => ?_) AllReadyH.nil)
  go_simp
  refine (HH.out _).mono ?_
  rintro e wc6 ⟨rfl, hb6⟩
  have HD6 := hid (HD5.out.on hb6)
  clear hb6 HD5
  go_wp2_with fail
  refine hK.out _ _ HD6.out (fun hHeld => ?_)
  clear hK KQ
  try simp only [Act.put, List.setIfInBounds_toArray, List.set_cons_zero, List.set_cons_succ]
  refine wpAnyH_ready (rs := [10]) (by kernel_rfl) (by simp) (AllReadyH.cons (o := { dst := some 109, op := Op.call { callee := Callee.value (Operand.func 29), args := #[Operand.tmp 106, Operand.tmp 108], argTypes := #[25, 3] }, type := 4, pos := "law.go:60", after := #[{ on := 7, ground := Ground.data }, { on := 9, ground := Ground.data }, { on := 5, ground := Ground.chain }], guard := none }) rfl (fun KQ hK => ?_) AllReadyH.nil)
  go_simp
  refine (HR.out _).mono ?_
  rintro e wc7 ⟨rfl, hb7⟩
  have HD7 := hid (HD6.out.on hb7)
  clear hb7 HD6
  go_wp2_with fail
  refine hK.out _ _ HD7.out (fun hHeld => ?_)
  clear hK KQ
  try simp only [Act.put, List.setIfInBounds_toArray, List.set_cons_zero, List.set_cons_succ]
  refine wpAnyH_take (i := 11) (oi := { dst := some 110, op := Op.binOp BinOp.eql 4 (Operand.tmp 104) (Operand.tmp 109) 4, type := 4, pos := "law.go:60", after := #[{ on := 5, ground := Ground.data }, { on := 10, ground := Ground.data }], guard := none }) (v := .bool true) rfl (by kernel_rfl) (by kernel_rfl) (by kernel_rfl) (fun _ _ _ h => h) (Or.inl ⟨by rfl, by intro w hSw; go_simp⟩) (by assumption) ?_
  simp only [Act.put, List.setIfInBounds_toArray, List.set_cons_zero, List.set_cons_succ]
  refine wpAnyH_ready (rs := [12]) (by kernel_rfl) (by simp) (AllReadyH.cons (o := { dst := some 2, op := Op.assign (Operand.tmp 110), type := 4, pos := "law.go:60", after := #[{ on := 11, ground := Ground.data }, { on := 10, ground := Ground.chain }, { on := 0, ground := Ground.phase }, { on := 1, ground := Ground.phase }, { on := 2, ground := Ground.phase }, { on := 3, ground := Ground.phase }, { on := 4, ground := Ground.phase }, { on := 5, ground := Ground.phase }, { on := 6, ground := Ground.phase }, { on := 7, ground := Ground.phase }, { on := 8, ground := Ground.phase }, { on := 9, ground := Ground.phase }, { on := 10, ground := Ground.phase }, { on := 11, ground := Ground.phase }], guard := none }) rfl (fun KQ hK => ?_) AllReadyH.nil)
  go_simp
  refine hK.out _ _ HD7.out (fun hHeld => ?_)
  clear hK KQ
  try simp only [Act.put, List.setIfInBounds_toArray, List.set_cons_zero, List.set_cons_succ]
  refine wpAnyH_done (by kernel_rfl) ?_ _
  go_wp2_with fail
  go_ret
  exact ⟨rfl, HD7.out.below⟩
theorem play_pack (W : World) (q : Oq) (hk : q.k = 5) : Calls Try.prog 18 #[.agg q.cs.toArray] W fun e W' => e = .returned (.bool true) ∧ Below W.heap.size W W' := by
  have HO := hid (ob_new W q)
  have y0 := HO.out.y0
  rw [hk] at y0
  generalize hc : q.cs.toArray = C at *
  clear hc hk
  go_enter Try.func18, Try.ntmps18
  go_upto_region 1 with fail
  generalize hX : W.alloc _ = X at *
  clear hX
  go_upto_region 17 with fail
  clear y0
  have HD := hid (HO.out.on (Below.refl _ _).drew)
  clear HO
  refine wp_region_held_drew (S := fun x => OB W x q) (by kernel_rfl) HD.out (fun hHeld => ?_)
  refine wpAnyH_take (i := 0) (oi := { dst := some 150, op := Op.fieldAddr 55 (Operand.tmp 1) 1, type := 0, pos := "law.go:66", after := #[], guard := none }) (v := .pointer (some ⟨W.heap.size, 1, none⟩)) rfl (by kernel_rfl) (by kernel_rfl) (by kernel_rfl) (fun _ _ _ h => h) (Or.inl ⟨by rfl, by intro w hSw; go_simp⟩) (by assumption) ?_
  simp only [Act.put, List.setIfInBounds_toArray, List.set_cons_zero, List.set_cons_succ]
  refine wpAnyH_take (i := 1) (oi := { dst := some 151, op := Op.load 25 (Operand.tmp 150), type := 25, pos := "law.go:66", after := #[{ on := 0, ground := Ground.data }], guard := none }) (v := q.f.v) rfl (by kernel_rfl) (by kernel_rfl) (by kernel_rfl) (fun _ _ _ h => h) (yieldsIf_load_mid (by rfl) 25 _ rfl W.heap.size 1 rfl q.f.cs _ (fun w hSw => hSw.rng) under25 rfl (by rw [size25, F.len])) (by assumption) ?_
  simp only [Act.put, List.setIfInBounds_toArray, List.set_cons_zero, List.set_cons_succ]
  refine wpAnyH_take (i := 4) (oi := { dst := some 154, op := Op.fieldAddr 55 (Operand.tmp 1) 1, type := 0, pos := "law.go:66", after := #[], guard := none }) (v := .pointer (some ⟨W.heap.size, 1, none⟩)) rfl (by kernel_rfl) (by kernel_rfl) (by kernel_rfl) (fun _ _ _ h => h) (Or.inl ⟨by rfl, by intro w hSw; go_simp⟩) (by assumption) ?_
  simp only [Act.put, List.setIfInBounds_toArray, List.set_cons_zero, List.set_cons_succ]
  refine wpAnyH_take (i := 5) (oi := { dst := some 155, op := Op.load 25 (Operand.tmp 154), type := 25, pos := "law.go:66", after := #[{ on := 4, ground := Ground.data }], guard := none }) (v := q.f.v) rfl (by kernel_rfl) (by kernel_rfl) (by kernel_rfl) (fun _ _ _ h => h) (yieldsIf_load_mid (by rfl) 25 _ rfl W.heap.size 1 rfl q.f.cs _ (fun w hSw => hSw.rng) under25 rfl (by rw [size25, F.len])) (by assumption) ?_
  simp only [Act.put, List.setIfInBounds_toArray, List.set_cons_zero, List.set_cons_succ]
  refine wpAnyH_ready (rs := [2]) (by kernel_rfl) (by simp) (AllReadyH.cons (o := { dst := some 152, op := Op.call { callee := Callee.value (Operand.func 9), args := #[Operand.tmp 151], argTypes := #[25] }, type := 27, pos := "law.go:66", after := #[{ on := 1, ground := Ground.data }], guard := none }) rfl (fun KQ hK => ?_) AllReadyH.nil)
  go_simp
  refine (file_any _ _).mono ?_
  rintro e wc8 ⟨rfl, hb8⟩
  have HD8 := hid (HD.out.on hb8)
  clear hb8 HD
  go_wp2_with fail
  refine hK.out _ _ HD8.out (fun hHeld => ?_)
  clear hK KQ
  try simp only [Act.put, List.setIfInBounds_toArray, List.set_cons_zero, List.set_cons_succ]
  refine wpAnyH_ready (rs := [3]) (by kernel_rfl) (by simp) (AllReadyH.cons (o := { dst := some 153, op := Op.call { callee := Callee.value (Operand.func 14), args := #[Operand.tmp 152], argTypes := #[27] }, type := 46, pos := "law.go:66", after := #[{ on := 2, ground := Ground.data }, { on := 2, ground := Ground.chain }], guard := none }) rfl (fun KQ hK => ?_) AllReadyH.nil)
  go_simp
  refine (pack_any _ _).mono ?_
  rintro e wc9 ⟨rfl, hb9⟩
  have HD9 := hid (HD8.out.on hb9)
  clear hb9 HD8
  go_wp2_with fail
  refine hK.out _ _ HD9.out (fun hHeld => ?_)
  clear hK KQ
  try simp only [Act.put, List.setIfInBounds_toArray, List.set_cons_zero, List.set_cons_succ]
  refine wpAnyH_ready (rs := [6]) (by kernel_rfl) (by simp) (AllReadyH.cons (o := { dst := some 156, op := Op.call { callee := Callee.value (Operand.func 32), args := #[Operand.tmp 155], argTypes := #[25] }, type := 46, pos := "law.go:66", after := #[{ on := 5, ground := Ground.data }, { on := 3, ground := Ground.chain }], guard := none }) rfl (fun KQ hK => ?_) AllReadyH.nil)
  go_simp
  refine (rpack_any _ _).mono ?_
  rintro e wc10 ⟨rfl, hb10⟩
  have HD10 := hid (HD9.out.on hb10)
  clear hb10 HD9
  go_wp2_with fail
  refine hK.out _ _ HD10.out (fun hHeld => ?_)
  clear hK KQ
  try simp only [Act.put, List.setIfInBounds_toArray, List.set_cons_zero, List.set_cons_succ]
  refine wpAnyH_take (i := 7) (oi := { dst := some 157, op := Op.binOp BinOp.eql 46 (Operand.tmp 153) (Operand.tmp 156) 46, type := 4, pos := "law.go:66", after := #[{ on := 3, ground := Ground.data }, { on := 6, ground := Ground.data }], guard := none }) (v := .bool true) rfl (by kernel_rfl) (by kernel_rfl) (by kernel_rfl) (fun _ _ _ h => h) (Or.inl ⟨by rfl, fun w hSw => exec_eql_pk _ _ rfl q.f.r q.f.pc q.f.flags rfl rfl⟩) (by assumption) ?_
  simp only [Act.put, List.setIfInBounds_toArray, List.set_cons_zero, List.set_cons_succ]
  refine wpAnyH_ready (rs := [8]) (by kernel_rfl) (by simp) (AllReadyH.cons (o := { dst := some 2, op := Op.assign (Operand.tmp 157), type := 4, pos := "law.go:66", after := #[{ on := 7, ground := Ground.data }, { on := 6, ground := Ground.chain }, { on := 0, ground := Ground.phase }, { on := 1, ground := Ground.phase }, { on := 2, ground := Ground.phase }, { on := 3, ground := Ground.phase }, { on := 4, ground := Ground.phase }, { on := 5, ground := Ground.phase }, { on := 6, ground := Ground.phase }, { on := 7, ground := Ground.phase }], guard := none }) rfl (fun KQ hK => ?_) AllReadyH.nil)
  go_simp
  refine hK.out _ _ HD10.out (fun hHeld => ?_)
  clear hK KQ
  try simp only [Act.put, List.setIfInBounds_toArray, List.set_cons_zero, List.set_cons_succ]
  refine wpAnyH_done (by kernel_rfl) ?_ _
  go_wp2_with fail
  go_ret
  exact ⟨rfl, HD10.out.below⟩
theorem play_start (W : World) (q : Oq) (hk : q.k = 7) : Calls Try.prog 18 #[.agg q.cs.toArray] W fun e W' => e = .returned (.bool true) ∧ Below W.heap.size W W' := by
  have HO := hid (ob_new W q)
  have y0 := HO.out.y0
  rw [hk] at y0
  generalize hc : q.cs.toArray = C at *
  clear hc hk
  go_enter Try.func18, Try.ntmps18
  go_upto_region 1 with fail
  generalize hX : W.alloc _ = X at *
  clear hX
  go_upto_region 23 with fail
  clear y0
  have HD := hid (HO.out.on (Below.refl _ _).drew)
  clear HO
  refine wp_region_held_drew (S := fun x => OB W x q) (by kernel_rfl) HD.out (fun hHeld => ?_)
  refine wpAnyH_take (i := 0) (oi := { dst := some 182, op := Op.fieldAddr 55 (Operand.tmp 1) 3, type := 0, pos := "law.go:72", after := #[], guard := none }) (v := .pointer (some ⟨W.heap.size, 21, none⟩)) rfl (by kernel_rfl) (by kernel_rfl) (by kernel_rfl) (fun _ _ _ h => h) (Or.inl ⟨by rfl, by intro w hSw; go_simp⟩) (by assumption) ?_
  simp only [Act.put, List.setIfInBounds_toArray, List.set_cons_zero, List.set_cons_succ]
  refine wpAnyH_take (i := 1) (oi := { dst := some 183, op := Op.load 22 (Operand.tmp 182), type := 22, pos := "law.go:72", after := #[{ on := 0, ground := Ground.data }], guard := none }) (v := .int .u32 q.a) rfl (by kernel_rfl) (by kernel_rfl) (by kernel_rfl) (fun _ _ _ h => h) (Or.inl ⟨by rfl, by intro w hSw; have y := hSw.ya; go_simp⟩) (by assumption) ?_
  simp only [Act.put, List.setIfInBounds_toArray, List.set_cons_zero, List.set_cons_succ]
  refine wpAnyH_take (i := 2) (oi := { dst := some 184, op := Op.fieldAddr 55 (Operand.tmp 1) 4, type := 0, pos := "law.go:72", after := #[], guard := none }) (v := .pointer (some ⟨W.heap.size, 22, none⟩)) rfl (by kernel_rfl) (by kernel_rfl) (by kernel_rfl) (fun _ _ _ h => h) (Or.inl ⟨by rfl, by intro w hSw; go_simp⟩) (by assumption) ?_
  simp only [Act.put, List.setIfInBounds_toArray, List.set_cons_zero, List.set_cons_succ]
  refine wpAnyH_take (i := 3) (oi := { dst := some 185, op := Op.load 22 (Operand.tmp 184), type := 22, pos := "law.go:72", after := #[{ on := 2, ground := Ground.data }], guard := none }) (v := .int .u32 q.b) rfl (by kernel_rfl) (by kernel_rfl) (by kernel_rfl) (fun _ _ _ h => h) (Or.inl ⟨by rfl, by intro w hSw; have y := hSw.yb; go_simp⟩) (by assumption) ?_
  simp only [Act.put, List.setIfInBounds_toArray, List.set_cons_zero, List.set_cons_succ]
  refine wpAnyH_take (i := 4) (oi := { dst := some 186, op := Op.fieldAddr 55 (Operand.tmp 1) 5, type := 0, pos := "law.go:72", after := #[], guard := none }) (v := .pointer (some ⟨W.heap.size, 23, none⟩)) rfl (by kernel_rfl) (by kernel_rfl) (by kernel_rfl) (fun _ _ _ h => h) (Or.inl ⟨by rfl, by intro w hSw; go_simp⟩) (by assumption) ?_
  simp only [Act.put, List.setIfInBounds_toArray, List.set_cons_zero, List.set_cons_succ]
  refine wpAnyH_take (i := 5) (oi := { dst := some 187, op := Op.load 22 (Operand.tmp 186), type := 22, pos := "law.go:72", after := #[{ on := 4, ground := Ground.data }], guard := none }) (v := .int .u32 q.c) rfl (by kernel_rfl) (by kernel_rfl) (by kernel_rfl) (fun _ _ _ h => h) (Or.inl ⟨by rfl, by intro w hSw; have y := hSw.yc; go_simp⟩) (by assumption) ?_
  simp only [Act.put, List.setIfInBounds_toArray, List.set_cons_zero, List.set_cons_succ]
  refine wpAnyH_take (i := 6) (oi := { dst := some 188, op := Op.fieldAddr 55 (Operand.tmp 1) 6, type := 0, pos := "law.go:72", after := #[], guard := none }) (v := .pointer (some ⟨W.heap.size, 24, none⟩)) rfl (by kernel_rfl) (by kernel_rfl) (by kernel_rfl) (fun _ _ _ h => h) (Or.inl ⟨by rfl, by intro w hSw; go_simp⟩) (by assumption) ?_
  simp only [Act.put, List.setIfInBounds_toArray, List.set_cons_zero, List.set_cons_succ]
  refine wpAnyH_take (i := 7) (oi := { dst := some 189, op := Op.load 22 (Operand.tmp 188), type := 22, pos := "law.go:72", after := #[{ on := 6, ground := Ground.data }], guard := none }) (v := .int .u32 q.d) rfl (by kernel_rfl) (by kernel_rfl) (by kernel_rfl) (fun _ _ _ h => h) (Or.inl ⟨by rfl, by intro w hSw; have y := hSw.yd; go_simp⟩) (by assumption) ?_
  simp only [Act.put, List.setIfInBounds_toArray, List.set_cons_zero, List.set_cons_succ]
  refine wpAnyH_take (i := 9) (oi := { dst := some 191, op := Op.fieldAddr 55 (Operand.tmp 1) 3, type := 0, pos := "law.go:72", after := #[], guard := none }) (v := .pointer (some ⟨W.heap.size, 21, none⟩)) rfl (by kernel_rfl) (by kernel_rfl) (by kernel_rfl) (fun _ _ _ h => h) (Or.inl ⟨by rfl, by intro w hSw; go_simp⟩) (by assumption) ?_
  simp only [Act.put, List.setIfInBounds_toArray, List.set_cons_zero, List.set_cons_succ]
  refine wpAnyH_take (i := 10) (oi := { dst := some 192, op := Op.load 22 (Operand.tmp 191), type := 22, pos := "law.go:72", after := #[{ on := 9, ground := Ground.data }], guard := none }) (v := .int .u32 q.a) rfl (by kernel_rfl) (by kernel_rfl) (by kernel_rfl) (fun _ _ _ h => h) (Or.inl ⟨by rfl, by intro w hSw; have y := hSw.ya; go_simp⟩) (by assumption) ?_
  simp only [Act.put, List.setIfInBounds_toArray, List.set_cons_zero, List.set_cons_succ]
  refine wpAnyH_take (i := 11) (oi := { dst := some 193, op := Op.fieldAddr 55 (Operand.tmp 1) 4, type := 0, pos := "law.go:72", after := #[], guard := none }) (v := .pointer (some ⟨W.heap.size, 22, none⟩)) rfl (by kernel_rfl) (by kernel_rfl) (by kernel_rfl) (fun _ _ _ h => h) (Or.inl ⟨by rfl, by intro w hSw; go_simp⟩) (by assumption) ?_
  simp only [Act.put, List.setIfInBounds_toArray, List.set_cons_zero, List.set_cons_succ]
  refine wpAnyH_take (i := 12) (oi := { dst := some 194, op := Op.load 22 (Operand.tmp 193), type := 22, pos := "law.go:72", after := #[{ on := 11, ground := Ground.data }], guard := none }) (v := .int .u32 q.b) rfl (by kernel_rfl) (by kernel_rfl) (by kernel_rfl) (fun _ _ _ h => h) (Or.inl ⟨by rfl, by intro w hSw; have y := hSw.yb; go_simp⟩) (by assumption) ?_
  simp only [Act.put, List.setIfInBounds_toArray, List.set_cons_zero, List.set_cons_succ]
  refine wpAnyH_take (i := 13) (oi := { dst := some 195, op := Op.fieldAddr 55 (Operand.tmp 1) 5, type := 0, pos := "law.go:72", after := #[], guard := none }) (v := .pointer (some ⟨W.heap.size, 23, none⟩)) rfl (by kernel_rfl) (by kernel_rfl) (by kernel_rfl) (fun _ _ _ h => h) (Or.inl ⟨by rfl, by intro w hSw; go_simp⟩) (by assumption) ?_
  simp only [Act.put, List.setIfInBounds_toArray, List.set_cons_zero, List.set_cons_succ]
  refine wpAnyH_take (i := 14) (oi := { dst := some 196, op := Op.load 22 (Operand.tmp 195), type := 22, pos := "law.go:72", after := #[{ on := 13, ground := Ground.data }], guard := none }) (v := .int .u32 q.c) rfl (by kernel_rfl) (by kernel_rfl) (by kernel_rfl) (fun _ _ _ h => h) (Or.inl ⟨by rfl, by intro w hSw; have y := hSw.yc; go_simp⟩) (by assumption) ?_
  simp only [Act.put, List.setIfInBounds_toArray, List.set_cons_zero, List.set_cons_succ]
  refine wpAnyH_take (i := 15) (oi := { dst := some 197, op := Op.fieldAddr 55 (Operand.tmp 1) 6, type := 0, pos := "law.go:72", after := #[], guard := none }) (v := .pointer (some ⟨W.heap.size, 24, none⟩)) rfl (by kernel_rfl) (by kernel_rfl) (by kernel_rfl) (fun _ _ _ h => h) (Or.inl ⟨by rfl, by intro w hSw; go_simp⟩) (by assumption) ?_
  simp only [Act.put, List.setIfInBounds_toArray, List.set_cons_zero, List.set_cons_succ]
  refine wpAnyH_take (i := 16) (oi := { dst := some 198, op := Op.load 22 (Operand.tmp 197), type := 22, pos := "law.go:72", after := #[{ on := 15, ground := Ground.data }], guard := none }) (v := .int .u32 q.d) rfl (by kernel_rfl) (by kernel_rfl) (by kernel_rfl) (fun _ _ _ h => h) (Or.inl ⟨by rfl, by intro w hSw; have y := hSw.yd; go_simp⟩) (by assumption) ?_
  simp only [Act.put, List.setIfInBounds_toArray, List.set_cons_zero, List.set_cons_succ]
  refine wpAnyH_ready (rs := [8]) (by kernel_rfl) (by simp) (AllReadyH.cons (o := { dst := some 190, op := Op.call { callee := Callee.value (Operand.func 11), args := #[Operand.tmp 183, Operand.tmp 185, Operand.tmp 187, Operand.tmp 189], argTypes := #[22, 22, 22, 22] }, type := 27, pos := "law.go:72", after := #[{ on := 1, ground := Ground.data }, { on := 3, ground := Ground.data }, { on := 5, ground := Ground.data }, { on := 7, ground := Ground.data }], guard := none }) rfl (fun KQ hK => ?_) AllReadyH.nil)
  go_simp
  refine (start_any _ _ _ _ _).mono ?_
  rintro e wc11 ⟨rfl, hb11⟩
  have HD11 := hid (HD.out.on hb11)
  clear hb11 HD
  go_wp2_with fail
  refine hK.out _ _ HD11.out (fun hHeld => ?_)
  clear hK KQ
  try simp only [Act.put, List.setIfInBounds_toArray, List.set_cons_zero, List.set_cons_succ]
  refine wpAnyH_ready (rs := [17]) (by kernel_rfl) (by simp) (AllReadyH.cons (o := { dst := some 199, op := Op.call { callee := Callee.value (Operand.func 34), args := #[Operand.tmp 192, Operand.tmp 194, Operand.tmp 196, Operand.tmp 198], argTypes := #[22, 22, 22, 22] }, type := 25, pos := "law.go:72", after := #[{ on := 10, ground := Ground.data }, { on := 12, ground := Ground.data }, { on := 14, ground := Ground.data }, { on := 16, ground := Ground.data }, { on := 8, ground := Ground.chain }], guard := none }) rfl (fun KQ hK => ?_) AllReadyH.nil)
  go_simp
  refine (rstart_any _ _ _ _ _).mono ?_
  rintro e wc12 ⟨rfl, hb12⟩
  have HD12 := hid (HD11.out.on hb12)
  clear hb12 HD11
  go_wp2_with fail
  refine hK.out _ _ HD12.out (fun hHeld => ?_)
  clear hK KQ
  try simp only [Act.put, List.setIfInBounds_toArray, List.set_cons_zero, List.set_cons_succ]
  refine wpAnyH_ready (rs := [18]) (by kernel_rfl) (by simp) (AllReadyH.cons (o := { dst := some 200, op := Op.call { callee := Callee.value (Operand.func 27), args := #[Operand.tmp 190, Operand.tmp 199], argTypes := #[27, 25] }, type := 4, pos := "law.go:72", after := #[{ on := 8, ground := Ground.data }, { on := 17, ground := Ground.data }, { on := 17, ground := Ground.chain }], guard := none }) rfl (fun KQ hK => ?_) AllReadyH.nil)
  go_simp
  refine (same_self_any _ _).mono ?_
  rintro e wc13 ⟨rfl, hb13⟩
  have HD13 := hid (HD12.out.on hb13)
  clear hb13 HD12
  go_wp2_with fail
  refine hK.out _ _ HD13.out (fun hHeld => ?_)
  clear hK KQ
  try simp only [Act.put, List.setIfInBounds_toArray, List.set_cons_zero, List.set_cons_succ]
  refine wpAnyH_ready (rs := [19]) (by kernel_rfl) (by simp) (AllReadyH.cons (o := { dst := some 2, op := Op.assign (Operand.tmp 200), type := 4, pos := "law.go:72", after := #[{ on := 18, ground := Ground.data }, { on := 18, ground := Ground.chain }, { on := 0, ground := Ground.phase }, { on := 1, ground := Ground.phase }, { on := 2, ground := Ground.phase }, { on := 3, ground := Ground.phase }, { on := 4, ground := Ground.phase }, { on := 5, ground := Ground.phase }, { on := 6, ground := Ground.phase }, { on := 7, ground := Ground.phase }, { on := 8, ground := Ground.phase }, { on := 9, ground := Ground.phase }, { on := 10, ground := Ground.phase }, { on := 11, ground := Ground.phase }, { on := 12, ground := Ground.phase }, { on := 13, ground := Ground.phase }, { on := 14, ground := Ground.phase }, { on := 15, ground := Ground.phase }, { on := 16, ground := Ground.phase }, { on := 17, ground := Ground.phase }, { on := 18, ground := Ground.phase }], guard := none }) rfl (fun KQ hK => ?_) AllReadyH.nil)
  go_simp
  refine hK.out _ _ HD13.out (fun hHeld => ?_)
  clear hK KQ
  try simp only [Act.put, List.setIfInBounds_toArray, List.set_cons_zero, List.set_cons_succ]
  refine wpAnyH_done (by kernel_rfl) ?_ _
  go_wp2_with fail
  go_ret
  exact ⟨rfl, HD13.out.below⟩
theorem play_other (W : World) (q : Oq) (h1 : ¬ q.k = 1) (h2 : ¬ q.k = 2) (h3 : ¬ q.k = 3) (h4 : ¬ q.k = 4) (h5 : ¬ q.k = 5) (h6 : ¬ q.k = 6) (h7 : ¬ q.k = 7) : Calls Try.prog 18 #[.agg q.cs.toArray] W fun e W' => e = .returned (.bool true) ∧ Below W.heap.size W W' := by
  have HO := hid (ob_new W q)
  have y0 := HO.out.y0
  generalize hc : q.cs.toArray = C at *
  clear hc
  generalize q.k = k at *
  go_enter Try.func18, Try.ntmps18
  go_upto_region 1 with fail
  generalize hX : W.alloc _ = X at *
  clear hX
  go_wp2_with fail
  go_ret
  exact ⟨rfl, HO.out.below⟩
end Go.Proofs.Ythpkodkilbcepaa
