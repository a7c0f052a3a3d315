/- index 52, said 37. -/
import Derived.Test.YtmmphmdmocfnpaaB1
import Derived.Test.YtmmphmdmocfnpaaLp
import Derived.Test.YtmmphmdmocfnpaaP4
namespace Go.Proofs.Ytmmphmdmocfnpaa
open Go.RowKit
set_option maxHeartbeats 8000000
set_option maxRecDepth 100000
def ix (t : Nat) : Int := if t = 0 then 5 else if t = 1 then 9 else 255
theorem index_any (W : World) (t : Nat) (ht : t < 3) : Calls Try.prog 52 #[.int .i64 (t : Int)] W fun x W' => x = .returned (.int .i64 (ix t)) ∧ Below W.heap.size W W' := by
  unfold ix
  rcases (show t = 0 ∨ t = 1 ∨ t = 2 by omega) with rfl | rfl | rfl
  all_goals go_enter Try.func52, Try.ntmps52
  all_goals go_wp2_with fail
  all_goals go_ret
  all_goals exact ⟨rfl, below_one _ _⟩
theorem wp_store_st {P : Program} {op : Oper} {a : Act} {w : World} {K : Act → World → Prop} {Q : Exit → Act → World → Prop} (ty : TypeId) (x y : Operand) (ho : op.op = .store ty x y)
    (g : Nat) (vs : List Value) (hx : a.eval x = .pointer (some ⟨g, 0, none⟩)) (hy : a.eval y = .agg vs.toArray) {e : TypeId} {cs : List Value} (hg : Cel w g e cs) (hi : (P.info? ty).map (·.size) = some vs.length) (hl : cs.length = vs.length) (h1 : vs.all (·.oneCell') = true)
    (h : K (a.put op.dst undef) (w.setRow g vs.toArray)) : op.wp P a w K Q := by
  have hs : (Instr.storeAt ty (.pointer (some ⟨g, 0, none⟩)) (.agg vs.toArray)).run P w = .ok () (w.setRow g vs.toArray) := by
    simp only [Instr.storeAt, Instr.sureAddr, Sem.run_bind, Sem.run_pure, Result.andThen]
    exact run_storeVar_row w g e ty _ _ hg (by rw [hi]; simp) (by simp [hl]) (by simpa using h1)
  unfold Oper.wp execOp
  simp only [ho, hx, hy, Sem.run_bind, Sem.run_pure, hs, Result.andThen_ok]
  exact h
/-- A mapping that came in. -/
structure Mg where
  i : Int
  j : Int
  s : Bool
  p : Int
  wr : Bool
  ex : Bool
def Mg.Ok (x : Mg) : Prop := (-9223372036854775808 ≤ x.i ∧ x.i ≤ 9223372036854775807) ∧ (-9223372036854775808 ≤ x.j ∧ x.j ≤ 9223372036854775807) ∧ (-9223372036854775808 ≤ x.p ∧ x.p ≤ 9223372036854775807)
def Mg.sd (x : Mg) : Mp := if x.s then ⟨true, wi x.p 0 8, x.wr, x.ex⟩ else ⟨false, wi x.p 0 4, x.wr, false⟩
theorem Mg.sd_err (x : Mg) : x.sd.err = 0 := by
  have h1 := wi_range x.p 0 8 (by decide)
  have h2 := wi_range x.p 0 4 (by decide)
  unfold Mg.sd Mp.err
  split
  · rw [if_pos (by unfold Pg; simp only; omega)]; simp
  · rw [if_pos (by unfold Pg; simp only; omega)]; simp
structure SD (W x : World) (g1 g2 : Nat) (a : Mg) (q : Mp) : Prop where
  c : Cel x g1 90 [.int .i64 a.i, .int .i64 a.j, .bool a.s, .int .i64 a.p, .bool a.wr, .bool a.ex]
  r : Cel x g2 35 [.bool q.s, .int .i64 q.p, .bool q.wr, .bool q.ex]
  below : Below W.heap.size W x
  lo : W.heap.size ≤ g2
theorem SD.set {W x : World} {g1 g2 : Nat} {a : Mg} {q q' : Mp} (h : SD W x g1 g2 a q) : SD W (x.setRow g2 #[.bool q'.s, .int .i64 q'.p, .bool q'.wr, .bool q'.ex]) g1 g2 a q' := by
  have hb := ButL.setRow (G := [g2]) x g2 #[.bool q'.s, .int .i64 q'.p, .bool q'.wr, .bool q'.ex] (by simp)
  exact ⟨h.c.but hb (by rw [List.mem_singleton]; rintro rfl; exact absurd (h.c.ty h.r) (by decide)), h.r.set [.bool q'.s, .int .i64 q'.p, .bool q'.wr, .bool q'.ex], h.below.trans (hb.below (by simp; exact h.lo) h.below.size), h.lo⟩
theorem SD.drew {W x : World} {g1 g2 : Nat} {a : Mg} {q : Mp} (h : SD W x g1 g2 a q) : SD W x.drew g1 g2 a q := ⟨h.c.on (Below.refl _ _).drew, h.r.on (Below.refl _ _).drew, below_on h.below (Below.refl _ _).drew, h.lo⟩
theorem said_any (W : World) (x : Mg) (hx : x.Ok) : Calls Try.prog 37 #[.agg #[.int .i64 x.i, .int .i64 x.j, .bool x.s, .int .i64 x.p, .bool x.wr, .bool x.ex]] W fun e W' => e = .returned x.sd.v ∧ Below W.heap.size W W' := by
  have HS : Hid (SD W ((W.alloc (.cells #[.int .i64 x.i, .int .i64 x.j, .bool x.s, .int .i64 x.p, .bool x.wr, .bool x.ex] 90)).alloc (.cells #[.bool false, .int .i64 0, .bool false, .bool false] 35)) W.heap.size (W.heap.size + 1) x Mp.z) := by
    have h2 := Cel.new (W.alloc (.cells #[.int .i64 x.i, .int .i64 x.j, .bool x.s, .int .i64 x.p, .bool x.wr, .bool x.ex] 90)) 35 [.bool false, .int .i64 0, .bool false, .bool false]
    rw [World.size_alloc] at h2
    exact hid ⟨(Cel.new W 90 [.int .i64 x.i, .int .i64 x.j, .bool x.s, .int .i64 x.p, .bool x.wr, .bool x.ex]).on (below_one _ _), h2, below_on (below_one _ _) (below_one _ _), Nat.le_succ _⟩
  have H7 := hid (fun W => within_any W x.p 0 7 (by decide) (by decide) (by decide) hx.2.2.1 hx.2.2.2)
  have H3 := hid (fun W => within_any W x.p 0 3 (by decide) (by decide) (by decide) hx.2.2.1 hx.2.2.2)
  simp only [Int.reduceSub, Int.reduceAdd] at H7 H3
  have HV : Hid (x.sd = if x.s then ⟨true, wi x.p 0 8, x.wr, x.ex⟩ else ⟨false, wi x.p 0 4, x.wr, false⟩) := hid rfl
  clear hx
  generalize x.sd = y at *
  generalize wi x.p 0 8 = p8 at *
  generalize wi x.p 0 4 = p4 at *
  go_enter Try.func37, Try.ntmps37
  go_upto_region 1 with fail
  generalize hX : (W.alloc _).alloc _ = X at *
  clear hX
  have c2 := HS.out.c.cell 2
  simp only [List.getElem?_cons_zero, List.getElem?_cons_succ] at c2
  cases hs : x.s with
  | true =>
    have hy : y = ⟨true, p8, x.wr, x.ex⟩ := by rw [HV.out, if_pos hs]
    rw [hs] at c2
    go_upto_region 2 with fail
    have HS := hid HS.out.drew
    refine wp_region_held_drew (S := fun z => ∃ q, SD W z W.heap.size (W.heap.size + 1) x q) (by kernel_rfl) ⟨_, HS.out⟩ (fun hHeld => ?_)
    refine wpAnyH_take (i := 0) (oi := { dst := some 5, op := Op.fieldAddr 90 (Operand.tmp 1) 3, type := 0, pos := "outright.go:87", after := #[], guard := none }) (v := .pointer (some ⟨W.heap.size, 3, none⟩)) rfl (by kernel_rfl) (by kernel_rfl) (by kernel_rfl) (fun _ _ _ h => h) (Or.inl ⟨by rfl, by intro w hSw; go_simp⟩) (by assumption) ?_
    simp only [Act.put, List.setIfInBounds_toArray, List.set_cons_zero, List.set_cons_succ]
    refine wpAnyH_take (i := 1) (oi := { dst := some 6, op := Op.load 3 (Operand.tmp 5), type := 3, pos := "outright.go:87", after := #[{ on := 0, ground := Ground.data }], guard := none }) (v := .int .i64 x.p) rfl (by kernel_rfl) (by kernel_rfl) (by kernel_rfl) (fun _ _ _ h => h) (Or.inl ⟨by rfl, by intro w hSw; have cc := hSw.choose_spec.c.cell 3; simp only [List.getElem?_cons_zero, List.getElem?_cons_succ] at cc; go_simp⟩) (by assumption) ?_
    simp only [Act.put, List.setIfInBounds_toArray, List.set_cons_zero, List.set_cons_succ]
    refine wpAnyH_take (i := 4) (oi := { dst := some 9, op := Op.fieldAddr 90 (Operand.tmp 1) 4, type := 0, pos := "outright.go:87", after := #[], guard := none }) (v := .pointer (some ⟨W.heap.size, 4, none⟩)) rfl (by kernel_rfl) (by kernel_rfl) (by kernel_rfl) (fun _ _ _ h => h) (Or.inl ⟨by rfl, by intro w hSw; go_simp⟩) (by assumption) ?_
    simp only [Act.put, List.setIfInBounds_toArray, List.set_cons_zero, List.set_cons_succ]
    refine wpAnyH_take (i := 5) (oi := { dst := some 10, op := Op.load 4 (Operand.tmp 9), type := 4, pos := "outright.go:87", after := #[{ on := 4, ground := Ground.data }], guard := none }) (v := .bool x.wr) rfl (by kernel_rfl) (by kernel_rfl) (by kernel_rfl) (fun _ _ _ h => h) (Or.inl ⟨by rfl, by intro w hSw; have cc := hSw.choose_spec.c.cell 4; simp only [List.getElem?_cons_zero, List.getElem?_cons_succ] at cc; go_simp⟩) (by assumption) ?_
    simp only [Act.put, List.setIfInBounds_toArray, List.set_cons_zero, List.set_cons_succ]
    refine wpAnyH_take (i := 6) (oi := { dst := some 11, op := Op.fieldAddr 90 (Operand.tmp 1) 5, type := 0, pos := "outright.go:87", after := #[], guard := none }) (v := .pointer (some ⟨W.heap.size, 5, none⟩)) rfl (by kernel_rfl) (by kernel_rfl) (by kernel_rfl) (fun _ _ _ h => h) (Or.inl ⟨by rfl, by intro w hSw; go_simp⟩) (by assumption) ?_
    simp only [Act.put, List.setIfInBounds_toArray, List.set_cons_zero, List.set_cons_succ]
    refine wpAnyH_take (i := 7) (oi := { dst := some 12, op := Op.load 4 (Operand.tmp 11), type := 4, pos := "outright.go:87", after := #[{ on := 6, ground := Ground.data }], guard := none }) (v := .bool x.ex) rfl (by kernel_rfl) (by kernel_rfl) (by kernel_rfl) (fun _ _ _ h => h) (Or.inl ⟨by rfl, by intro w hSw; have cc := hSw.choose_spec.c.cell 5; simp only [List.getElem?_cons_zero, List.getElem?_cons_succ] at cc; go_simp⟩) (by assumption) ?_
    simp only [Act.put, List.setIfInBounds_toArray, List.set_cons_zero, List.set_cons_succ]
    refine wpAnyH_ready (rs := [2]) (by kernel_rfl) (by simp) (AllReadyH.cons (o := { dst := some 7, op := Op.call { callee := Callee.value (Operand.func 25), args := #[Operand.tmp 6, Operand.const (Value.int IntKind.i64 0), Operand.const (Value.int IntKind.i64 7)], argTypes := #[3, 3, 3] }, type := 3, pos := "outright.go:87", after := #[{ on := 1, ground := Ground.data }], guard := none }) rfl (fun KQ hK => ?_) AllReadyH.nil)
    go_simp
    refine (H7.out _).mono ?_
    rintro e wx ⟨rfl, rfl⟩
    go_wp2_with fail
    refine hK.out _ _ ⟨_, HS.out⟩ (fun hHeld => ?_)
    clear hK KQ
    try simp only [Act.put, List.setIfInBounds_toArray, List.set_cons_zero, List.set_cons_succ]
    refine wpAnyH_take (i := 3) (oi := { dst := some 8, op := Op.build 33 #[(0, Operand.const (Value.bool true)), (1, Operand.tmp 7)], type := 33, pos := "outright.go:87", after := #[{ on := 2, ground := Ground.data }], guard := none }) (v := .agg #[.bool true, .int .i64 p8]) rfl (by kernel_rfl) (by kernel_rfl) (by kernel_rfl) (fun _ _ _ h => h) (Or.inl ⟨by rfl, by intro w hSw; go_simp⟩) (by assumption) ?_
    simp only [Act.put, List.setIfInBounds_toArray, List.set_cons_zero, List.set_cons_succ]
    refine wpAnyH_take (i := 8) (oi := { dst := some 13, op := Op.build 35 #[(0, Operand.tmp 8), (1, Operand.tmp 10), (2, Operand.tmp 12)], type := 35, pos := "outright.go:87", after := #[{ on := 3, ground := Ground.data }, { on := 5, ground := Ground.data }, { on := 7, ground := Ground.data }], guard := none }) (v := .agg #[.bool true, .int .i64 p8, .bool x.wr, .bool x.ex]) rfl (by kernel_rfl) (by kernel_rfl) (by kernel_rfl) (fun _ _ _ h => h) (Or.inl ⟨by rfl, by intro w hSw; go_simp⟩) (by assumption) ?_
    simp only [Act.put, List.setIfInBounds_toArray, List.set_cons_zero, List.set_cons_succ]
    refine wpAnyH_ready (rs := [9]) (by kernel_rfl) (by simp) (AllReadyH.cons (o := { dst := none, op := Op.store 35 (Operand.tmp 2) (Operand.tmp 13), type := 0, pos := "outright.go:87", after := #[{ on := 8, ground := Ground.data }, { on := 2, ground := Ground.chain }, { on := 0, ground := Ground.phase }, { on := 1, ground := Ground.phase }, { on := 2, ground := Ground.phase }, { on := 3, ground := Ground.phase }, { on := 4, ground := Ground.phase }, { on := 5, ground := Ground.phase }, { on := 6, ground := Ground.phase }, { on := 7, ground := Ground.phase }, { on := 8, ground := Ground.phase }], guard := none }) rfl (fun KQ hK => ?_) AllReadyH.nil)
    rw [if_pos (by rfl)]
    refine wp_store_st 35 _ _ rfl (W.heap.size + 1) [.bool true, .int .i64 p8, .bool x.wr, .bool x.ex] rfl rfl HS.out.r size35 rfl rfl ?_
    have HT := hid (HS.out.set (q' := y))
    rw [hy] at HT
    refine hK.out _ _ ⟨_, HT.out⟩ (fun hHeld => ?_)
    clear hK KQ
    try simp only [Act.put]
    refine wpAnyH_done (by kernel_rfl) ?_ _
    have HR := hid HT.out.r
    have HB := hid HT.out.below
    generalize World.setRow _ _ _ = w9 at *
    have d0 := HR.out.cell 0
    have d1 := HR.out.cell 1
    have d2 := HR.out.cell 2
    have d3 := HR.out.cell 3
    simp only [List.getElem?_cons_zero, List.getElem?_cons_succ] at d0 d1 d2 d3
    go_wp2_with fail
    (refine bodyPost_ret (by simp [results, Try.results37, go_sem, d0, d1, d2, d3]; try rfl) rfl ?_)
    exact ⟨rfl, HB.out⟩
  | false =>
    have hy : y = ⟨false, p4, x.wr, false⟩ := by rw [HV.out, if_neg (by simp [hs])]
    rw [hs] at c2
    go_upto_region 3 with fail
    have HS := hid HS.out.drew
    refine wp_region_held_drew (S := fun z => ∃ q, SD W z W.heap.size (W.heap.size + 1) x q) (by kernel_rfl) ⟨_, HS.out⟩ (fun hHeld => ?_)
    refine wpAnyH_take (i := 0) (oi := { dst := some 14, op := Op.fieldAddr 90 (Operand.tmp 1) 3, type := 0, pos := "outright.go:89", after := #[], guard := none }) (v := .pointer (some ⟨W.heap.size, 3, none⟩)) rfl (by kernel_rfl) (by kernel_rfl) (by kernel_rfl) (fun _ _ _ h => h) (Or.inl ⟨by rfl, by intro w hSw; go_simp⟩) (by assumption) ?_
    simp only [Act.put, List.setIfInBounds_toArray, List.set_cons_zero, List.set_cons_succ]
    refine wpAnyH_take (i := 1) (oi := { dst := some 15, op := Op.load 3 (Operand.tmp 14), type := 3, pos := "outright.go:89", after := #[{ on := 0, ground := Ground.data }], guard := none }) (v := .int .i64 x.p) rfl (by kernel_rfl) (by kernel_rfl) (by kernel_rfl) (fun _ _ _ h => h) (Or.inl ⟨by rfl, by intro w hSw; have cc := hSw.choose_spec.c.cell 3; simp only [List.getElem?_cons_zero, List.getElem?_cons_succ] at cc; go_simp⟩) (by assumption) ?_
    simp only [Act.put, List.setIfInBounds_toArray, List.set_cons_zero, List.set_cons_succ]
    refine wpAnyH_take (i := 4) (oi := { dst := some 18, op := Op.fieldAddr 90 (Operand.tmp 1) 4, type := 0, pos := "outright.go:89", after := #[], guard := none }) (v := .pointer (some ⟨W.heap.size, 4, none⟩)) rfl (by kernel_rfl) (by kernel_rfl) (by kernel_rfl) (fun _ _ _ h => h) (Or.inl ⟨by rfl, by intro w hSw; go_simp⟩) (by assumption) ?_
    simp only [Act.put, List.setIfInBounds_toArray, List.set_cons_zero, List.set_cons_succ]
    refine wpAnyH_take (i := 5) (oi := { dst := some 19, op := Op.load 4 (Operand.tmp 18), type := 4, pos := "outright.go:89", after := #[{ on := 4, ground := Ground.data }], guard := none }) (v := .bool x.wr) rfl (by kernel_rfl) (by kernel_rfl) (by kernel_rfl) (fun _ _ _ h => h) (Or.inl ⟨by rfl, by intro w hSw; have cc := hSw.choose_spec.c.cell 4; simp only [List.getElem?_cons_zero, List.getElem?_cons_succ] at cc; go_simp⟩) (by assumption) ?_
    simp only [Act.put, List.setIfInBounds_toArray, List.set_cons_zero, List.set_cons_succ]
    refine wpAnyH_ready (rs := [2]) (by kernel_rfl) (by simp) (AllReadyH.cons (o := { dst := some 16, op := Op.call { callee := Callee.value (Operand.func 25), args := #[Operand.tmp 15, Operand.const (Value.int IntKind.i64 0), Operand.const (Value.int IntKind.i64 3)], argTypes := #[3, 3, 3] }, type := 3, pos := "outright.go:89", after := #[{ on := 1, ground := Ground.data }], guard := none }) rfl (fun KQ hK => ?_) AllReadyH.nil)
    go_simp
    refine (H3.out _).mono ?_
    rintro e wx ⟨rfl, rfl⟩
    go_wp2_with fail
    refine hK.out _ _ ⟨_, HS.out⟩ (fun hHeld => ?_)
    clear hK KQ
    try simp only [Act.put, List.setIfInBounds_toArray, List.set_cons_zero, List.set_cons_succ]
    refine wpAnyH_take (i := 3) (oi := { dst := some 17, op := Op.build 33 #[(1, Operand.tmp 16)], type := 33, pos := "outright.go:89", after := #[{ on := 2, ground := Ground.data }], guard := none }) (v := .agg #[.bool false, .int .i64 p4]) rfl (by kernel_rfl) (by kernel_rfl) (by kernel_rfl) (fun _ _ _ h => h) (Or.inl ⟨by rfl, by intro w hSw; go_simp⟩) (by assumption) ?_
    simp only [Act.put, List.setIfInBounds_toArray, List.set_cons_zero, List.set_cons_succ]
    refine wpAnyH_take (i := 6) (oi := { dst := some 20, op := Op.build 35 #[(0, Operand.tmp 17), (1, Operand.tmp 19)], type := 35, pos := "outright.go:89", after := #[{ on := 3, ground := Ground.data }, { on := 5, ground := Ground.data }], guard := none }) (v := .agg #[.bool false, .int .i64 p4, .bool x.wr, .bool false]) rfl (by kernel_rfl) (by kernel_rfl) (by kernel_rfl) (fun _ _ _ h => h) (Or.inl ⟨by rfl, by intro w hSw; go_simp⟩) (by assumption) ?_
    simp only [Act.put, List.setIfInBounds_toArray, List.set_cons_zero, List.set_cons_succ]
    refine wpAnyH_ready (rs := [7]) (by kernel_rfl) (by simp) (AllReadyH.cons (o := { dst := none, op := Op.store 35 (Operand.tmp 2) (Operand.tmp 20), type := 0, pos := "outright.go:89", after := #[{ on := 6, ground := Ground.data }, { on := 2, ground := Ground.chain }, { on := 0, ground := Ground.phase }, { on := 1, ground := Ground.phase }, { on := 2, ground := Ground.phase }, { on := 3, ground := Ground.phase }, { on := 4, ground := Ground.phase }, { on := 5, ground := Ground.phase }, { on := 6, ground := Ground.phase }], guard := none }) rfl (fun KQ hK => ?_) AllReadyH.nil)
    rw [if_pos (by rfl)]
    refine wp_store_st 35 _ _ rfl (W.heap.size + 1) [.bool false, .int .i64 p4, .bool x.wr, .bool false] rfl rfl HS.out.r size35 rfl rfl ?_
    have HT := hid (HS.out.set (q' := y))
    rw [hy] at HT
    refine hK.out _ _ ⟨_, HT.out⟩ (fun hHeld => ?_)
    clear hK KQ
    try simp only [Act.put]
    refine wpAnyH_done (by kernel_rfl) ?_ _
    have HR := hid HT.out.r
    have HB := hid HT.out.below
    generalize World.setRow _ _ _ = w9 at *
    have d0 := HR.out.cell 0
    have d1 := HR.out.cell 1
    have d2 := HR.out.cell 2
    have d3 := HR.out.cell 3
    simp only [List.getElem?_cons_zero, List.getElem?_cons_succ] at d0 d1 d2 d3
    go_wp2_with fail
    (refine bodyPost_ret (by simp [results, Try.results37, go_sem, d0, d1, d2, d3]; try rfl) rfl ?_)
    exact ⟨rfl, HB.out⟩
end Go.Proofs.Ytmmphmdmocfnpaa
