/- CpuFaults 4. -/
import Derived.Test.YteldpapacdbbiaaDoorCf
import Derived.Test.YteldpapacdbbiaaDoorCc
namespace Go.Proofs.YteldpapacdbbiaaDoor
open Go.RowKit
set_option maxHeartbeats 8000000
set_option maxRecDepth 100000
theorem wpList_fa4g {ops : Array Oper} {rest : List Oper} {o : Oper} {a : Act} {w : World} {Q : Exit → Act → World → Prop} (hw : Region.wanted o (yielded ops a.tmps) = true) (x : Operand) (ho : o.op = .fieldAddr 28 x 4)
    (g : Nat) (hx : a.eval x = .pointer (some ⟨g, 0, none⟩))
    (h : wpList Tryd.prog ops Q rest (a.put o.dst (.pointer (some ⟨g, 4, none⟩))) w) : wpList Tryd.prog ops Q (o :: rest) a w := by
  rw [wpList, if_pos hw]
  refine .inl ?_
  unfold Oper.wp execOp
  simp only [ho, hx]
  go_simp
  exact h
theorem exec_fa4 {a : Act} {w : World} {o : Oper} (x : Operand) (ho : o.op = .fieldAddr 28 x 4) (g : Nat) (hx : a.eval x = .pointer (some ⟨g, 0, none⟩)) :
    (execOp a.eval o).run Tryd.prog w = .ok (.value (.pointer (some ⟨g, 4, none⟩))) w := by
  unfold execOp
  simp only [ho, hx]
  go_simp
attribute [-simp] Tryd.isAgg26 Tryd.sizeOf26 Tryd.isAgg24 Tryd.isAgg28 Tryd.sizeOf28
theorem wpList_load_qfg {ops : Array Oper} {rest : List Oper} {o : Oper} {a : Act} {w : World} {Q : Exit → Act → World → Prop} (hw : Region.wanted o (yielded ops a.tmps) = true) (x : Operand) (ho : o.op = .load 26 x)
    (g : Nat) (q : Mq) (hx : a.eval x = .pointer (some ⟨g, 4, none⟩)) (hg : Cel w g 28 q.cs)
    (h : wpList Tryd.prog ops Q rest (a.put o.dst q.f.v) w) : wpList Tryd.prog ops Q (o :: rest) a w := by
  rw [wpList, if_pos hw]
  exact .inl (wp_load_mid 26 x ho g 4 hx _ _ (Mq.rng hg) under27 rfl (by rw [size27, F.len]) h)
theorem Mq.rngR {w : World} {g : Nat} {q : Mq} (h : Cel w g 28 q.cs) : w.rangeAt g 4 (rs q.f.r) := fun j v hv => Mq.rng h j v (by
  have hj : j < 15 := by
    by_cases hj : j < 15
    · exact hj
    · rw [List.getElem?_eq_none (by rw [rs_len]; omega)] at hv; cases hv
  rw [F.cs, List.getElem?_append_left (by rw [rs_len]; exact hj)]; exact hv)
theorem wpList_load_rg {ops : Array Oper} {rest : List Oper} {o : Oper} {a : Act} {w : World} {Q : Exit → Act → World → Prop} (hw : Region.wanted o (yielded ops a.tmps) = true) (x : Operand) (ho : o.op = .load 24 x)
    (g off : Nat) (r : Nat → Int) (hx : a.eval x = .pointer (some ⟨g, off, none⟩)) (hg : w.rangeAt g off (rs r))
    (h : wpList Tryd.prog ops Q rest (a.put o.dst (rV r)) w) : wpList Tryd.prog ops Q (o :: rest) a w := by
  rw [wpList, if_pos hw]
  exact .inl (wp_load_mid 24 x ho g off hx _ _ hg under23 rfl (by rw [size23, rs_len]) h)
theorem exec_eql_r {a : Act} {w : World} {o : Oper} (x y : Operand) (ho : o.op = .binOp .eql 24 x y 24) (r s : Nat → Int) (hx : a.eval x = rV r) (hy : a.eval y = rV s) (b : Bool) (hb : sameR r s = b) :
    (execOp a.eval o).run Tryd.prog w = .ok (.value (.bool b)) w := by
  have hg : (eqGuard .eql 24 x y (rV r) (rV s)).run Tryd.prog w = .ok () w := run_eqGuard_agg w .eql 24 x y _ _ (by kernel_rfl)
  have hr : (binOp .eql 24 (rV r) (rV s)).run Tryd.prog w = .ok (.bool (sameR r s)) w := by
    have := run_equalIn_rs w 9998 r s
    rw [rV, rV] at this ⊢
    rw [run_eql_struct, this]; rfl
  unfold execOp
  simp only [ho, hx, hy, Sem.run_bind, Sem.run_pure, hg, hr, Result.andThen_ok, hb]
theorem wpList_eql_rg {ops : Array Oper} {rest : List Oper} {o : Oper} {a : Act} {w : World} {Q : Exit → Act → World → Prop} (hw : Region.wanted o (yielded ops a.tmps) = true) (x y : Operand) (ho : o.op = .binOp .eql 24 x y 24)
    (r s : Nat → Int) (hx : a.eval x = rV r) (hy : a.eval y = rV s) (b : Bool) (hb : sameR r s = b)
    (h : wpList Tryd.prog ops Q rest (a.put o.dst (.bool b)) w) : wpList Tryd.prog ops Q (o :: rest) a w := by
  rw [wpList, if_pos hw]
  refine .inl ?_
  unfold Oper.wp
  rw [exec_eql_r x y ho r s hx hy b hb]
  exact h
theorem sfx_walk {body : Option Code} (n : Nat) {code c' : Code} {Q : Exit → Act → World → Prop} {a : Act} {w : World} (h : body = some code) (h' : sfx n code = c') (hw : Code.wp Tryd.prog c' Q a w) : Code.wp Tryd.prog (sfx n (body.getD .skip)) Q a w := by
  subst h'
  rw [h]
  exact hw
/-- Behind the step. -/
structure FT (W x : World) (g1 g7 : Nat) (q : Mq) (fa fb : Fp) (m : MS) (o : Out) : Prop where
  a : Mem x fa o.m
  b : Mem x fb m
  cq : Cel x g1 28 q.cs
  c0 : Cel x g7 26 o.f.cs
  c1 : Cel x (g7 + 1) 35 (evc o.k o.a)
  below : Below W.heap.size W x
theorem FT.on {W x x' : World} {g1 g7 : Nat} {q : Mq} {fa fb : Fp} {m : MS} {o : Out} (h : FT W x g1 g7 q fa fb m o) (k : Below x.heap.size x x') : FT W x' g1 g7 q fa fb m o := ⟨h.a.on k, h.b.on k, h.cq.on k, h.c0.on k, h.c1.on k, below_on h.below k⟩
theorem parts_same {ma mb : MS} (h : ∀ s p o, mb.word s p o = ma.word s p o) (b ps : Bool) (pp po : Int) : Parts ma mb b ps pp po := fun s p o _ _ hne => absurd (h s p o) hne
theorem MS.fm_word (m : MS) (l pc : Int) (s : Bool) (p o : Int) : (m.fm l pc).word s p o = m.word s p o := by unfold MS.fm; rw [MS.read_word, MS.wkS_word]
theorem MS.fm_tr (m : MS) (l pc l' va a : Int) : (m.fm l pc).trE l' va a = m.trE l' va a ∧ (m.fm l pc).trS l' va a = m.trS l' va a ∧ (m.fm l pc).trP l' va a = m.trP l' va a ∧ (m.fm l pc).trO l' va a = m.trO l' va a := by
  refine tr_same ⟨?_, ?_⟩ a
  · unfold MS.fm; rw [MS.read_wk]; exact (m.wkS_wk l pc l' va).1
  · unfold MS.fm; rw [MS.read_wkE]; exact (m.wkS_wk l pc l' va).2
theorem rcM_word {m : MS} {l va a v : Int} (h : ¬ m.trE l va a = 0) (s : Bool) (p o : Int) : (m.rcM l va a v).word s p o = m.word s p o := by unfold MS.rcM; rw [if_neg h, MS.wkS_word]
theorem faults_t (W w : World) (g1 g7 g10 : Nat) (q : Mq) (fa fb : Fp) (m : MS) (o : Out) (i : Ins) (hi : IOk i) (h : FT W w g1 g7 q fa fb m o) (hc : Cel w g10 57 i.cs) (te : Int) (hy : te = 0 → o.k = 0 ∧ o.a = 0 ∧ o.f.pc = (q.f.pc + 4) % 4294967296) (hn : ¬ te = 0 → o.f = q.f ∧ o.k = 4 ∧ o.a = ad q.f i ∧ ∀ s p x, o.m.word s p x = m.word s p x) (z0 z2 z5 z6 z9 z11 z12 z13 z15 z16 z17 z18 z19 z20 z21 z22 z23 z24 z25 z26 z27 z28 z29 z30 z31 z32 z33 z34 z35 z36 z37 z38 z39 z40 z41 z42 z43 z44 z45 z46 z47 z48 z49 z50 z51 z52 z53 z54 z55 z56 z57 z58 z59 z60 z61 z62 z63 z64 z65 z66 z67 z68 z69 z70 z71 z72 z73 z74 z75 z76 z77 z78 z79 z80 z81 z82 z83 z84 z85 z86 z87 z88 z89 z90 z91 z92 z93 z94 z95 z96 z97 z98 z99 z100 z101 z102 z103 z104 z105 z106 z107 z108 z109 z110 z111 z112 z113 z114 z115 z116 z117 z118 z119 z120 z121 z122 z123 z124 z125 z126 z127 z128 z129 z130 z131 z132 z133 z134 z135 z136 z137 z138 z139 z140 z141 z142 z143 z144 z145 z146 z147 z148 z149 z150 z151 z152 z153 z154 z155 z156 z157 z158 z159 z160 z161 z162 z163 z164 z165 z166 z167 z168 z169 z170 z171 z172 z173 : Value) :
    Code.wp Tryd.prog (sfx 13 (Tryd.f4.body.getD .skip)) (bodyPost Tryd.prog Tryd.f4 fun x w' => x = .returned (.bool true) ∧ Below W.heap.size W w') { tmps := #[z0, .pointer (some ⟨g1, 0, none⟩), z2, .pointer (some ⟨fa.gm, 0, none⟩), .pointer (some ⟨fb.gm, 0, none⟩), z5, z6, .pointer (some ⟨g7, 0, none⟩), .pointer (some ⟨g7 + 1, 0, none⟩), z9, .pointer (some ⟨g10, 0, none⟩), z11, z12, z13, .bool (te == 0), z15, z16, z17, z18, z19, z20, z21, z22, z23, z24, z25, z26, z27, z28, z29, z30, z31, z32, z33, z34, z35, z36, z37, z38, z39, z40, z41, z42, z43, z44, z45, z46, z47, z48, z49, z50, z51, z52, z53, z54, z55, z56, z57, z58, z59, z60, z61, z62, z63, z64, z65, z66, z67, z68, z69, z70, z71, z72, z73, z74, z75, z76, z77, z78, z79, z80, z81, z82, z83, z84, z85, z86, z87, z88, z89, z90, z91, z92, z93, z94, z95, z96, z97, z98, z99, z100, z101, z102, z103, z104, z105, z106, z107, z108, z109, z110, z111, z112, z113, z114, z115, z116, z117, z118, z119, z120, z121, z122, z123, z124, z125, z126, z127, z128, z129, z130, z131, z132, z133, z134, z135, z136, z137, z138, z139, z140, z141, z142, z143, z144, z145, z146, z147, z148, z149, z150, z151, z152, z153, z154, z155, z156, z157, z158, z159, z160, z161, z162, z163, z164, z165, z166, z167, z168, z169, z170, z171, z172, z173], defers := [] } w := by
  have H := hid h
  have HC := hid hc
  have HAd := hid (fun W => laddress_any W q.f i hi)
  have HY := hid hy
  have HN := hid hn
  clear h hc hi hy hn
  generalize ad q.f i = va at *
  refine sfx_walk 13 rfl (by simp only [sfx]; rfl) ?_
  by_cases te0 : te = 0
  · obtain ⟨k0, k1, k2⟩ := HY.out te0
    subst te0
    have e0 : w.cell? ⟨g7 + 1, 0, none⟩ = some (.int .i64 o.k) := H.out.c1.cell 0
    have e1 : w.cell? ⟨g7 + 1, 1, none⟩ = some (.int .u32 o.a) := H.out.c1.cell 1
    have e2 := (H.out.c0.cell 15).trans o.f.at15
    have e3 : w.cell? ⟨g1, 19, none⟩ = some (.int .u32 q.f.pc) := (Mq.rng H.out.cq 15 _ q.f.at15)
    rw [k0] at e0
    rw [k1] at e1
    rw [k2] at e2
    have HB := hid H.out.below
    clear k0 k1 k2 HN HY HAd
    go_wp2_with (refine wpList_fa4g (by rfl) _ rfl g1 rfl ?_)
    go_ret
    exact ⟨rfl, HB.out⟩
  · have te1 : (te == 0) = false := by simpa using te0
    obtain ⟨n0, n1, n2, n3⟩ := HN.out te0
    obtain ⟨of, ok, oa, om⟩ := o
    simp only at n0 n1 n2 n3
    subst n0 n1 n2
    have HBh := hid (fun x (ha : Mem x fa om) (hb : Mem x fb m) => behind_any x fb fa m om hb ha false false 0 0 (parts_same n3 _ _ _ _))
    unfold ptr at HBh
    clear n3 HN HY te0
    obtain ⟨op, cond, a, b, c, imm⟩ := i
    simp only [I.Ins.v, F.v, plc] at *
    go_upto_region 26 with fail
    have HD := hid (And.intro (H.out.on (Below.refl _ _).drew) (HC.out.on (Below.refl _ _).drew))
    clear H HC
    refine wp_region_held_drew (S := fun x => FT W x g1 g7 q fa fb m ⟨q.f, 4, oa, om⟩ ∧ Cel x g10 57 (I.Ins.cs ⟨op, cond, a, b, c, imm⟩)) (by kernel_rfl) HD.out (fun hHeld => ?_)
    refine wpAnyH_take (i := 0) (oi := { dst := some 155, op := Op.load 26 (Operand.tmp 7), type := 26, pos := "outright.go:165", after := #[], guard := none }) (v := .agg q.f.cs.toArray) rfl (by kernel_rfl) (by kernel_rfl) (by kernel_rfl) (fun _ _ _ h => h) (yieldsIf_load_mid (by rfl) _ _ rfl _ _ rfl _ _ (fun w hSw => hSw.1.c0.range) under27 rfl (by rw [size27, F.len])) (by assumption) ?_
    simp only [Act.put, List.setIfInBounds_toArray, List.set_cons_zero, List.set_cons_succ]
    refine wpAnyH_take (i := 1) (oi := { dst := some 156, op := Op.fieldAddr 28 (Operand.tmp 1) 4, type := 0, pos := "outright.go:165", after := #[], guard := none }) (v := .pointer (some ⟨g1, 4, none⟩)) rfl (by kernel_rfl) (by kernel_rfl) (by kernel_rfl) (fun _ _ _ h => h) (Or.inl ⟨by rfl, by intro w hSw; exact exec_fa4 _ rfl g1 rfl⟩) (by assumption) ?_
    simp only [Act.put, List.setIfInBounds_toArray, List.set_cons_zero, List.set_cons_succ]
    refine wpAnyH_take (i := 2) (oi := { dst := some 157, op := Op.load 26 (Operand.tmp 156), type := 26, pos := "outright.go:165", after := #[{ on := 1, ground := Ground.data }], guard := none }) (v := .agg q.f.cs.toArray) rfl (by kernel_rfl) (by kernel_rfl) (by kernel_rfl) (fun _ _ _ h => h) (yieldsIf_load_mid (by rfl) _ _ rfl _ _ rfl _ _ (fun w hSw => Mq.rng hSw.1.cq) under27 rfl (by rw [size27, F.len])) (by assumption) ?_
    simp only [Act.put, List.setIfInBounds_toArray, List.set_cons_zero, List.set_cons_succ]
    refine wpAnyH_take (i := 3) (oi := { dst := some 158, op := Op.binOp BinOp.eql 26 (Operand.tmp 155) (Operand.tmp 157) 26, type := 4, pos := "outright.go:165", after := #[{ on := 0, ground := Ground.data }, { on := 2, ground := Ground.data }], guard := none }) (v := .bool true) rfl (by kernel_rfl) (by kernel_rfl) (by kernel_rfl) (fun _ _ _ h => h) (Or.inl ⟨by rfl, by intro w hSw; exact exec_eql_f _ _ rfl q.f q.f rfl rfl true (F.same_self _)⟩) (by assumption) ?_
    simp only [Act.put, List.setIfInBounds_toArray, List.set_cons_zero, List.set_cons_succ]
    refine wpAnyH_take (i := 4) (oi := { dst := some 159, op := Op.move (Operand.tmp 158), type := 4, pos := "outright.go:165", after := #[{ on := 3, ground := Ground.data }], guard := none }) (v := .bool true) rfl (by kernel_rfl) (by kernel_rfl) (by kernel_rfl) (fun _ _ _ h => h) (Or.inl ⟨by rfl, by intro w hSw; go_simp⟩) (by assumption) ?_
    simp only [Act.put, List.setIfInBounds_toArray, List.set_cons_zero, List.set_cons_succ]
    refine wpAnyH_take (i := 5) (oi := { dst := some 160, op := Op.load 35 (Operand.tmp 8), type := 35, pos := "outright.go:165", after := #[{ on := 4, ground := Ground.guard }], guard := some (4, true) }) (v := .agg #[.int .i64 4, .int .u32 oa]) rfl (by kernel_rfl) (by kernel_rfl) (by kernel_rfl) (fun _ _ _ h => h) (yieldsIf_load_mid (by rfl) _ _ rfl _ _ rfl _ _ (fun w hSw => hSw.1.c1.range) under35 rfl size35) (by assumption) ?_
    simp only [Act.put, List.setIfInBounds_toArray, List.set_cons_zero, List.set_cons_succ]
    refine wpAnyH_take (i := 6) (oi := { dst := some 161, op := Op.fieldAddr 28 (Operand.tmp 1) 4, type := 0, pos := "outright.go:165", after := #[{ on := 4, ground := Ground.guard }], guard := some (4, true) }) (v := .pointer (some ⟨g1, 4, none⟩)) rfl (by kernel_rfl) (by kernel_rfl) (by kernel_rfl) (fun _ _ _ h => h) (Or.inl ⟨by rfl, by intro w hSw; exact exec_fa4 _ rfl g1 rfl⟩) (by assumption) ?_
    simp only [Act.put, List.setIfInBounds_toArray, List.set_cons_zero, List.set_cons_succ]
    refine wpAnyH_take (i := 7) (oi := { dst := some 162, op := Op.load 26 (Operand.tmp 161), type := 26, pos := "outright.go:165", after := #[{ on := 6, ground := Ground.data }, { on := 4, ground := Ground.guard }], guard := some (4, true) }) (v := .agg q.f.cs.toArray) rfl (by kernel_rfl) (by kernel_rfl) (by kernel_rfl) (fun _ _ _ h => h) (yieldsIf_load_mid (by rfl) _ _ rfl _ _ rfl _ _ (fun w hSw => Mq.rng hSw.1.cq) under27 rfl (by rw [size27, F.len])) (by assumption) ?_
    simp only [Act.put, List.setIfInBounds_toArray, List.set_cons_zero, List.set_cons_succ]
    refine wpAnyH_take (i := 8) (oi := { dst := some 163, op := Op.load 57 (Operand.tmp 10), type := 57, pos := "outright.go:165", after := #[{ on := 4, ground := Ground.guard }], guard := some (4, true) }) (v := .agg #[.int .i64 op, .int .i64 cond, .int .i64 a, .int .i64 b, .int .i64 c, .int .i32 imm]) rfl (by kernel_rfl) (by kernel_rfl) (by kernel_rfl) (fun _ _ _ h => h) (Or.inl ⟨by rfl, by intro w hSw; have hq := cel6 hSw.2; obtain ⟨q0, q1, q2, q3, q4, q5⟩ := hq; go_simp⟩) (by assumption) ?_
    simp only [Act.put, List.setIfInBounds_toArray, List.set_cons_zero, List.set_cons_succ]
    refine wpAnyH_ready (rs := [9]) (by kernel_rfl) (by simp) (AllReadyH.cons (o := { dst := some 164, op := Op.call { callee := Callee.value (Operand.func 18), args := #[Operand.tmp 162, Operand.tmp 163], argTypes := #[26, 57] }, type := 23, pos := "outright.go:165", after := #[{ on := 7, ground := Ground.data }, { on := 8, ground := Ground.data }, { on := 4, ground := Ground.chain }, { on := 4, ground := Ground.guard }], guard := some (4, true) }) rfl (fun KQ hK => ?_) AllReadyH.nil)
    go_simp
    refine (HAd.out _).mono ?_
    rintro e w3 ⟨rfl, hb3⟩
    have HD3 := hid (And.intro (HD.out.1.on hb3) (HD.out.2.on hb3))
    clear hb3
    go_wp2_with fail
    refine hK.out _ _ HD3.out (fun hHeld => ?_)
    clear hK KQ
    try simp only [Act.put, List.setIfInBounds_toArray, List.set_cons_zero, List.set_cons_succ]
    refine wpAnyH_take (i := 10) (oi := { dst := some 165, op := Op.build 35 #[(0, Operand.const (Value.int IntKind.i64 4)), (1, Operand.tmp 164)], type := 35, pos := "outright.go:165", after := #[{ on := 9, ground := Ground.data }, { on := 4, ground := Ground.guard }], guard := some (4, true) }) (v := .agg #[.int .i64 4, .int .u32 oa]) rfl (by kernel_rfl) (by kernel_rfl) (by kernel_rfl) (fun _ _ _ h => h) (Or.inl ⟨by rfl, by intro w hSw; go_simp⟩) (by assumption) ?_
    simp only [Act.put, List.setIfInBounds_toArray, List.set_cons_zero, List.set_cons_succ]
    refine wpAnyH_take (i := 11) (oi := { dst := some 166, op := Op.binOp BinOp.eql 35 (Operand.tmp 160) (Operand.tmp 165) 35, type := 4, pos := "outright.go:165", after := #[{ on := 5, ground := Ground.data }, { on := 10, ground := Ground.data }, { on := 4, ground := Ground.guard }], guard := some (4, true) }) (v := .bool true) rfl (by kernel_rfl) (by kernel_rfl) (by kernel_rfl) (fun _ _ _ h => h) (Or.inl ⟨by rfl, by intro w hSw; go_simp⟩) (by assumption) ?_
    simp only [Act.put, List.setIfInBounds_toArray, List.set_cons_zero, List.set_cons_succ]
    refine wpAnyH_take (i := 12) (oi := { dst := some 167, op := Op.pick (Operand.tmp 159) (Operand.tmp 166) (Operand.const (Value.bool false)), type := 4, pos := "outright.go:165", after := #[{ on := 4, ground := Ground.data }, { on := 11, ground := Ground.data }], guard := none }) (v := .bool true) rfl (by kernel_rfl) (by kernel_rfl) (by kernel_rfl) (fun _ _ _ h => h) (Or.inl ⟨by rfl, by intro w hSw; go_simp⟩) (by assumption) ?_
    simp only [Act.put, List.setIfInBounds_toArray, List.set_cons_zero, List.set_cons_succ]
    refine wpAnyH_take (i := 13) (oi := { dst := some 168, op := Op.move (Operand.tmp 167), type := 4, pos := "outright.go:165", after := #[{ on := 12, ground := Ground.data }, { on := 9, ground := Ground.chain }], guard := none }) (v := .bool true) rfl (by kernel_rfl) (by kernel_rfl) (by kernel_rfl) (fun _ _ _ h => h) (Or.inl ⟨by rfl, by intro w hSw; go_simp⟩) (by assumption) ?_
    simp only [Act.put, List.setIfInBounds_toArray, List.set_cons_zero, List.set_cons_succ]
    refine wpAnyH_take (i := 14) (oi := { dst := some 169, op := Op.move (Operand.tmp 4), type := 29, pos := "outright.go:165", after := #[{ on := 13, ground := Ground.guard }], guard := some (13, true) }) (v := .pointer (some ⟨fb.gm, 0, none⟩)) rfl (by kernel_rfl) (by kernel_rfl) (by kernel_rfl) (fun _ _ _ h => h) (Or.inl ⟨by rfl, by intro w hSw; go_simp⟩) (by assumption) ?_
    simp only [Act.put, List.setIfInBounds_toArray, List.set_cons_zero, List.set_cons_succ]
    refine wpAnyH_take (i := 15) (oi := { dst := some 170, op := Op.move (Operand.tmp 3), type := 29, pos := "outright.go:165", after := #[{ on := 13, ground := Ground.guard }], guard := some (13, true) }) (v := .pointer (some ⟨fa.gm, 0, none⟩)) rfl (by kernel_rfl) (by kernel_rfl) (by kernel_rfl) (fun _ _ _ h => h) (Or.inl ⟨by rfl, by intro w hSw; go_simp⟩) (by assumption) ?_
    simp only [Act.put, List.setIfInBounds_toArray, List.set_cons_zero, List.set_cons_succ]
    refine wpAnyH_take (i := 16) (oi := { dst := some 171, op := Op.build 48 #[], type := 48, pos := "outright.go:165", after := #[{ on := 13, ground := Ground.guard }], guard := some (13, true) }) (v := .agg #[.bool false, .int .i64 0, .int .i64 0]) rfl (by kernel_rfl) (by kernel_rfl) (by kernel_rfl) (fun _ _ _ h => h) (Or.inl ⟨by rfl, by intro w hSw; go_simp⟩) (by assumption) ?_
    simp only [Act.put, List.setIfInBounds_toArray, List.set_cons_zero, List.set_cons_succ]
    refine wpAnyH_ready (rs := [17]) (by kernel_rfl) (by simp) (AllReadyH.cons (o := { dst := some 172, op := Op.call { callee := Callee.value (Operand.func 15), args := #[Operand.tmp 169, Operand.tmp 170, Operand.const (Value.bool false), Operand.tmp 171], argTypes := #[29, 29, 4, 48] }, type := 4, pos := "outright.go:165", after := #[{ on := 14, ground := Ground.data }, { on := 15, ground := Ground.data }, { on := 16, ground := Ground.data }, { on := 13, ground := Ground.chain }, { on := 13, ground := Ground.guard }], guard := some (13, true) }) rfl (fun KQ hK => ?_) AllReadyH.nil)
    go_simp
    refine (HBh.out _ HD3.out.1.a HD3.out.1.b).mono ?_
    rintro e w4 ⟨rfl, hb4⟩
    have HD4 := hid (And.intro (HD3.out.1.on hb4) (HD3.out.2.on hb4))
    clear hb4
    go_wp2_with fail
    refine hK.out _ _ HD4.out (fun hHeld => ?_)
    clear hK KQ
    try simp only [Act.put, List.setIfInBounds_toArray, List.set_cons_zero, List.set_cons_succ]
    refine wpAnyH_take (i := 18) (oi := { dst := some 173, op := Op.pick (Operand.tmp 168) (Operand.tmp 172) (Operand.const (Value.bool false)), type := 4, pos := "outright.go:165", after := #[{ on := 13, ground := Ground.data }, { on := 17, ground := Ground.data }], guard := none }) (v := .bool true) rfl (by kernel_rfl) (by kernel_rfl) (by kernel_rfl) (fun _ _ _ h => h) (Or.inl ⟨by rfl, by intro w hSw; go_simp⟩) (by assumption) ?_
    simp only [Act.put, List.setIfInBounds_toArray, List.set_cons_zero, List.set_cons_succ]
    refine wpAnyH_ready (rs := [19]) (by kernel_rfl) (by simp) (AllReadyH.cons (o := { dst := some 2, op := Op.assign (Operand.tmp 173), type := 4, pos := "outright.go:165", after := #[{ on := 18, ground := Ground.data }, { on := 17, ground := Ground.chain }, { on := 0, ground := Ground.phase }, { on := 1, ground := Ground.phase }, { on := 2, ground := Ground.phase }, { on := 3, ground := Ground.phase }, { on := 4, ground := Ground.phase }, { on := 5, ground := Ground.phase }, { on := 6, ground := Ground.phase }, { on := 7, ground := Ground.phase }, { on := 8, ground := Ground.phase }, { on := 9, ground := Ground.phase }, { on := 10, ground := Ground.phase }, { on := 11, ground := Ground.phase }, { on := 12, ground := Ground.phase }, { on := 13, ground := Ground.phase }, { on := 14, ground := Ground.phase }, { on := 15, ground := Ground.phase }, { on := 16, ground := Ground.phase }, { on := 17, ground := Ground.phase }, { on := 18, ground := Ground.phase }], guard := none }) rfl (fun KQ hK => ?_) AllReadyH.nil)
    go_simp
    refine hK.out _ _ HD4.out (fun hHeld => ?_)
    clear hK KQ
    try simp only [Act.put, List.setIfInBounds_toArray, List.set_cons_zero, List.set_cons_succ]
    refine wpAnyH_done (by kernel_rfl) ?_ _
    have HB := hid HD4.out.1.below
    go_wp2_with fail
    go_ret
    exact ⟨rfl, HB.out⟩
end Go.Proofs.YteldpapacdbbiaaDoor
