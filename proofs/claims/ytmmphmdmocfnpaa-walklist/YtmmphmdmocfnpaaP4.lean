/- WalkCodes (4). -/
import Derived.Test.YtmmphmdmocfnpaaW4
import Derived.Test.YtmmphmdmocfnpaaRf
namespace Go.Proofs.Ytmmphmdmocfnpaa
open Go.RowKit
set_option maxHeartbeats 8000000
set_option maxRecDepth 100000
theorem under35 : Try.prog.underlying 35 = some (.struct (Try.prog.fieldsOf 35)) := by kernel_rfl
theorem under41 : Try.prog.underlying 41 = some (.struct (Try.prog.fieldsOf 41)) := by kernel_rfl
theorem size35 : (Try.prog.info? 35).map (·.size) = some 4 := by kernel_rfl
theorem size41 : (Try.prog.info? 41).map (·.size) = some 4 := by kernel_rfl
structure CD (W x : World) (g5 g6 : Nat) (q : Mp) : Prop where
  a : Cel x g5 35 [.bool q.s, .int .i64 q.p, .bool q.wr, .bool q.ex]
  b : Cel x g6 41 [.bool q.s, .int .i64 q.p, .bool q.wr, .bool q.ex]
  below : Below W.heap.size W x
theorem CD.on {W x w' : World} {g5 g6 : Nat} {q : Mp} (h : CD W x g5 g6 q) (hb : Below x.heap.size x w') : CD W w' g5 g6 q := ⟨h.a.on hb, h.b.on hb, below_on h.below hb⟩
theorem codes_any (W : World) (va i j o pg v : Int) (m : Mp) (a0 : 0 ≤ va) (a1 : va < 4294967296) (v0 : 0 ≤ v) (v1 : v < 4294967296) :
    Calls Try.prog 4 #[.agg #[.int .u32 va, .int .i64 i, .int .i64 j, .int .i64 o, .int .i64 pg, .int .u32 v, .bool m.s, .int .i64 m.p, .bool m.wr, .bool m.ex]] W fun x W' => x = .returned (.bool true) ∧ Below W.heap.size W W' := by
  have HC := hid (Cel.new W 43 [.int .u32 va, .int .i64 i, .int .i64 j, .int .i64 o, .int .i64 pg, .int .u32 v, .bool m.s, .int .i64 m.p, .bool m.wr, .bool m.ex])
  have HB := hid (below_one W (.cells #[.int .u32 va, .int .i64 i, .int .i64 j, .int .i64 o, .int .i64 pg, .int .u32 v, .bool m.s, .int .i64 m.p, .bool m.wr, .bool m.ex] 43))
  have H1 := hid (fun W => split_any W va a0 a1)
  have H2 := hid (fun W => rsplit_any W va a0 a1)
  have H3 := hid (fun W => pf_any W v v0 v1)
  have H4 := hid (fun W => ps_any W v v0 v1)
  have H5 := hid (fun W => rps_any W v v0 v1)
  have H6 := hid (fun W => own_any W m)
  have H7 := hid (fun W => second_any W m)
  have H8 := hid (fun W => rsecond_any W m)
  have H9 := hid (fun W => own_any W (ps v))
  clear a0 a1 v0 v1
  go_enter Try.func4, Try.ntmps4
  go_upto_region 1 with fail
  generalize hX : W.alloc _ = X at *
  clear hX
  have c0 := HC.out.cell 0
  have c1 := HC.out.cell 1
  have c2 := HC.out.cell 2
  have c3 := HC.out.cell 3
  have c4 := HC.out.cell 4
  have c5 := HC.out.cell 5
  have c6 := HC.out.cell 6
  have c7 := HC.out.cell 7
  have c8 := HC.out.cell 8
  have c9 := HC.out.cell 9
  simp only [List.getElem?_cons_zero, List.getElem?_cons_succ] at c0 c1 c2 c3 c4 c5 c6 c7 c8 c9
  go_wp2_with fail
  refine (H1.out _).mono ?_
  rintro x wx ⟨rfl, rfl⟩
  go_wp2_with fail
  refine (H2.out _).mono ?_
  rintro x wx ⟨rfl, rfl⟩
  generalize spI va = s1 at *
  generalize spJ va = s2 at *
  generalize spO va = s3 at *
  generalize spE va = s4 at *
  go_wp2_with fail
  refine (numbers_any _).mono ?_
  rintro x wx ⟨rfl, rfl⟩
  clear c0 c1 c2 c3 c4 c5 c6 c7 c8 c9
  go_wp2_with fail
  refine (known_any _).mono ?_
  rintro x w1 ⟨rfl, hb⟩
  have HC1 := hid (HC.out.on hb)
  have HB1 := hid (below_on HB.out hb)
  clear hb HC HB
  have c0 := HC1.out.cell 0
  have c1 := HC1.out.cell 1
  have c2 := HC1.out.cell 2
  have c3 := HC1.out.cell 3
  have c4 := HC1.out.cell 4
  have c5 := HC1.out.cell 5
  have c6 := HC1.out.cell 6
  have c7 := HC1.out.cell 7
  have c8 := HC1.out.cell 8
  have c9 := HC1.out.cell 9
  simp only [List.getElem?_cons_zero, List.getElem?_cons_succ] at c0 c1 c2 c3 c4 c5 c6 c7 c8 c9
  go_wp2_with fail
  refine (join_any _ _ _ _).mono ?_
  rintro x wx ⟨rfl, rfl⟩
  go_wp2_with fail
  refine (rjoin_any _ _ _ _).mono ?_
  rintro x wx ⟨rfl, rfl⟩
  generalize jW i j o = s5 at *
  generalize jE i j o = s6 at *
  go_wp2_with fail
  refine (first_any _ _).mono ?_
  rintro x wx ⟨rfl, rfl⟩
  go_wp2_with fail
  refine (rfirst_any _ _).mono ?_
  rintro x wx ⟨rfl, rfl⟩
  generalize fW pg = s7 at *
  generalize fE pg = s8 at *
  go_wp2_with fail
  refine (H3.out _).mono ?_
  rintro x wx ⟨rfl, rfl⟩
  go_wp2_with fail
  refine (rpf_any _ _).mono ?_
  rintro x wx ⟨rfl, rfl⟩
  generalize pf v = s9 at *
  generalize pfE v = s10 at *
  unfold Mp.v at *
  go_wp2_with fail
  refine (H6.out _).mono ?_
  rintro x w2 ⟨rfl, hb⟩
  have HC2 := hid (HC1.out.on hb)
  have HB2 := hid (below_on HB1.out hb)
  clear hb HC1 HB1
  go_wp2_with fail
  refine (H7.out _).mono ?_
  rintro x w3 ⟨rfl, hb⟩
  have HC3 := hid (HC2.out.on hb)
  have HB3 := hid (below_on HB2.out hb)
  clear hb HC2 HB2
  clear c0 c1 c2 c3 c4 c5 c6 c7 c8 c9
  have c0 := HC3.out.cell 0
  have c1 := HC3.out.cell 1
  have c2 := HC3.out.cell 2
  have c3 := HC3.out.cell 3
  have c4 := HC3.out.cell 4
  have c5 := HC3.out.cell 5
  have c6 := HC3.out.cell 6
  have c7 := HC3.out.cell 7
  have c8 := HC3.out.cell 8
  have c9 := HC3.out.cell 9
  simp only [List.getElem?_cons_zero, List.getElem?_cons_succ] at c0 c1 c2 c3 c4 c5 c6 c7 c8 c9
  generalize m.enc = s11 at *
  generalize m.err = s12 at *
  go_wp2_with fail
  refine (H8.out _).mono ?_
  rintro x w4 ⟨rfl, hb⟩
  have HC4 := hid (HC3.out.on hb)
  have HB4 := hid (below_on HB3.out hb)
  clear hb HC3 HB3
  clear c0 c1 c2 c3 c4 c5 c6 c7 c8 c9
  have c0 := HC4.out.cell 0
  have c1 := HC4.out.cell 1
  have c2 := HC4.out.cell 2
  have c3 := HC4.out.cell 3
  have c4 := HC4.out.cell 4
  have c5 := HC4.out.cell 5
  have c6 := HC4.out.cell 6
  have c7 := HC4.out.cell 7
  have c8 := HC4.out.cell 8
  have c9 := HC4.out.cell 9
  simp only [List.getElem?_cons_zero, List.getElem?_cons_succ] at c0 c1 c2 c3 c4 c5 c6 c7 c8 c9
  generalize psE v = s13 at *
  generalize ps v = q at *
  go_wp2_with fail
  refine (H4.out _).mono ?_
  rintro x w5 ⟨rfl, hb⟩
  have HC5 := hid ((HC4.out.on hb).on (below_one _ (.cells #[.bool q.s, .int .i64 q.p, .bool q.wr, .bool q.ex] 35)))
  have HB5 := hid (below_on (below_on HB4.out hb) (below_one _ (.cells #[.bool q.s, .int .i64 q.p, .bool q.wr, .bool q.ex] 35)))
  have HD5 := hid (Cel.new w5 35 [.bool q.s, .int .i64 q.p, .bool q.wr, .bool q.ex])
  clear hb HC4 HB4
  clear c0 c1 c2 c3 c4 c5 c6 c7 c8 c9
  go_upto_region 16 with fail
  generalize w5.heap.size = g5 at *
  generalize hX5 : w5.alloc _ = X5 at *
  clear hX5
  have c0 := HC5.out.cell 0
  have c1 := HC5.out.cell 1
  have c2 := HC5.out.cell 2
  have c3 := HC5.out.cell 3
  have c4 := HC5.out.cell 4
  have c5 := HC5.out.cell 5
  have c6 := HC5.out.cell 6
  have c7 := HC5.out.cell 7
  have c8 := HC5.out.cell 8
  have c9 := HC5.out.cell 9
  simp only [List.getElem?_cons_zero, List.getElem?_cons_succ] at c0 c1 c2 c3 c4 c5 c6 c7 c8 c9
  go_wp2_with fail
  refine (H5.out _).mono ?_
  rintro x w6 ⟨rfl, hb⟩
  have HD6 := hid ((HD5.out.on hb).on (below_one _ (.cells #[.bool q.s, .int .i64 q.p, .bool q.wr, .bool q.ex] 41)))
  have HB6 := hid (below_on (below_on HB5.out hb) (below_one _ (.cells #[.bool q.s, .int .i64 q.p, .bool q.wr, .bool q.ex] 41)))
  have HE6 := hid (Cel.new w6 41 [.bool q.s, .int .i64 q.p, .bool q.wr, .bool q.ex])
  clear hb HC5 HB5 HD5
  clear c0 c1 c2 c3 c4 c5 c6 c7 c8 c9
  go_upto_region 17 with fail
  generalize w6.heap.size = g6 at *
  generalize hX6 : w6.alloc _ = X6 at *
  clear hX6
  have HE : Hid (CD W X6 g5 g6 q) := hid ⟨HD6.out, HE6.out, HB6.out⟩
  have HE := hid (HE.out.on (Below.refl _ _).drew)
  refine wp_region_held_drew (S := fun x => CD W x g5 g6 q) (by kernel_rfl) HE.out (fun hHeld => ?_)
  refine wpAnyH_take (i := 0) (oi := { dst := some 162, op := Op.move (Operand.tmp 13), type := 22, pos := "law.go:106", after := #[], guard := none }) (v := .int .u32 s11) rfl (by kernel_rfl) (by kernel_rfl) (by kernel_rfl) (fun _ _ _ h => h) (Or.inl ⟨by rfl, by intro w hSw; go_simp⟩) (by assumption) ?_
  simp only [Act.put, List.setIfInBounds_toArray, List.set_cons_zero, List.set_cons_succ]
  refine wpAnyH_take (i := 1) (oi := { dst := some 163, op := Op.move (Operand.tmp 15), type := 22, pos := "law.go:106", after := #[], guard := none }) (v := .int .u32 s11) rfl (by kernel_rfl) (by kernel_rfl) (by kernel_rfl) (fun _ _ _ h => h) (Or.inl ⟨by rfl, by intro w hSw; go_simp⟩) (by assumption) ?_
  simp only [Act.put, List.setIfInBounds_toArray, List.set_cons_zero, List.set_cons_succ]
  refine wpAnyH_take (i := 2) (oi := { dst := some 164, op := Op.binOp BinOp.eql 22 (Operand.tmp 162) (Operand.tmp 163) 22, type := 4, pos := "law.go:106", after := #[{ on := 0, ground := Ground.data }, { on := 1, ground := Ground.data }], guard := none }) (v := .bool true) rfl (by kernel_rfl) (by kernel_rfl) (by kernel_rfl) (fun _ _ _ h => h) (Or.inl ⟨by rfl, by intro w hSw; go_simp⟩) (by assumption) ?_
  simp only [Act.put, List.setIfInBounds_toArray, List.set_cons_zero, List.set_cons_succ]
  refine wpAnyH_take (i := 3) (oi := { dst := some 165, op := Op.move (Operand.tmp 164), type := 4, pos := "law.go:106", after := #[{ on := 2, ground := Ground.data }], guard := none }) (v := .bool true) rfl (by kernel_rfl) (by kernel_rfl) (by kernel_rfl) (fun _ _ _ h => h) (Or.inl ⟨by rfl, by intro w hSw; go_simp⟩) (by assumption) ?_
  simp only [Act.put, List.setIfInBounds_toArray, List.set_cons_zero, List.set_cons_succ]
  refine wpAnyH_take (i := 4) (oi := { dst := some 166, op := Op.move (Operand.tmp 14), type := 23, pos := "law.go:106", after := #[{ on := 3, ground := Ground.guard }], guard := some (3, true) }) (v := .int .i64 s12) rfl (by kernel_rfl) (by kernel_rfl) (by kernel_rfl) (fun _ _ _ h => h) (Or.inl ⟨by rfl, by intro w hSw; go_simp⟩) (by assumption) ?_
  simp only [Act.put, List.setIfInBounds_toArray, List.set_cons_zero, List.set_cons_succ]
  refine wpAnyH_take (i := 5) (oi := { dst := some 167, op := Op.move (Operand.tmp 16), type := 3, pos := "law.go:106", after := #[{ on := 3, ground := Ground.guard }], guard := some (3, true) }) (v := .int .i64 s12) rfl (by kernel_rfl) (by kernel_rfl) (by kernel_rfl) (fun _ _ _ h => h) (Or.inl ⟨by rfl, by intro w hSw; go_simp⟩) (by assumption) ?_
  simp only [Act.put, List.setIfInBounds_toArray, List.set_cons_zero, List.set_cons_succ]
  refine wpAnyH_take (i := 6) (oi := { dst := some 168, op := Op.binOp BinOp.eql 3 (Operand.tmp 166) (Operand.tmp 167) 3, type := 4, pos := "law.go:106", after := #[{ on := 4, ground := Ground.data }, { on := 5, ground := Ground.data }, { on := 3, ground := Ground.guard }], guard := some (3, true) }) (v := .bool true) rfl (by kernel_rfl) (by kernel_rfl) (by kernel_rfl) (fun _ _ _ h => h) (Or.inl ⟨by rfl, by intro w hSw; go_simp⟩) (by assumption) ?_
  simp only [Act.put, List.setIfInBounds_toArray, List.set_cons_zero, List.set_cons_succ]
  refine wpAnyH_take (i := 7) (oi := { dst := some 169, op := Op.pick (Operand.tmp 165) (Operand.tmp 168) (Operand.const (Value.bool false)), type := 4, pos := "law.go:106", after := #[{ on := 3, ground := Ground.data }, { on := 6, ground := Ground.data }], guard := none }) (v := .bool true) rfl (by kernel_rfl) (by kernel_rfl) (by kernel_rfl) (fun _ _ _ h => h) (Or.inl ⟨by rfl, by intro w hSw; go_simp⟩) (by assumption) ?_
  simp only [Act.put, List.setIfInBounds_toArray, List.set_cons_zero, List.set_cons_succ]
  refine wpAnyH_take (i := 8) (oi := { dst := some 170, op := Op.move (Operand.tmp 169), type := 4, pos := "law.go:106", after := #[{ on := 7, ground := Ground.data }, { on := 3, ground := Ground.chain }], guard := none }) (v := .bool true) rfl (by kernel_rfl) (by kernel_rfl) (by kernel_rfl) (fun _ _ _ h => h) (Or.inl ⟨by rfl, by intro w hSw; go_simp⟩) (by assumption) ?_
  simp only [Act.put, List.setIfInBounds_toArray, List.set_cons_zero, List.set_cons_succ]
  refine wpAnyH_take (i := 9) (oi := { dst := some 171, op := Op.load 35 (Operand.tmp 21), type := 35, pos := "law.go:106", after := #[{ on := 8, ground := Ground.guard }], guard := some (8, true) }) (v := .agg #[.bool q.s, .int .i64 q.p, .bool q.wr, .bool q.ex]) rfl (by kernel_rfl) (by kernel_rfl) (by kernel_rfl) (fun _ _ _ h => h) (yieldsIf_load_mid (by rfl) 35 _ rfl g5 0 rfl [.bool q.s, .int .i64 q.p, .bool q.wr, .bool q.ex] _ (fun w hSw => hSw.a.range) under35 rfl size35) (by assumption) ?_
  simp only [Act.put, List.setIfInBounds_toArray, List.set_cons_zero, List.set_cons_succ]
  refine wpAnyH_take (i := 10) (oi := { dst := some 172, op := Op.load 41 (Operand.tmp 22), type := 41, pos := "law.go:106", after := #[{ on := 8, ground := Ground.guard }], guard := some (8, true) }) (v := .agg #[.bool q.s, .int .i64 q.p, .bool q.wr, .bool q.ex]) rfl (by kernel_rfl) (by kernel_rfl) (by kernel_rfl) (fun _ _ _ h => h) (yieldsIf_load_mid (by rfl) 41 _ rfl g6 0 rfl [.bool q.s, .int .i64 q.p, .bool q.wr, .bool q.ex] _ (fun w hSw => hSw.b.range) under41 rfl size41) (by assumption) ?_
  simp only [Act.put, List.setIfInBounds_toArray, List.set_cons_zero, List.set_cons_succ]
  refine wpAnyH_ready (rs := [11]) (by kernel_rfl) (by simp) (AllReadyH.cons (o := { dst := some 173, op := Op.call { callee := Callee.value (Operand.func 21), args := #[Operand.tmp 172], argTypes := #[41] }, type := 35, pos := "law.go:106", after := #[{ on := 10, ground := Ground.data }, { on := 8, ground := Ground.chain }, { on := 8, ground := Ground.guard }], guard := some (8, true) }) rfl (fun KQ hK => ?_) AllReadyH.nil)
  go_simp
  refine (H9.out _).mono ?_
  rintro e w9 ⟨rfl, hb9⟩
  have HF := hid (HE.out.on hb9)
  clear hb9
  go_wp2_with fail
  refine hK.out _ _ HF.out (fun hHeld => ?_)
  clear hK KQ
  try simp only [Act.put, List.setIfInBounds_toArray, List.set_cons_zero, List.set_cons_succ]
  refine wpAnyH_take (i := 12) (oi := { dst := some 174, op := Op.binOp BinOp.eql 35 (Operand.tmp 171) (Operand.tmp 173) 35, type := 4, pos := "law.go:106", after := #[{ on := 9, ground := Ground.data }, { on := 11, ground := Ground.data }, { on := 8, ground := Ground.guard }], guard := some (8, true) }) (v := .bool true) rfl (by kernel_rfl) (by kernel_rfl) (by kernel_rfl) (fun _ _ _ h => h) (Or.inl ⟨by rfl, by intro w hSw; go_simp⟩) (by assumption) ?_
  simp only [Act.put, List.setIfInBounds_toArray, List.set_cons_zero, List.set_cons_succ]
  refine wpAnyH_take (i := 13) (oi := { dst := some 175, op := Op.pick (Operand.tmp 170) (Operand.tmp 174) (Operand.const (Value.bool false)), type := 4, pos := "law.go:106", after := #[{ on := 8, ground := Ground.data }, { on := 12, ground := Ground.data }], guard := none }) (v := .bool true) rfl (by kernel_rfl) (by kernel_rfl) (by kernel_rfl) (fun _ _ _ h => h) (Or.inl ⟨by rfl, by intro w hSw; go_simp⟩) (by assumption) ?_
  simp only [Act.put, List.setIfInBounds_toArray, List.set_cons_zero, List.set_cons_succ]
  refine wpAnyH_take (i := 14) (oi := { dst := some 176, op := Op.move (Operand.tmp 175), type := 4, pos := "law.go:106", after := #[{ on := 13, ground := Ground.data }, { on := 11, ground := Ground.chain }], guard := none }) (v := .bool true) rfl (by kernel_rfl) (by kernel_rfl) (by kernel_rfl) (fun _ _ _ h => h) (Or.inl ⟨by rfl, by intro w hSw; go_simp⟩) (by assumption) ?_
  simp only [Act.put, List.setIfInBounds_toArray, List.set_cons_zero, List.set_cons_succ]
  refine wpAnyH_take (i := 15) (oi := { dst := some 177, op := Op.move (Operand.tmp 18), type := 23, pos := "law.go:106", after := #[{ on := 14, ground := Ground.guard }], guard := some (14, true) }) (v := .int .i64 s13) rfl (by kernel_rfl) (by kernel_rfl) (by kernel_rfl) (fun _ _ _ h => h) (Or.inl ⟨by rfl, by intro w hSw; go_simp⟩) (by assumption) ?_
  simp only [Act.put, List.setIfInBounds_toArray, List.set_cons_zero, List.set_cons_succ]
  refine wpAnyH_take (i := 16) (oi := { dst := some 178, op := Op.move (Operand.tmp 20), type := 3, pos := "law.go:106", after := #[{ on := 14, ground := Ground.guard }], guard := some (14, true) }) (v := .int .i64 s13) rfl (by kernel_rfl) (by kernel_rfl) (by kernel_rfl) (fun _ _ _ h => h) (Or.inl ⟨by rfl, by intro w hSw; go_simp⟩) (by assumption) ?_
  simp only [Act.put, List.setIfInBounds_toArray, List.set_cons_zero, List.set_cons_succ]
  refine wpAnyH_take (i := 17) (oi := { dst := some 179, op := Op.binOp BinOp.eql 3 (Operand.tmp 177) (Operand.tmp 178) 3, type := 4, pos := "law.go:106", after := #[{ on := 15, ground := Ground.data }, { on := 16, ground := Ground.data }, { on := 14, ground := Ground.guard }], guard := some (14, true) }) (v := .bool true) rfl (by kernel_rfl) (by kernel_rfl) (by kernel_rfl) (fun _ _ _ h => h) (Or.inl ⟨by rfl, by intro w hSw; go_simp⟩) (by assumption) ?_
  simp only [Act.put, List.setIfInBounds_toArray, List.set_cons_zero, List.set_cons_succ]
  refine wpAnyH_take (i := 18) (oi := { dst := some 180, op := Op.pick (Operand.tmp 176) (Operand.tmp 179) (Operand.const (Value.bool false)), type := 4, pos := "law.go:106", after := #[{ on := 14, ground := Ground.data }, { on := 17, ground := Ground.data }], guard := none }) (v := .bool true) rfl (by kernel_rfl) (by kernel_rfl) (by kernel_rfl) (fun _ _ _ h => h) (Or.inl ⟨by rfl, by intro w hSw; go_simp⟩) (by assumption) ?_
  simp only [Act.put, List.setIfInBounds_toArray, List.set_cons_zero, List.set_cons_succ]
  refine wpAnyH_ready (rs := [19]) (by kernel_rfl) (by simp) (AllReadyH.cons (o := { dst := some 2, op := Op.assign (Operand.tmp 180), type := 4, pos := "law.go:106", after := #[{ on := 18, ground := Ground.data }, { on := 14, ground := Ground.chain }, { on := 0, ground := Ground.phase }, { on := 1, ground := Ground.phase }, { on := 2, ground := Ground.phase }, { on := 3, ground := Ground.phase }, { on := 4, ground := Ground.phase }, { on := 5, ground := Ground.phase }, { on := 6, ground := Ground.phase }, { on := 7, ground := Ground.phase }, { on := 8, ground := Ground.phase }, { on := 9, ground := Ground.phase }, { on := 10, ground := Ground.phase }, { on := 11, ground := Ground.phase }, { on := 12, ground := Ground.phase }, { on := 13, ground := Ground.phase }, { on := 14, ground := Ground.phase }, { on := 15, ground := Ground.phase }, { on := 16, ground := Ground.phase }, { on := 17, ground := Ground.phase }, { on := 18, ground := Ground.phase }], guard := none }) rfl (fun KQ hK => ?_) AllReadyH.nil)
  go_simp
  refine hK.out _ _ HF.out (fun hHeld => ?_)
  clear hK KQ
  try simp only [Act.put, List.setIfInBounds_toArray, List.set_cons_zero, List.set_cons_succ]
  refine wpAnyH_done (by kernel_rfl) ?_ _
  go_wp2_with fail
  go_returns
  exact ⟨rfl, HF.out.below⟩
end Go.Proofs.Ytmmphmdmocfnpaa
