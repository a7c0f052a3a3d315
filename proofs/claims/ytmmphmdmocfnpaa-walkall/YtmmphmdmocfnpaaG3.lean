/- WalkAll 8. -/
import Derived.Test.YtmmphmdmocfnpaaG2
namespace Go.Proofs.Ytmmphmdmocfnpaa
open Go.RowKit
set_option maxHeartbeats 16000000
set_option maxRecDepth 100000
structure AsksAt (W : World) (ao : Option Addr) (n b off : Nat) (Q : Nat → Int × Int × Int) : Prop where
  ao : 0 < n → ao = some ⟨b, off, none⟩ ∧ b < W.heap.size
  c : ∀ j, j < n → W.cell? ⟨b, off + j * 3, none⟩ = some (.int .i64 (Q j).1) ∧ W.cell? ⟨b, off + j * 3 + 1, none⟩ = some (.int .u32 (Q j).2.1) ∧ W.cell? ⟨b, off + j * 3 + 2, none⟩ = some (.int .i64 (Q j).2.2)
  r : ∀ j, j < n → 0 ≤ (Q j).2.1 ∧ (Q j).2.1 < 4294967296
theorem AsksAt.on {W w : World} {ao : Option Addr} {n b off : Nat} {Q : Nat → Int × Int × Int} (h : AsksAt W ao n b off Q) (hb : Below W.heap.size W w) : AsksAt w ao n b off Q :=
  ⟨fun hn => ⟨(h.ao hn).1, Nat.lt_of_lt_of_le (h.ao hn).2 hb.size⟩, fun j hj => by
    have hlt := (h.ao (by omega)).2
    obtain ⟨h1, h2, h3⟩ := h.c j hj
    exact ⟨(hb.cell (p := ⟨b, off + j * 3, none⟩) hlt).trans h1, (hb.cell (p := ⟨b, off + j * 3 + 1, none⟩) hlt).trans h2, (hb.cell (p := ⟨b, off + j * 3 + 2, none⟩) hlt).trans h3⟩, h.r⟩
theorem same_wc (m : MS) (c : Int) : (m.wc c).same m = true := by unfold MS.same MS.wc; simp
theorem all9_any (W : World) (a b : Int) (ao : Option Addr) (n cp bk off : Nat) (k : Pk) (hk : PkAt W ao n bk off k) (hn : (n : Int) ≤ 4611686018427387904) (hkr : ∀ j, j < n → 0 ≤ k.v j ∧ k.v j < 4294967296) (a0 : -9223372036854775808 ≤ a) (a1 : a ≤ 9223372036854775807) (b0 : -9223372036854775808 ≤ b) (b1 : b ≤ 9223372036854775807)
    (qo : Option Addr) (qn qc qb qf : Nat) (Q : Nat → Int × Int × Int) (hq : AsksAt W qo qn qb qf Q) :
    Calls Try.prog 8 #[.agg #[.int .i64 a, .int .i64 b, .slice ao n cp], .slice qo qn qc] W fun e W' => e = .returned (.bool true) ∧ Below W.heap.size W W' := by
  have HC : Hid (Cel (W.alloc (.cells #[.int .i64 a, .int .i64 b, .slice ao n cp] 71)) W.heap.size 71 [.int .i64 a, .int .i64 b, .slice ao n cp]) := hid (Cel.new W 71 _)
  have HB0 := hid (below_one W (.cells #[.int .i64 a, .int .i64 b, .slice ao n cp] 71))
  have HBt := hid (fun x (hb : Below W.heap.size W x) => built_any x a b ao n cp bk off k (hk.on hb) hn a0 a1 b0 b1)
  have HDt := hid (fun x (hb : Below W.heap.size W x) => document_any x a b ao n cp bk off k (hk.on hb) hn a0 a1 b0 b1)
  have HU : Hid ((MS.new (pgs a) (pgs b)).poked k n).U := hid (poked_U _ k n (MS.U.new _ _) hkr n (Nat.le_refl _))
  have HQ := hid hq
  clear hk hn hkr a0 a1 b0 b1 hq
  generalize (MS.new (pgs a) (pgs b)).poked k n = m0 at *
  have HNu := hid (fun x => numbers_any x)
  have HKn := hid (fun x => known_any x)
  unfold ptr at *
  go_enter Try.func8, Try.ntmps8
  go_upto_region 1 with fail
  generalize hX : W.alloc _ = X at *
  have HX := hid hX.symm
  clear hX
  have y0 := HC.out.cell 0
  have y1 := HC.out.cell 1
  have y2 := HC.out.cell 2
  simp only [List.getElem?_cons_zero, List.getElem?_cons_succ] at y0 y1 y2
  go_upto_region 2 with (go_at_call 28; refine (HBt.out _ HB0.out).mono ?_; rintro e w1 ⟨fa, rfl, hm1⟩; have HM1 := hid hm1; have HB1 := hid (below_on HB0.out hm1.below); have HC1 := hid (HC.out.on hm1.below); clear hm1 y0 y1 y2; have y0 := HC1.out.cell 0; have y1 := HC1.out.cell 1; have y2 := HC1.out.cell 2; simp only [List.getElem?_cons_zero, List.getElem?_cons_succ] at y0 y1 y2)
  go_upto_region 3 with (go_at_call 40; refine (HDt.out _ HB1.out).mono ?_; rintro e w3 ⟨r, rfl, hm3⟩; have B3 := hid (TB.first HX.out HM1.out hm3); clear hm3)
  clear HC HC1 HB0 HB1 HDt HM1 HX y0 y1 y2
  generalize W.heap.size = g2 at B3 ⊢
  go_upto_region 5 with (first | (go_at_call 17; refine (HNu.out _).mono ?_; rintro e w4 ⟨rfl, hw⟩; have B4 := hid (hw ▸ B3.out : TB W w4 fa r m0 m0 _); clear hw B3) | (go_at_call 11; refine (HKn.out _).mono ?_; rintro e w5 ⟨rfl, hb⟩; have B5 := hid (B4.out.on hb); clear hb B4) | (go_at_call 30; refine (meter_any _ fa m0 B5.out.a).mono ?_; rintro e w6 ⟨rfl, hw⟩; have B6 := hid (hw ▸ B5.out : TB W w6 fa r m0 m0 _); clear hw B5) | (go_at_call 41; refine (rmeter_any _ r m0 B6.out.d).mono ?_; rintro e w7 ⟨rfl, hw⟩; have B7 := hid (hw ▸ B6.out : TB W w7 fa r m0 m0 _); clear hw B6))
  clear HNu HKn
  have B8 : Hid (TB W w7 fa r (m0.wc m0.c) (m0.wc m0.c) [(g2, 71, [.int .i64 a, .int .i64 b, .slice ao n cp])]) := hid B7.out
  clear B7
  generalize m0.c = c0 at *
  go_wp2_with fail
  go_loopw [7] (fun i wr => ∃ (j : Nat) (c : Int), j ≤ min qn 24 ∧ i = .int .i64 (j : Int) ∧ Hid (TB W wr fa r (m0.wc c) (m0.wc c) [(g2, 71, [.int .i64 a, .int .i64 b, .slice ao n cp])])) (fun i _ => min qn 24 - (intOf i).toNat)
  case atStart => exact ⟨0, c0, Nat.zero_le _, rfl, B8⟩
  case round =>
    obtain ⟨j, c, hj, rfl, HT⟩ := hrel
    clear B8
    by_cases hlt : j < min qn 24
    · have q1 : (j : Int) < (qn : Int) := by omega
      have q2 : (j : Int) < 24 := by omega
      have HJ : Hid (j < min qn 24) := hid hlt
      obtain ⟨hqo, hqb⟩ := HQ.out.ao (by omega)
      subst hqo
      have HKx := hid (HQ.out.on HT.out.below)
      have HVA := hid (HQ.out.r j (by omega))
      obtain ⟨k0, k1, k2⟩ := HKx.out.c j (by omega)
      clear hlt hj HKx hqb
      generalize Q j = q at *
      obtain ⟨l, va, ac⟩ := q
      simp only at k0 k1 k2 HVA
      have A1 := hid (HT.out.box 73 [.int .i64 l, .int .u32 va, .int .i64 ac])
      clear HT
      go_upto_region 9 with fail
      generalize hX6 : World.alloc _ _ = x6 at *
      clear hX6 k0 k1 k2
      generalize wr.heap.size = g8 at *
      have z0 := (A1.out.get 0 rfl).cell 0
      have z1 := (A1.out.get 0 rfl).cell 1
      simp only [List.getElem?_cons_zero, List.getElem?_cons_succ] at z0 z1
      have HW1 := hid (walk_any x6 fa _ A1.out.a (HU.out.wc c) l va HVA.out.1 HVA.out.2)
      have HW2 := hid (fun x ma K (h : TB W x fa r ma (m0.wc c) K) => rwalk_any x r _ h.d (HU.out.wc c) l va HVA.out.1 HVA.out.2)
      obtain ⟨c1, hc1⟩ := MS.wkS_wc (m0.wc c) l va
      rw [hc1, MS.wc_wc] at HW1 HW2
      clear hc1
      generalize (m0.wc c).wkE l va = e1 at *
      generalize (m0.wc c).wk l va = q at *
      obtain ⟨qs, qp, qw, qx⟩ := q
      unfold Mp.v ptr at HW1 HW2
      simp only at HW1 HW2
      go_upto_region 10 with (go_at_call 31; refine HW1.out.mono ?_; rintro e w1 ⟨rfl, hs1⟩; have A2 := hid ((A1.out.stepA hs1).box 35 [.bool qs, .int .i64 qp, .bool qw, .bool qx]); clear hs1 A1 z0 z1)
      generalize hX7 : World.alloc _ _ = x7 at *
      clear hX7 HW1
      generalize w1.heap.size = g9 at *
      have z0 := (A2.out.get 1 rfl).cell 0
      have z1 := (A2.out.get 1 rfl).cell 1
      simp only [List.getElem?_cons_zero, List.getElem?_cons_succ] at z0 z1
      have HW3 := hid (HW2.out _ _ _ A2.out)
      clear HW2
      go_upto_region 11 with (go_at_call 42; refine HW3.out.mono ?_; rintro e w2 ⟨rfl, hs1⟩; have A3 := hid ((A2.out.stepR hs1).box 41 [.bool qs, .int .i64 qp, .bool qw, .bool qx]); clear hs1 A2 z0 z1)
      generalize hX8 : World.alloc _ _ = x8 at *
      clear hX8 HW3
      generalize w2.heap.size = g11 at *
      have A4 := hid (A3.out.on (Below.refl _ _).drew)
      clear A3
      have HOw := hid (fun x => own_any x ⟨qs, qp, qw, qx⟩)
      unfold Mp.v at HOw
      refine wp_region_held_drew (S := fun x => Cel x g9 35 [.bool qs, .int .i64 qp, .bool qw, .bool qx] ∧ Cel x g11 41 [.bool qs, .int .i64 qp, .bool qw, .bool qx]) (by kernel_rfl) ⟨A4.out.get 1 rfl, A4.out.get 0 rfl⟩ (fun hHeld => ?_)
      refine wpAnyH_take (i := 0) (oi := { dst := some 74, op := Op.load 35 (Operand.tmp 9), type := 35, pos := "law.go:127", after := #[], guard := none }) (v := .agg #[.bool qs, .int .i64 qp, .bool qw, .bool qx]) rfl (by kernel_rfl) (by kernel_rfl) (by kernel_rfl) (fun _ _ _ h => h) (Or.inl ⟨by rfl, by intro w hSw; have h0 := Cel.cell hSw.1 0; have h1 := Cel.cell hSw.1 1; have h2 := Cel.cell hSw.1 2; have h3 := Cel.cell hSw.1 3; simp only [List.getElem?_cons_zero, List.getElem?_cons_succ] at h0 h1 h2 h3; go_simp⟩) (by assumption) ?_
      simp only [Act.put, List.setIfInBounds_toArray, List.set_cons_zero, List.set_cons_succ]
      refine wpAnyH_take (i := 1) (oi := { dst := some 75, op := Op.load 41 (Operand.tmp 11), type := 41, pos := "law.go:127", after := #[], guard := none }) (v := .agg #[.bool qs, .int .i64 qp, .bool qw, .bool qx]) rfl (by kernel_rfl) (by kernel_rfl) (by kernel_rfl) (fun _ _ _ h => h) (Or.inl ⟨by rfl, by intro w hSw; have h0 := Cel.cell hSw.2 0; have h1 := Cel.cell hSw.2 1; have h2 := Cel.cell hSw.2 2; have h3 := Cel.cell hSw.2 3; simp only [List.getElem?_cons_zero, List.getElem?_cons_succ] at h0 h1 h2 h3; go_simp⟩) (by assumption) ?_
      simp only [Act.put, List.setIfInBounds_toArray, List.set_cons_zero, List.set_cons_succ]
      refine wpAnyH_ready (rs := [2]) (by kernel_rfl) (by simp) (AllReadyH.cons (o := { dst := some 76, op := Op.call { callee := Callee.value (Operand.func 21), args := #[Operand.tmp 75], argTypes := #[41] }, type := 35, pos := "law.go:127", after := #[{ on := 1, ground := Ground.data }], guard := none }) rfl (fun KQ hK => ?_) AllReadyH.nil)
      go_simp
      refine (HOw.out _).mono ?_
      rintro e w3 ⟨rfl, hb⟩
      have A5 := hid (A4.out.on hb)
      clear hb
      go_wp2_with fail
      refine hK.out _ _ ⟨A5.out.get 1 rfl, A5.out.get 0 rfl⟩ (fun hHeld => ?_)
      clear hK KQ
      try simp only [Act.put, List.setIfInBounds_toArray, List.set_cons_zero, List.set_cons_succ]
      refine wpAnyH_take (i := 3) (oi := { dst := some 77, op := Op.binOp BinOp.neq 35 (Operand.tmp 74) (Operand.tmp 76) 35, type := 4, pos := "law.go:127", after := #[{ on := 0, ground := Ground.data }, { on := 2, ground := Ground.data }], guard := none }) (v := .bool false) rfl (by kernel_rfl) (by kernel_rfl) (by kernel_rfl) (fun _ _ _ h => h) (Or.inl ⟨by rfl, by intro w hSw; go_simp⟩) (by assumption) ?_
      simp only [Act.put, List.setIfInBounds_toArray, List.set_cons_zero, List.set_cons_succ]
      refine wpAnyH_take (i := 4) (oi := { dst := some 78, op := Op.move (Operand.tmp 77), type := 4, pos := "law.go:127", after := #[{ on := 3, ground := Ground.data }, { on := 2, ground := Ground.chain }], guard := none }) (v := .bool false) rfl (by kernel_rfl) (by kernel_rfl) (by kernel_rfl) (fun _ _ _ h => h) (Or.inl ⟨by rfl, by intro w hSw; go_simp⟩) (by assumption) ?_
      simp only [Act.put, List.setIfInBounds_toArray, List.set_cons_zero, List.set_cons_succ]
      refine wpAnyH_take (i := 5) (oi := { dst := some 79, op := Op.move (Operand.tmp 10), type := 23, pos := "law.go:127", after := #[{ on := 4, ground := Ground.guard }], guard := some (4, false) }) (v := .int .i64 e1) rfl (by kernel_rfl) (by kernel_rfl) (by kernel_rfl) (fun _ _ _ h => h) (Or.inl ⟨by rfl, by intro w hSw; go_simp⟩) (by assumption) ?_
      simp only [Act.put, List.setIfInBounds_toArray, List.set_cons_zero, List.set_cons_succ]
      refine wpAnyH_take (i := 6) (oi := { dst := some 80, op := Op.move (Operand.tmp 12), type := 3, pos := "law.go:127", after := #[{ on := 4, ground := Ground.guard }], guard := some (4, false) }) (v := .int .i64 e1) rfl (by kernel_rfl) (by kernel_rfl) (by kernel_rfl) (fun _ _ _ h => h) (Or.inl ⟨by rfl, by intro w hSw; go_simp⟩) (by assumption) ?_
      simp only [Act.put, List.setIfInBounds_toArray, List.set_cons_zero, List.set_cons_succ]
      refine wpAnyH_take (i := 7) (oi := { dst := some 81, op := Op.binOp BinOp.neq 3 (Operand.tmp 79) (Operand.tmp 80) 3, type := 4, pos := "law.go:127", after := #[{ on := 5, ground := Ground.data }, { on := 6, ground := Ground.data }, { on := 4, ground := Ground.guard }], guard := some (4, false) }) (v := .bool false) rfl (by kernel_rfl) (by kernel_rfl) (by kernel_rfl) (fun _ _ _ h => h) (Or.inl ⟨by rfl, by intro w hSw; go_simp⟩) (by assumption) ?_
      simp only [Act.put, List.setIfInBounds_toArray, List.set_cons_zero, List.set_cons_succ]
      refine wpAnyH_take (i := 8) (oi := { dst := some 82, op := Op.pick (Operand.tmp 78) (Operand.const (Value.bool true)) (Operand.tmp 81), type := 4, pos := "law.go:127", after := #[{ on := 4, ground := Ground.data }, { on := 7, ground := Ground.data }], guard := none }) (v := .bool false) rfl (by kernel_rfl) (by kernel_rfl) (by kernel_rfl) (fun _ _ _ h => h) (Or.inl ⟨by rfl, by intro w hSw; go_simp⟩) (by assumption) ?_
      simp only [Act.put, List.setIfInBounds_toArray, List.set_cons_zero, List.set_cons_succ]
      refine wpAnyH_take (i := 9) (oi := { dst := some 83, op := Op.move (Operand.tmp 82), type := 4, pos := "law.go:127", after := #[{ on := 8, ground := Ground.data }, { on := 4, ground := Ground.chain }], guard := none }) (v := .bool false) rfl (by kernel_rfl) (by kernel_rfl) (by kernel_rfl) (fun _ _ _ h => h) (Or.inl ⟨by rfl, by intro w hSw; go_simp⟩) (by assumption) ?_
      simp only [Act.put, List.setIfInBounds_toArray, List.set_cons_zero, List.set_cons_succ]
      refine wpAnyH_take (i := 10) (oi := { dst := some 84, op := Op.move (Operand.tmp 5), type := 57, pos := "law.go:127", after := #[{ on := 9, ground := Ground.guard }], guard := some (9, false) }) (v := .pointer (some ⟨fa.gm, 0, none⟩)) rfl (by kernel_rfl) (by kernel_rfl) (by kernel_rfl) (fun _ _ _ h => h) (Or.inl ⟨by rfl, by intro w hSw; go_simp⟩) (by assumption) ?_
      simp only [Act.put, List.setIfInBounds_toArray, List.set_cons_zero, List.set_cons_succ]
      refine wpAnyH_take (i := 12) (oi := { dst := some 86, op := Op.move (Operand.tmp 6), type := 96, pos := "law.go:127", after := #[{ on := 9, ground := Ground.guard }], guard := some (9, false) }) (v := .pointer (some ⟨r.g, 0, none⟩)) rfl (by kernel_rfl) (by kernel_rfl) (by kernel_rfl) (fun _ _ _ h => h) (Or.inl ⟨by rfl, by intro w hSw; go_simp⟩) (by assumption) ?_
      simp only [Act.put, List.setIfInBounds_toArray, List.set_cons_zero, List.set_cons_succ]
      refine wpAnyH_ready (rs := [11]) (by kernel_rfl) (by simp) (AllReadyH.cons (o := { dst := some 85, op := Op.call { callee := Callee.value (Operand.func 30), args := #[Operand.tmp 84], argTypes := #[57] }, type := 2, pos := "law.go:127", after := #[{ on := 10, ground := Ground.data }, { on := 9, ground := Ground.chain }, { on := 9, ground := Ground.guard }], guard := some (9, false) }) rfl (fun KQ hK => ?_) AllReadyH.nil)
      go_simp
      refine (meter_any _ fa _ A5.out.a).mono ?_
      rintro e w4 ⟨rfl, hw⟩
      have A6 := hid (hw ▸ A5.out : TB W w4 fa r (m0.wc c1) (m0.wc c1) _)
      clear hw
      go_wp2_with fail
      refine hK.out _ _ ⟨A6.out.get 1 rfl, A6.out.get 0 rfl⟩ (fun hHeld => ?_)
      clear hK KQ
      try simp only [Act.put, List.setIfInBounds_toArray, List.set_cons_zero, List.set_cons_succ]
      refine wpAnyH_ready (rs := [13]) (by kernel_rfl) (by simp) (AllReadyH.cons (o := { dst := some 87, op := Op.call { callee := Callee.value (Operand.func 41), args := #[Operand.tmp 86], argTypes := #[96] }, type := 2, pos := "law.go:127", after := #[{ on := 12, ground := Ground.data }, { on := 11, ground := Ground.chain }, { on := 9, ground := Ground.guard }], guard := some (9, false) }) rfl (fun KQ hK => ?_) AllReadyH.nil)
      go_simp
      refine (rmeter_any _ r _ A6.out.d).mono ?_
      rintro e w5 ⟨rfl, hw⟩
      have A7 := hid (hw ▸ A6.out : TB W w5 fa r (m0.wc c1) (m0.wc c1) _)
      clear hw
      go_wp2_with fail
      refine hK.out _ _ ⟨A7.out.get 1 rfl, A7.out.get 0 rfl⟩ (fun hHeld => ?_)
      clear hK KQ
      try simp only [Act.put, List.setIfInBounds_toArray, List.set_cons_zero, List.set_cons_succ]
      refine wpAnyH_take (i := 14) (oi := { dst := some 88, op := Op.binOp BinOp.neq 2 (Operand.tmp 85) (Operand.tmp 87) 2, type := 4, pos := "law.go:127", after := #[{ on := 11, ground := Ground.data }, { on := 13, ground := Ground.data }, { on := 9, ground := Ground.guard }], guard := some (9, false) }) (v := .bool false) rfl (by kernel_rfl) (by kernel_rfl) (by kernel_rfl) (fun _ _ _ h => h) (Or.inl ⟨by rfl, by intro w hSw; go_simp⟩) (by assumption) ?_
      simp only [Act.put, List.setIfInBounds_toArray, List.set_cons_zero, List.set_cons_succ]
      refine wpAnyH_take (i := 15) (oi := { dst := some 89, op := Op.pick (Operand.tmp 83) (Operand.const (Value.bool true)) (Operand.tmp 88), type := 4, pos := "law.go:127", after := #[{ on := 9, ground := Ground.data }, { on := 14, ground := Ground.data }], guard := none }) (v := .bool false) rfl (by kernel_rfl) (by kernel_rfl) (by kernel_rfl) (fun _ _ _ h => h) (Or.inl ⟨by rfl, by intro w hSw; go_simp⟩) (by assumption) ?_
      simp only [Act.put, List.setIfInBounds_toArray, List.set_cons_zero, List.set_cons_succ]
      refine wpAnyH_done (by kernel_rfl) ?_ _
      clear A4 A5 A6 HOw
      have A8 := hid A7.out.tail.tail
      clear A7
      have z0 := (A8.out.get 0 rfl).cell 0
      have z1 := (A8.out.get 0 rfl).cell 1
      have z2 := (A8.out.get 0 rfl).cell 2
      simp only [List.getElem?_cons_zero, List.getElem?_cons_succ] at z0 z1 z2
      have HT1 := hid (translate_any w5 fa _ A8.out.a (HU.out.wc c1) l va ac HVA.out.1 HVA.out.2)
      have HT2 := hid (fun x ma K (h : TB W x fa r ma (m0.wc c1) K) => rtranslate_any x r _ h.d (HU.out.wc c1) l va ac HVA.out.1 HVA.out.2)
      obtain ⟨c2, hc2⟩ := MS.wkS_wc (m0.wc c1) l va
      rw [hc2, MS.wc_wc] at HT1 HT2
      clear hc2
      generalize (m0.wc c1).trE l va ac = te at *
      generalize (m0.wc c1).trO l va ac = tof at *
      generalize (m0.wc c1).trP l va ac = tp at *
      generalize (m0.wc c1).trS l va ac = ts at *
      unfold fr ptr at HT1 HT2
      go_upto_region 14 with (go_at_call 32; refine HT1.out.mono ?_; rintro e w6 ⟨rfl, hs1⟩; have A9 := hid ((A8.out.stepA hs1).box 33 [.bool ts, .int .i64 tp]); clear hs1 A8 z0 z1 z2)
      generalize hX9 : World.alloc _ _ = x9 at *
      clear hX9 HT1
      generalize w6.heap.size = g13 at *
      have z0 := (A9.out.get 1 rfl).cell 0
      have z1 := (A9.out.get 1 rfl).cell 1
      have z2 := (A9.out.get 1 rfl).cell 2
      simp only [List.getElem?_cons_zero, List.getElem?_cons_succ] at z0 z1 z2
      have HT3 := hid (HT2.out _ _ _ A9.out)
      clear HT2
      go_upto_region 15 with (go_at_call 43; refine HT3.out.mono ?_; rintro e w7 ⟨rfl, hs1⟩; have AA := hid ((A9.out.stepR hs1).box 99 [.bool ts, .int .i64 tp]); clear hs1 A9 z0 z1 z2)
      generalize hXa : World.alloc _ _ = xa at *
      clear hXa HT3
      generalize w7.heap.size = g15 at *
      have z0 := (AA.out.get 1 rfl).cell 0
      have z1 := (AA.out.get 1 rfl).cell 1
      have z2 := (AA.out.get 0 rfl).cell 0
      have z3 := (AA.out.get 0 rfl).cell 1
      simp only [List.getElem?_cons_zero, List.getElem?_cons_succ] at z0 z1 z2 z3
      go_upto_region 17 with (first | (go_at_call 30; refine (meter_any _ fa _ AA.out.a).mono ?_; rintro e w8 ⟨rfl, hw⟩; have AB := hid (hw ▸ AA.out : TB W w8 fa r (m0.wc c2) (m0.wc c2) _); clear hw AA z0 z1 z2 z3) | (go_at_call 41; refine (rmeter_any _ r _ AB.out.d).mono ?_; rintro e w9 ⟨rfl, hw⟩; have AC := hid (hw ▸ AB.out.tail.tail : TB W w9 fa r (m0.wc c2) (m0.wc c2) _); clear hw AB))
      by_cases hj5 : 5 < (j : Int)
      · go_wp2_with fail
        go_roundw
        case measure => have := HJ.out; simp [intOf] <;> omega
        case rel => exact ⟨j + 1, c2, by have := HJ.out; omega, by simp, hid AC.out.tail⟩
      · have hj6 : (j : Int) ≤ 5 := by omega
        clear hj5
        have z0 := (AC.out.get 0 rfl).cell 0
        simp only [List.getElem?_cons_zero] at z0
        have HL1 := hid (list_any w9 fa _ AC.out.a (HU.out.wc c2) l)
        have HL2 := hid (fun x ma K (h : TB W x fa r ma (m0.wc c2) K) => rlist_any x r _ h.d (HU.out.wc c2) l)
        have HLn : Hid (((m0.wc c2).lst l 256).length ≤ 262144) := hid (lst_len _ l 256)
        rw [MS.wc_wc] at HL1 HL2
        generalize (m0.wc c2).cn1 l (m0.wc c2).c 256 = c3 at *
        generalize (m0.wc c2).lst l 256 = A at *
        generalize ((m0.wc c2).at true l).isSome = hs at *
        unfold ptr at HL1 HL2
        go_wp2_with fail
        refine HL1.out.mono ?_
        clear HL1
        rintro e w10 (⟨hs1, rfl, hr1⟩ | ⟨hs1, v1, rfl, ho1, hr1⟩)
        · subst hs1
          have AD := hid (AC.out.stepA hr1)
          clear hr1 AC z0
          have z0 := (AD.out.get 0 rfl).cell 0
          simp only [List.getElem?_cons_zero] at z0
          have HL3 := hid (HL2.out _ _ _ AD.out)
          clear HL2
          go_wp2_with fail
          refine HL3.out.mono ?_
          clear HL3
          rintro e w11 (⟨hs2, rfl, hr2⟩ | ⟨hs2, _⟩)
          · have AE := hid (AD.out.stepR hr2)
            clear hr2 AD z0 hs2
            go_wp2_with (first | (go_at_call 30; refine (meter_any _ fa _ AE.out.a).mono ?_; rintro e w12 ⟨rfl, hw⟩; have AF := hid (hw ▸ AE.out : TB W w12 fa r (m0.wc c2) (m0.wc c2) _); clear hw AE) | (go_at_call 41; refine (rmeter_any _ r _ AF.out.d).mono ?_; rintro e w13 ⟨rfl, hw⟩; have AG := hid (hw ▸ AF.out : TB W w13 fa r (m0.wc c2) (m0.wc c2) _); clear hw AF))
            go_loopw [19] (fun i wr => i = .int .i64 0 ∧ Hid (TB W wr fa r (m0.wc c2) (m0.wc c2) [(g8, 73, [.int .i64 l, .int .u32 va, .int .i64 ac]), (g2, 71, [.int .i64 a, .int .i64 b, .slice ao n cp])])) (fun _ _ => 0)
            case atStart => exact ⟨rfl, AG⟩
            case round =>
              obtain ⟨rfl, AH⟩ := hrel
              go_wp2_with fail
              go_roundw
              case measure => have := HJ.out; simp [intOf] <;> omega
              case rel => exact ⟨j + 1, c2, by have := HJ.out; omega, by simp, hid AH.out.tail⟩
          · cases hs2
        · subst hs1
          have HOwn : Hid (∀ x, ButL r.all w10 x → x.ownsRow w9.heap.size 67 5 v1 A.length (flat A)) := hid (fun x hb => own_but ho1 hb AC.out.d.lt)
          have AD := hid (AC.out.stepA hr1)
          clear hr1 AC z0 ho1
          have z0 := (AD.out.get 0 rfl).cell 0
          simp only [List.getElem?_cons_zero] at z0
          have HL3 := hid (HL2.out _ _ _ AD.out)
          clear HL2
          go_wp2_with fail
          refine HL3.out.mono ?_
          clear HL3
          rintro e w11 (⟨hs2, _⟩ | ⟨hs2, v2, rfl, ho2, hr2⟩)
          · cases hs2
          · obtain ⟨ao1, cp1, rfl, hrow1⟩ := RowQ.of (HOwn.out _ hr2.but)
            obtain ⟨ao2, cp2, rfl, hrow2⟩ := RowQ.of ho2
            have AE := hid (And.intro (AD.out.stepR hr2) (And.intro hrow1 hrow2))
            clear hr2 AD z0 hs2 hrow1 hrow2 ho2 HOwn
            obtain ⟨na, hna⟩ : ∃ na, A.length = na := ⟨_, rfl⟩
            have HNA := hid hna
            have hna2 : (na : Int) ≤ 262144 := by have := HLn.out; omega
            rw [hna]
            clear hna HLn
            go_wp2_with (first | (go_at_call 30; refine (meter_any _ fa _ AE.out.1.a).mono ?_; rintro e w12 ⟨rfl, hw⟩; have AF := hid (hw ▸ AE.out : TB W w12 fa r (m0.wc c3) (m0.wc c3) _ ∧ RowQ w12 ao1 A ∧ RowQ w12 ao2 A); clear hw AE) | (go_at_call 41; refine (rmeter_any _ r _ AF.out.1.d).mono ?_; rintro e w13 ⟨rfl, hw⟩; have AG := hid (hw ▸ AF.out : TB W w13 fa r (m0.wc c3) (m0.wc c3) _ ∧ RowQ w13 ao1 A ∧ RowQ w13 ao2 A); clear hw AF))
            go_loopw [19] (fun i wr => ∃ t : Nat, t ≤ na ∧ i = .int .i64 (t : Int) ∧ Hid (TB W wr fa r (m0.wc c3) (m0.wc c3) [(g8, 73, [.int .i64 l, .int .u32 va, .int .i64 ac]), (g2, 71, [.int .i64 a, .int .i64 b, .slice ao n cp])] ∧ RowQ wr ao1 A ∧ RowQ wr ao2 A)) (fun i _ => na - (intOf i).toNat)
            case atStart => exact ⟨0, Nat.zero_le _, rfl, AG⟩
            case round =>
              obtain ⟨t, ht, rfl, AH⟩ := hrel
              clear AG
              by_cases htl : t < na
              · have t1 : (t : Int) < (na : Int) := by omega
                obtain ⟨y, hy⟩ : ∃ y, A[t]? = some y := ⟨A[t]'(by rw [HNA.out]; exact htl), List.getElem?_eq_getElem _⟩
                obtain ⟨h1, e1', _, _⟩ := AH.out.2.1 t y hy
                obtain ⟨h2, e2', _, _⟩ := AH.out.2.2 t y hy
                subst e1' e2'
                have HY := hid hy
                clear hy
                go_upto_region 25 with fail
                have AI := hid (And.intro (AH.out.1.on (Below.refl _ _).drew) (And.intro (AH.out.2.1.on (Below.refl _ _).drew) (AH.out.2.2.on (Below.refl _ _).drew)))
                clear AH
                obtain ⟨yv, ys, yp, yw, yx⟩ := y
                have HOw := hid (fun x => own_any x ⟨ys, yp, yw, yx⟩)
                unfold Mp.v at HOw
                have HRow1 : Hid (∀ x, RowQ x (some ⟨h1, 0, none⟩) A → x.cell? ⟨h1, t * 5, none⟩ = some (.int .u32 yv) ∧ x.cell? ⟨h1, t * 5 + 1, none⟩ = some (.bool ys) ∧ x.cell? ⟨h1, t * 5 + 2, none⟩ = some (.int .i64 yp) ∧ x.cell? ⟨h1, t * 5 + 3, none⟩ = some (.bool yw) ∧ x.cell? ⟨h1, t * 5 + 4, none⟩ = some (.bool yx)) := hid (fun x hx => by
                  obtain ⟨g, hg, _, h⟩ := hx t _ HY.out
                  obtain rfl : h1 = g := by simpa using hg
                  exact h)
                have HRow2 : Hid (∀ x, RowQ x (some ⟨h2, 0, none⟩) A → x.cell? ⟨h2, t * 5, none⟩ = some (.int .u32 yv) ∧ x.cell? ⟨h2, t * 5 + 1, none⟩ = some (.bool ys) ∧ x.cell? ⟨h2, t * 5 + 2, none⟩ = some (.int .i64 yp) ∧ x.cell? ⟨h2, t * 5 + 3, none⟩ = some (.bool yw) ∧ x.cell? ⟨h2, t * 5 + 4, none⟩ = some (.bool yx)) := hid (fun x hx => by
                  obtain ⟨g, hg, _, h⟩ := hx t _ HY.out
                  obtain rfl : h2 = g := by simpa using hg
                  exact h)
                refine wp_region_held_drew (S := fun x => (x.cell? ⟨h1, t * 5, none⟩ = some (.int .u32 yv) ∧ x.cell? ⟨h1, t * 5 + 1, none⟩ = some (.bool ys) ∧ x.cell? ⟨h1, t * 5 + 2, none⟩ = some (.int .i64 yp) ∧ x.cell? ⟨h1, t * 5 + 3, none⟩ = some (.bool yw) ∧ x.cell? ⟨h1, t * 5 + 4, none⟩ = some (.bool yx)) ∧ (x.cell? ⟨h2, t * 5, none⟩ = some (.int .u32 yv) ∧ x.cell? ⟨h2, t * 5 + 1, none⟩ = some (.bool ys) ∧ x.cell? ⟨h2, t * 5 + 2, none⟩ = some (.int .i64 yp) ∧ x.cell? ⟨h2, t * 5 + 3, none⟩ = some (.bool yw) ∧ x.cell? ⟨h2, t * 5 + 4, none⟩ = some (.bool yx))) (by kernel_rfl) ⟨HRow1.out _ AI.out.2.1, HRow2.out _ AI.out.2.2⟩ (fun hHeld => ?_)
                refine wpAnyH_take (i := 0) (oi := { dst := some 182, op := Op.move (Operand.tmp 17), type := 60, pos := "law.go:144", after := #[], guard := none }) (v := .slice (some ⟨h1, 0, none⟩) na cp1) rfl (by kernel_rfl) (by kernel_rfl) (by kernel_rfl) (fun _ _ _ h => h) (Or.inl ⟨by rfl, by intro w hSw; go_simp⟩) (by assumption) ?_
                simp only [Act.put, List.setIfInBounds_toArray, List.set_cons_zero, List.set_cons_succ]
                refine wpAnyH_take (i := 1) (oi := { dst := some 183, op := Op.move (Operand.tmp 19), type := 3, pos := "law.go:144", after := #[], guard := none }) (v := .int .i64 (t : Int)) rfl (by kernel_rfl) (by kernel_rfl) (by kernel_rfl) (fun _ _ _ h => h) (Or.inl ⟨by rfl, by intro w hSw; go_simp⟩) (by assumption) ?_
                simp only [Act.put, List.setIfInBounds_toArray, List.set_cons_zero, List.set_cons_succ]
                refine wpAnyH_take (i := 2) (oi := { dst := some 184, op := Op.indexAddr 60 (Operand.tmp 182) (Operand.tmp 183), type := 0, pos := "law.go:144", after := #[{ on := 0, ground := Ground.data }, { on := 1, ground := Ground.data }], guard := none }) (v := .pointer (some ⟨h1, t * 5, none⟩)) rfl (by kernel_rfl) (by kernel_rfl) (by kernel_rfl) (fun _ _ _ h => h) (Or.inl ⟨by rfl, by intro w hSw; go_simp⟩) (by assumption) ?_
                simp only [Act.put, List.setIfInBounds_toArray, List.set_cons_zero, List.set_cons_succ]
                refine wpAnyH_take (i := 3) (oi := { dst := some 185, op := Op.fieldAddr 67 (Operand.tmp 184) 0, type := 0, pos := "law.go:144", after := #[{ on := 2, ground := Ground.data }], guard := none }) (v := .pointer (some ⟨h1, t * 5, none⟩)) rfl (by kernel_rfl) (by kernel_rfl) (by kernel_rfl) (fun _ _ _ h => h) (Or.inl ⟨by rfl, by intro w hSw; go_simp⟩) (by assumption) ?_
                simp only [Act.put, List.setIfInBounds_toArray, List.set_cons_zero, List.set_cons_succ]
                refine wpAnyH_take (i := 4) (oi := { dst := some 186, op := Op.load 22 (Operand.tmp 185), type := 22, pos := "law.go:144", after := #[{ on := 3, ground := Ground.data }], guard := none }) (v := .int .u32 yv) rfl (by kernel_rfl) (by kernel_rfl) (by kernel_rfl) (fun _ _ _ h => h) (Or.inl ⟨by rfl, by intro w hSw; obtain ⟨d0, d1, d2, d3, d4⟩ := hSw.1; go_simp⟩) (by assumption) ?_
                simp only [Act.put, List.setIfInBounds_toArray, List.set_cons_zero, List.set_cons_succ]
                refine wpAnyH_take (i := 5) (oi := { dst := some 187, op := Op.move (Operand.tmp 18), type := 102, pos := "law.go:144", after := #[], guard := none }) (v := .slice (some ⟨h2, 0, none⟩) na cp2) rfl (by kernel_rfl) (by kernel_rfl) (by kernel_rfl) (fun _ _ _ h => h) (Or.inl ⟨by rfl, by intro w hSw; go_simp⟩) (by assumption) ?_
                simp only [Act.put, List.setIfInBounds_toArray, List.set_cons_zero, List.set_cons_succ]
                refine wpAnyH_take (i := 6) (oi := { dst := some 188, op := Op.move (Operand.tmp 19), type := 3, pos := "law.go:144", after := #[], guard := none }) (v := .int .i64 (t : Int)) rfl (by kernel_rfl) (by kernel_rfl) (by kernel_rfl) (fun _ _ _ h => h) (Or.inl ⟨by rfl, by intro w hSw; go_simp⟩) (by assumption) ?_
                simp only [Act.put, List.setIfInBounds_toArray, List.set_cons_zero, List.set_cons_succ]
                refine wpAnyH_take (i := 7) (oi := { dst := some 189, op := Op.indexAddr 102 (Operand.tmp 187) (Operand.tmp 188), type := 0, pos := "law.go:144", after := #[{ on := 5, ground := Ground.data }, { on := 6, ground := Ground.data }], guard := none }) (v := .pointer (some ⟨h2, t * 5, none⟩)) rfl (by kernel_rfl) (by kernel_rfl) (by kernel_rfl) (fun _ _ _ h => h) (Or.inl ⟨by rfl, by intro w hSw; go_simp⟩) (by assumption) ?_
                simp only [Act.put, List.setIfInBounds_toArray, List.set_cons_zero, List.set_cons_succ]
                refine wpAnyH_take (i := 8) (oi := { dst := some 190, op := Op.fieldAddr 106 (Operand.tmp 189) 0, type := 0, pos := "law.go:144", after := #[{ on := 7, ground := Ground.data }], guard := none }) (v := .pointer (some ⟨h2, t * 5, none⟩)) rfl (by kernel_rfl) (by kernel_rfl) (by kernel_rfl) (fun _ _ _ h => h) (Or.inl ⟨by rfl, by intro w hSw; go_simp⟩) (by assumption) ?_
                simp only [Act.put, List.setIfInBounds_toArray, List.set_cons_zero, List.set_cons_succ]
                refine wpAnyH_take (i := 9) (oi := { dst := some 191, op := Op.load 22 (Operand.tmp 190), type := 22, pos := "law.go:144", after := #[{ on := 8, ground := Ground.data }], guard := none }) (v := .int .u32 yv) rfl (by kernel_rfl) (by kernel_rfl) (by kernel_rfl) (fun _ _ _ h => h) (Or.inl ⟨by rfl, by intro w hSw; obtain ⟨d0, d1, d2, d3, d4⟩ := hSw.2; go_simp⟩) (by assumption) ?_
                simp only [Act.put, List.setIfInBounds_toArray, List.set_cons_zero, List.set_cons_succ]
                refine wpAnyH_take (i := 10) (oi := { dst := some 192, op := Op.binOp BinOp.neq 22 (Operand.tmp 186) (Operand.tmp 191) 22, type := 4, pos := "law.go:144", after := #[{ on := 4, ground := Ground.data }, { on := 9, ground := Ground.data }], guard := none }) (v := .bool false) rfl (by kernel_rfl) (by kernel_rfl) (by kernel_rfl) (fun _ _ _ h => h) (Or.inl ⟨by rfl, by intro w hSw; go_simp⟩) (by assumption) ?_
                simp only [Act.put, List.setIfInBounds_toArray, List.set_cons_zero, List.set_cons_succ]
                refine wpAnyH_take (i := 11) (oi := { dst := some 193, op := Op.move (Operand.tmp 192), type := 4, pos := "law.go:144", after := #[{ on := 10, ground := Ground.data }], guard := none }) (v := .bool false) rfl (by kernel_rfl) (by kernel_rfl) (by kernel_rfl) (fun _ _ _ h => h) (Or.inl ⟨by rfl, by intro w hSw; go_simp⟩) (by assumption) ?_
                simp only [Act.put, List.setIfInBounds_toArray, List.set_cons_zero, List.set_cons_succ]
                refine wpAnyH_take (i := 12) (oi := { dst := some 194, op := Op.move (Operand.tmp 17), type := 60, pos := "law.go:144", after := #[{ on := 11, ground := Ground.guard }], guard := some (11, false) }) (v := .slice (some ⟨h1, 0, none⟩) na cp1) rfl (by kernel_rfl) (by kernel_rfl) (by kernel_rfl) (fun _ _ _ h => h) (Or.inl ⟨by rfl, by intro w hSw; go_simp⟩) (by assumption) ?_
                simp only [Act.put, List.setIfInBounds_toArray, List.set_cons_zero, List.set_cons_succ]
                refine wpAnyH_take (i := 13) (oi := { dst := some 195, op := Op.move (Operand.tmp 19), type := 3, pos := "law.go:144", after := #[{ on := 11, ground := Ground.guard }], guard := some (11, false) }) (v := .int .i64 (t : Int)) rfl (by kernel_rfl) (by kernel_rfl) (by kernel_rfl) (fun _ _ _ h => h) (Or.inl ⟨by rfl, by intro w hSw; go_simp⟩) (by assumption) ?_
                simp only [Act.put, List.setIfInBounds_toArray, List.set_cons_zero, List.set_cons_succ]
                refine wpAnyH_take (i := 14) (oi := { dst := some 196, op := Op.indexAddr 60 (Operand.tmp 194) (Operand.tmp 195), type := 0, pos := "law.go:144", after := #[{ on := 12, ground := Ground.data }, { on := 13, ground := Ground.data }, { on := 11, ground := Ground.guard }], guard := some (11, false) }) (v := .pointer (some ⟨h1, t * 5, none⟩)) rfl (by kernel_rfl) (by kernel_rfl) (by kernel_rfl) (fun _ _ _ h => h) (Or.inl ⟨by rfl, by intro w hSw; go_simp⟩) (by assumption) ?_
                simp only [Act.put, List.setIfInBounds_toArray, List.set_cons_zero, List.set_cons_succ]
                refine wpAnyH_take (i := 15) (oi := { dst := some 197, op := Op.fieldAddr 67 (Operand.tmp 196) 1, type := 0, pos := "law.go:144", after := #[{ on := 14, ground := Ground.data }, { on := 11, ground := Ground.guard }], guard := some (11, false) }) (v := .pointer (some ⟨h1, t * 5 + 1, none⟩)) rfl (by kernel_rfl) (by kernel_rfl) (by kernel_rfl) (fun _ _ _ h => h) (Or.inl ⟨by rfl, by intro w hSw; go_simp⟩) (by assumption) ?_
                simp only [Act.put, List.setIfInBounds_toArray, List.set_cons_zero, List.set_cons_succ]
                refine wpAnyH_take (i := 16) (oi := { dst := some 198, op := Op.load 35 (Operand.tmp 197), type := 35, pos := "law.go:144", after := #[{ on := 15, ground := Ground.data }, { on := 11, ground := Ground.guard }], guard := some (11, false) }) (v := .agg #[.bool ys, .int .i64 yp, .bool yw, .bool yx]) rfl (by kernel_rfl) (by kernel_rfl) (by kernel_rfl) (fun _ _ _ h => h) (Or.inl ⟨by rfl, by intro w hSw; obtain ⟨d0, d1, d2, d3, d4⟩ := hSw.1; go_simp⟩) (by assumption) ?_
                simp only [Act.put, List.setIfInBounds_toArray, List.set_cons_zero, List.set_cons_succ]
                refine wpAnyH_take (i := 17) (oi := { dst := some 199, op := Op.move (Operand.tmp 18), type := 102, pos := "law.go:144", after := #[{ on := 11, ground := Ground.guard }], guard := some (11, false) }) (v := .slice (some ⟨h2, 0, none⟩) na cp2) rfl (by kernel_rfl) (by kernel_rfl) (by kernel_rfl) (fun _ _ _ h => h) (Or.inl ⟨by rfl, by intro w hSw; go_simp⟩) (by assumption) ?_
                simp only [Act.put, List.setIfInBounds_toArray, List.set_cons_zero, List.set_cons_succ]
                refine wpAnyH_take (i := 18) (oi := { dst := some 200, op := Op.move (Operand.tmp 19), type := 3, pos := "law.go:144", after := #[{ on := 11, ground := Ground.guard }], guard := some (11, false) }) (v := .int .i64 (t : Int)) rfl (by kernel_rfl) (by kernel_rfl) (by kernel_rfl) (fun _ _ _ h => h) (Or.inl ⟨by rfl, by intro w hSw; go_simp⟩) (by assumption) ?_
                simp only [Act.put, List.setIfInBounds_toArray, List.set_cons_zero, List.set_cons_succ]
                refine wpAnyH_take (i := 19) (oi := { dst := some 201, op := Op.indexAddr 102 (Operand.tmp 199) (Operand.tmp 200), type := 0, pos := "law.go:144", after := #[{ on := 17, ground := Ground.data }, { on := 18, ground := Ground.data }, { on := 11, ground := Ground.guard }], guard := some (11, false) }) (v := .pointer (some ⟨h2, t * 5, none⟩)) rfl (by kernel_rfl) (by kernel_rfl) (by kernel_rfl) (fun _ _ _ h => h) (Or.inl ⟨by rfl, by intro w hSw; go_simp⟩) (by assumption) ?_
                simp only [Act.put, List.setIfInBounds_toArray, List.set_cons_zero, List.set_cons_succ]
                refine wpAnyH_take (i := 20) (oi := { dst := some 202, op := Op.fieldAddr 106 (Operand.tmp 201) 1, type := 0, pos := "law.go:144", after := #[{ on := 19, ground := Ground.data }, { on := 11, ground := Ground.guard }], guard := some (11, false) }) (v := .pointer (some ⟨h2, t * 5 + 1, none⟩)) rfl (by kernel_rfl) (by kernel_rfl) (by kernel_rfl) (fun _ _ _ h => h) (Or.inl ⟨by rfl, by intro w hSw; go_simp⟩) (by assumption) ?_
                simp only [Act.put, List.setIfInBounds_toArray, List.set_cons_zero, List.set_cons_succ]
                refine wpAnyH_take (i := 21) (oi := { dst := some 203, op := Op.load 41 (Operand.tmp 202), type := 41, pos := "law.go:144", after := #[{ on := 20, ground := Ground.data }, { on := 11, ground := Ground.guard }], guard := some (11, false) }) (v := .agg #[.bool ys, .int .i64 yp, .bool yw, .bool yx]) rfl (by kernel_rfl) (by kernel_rfl) (by kernel_rfl) (fun _ _ _ h => h) (Or.inl ⟨by rfl, by intro w hSw; obtain ⟨d0, d1, d2, d3, d4⟩ := hSw.2; go_simp⟩) (by assumption) ?_
                simp only [Act.put, List.setIfInBounds_toArray, List.set_cons_zero, List.set_cons_succ]
                refine wpAnyH_ready (rs := [22]) (by kernel_rfl) (by simp) (AllReadyH.cons (o := { dst := some 204, op := Op.call { callee := Callee.value (Operand.func 21), args := #[Operand.tmp 203], argTypes := #[41] }, type := 35, pos := "law.go:144", after := #[{ on := 21, ground := Ground.data }, { on := 11, ground := Ground.chain }, { on := 11, ground := Ground.guard }], guard := some (11, false) }) rfl (fun KQ hK => ?_) AllReadyH.nil)
                go_simp
                refine (HOw.out _).mono ?_
                rintro e w14 ⟨rfl, hb⟩
                have AJ := hid (And.intro (AI.out.1.on hb) (And.intro (AI.out.2.1.on hb) (AI.out.2.2.on hb)))
                clear hb
                go_wp2_with fail
                refine hK.out _ _ ⟨HRow1.out _ AJ.out.2.1, HRow2.out _ AJ.out.2.2⟩ (fun hHeld => ?_)
                clear hK KQ
                try simp only [Act.put, List.setIfInBounds_toArray, List.set_cons_zero, List.set_cons_succ]
                refine wpAnyH_take (i := 23) (oi := { dst := some 205, op := Op.binOp BinOp.neq 35 (Operand.tmp 198) (Operand.tmp 204) 35, type := 4, pos := "law.go:144", after := #[{ on := 16, ground := Ground.data }, { on := 22, ground := Ground.data }, { on := 11, ground := Ground.guard }], guard := some (11, false) }) (v := .bool false) rfl (by kernel_rfl) (by kernel_rfl) (by kernel_rfl) (fun _ _ _ h => h) (Or.inl ⟨by rfl, by intro w hSw; go_simp⟩) (by assumption) ?_
                simp only [Act.put, List.setIfInBounds_toArray, List.set_cons_zero, List.set_cons_succ]
                refine wpAnyH_take (i := 24) (oi := { dst := some 206, op := Op.pick (Operand.tmp 193) (Operand.const (Value.bool true)) (Operand.tmp 205), type := 4, pos := "law.go:144", after := #[{ on := 11, ground := Ground.data }, { on := 23, ground := Ground.data }], guard := none }) (v := .bool false) rfl (by kernel_rfl) (by kernel_rfl) (by kernel_rfl) (fun _ _ _ h => h) (Or.inl ⟨by rfl, by intro w hSw; go_simp⟩) (by assumption) ?_
                simp only [Act.put, List.setIfInBounds_toArray, List.set_cons_zero, List.set_cons_succ]
                refine wpAnyH_done (by kernel_rfl) ?_ _
                go_wp2_with fail
                go_roundw
                case measure => simp [intOf] <;> omega
                case rel => exact ⟨t + 1, by omega, by simp, AJ⟩
              · have htn : t = na := by omega
                subst htn
                go_wp2_with fail
                go_roundw
                case measure => have := HJ.out; simp [intOf] <;> omega
                case rel => exact ⟨j + 1, c3, by have := HJ.out; omega, by simp, hid AH.out.1.tail⟩
    · have hjn : j = min qn 24 := by omega
      have y0 := (HT.out.get 0 rfl).cell 0
      have y1 := (HT.out.get 0 rfl).cell 1
      have y2 := (HT.out.get 0 rfl).cell 2
      simp only [List.getElem?_cons_zero, List.getElem?_cons_succ] at y0 y1 y2
      have HFin : Hid (∀ w1 fb, NewMem wr w1 fb m0 → ∀ w2, Below w1.heap.size w1 w2 → Below W.heap.size W w2) := hid (fun w1 fb hm w2 h => below_on (below_on HT.out.below hm.below) h)
      clear hlt
      by_cases hx : (j : Int) < (qn : Int)
      · have hk : (j : Int) = 24 := by omega
        have hx2 : (24 : Int) < (qn : Int) ∨ True := .inr trivial
        have hx3 : (24 : Int) < (qn : Int) := by omega
        clear hx hj hx2
        rw [hk] at *
        clear hjn hk
        go_wp2_with (go_at_call 28; refine (HBt.out _ HT.out.below).mono ?_; rintro e w1 ⟨fb, rfl, hm1⟩; have HM1 := hid hm1; clear hm1)
        have HSm := same_any _ fa _ (HT.out.a.on HM1.out.below) fb m0 HM1.out.mem
        rw [same_wc] at HSm
        refine HSm.mono ?_
        clear HSm
        rintro e w2 ⟨rfl, hb2⟩
        have HZ := hid (HFin.out _ _ HM1.out _ hb2)
        clear hb2
        go_wp2_with fail
        go_ret
        exact ⟨rfl, HZ.out⟩
      · have hx' : (qn : Int) ≤ (j : Int) := by omega
        clear hj hjn hx
        go_wp2_with (go_at_call 28; refine (HBt.out _ HT.out.below).mono ?_; rintro e w1 ⟨fb, rfl, hm1⟩; have HM1 := hid hm1; clear hm1)
        have HSm := same_any _ fa _ (HT.out.a.on HM1.out.below) fb m0 HM1.out.mem
        rw [same_wc] at HSm
        refine HSm.mono ?_
        clear HSm
        rintro e w2 ⟨rfl, hb2⟩
        have HZ := hid (HFin.out _ _ HM1.out _ hb2)
        clear hb2
        go_wp2_with fail
        go_ret
        exact ⟨rfl, HZ.out⟩
end Go.Proofs.Ytmmphmdmocfnpaa
