/- RegsLast (4). -/
import Derived.Test.YthpkodkilbcepaaP0
namespace Go.Proofs.Ythpkodkilbcepaa
open Go.RowKit
set_option maxHeartbeats 4000000
set_option maxRecDepth 100000
attribute [-simp] Try.isAgg27 Try.sizeOf27 Try.isAgg25 Try.sizeOf25 Try.isAgg23 Try.isAgg46 Try.sizeOf46
theorem run_size23 (w : World) : (sizeOf 23).run Try.prog w = .ok 15 w := by
  have := size23
  cases hq : Try.prog.info? 23 with
  | none => simp [hq] at this
  | some i => simp [hq] at this; simp [sizeOf, typeInfo, hq, this]
theorem zc15 : (#[.int .u32 0, .int .u32 0, .int .u32 0, .int .u32 0, .int .u32 0, .int .u32 0, .int .u32 0, .int .u32 0, .int .u32 0, .int .u32 0, .int .u32 0, .int .u32 0, .int .u32 0, .int .u32 0, .int .u32 0] : Array Value) = (rs fun _ => 0).toArray := by kernel_rfl
theorem cel_new23 (w : World) : Cel (w.alloc (.cells #[.int .u32 0, .int .u32 0, .int .u32 0, .int .u32 0, .int .u32 0, .int .u32 0, .int .u32 0, .int .u32 0, .int .u32 0, .int .u32 0, .int .u32 0, .int .u32 0, .int .u32 0, .int .u32 0, .int .u32 0] 23)) w.heap.size 23 (rs fun _ => 0) := by rw [zc15]; exact Cel.new w 23 _
theorem wpList_build_zg {ops : Array Oper} {rest : List Oper} {o : Oper} {a : Act} {w : World} {Q : Exit → Act → World → Prop} (hw : Region.wanted o (yielded ops a.tmps) = true) (ho : o.op = .build 27 #[])
    (h : wpList Try.prog ops Q rest (a.put o.dst F.zero.v) w) : wpList Try.prog ops Q (o :: rest) a w := by
  rw [wpList, if_pos hw]
  refine .inl ?_
  unfold Oper.wp execOp
  simp only [ho, Sem.run_bind, Array.map_empty, run_build w 27 #[] _ built_zero, Result.andThen_ok]
  exact h
theorem wpList_neq_fg {ops : Array Oper} {rest : List Oper} {o : Oper} {a : Act} {w : World} {Q : Exit → Act → World → Prop} (hw : Region.wanted o (yielded ops a.tmps) = true) (x y : Operand) (ho : o.op = .binOp .neq 27 x y 27)
    (f g : F) (hx : a.eval x = f.v) (hy : a.eval y = g.v) (b : Bool) (hb : (!f.same g) = b)
    (h : wpList Try.prog ops Q rest (a.put o.dst (.bool b)) w) : wpList Try.prog ops Q (o :: rest) a w := by
  rw [wpList, if_pos hw]
  refine .inl ?_
  unfold Oper.wp
  rw [exec_neq_f x y ho f g hx hy b hb]
  exact h
theorem st3c (a b c : Int) : (#[.int .u32 a, .int .u32 b, .int .u32 c, .int .u32 0, .int .u32 0, .int .u32 0, .int .u32 0, .int .u32 0, .int .u32 0, .int .u32 0, .int .u32 0, .int .u32 0, .int .u32 0, .int .u32 0, .int .u32 0] : Array Value) = (rs (st3 a b c)).toArray := by kernel_rfl
/-- The script: registers that are set. -/
structure Scr (W : World) (g o n : Nat) (R V : Nat → Int) : Prop where
  lt : 0 < n → g < W.heap.size
  r : ∀ k, k < n → W.cell? ⟨g, o + k * 2, none⟩ = some (.int .i64 (R k))
  v : ∀ k, k < n → W.cell? ⟨g, o + k * 2 + 1, none⟩ = some (.int .u32 (V k))
structure L4 (W wr : World) (g2 g5 g6 : Nat) (s0 s1 s2 s3 : Int) (f : F) : Prop where
  box : Cel wr g2 34 [.int .u32 s0, .int .u32 s1, .int .u32 s2, .int .u32 s3]
  fil : Cel wr g5 27 f.cs
  wnt : Cel wr g6 23 (rs f.r)
  below : Below W.heap.size W wr
  lo : W.heap.size ≤ g2
  l1 : g2 < g5
  l2 : g5 < g6
  pc : f.pc = s0
  z : f.z = false
  n : f.n = false
  l : f.l = false
theorem L4.on {W wr w' : World} {g2 g5 g6 : Nat} {s0 s1 s2 s3 : Int} {f : F} (h : L4 W wr g2 g5 g6 s0 s1 s2 s3 f) (hb : Below wr.heap.size wr w') : L4 W w' g2 g5 g6 s0 s1 s2 s3 f :=
  ⟨h.box.on hb, h.fil.on hb, h.wnt.on hb, below_on h.below hb, h.lo, h.l1, h.l2, h.pc, h.z, h.n, h.l⟩
theorem L4.but {W wr w' : World} {g2 g5 g6 g : Nat} {s0 s1 s2 s3 : Int} {f : F} (h : L4 W wr g2 g5 g6 s0 s1 s2 s3 f) (hb : ButL [g] wr w') (hg : g6 < g) : L4 W w' g2 g5 g6 s0 s1 s2 s3 f := by
  have a := h.lo
  have b := h.l1
  have c := h.l2
  exact ⟨h.box.but hb (by rw [List.mem_singleton]; omega), h.fil.but hb (by rw [List.mem_singleton]; omega), h.wnt.but hb (by rw [List.mem_singleton]; omega), h.below.trans (hb.below (by simp; omega) h.below.size), h.lo, h.l1, h.l2, h.pc, h.z, h.n, h.l⟩
theorem L4.put {W wr w1 : World} {g2 g5 g6 : Nat} {s0 s1 s2 s3 : Int} {f : F} (h : L4 W wr g2 g5 g6 s0 s1 s2 s3 f) (k : Nat) (v : Int) (hb : ButL [g5] wr w1) (hc : Cel w1 g5 27 (f.put k v).cs) : L4 W (w1.setCell ⟨g6, k, none⟩ (.int .u32 v)) g2 g5 g6 s0 s1 s2 s3 (f.put k v) := by
  have a := h.lo
  have b := h.l1
  have c := h.l2
  have hb2 := ButL.setCell (G := [g6]) w1 g6 k (.int .u32 v) (by simp)
  have hw := (h.wnt.but hb (by rw [List.mem_singleton]; omega)).setCell k (.int .u32 v)
  rw [rs_set] at hw
  exact ⟨(h.box.but hb (by rw [List.mem_singleton]; omega)).but hb2 (by rw [List.mem_singleton]; omega), hc.but hb2 (by rw [List.mem_singleton]; omega), hw, (h.below.trans (hb.below (by simp; omega) h.below.size)).trans (hb2.below (by simp; omega) (by have := h.below.size; have := hb.size; omega)), h.lo, h.l1, h.l2, h.pc, h.z, h.n, h.l⟩
theorem lastl_any (W : World) (s0 s1 s2 s3 : Int) (ao : Option Addr) (n c g o : Nat) (R V : Nat → Int) (hao : 0 < n → ao = some ⟨g, o, none⟩) (hS : Scr W g o n R V) (hn : (n : Int) ≤ 4611686018427387904) :
    Calls Try.prog 4 #[.agg #[.int .u32 s0, .int .u32 s1, .int .u32 s2, .int .u32 s3], .slice ao n c] W fun e W' => e = .returned (.bool true) ∧ Below W.heap.size W W' := by
  have HC0 : Hid (Cel (W.alloc (.cells #[.int .u32 s0, .int .u32 s1, .int .u32 s2, .int .u32 s3] 34)) W.heap.size 34 [.int .u32 s0, .int .u32 s1, .int .u32 s2, .int .u32 s3]) := hid (Cel.new W 34 _)
  have HB0 := hid (below_one W (.cells #[.int .u32 s0, .int .u32 s1, .int .u32 s2, .int .u32 s3] 34))
  have HSC : Hid (∀ w, Below W.heap.size W w → ∀ k, k < n → w.cell? ⟨g, o + k * 2, none⟩ = some (.int .i64 (R k)) ∧ w.cell? ⟨g, o + k * 2 + 1, none⟩ = some (.int .u32 (V k))) := hid fun w hb k hk => ⟨(hb.cell (p := ⟨g, o + k * 2, none⟩) (hS.lt (by omega))).trans (hS.r k hk), (hb.cell (p := ⟨g, o + k * 2 + 1, none⟩) (hS.lt (by omega))).trans (hS.v k hk)⟩
  have HAO := hid hao
  clear hS hao
  go_enter Try.func4, Try.ntmps4
  go_upto_region 1 with fail
  generalize hX : W.alloc _ = X at *
  clear hX
  go_wp2_with fail
  refine (head_any _).mono ?_
  rintro e w1 ⟨rfl, hb1⟩
  have HC1 := hid (HC0.out.on hb1)
  have HB1 := hid (below_on HB0.out hb1)
  clear hb1 HC0 HB0
  have a0 := HC1.out.cell 0
  have a1 := HC1.out.cell 1
  have a2 := HC1.out.cell 2
  have a3 := HC1.out.cell 3
  simp only [List.getElem?_cons_zero, List.getElem?_cons_succ] at a0 a1 a2 a3
  go_wp2_with fail
  refine (start_any _ _ _ _ _).mono ?_
  rintro e w2 ⟨rfl, hb2⟩
  have HC2 := hid ((HC1.out.on hb2).on (below_one w2 (.cells #[.int .u32 0, .int .u32 0, .int .u32 0, .int .u32 0, .int .u32 0, .int .u32 0, .int .u32 0, .int .u32 0, .int .u32 0, .int .u32 0, .int .u32 0, .int .u32 0, .int .u32 0, .int .u32 0, .int .u32 0, .int .u32 0, .bool false, .bool false, .bool false] 27)))
  have HB2 := hid (below_on (below_on HB1.out hb2) (below_one w2 (.cells #[.int .u32 0, .int .u32 0, .int .u32 0, .int .u32 0, .int .u32 0, .int .u32 0, .int .u32 0, .int .u32 0, .int .u32 0, .int .u32 0, .int .u32 0, .int .u32 0, .int .u32 0, .int .u32 0, .int .u32 0, .int .u32 0, .bool false, .bool false, .bool false] 27)))
  have HL2 := hid (HC1.out.on hb2).lt
  have HW2 := hid (below_on HB1.out hb2).size
  have HN2 := hid (cel_new27 w2)
  clear hb2 HC1 HB1 a0 a1 a2 a3
  go_wp2_with (refine wpList_store_f rfl _ _ rfl w2.heap.size F.zero ⟨st3 s1 s2 s3, s0, false, false, false⟩ rfl rfl HN2.out ?_; intro w3 hc3 hb3 hs3; have HF3 := hid hc3; have HC3 := hid (HC2.out.but hb3 (by rw [List.mem_singleton]; have := HL2.out; omega)); have HB3 := hid (HB2.out.trans (hb3.below (B := W.heap.size) (by simp; exact HW2.out) HB2.out.size)); clear hc3 hb3 hs3 HN2 HC2 HB2; have a1 := HC3.out.cell 1; have a2 := HC3.out.cell 2; have a3 := HC3.out.cell 3; simp only [List.getElem?_cons_zero, List.getElem?_cons_succ] at a1 a2 a3)
  have HI : Hid (L4 W (w3.alloc (.cells (#[.int .u32 s1, .int .u32 s2, .int .u32 s3, .int .u32 0, .int .u32 0, .int .u32 0, .int .u32 0, .int .u32 0, .int .u32 0, .int .u32 0, .int .u32 0, .int .u32 0, .int .u32 0, .int .u32 0, .int .u32 0]) 23)) W.heap.size w2.heap.size w3.heap.size s0 s1 s2 s3 ⟨st3 s1 s2 s3, s0, false, false, false⟩) := by
    rw [st3c]
    exact hid ⟨HC3.out.on (below_one _ _), HF3.out.on (below_one _ _), Cel.new w3 23 _, below_on HB3.out (below_one _ _), Nat.le_refl _, HL2.out, HF3.out.lt, rfl, rfl, rfl, rfl⟩
  clear HC3 HF3 HB3
  go_wp2_with fail
  clear HL2 HW2 a1 a2 a3
  generalize hX4 : w3.alloc _ = w4 at *
  clear hX4
  generalize w2.heap.size = g5 at *
  generalize w3.heap.size = g6 at *
  obtain ⟨g2, hg2⟩ : ∃ g, W.heap.size = g := ⟨_, rfl⟩
  rw [show (Value.pointer (some { block := W.heap.size, off := 0 })) = Value.pointer (some { block := g2, off := 0 }) by rw [hg2]]
  have HI : Hid (L4 W w4 g2 g5 g6 s0 s1 s2 s3 ⟨st3 s1 s2 s3, s0, false, false, false⟩) := by rw [← hg2]; exact HI
  clear hg2
  have hs23 := run_size23
  go_loopw [7] (fun i wr => ∃ (k : Nat) (f : F), k ≤ n ∧ i = .int .i64 (k : Int) ∧ Hid (L4 W wr g2 g5 g6 s0 s1 s2 s3 f)) (fun i _ => n - (intOf i).toNat)
  case atStart => exact ⟨0, _, Nat.zero_le _, rfl, HI⟩
  case round =>
    clear HI
    obtain ⟨k, f, hk, rfl, HI⟩ := hrel
    by_cases hlt : k < n
    · have c1 : (k : Int) < (n : Int) := by omega
      have hao := HAO.out (by omega)
      subst hao
      obtain ⟨x0, x1⟩ := HSC.out wr HI.out.below k hlt
      obtain ⟨f', er, HST, HCS⟩ : ∃ f' er, Hid (∀ w, Calls Try.prog 12 #[f.v, .int .i64 (R k), .int .u32 (V k)] w fun e W' => e = .returned (.tuple #[F.v f', .int .i64 er]) ∧ Below w.heap.size w W') ∧ Hid ((0 ≤ R k ∧ R k < 15 ∧ f' = f.put (R k).toNat (V k) ∧ er = 0) ∨ ((R k < 0 ∨ 14 < R k) ∧ f' = F.zero ∧ er = 81)) := by
        by_cases hr : 0 ≤ R k ∧ R k < 15
        · exact ⟨_, _, hid fun w => by have := set_any w f (R k) (V k); rwa [if_pos hr] at this, hid (.inl ⟨hr.1, hr.2, rfl, rfl⟩)⟩
        · exact ⟨_, _, hid fun w => by have := set_any w f (R k) (V k); rwa [if_neg hr] at this, hid (.inr ⟨by omega, rfl, rfl⟩)⟩
      have HX1 := hid fun w hb => (HSC.out w hb k hlt).2
      generalize hr : R k = r at *
      generalize hv : V k = v at *
      clear hr hv
      go_wp2_with fail
      clear x0 x1
      have HD := hid (HI.out.on (Below.refl _ _).drew)
      clear HI
      refine wp_region_held_drew (S := fun x => L4 W x g2 g5 g6 s0 s1 s2 s3 f) (by kernel_rfl) HD.out (fun hHeld => ?_)
      generalize hx0 : wr.drew = x0 at *
      clear hx0
      refine wpAnyH_take (i := 0) (oi := { dst := some 46, op := Op.load 27 (Operand.tmp 5), type := 27, pos := "law.go:185", after := #[], guard := none }) (v := f.v) rfl (by kernel_rfl) (by kernel_rfl) (by kernel_rfl) (fun _ _ _ h => h) (yieldsIf_load_mid (by rfl) 27 _ rfl g5 0 rfl f.cs _ (fun w hSw => hSw.fil.range) under27 rfl (by rw [size27, F.len])) (by assumption) ?_
      simp only [Act.put, List.setIfInBounds_toArray, List.set_cons_zero, List.set_cons_succ]
      refine wpAnyH_take (i := 1) (oi := { dst := some 47, op := Op.move (Operand.tmp 8), type := 3, pos := "law.go:185", after := #[], guard := none }) (v := .int .i64 r) rfl (by kernel_rfl) (by kernel_rfl) (by kernel_rfl) (fun _ _ _ h => h) (Or.inl ⟨by rfl, by intro w hSw; go_simp⟩) (by assumption) ?_
      simp only [Act.put, List.setIfInBounds_toArray, List.set_cons_zero, List.set_cons_succ]
      refine wpAnyH_take (i := 2) (oi := { dst := some 48, op := Op.move (Operand.tmp 1), type := 35, pos := "law.go:185", after := #[], guard := none }) (v := .slice (some ⟨g, o, none⟩) n c) rfl (by kernel_rfl) (by kernel_rfl) (by kernel_rfl) (fun _ _ _ h => h) (Or.inl ⟨by rfl, by intro w hSw; go_simp⟩) (by assumption) ?_
      simp only [Act.put, List.setIfInBounds_toArray, List.set_cons_zero, List.set_cons_succ]
      refine wpAnyH_take (i := 3) (oi := { dst := some 49, op := Op.move (Operand.tmp 7), type := 3, pos := "law.go:185", after := #[], guard := none }) (v := .int .i64 (k : Int)) rfl (by kernel_rfl) (by kernel_rfl) (by kernel_rfl) (fun _ _ _ h => h) (Or.inl ⟨by rfl, by intro w hSw; go_simp⟩) (by assumption) ?_
      simp only [Act.put, List.setIfInBounds_toArray, List.set_cons_zero, List.set_cons_succ]
      refine wpAnyH_take (i := 4) (oi := { dst := some 50, op := Op.indexAddr 35 (Operand.tmp 48) (Operand.tmp 49), type := 0, pos := "law.go:185", after := #[{ on := 2, ground := Ground.data }, { on := 3, ground := Ground.data }], guard := none }) (v := .pointer (some ⟨g, o + k * 2, none⟩)) rfl (by kernel_rfl) (by kernel_rfl) (by kernel_rfl) (fun _ _ _ h => h) (Or.inl ⟨by rfl, by intro w hSw; go_simp⟩) (by assumption) ?_
      simp only [Act.put, List.setIfInBounds_toArray, List.set_cons_zero, List.set_cons_succ]
      refine wpAnyH_take (i := 5) (oi := { dst := some 51, op := Op.fieldAddr 38 (Operand.tmp 50) 1, type := 0, pos := "law.go:185", after := #[{ on := 4, ground := Ground.data }], guard := none }) (v := .pointer (some ⟨g, o + k * 2 + 1, none⟩)) rfl (by kernel_rfl) (by kernel_rfl) (by kernel_rfl) (fun _ _ _ h => h) (Or.inl ⟨by rfl, by intro w hSw; go_simp⟩) (by assumption) ?_
      simp only [Act.put, List.setIfInBounds_toArray, List.set_cons_zero, List.set_cons_succ]
      refine wpAnyH_take (i := 6) (oi := { dst := some 52, op := Op.load 22 (Operand.tmp 51), type := 22, pos := "law.go:185", after := #[{ on := 5, ground := Ground.data }], guard := none }) (v := .int .u32 v) rfl (by kernel_rfl) (by kernel_rfl) (by kernel_rfl) (fun _ _ _ h => h) (Or.inl ⟨by rfl, by intro w hSw; have y := HX1.out w hSw.below; go_simp⟩) (by assumption) ?_
      simp only [Act.put, List.setIfInBounds_toArray, List.set_cons_zero, List.set_cons_succ]
      refine wpAnyH_ready (rs := [7, 11]) (by kernel_rfl) (by simp) (AllReadyH.cons (o := { dst := some 53, op := Op.call { callee := Callee.value (Operand.func 12), args := #[Operand.tmp 46, Operand.tmp 47, Operand.tmp 52], argTypes := #[27, 3, 22] }, type := 40, pos := "law.go:185", after := #[{ on := 0, ground := Ground.data }, { on := 1, ground := Ground.data }, { on := 6, ground := Ground.data }], guard := none }) rfl (fun KQ hK => ?_) (AllReadyH.cons (o := { dst := some 9, op := Op.alloc 27, type := 0, pos := "law.go:185", after := #[], guard := none }) rfl (fun KQ hK => ?_) AllReadyH.nil))
      · go_simp
        refine (HST.out _).mono ?_
        rintro e w1 ⟨rfl, hb2⟩
        have HP3 := hid (HD.out.on hb2)
        clear hb2
        go_wp2_with fail
        refine hK.out _ _ HP3.out (fun hHeld => ?_)
        clear hK KQ
        try simp only [Act.put, List.setIfInBounds_toArray, List.set_cons_zero, List.set_cons_succ]
        refine wpAnyH_take (i := 8) (oi := { dst := some 45, op := Op.move (Operand.tmp 53), type := 40, pos := "law.go:185", after := #[{ on := 7, ground := Ground.data }], guard := none }) (v := .tuple #[f'.v, .int .i64 er]) rfl (by kernel_rfl) (by kernel_rfl) (by kernel_rfl) (fun _ _ _ h => h) (Or.inl ⟨by rfl, by intro w hSw; go_simp⟩) (by assumption) ?_
        simp only [Act.put, List.setIfInBounds_toArray, List.set_cons_zero, List.set_cons_succ]
        refine wpAnyH_take (i := 9) (oi := { dst := some 54, op := Op.extract (Operand.tmp 45) 0, type := 27, pos := "law.go:185", after := #[{ on := 8, ground := Ground.data }], guard := none }) (v := f'.v) rfl (by kernel_rfl) (by kernel_rfl) (by kernel_rfl) (fun _ _ _ h => h) (Or.inl ⟨by rfl, by intro w hSw; go_simp⟩) (by assumption) ?_
        simp only [Act.put, List.setIfInBounds_toArray, List.set_cons_zero, List.set_cons_succ]
        refine wpAnyH_take (i := 10) (oi := { dst := some 55, op := Op.extract (Operand.tmp 45) 1, type := 39, pos := "law.go:185", after := #[{ on := 8, ground := Ground.data }, { on := 12, ground := Ground.gcOnly Departure.lateStores }], guard := none }) (v := .int .i64 er) rfl (by kernel_rfl) (by kernel_rfl) (by kernel_rfl) (fun _ _ _ h => h) (Or.inl ⟨by rfl, by intro w hSw; go_simp⟩) (by assumption) ?_
        simp only [Act.put, List.setIfInBounds_toArray, List.set_cons_zero, List.set_cons_succ]
        refine wpAnyH_ready (rs := [11]) (by kernel_rfl) (by simp) (AllReadyH.cons (o := { dst := some 9, op := Op.alloc 27, type := 0, pos := "law.go:185", after := #[], guard := none }) rfl (fun KQ hK => ?_) AllReadyH.nil)
        go_simp
        have HT7 := hid HP3.out.wnt.lt
        have HP4 := hid (HP3.out.on (below_one w1 (.cells #[.int .u32 0, .int .u32 0, .int .u32 0, .int .u32 0, .int .u32 0, .int .u32 0, .int .u32 0, .int .u32 0, .int .u32 0, .int .u32 0, .int .u32 0, .int .u32 0, .int .u32 0, .int .u32 0, .int .u32 0, .int .u32 0, .bool false, .bool false, .bool false] 27)))
        have HG5 := hid (cel_new27 w1)
        clear HP3
        generalize hy : w1.alloc _ = y6 at *
        clear hy
        generalize hg : w1.heap.size = g9 at *
        clear hg
        refine hK.out _ _ HP4.out (fun hHeld => ?_)
        clear hK KQ
        try simp only [Act.put, List.setIfInBounds_toArray, List.set_cons_zero, List.set_cons_succ]
        refine wpAnyH_ready (rs := [12]) (by kernel_rfl) (by simp) (AllReadyH.cons (o := { dst := none, op := Op.store 27 (Operand.tmp 9) (Operand.tmp 54), type := 0, pos := "law.go:185", after := #[{ on := 11, ground := Ground.data }, { on := 9, ground := Ground.data }, { on := 7, ground := Ground.chain }, { on := 0, ground := Ground.phase }, { on := 1, ground := Ground.phase }, { on := 2, ground := Ground.phase }, { on := 3, ground := Ground.phase }, { on := 4, ground := Ground.phase }, { on := 5, ground := Ground.phase }, { on := 6, ground := Ground.phase }, { on := 7, ground := Ground.phase }, { on := 8, ground := Ground.phase }, { on := 9, ground := Ground.phase }, { on := 10, ground := Ground.textOnly Departure.lateStores }, { on := 11, ground := Ground.phase }], guard := none }) rfl (fun KQ hK => ?_) AllReadyH.nil)
        rw [if_pos (by rfl)]
        refine wp_store_st 27 _ _ rfl g9 f'.cs rfl rfl HG5.out (by rw [size27, F.len]) (by rw [F.len, F.len]) f'.all ?_
        have HP8 := hid (HP4.out.but (ButL.setRow y6 g9 f'.cs.toArray (by simp)) HT7.out)
        have HG9 := hid (HG5.out.set f'.cs)
        clear HP4 HG5
        generalize hy : y6.setRow g9 _ = y10 at *
        clear hy
        refine hK.out _ _ HP8.out (fun hHeld => ?_)
        clear hK KQ
        try simp only [Act.put]
        refine wpAnyH_ready (rs := [13]) (by kernel_rfl) (by simp) (AllReadyH.cons (o := { dst := some 10, op := Op.assign (Operand.tmp 55), type := 39, pos := "law.go:185", after := #[{ on := 10, ground := Ground.data }, { on := 12, ground := Ground.chain }, { on := 0, ground := Ground.phase }, { on := 1, ground := Ground.phase }, { on := 2, ground := Ground.phase }, { on := 3, ground := Ground.phase }, { on := 4, ground := Ground.phase }, { on := 5, ground := Ground.phase }, { on := 6, ground := Ground.phase }, { on := 7, ground := Ground.phase }, { on := 8, ground := Ground.phase }, { on := 9, ground := Ground.phase }, { on := 10, ground := Ground.phase }, { on := 11, ground := Ground.phase }, { on := 12, ground := Ground.phase }], guard := none }) rfl (fun KQ hK => ?_) AllReadyH.nil)
        go_simp
        refine hK.out _ _ HP8.out (fun hHeld => ?_)
        clear hK KQ
        try simp only [Act.put, List.setIfInBounds_toArray, List.set_cons_zero, List.set_cons_succ]
        refine wpAnyH_done (by kernel_rfl) ?_ _
        clear HST
        rcases HCS.out with ⟨r0, r1, rfl, rfl⟩ | ⟨rr, rfl, rfl⟩
        · clear HCS
          have r14 : ¬ r < 0 := by omega
          have r15 : ¬ 14 < r := by omega
          go_wp2_with (first | (refine wpList_load_f rfl _ rfl g9 (f.put r.toNat v) rfl HG9.out ?_) | (refine wpList_store_f rfl _ _ rfl g5 f (f.put r.toNat v) rfl rfl HP8.out.fil ?_; intro w5 hc5 hb5 hs5; have HQ := hid (HP8.out.put r.toNat v hb5 hc5); have HB5 := hid (HP8.out.below.trans (hb5.below (B := W.heap.size) (by simp; have := HP8.out.lo; have := HP8.out.l1; omega) HP8.out.below.size)); have x1 := HX1.out w5 HB5.out; have hw5 := HP8.out.wnt.but hb5 (by rw [List.mem_singleton]; have := HP8.out.l2; omega); have y0 := (hw5.cell r.toNat).trans (rs_at f.r r.toNat (by omega)); have y1 := hw5.free r.toNat; clear hc5 hb5 hs5 hw5 HP8 HG9))
          go_roundw
          case measure => simp [intOf] <;> omega
          case rel => exact ⟨k + 1, _, by omega, by go_num, HQ⟩
        · clear HCS
          have HGT : Hid (∀ w, Calls Try.prog 13 #[f.v, .int .i64 r] w fun e W' => e = .returned (.tuple #[.int .u32 0, .int .i64 81]) ∧ Below w.heap.size w W') := hid fun w => by have := get_any w f r; rwa [if_neg (by omega)] at this
          rcases rr with rr | rr
          · have rok := rr
            go_wp2_with (first | (refine wpList_load_f rfl _ rfl g5 f rfl HP8.out.fil ?_) | (go_at_call 13; refine (HGT.out _).mono ?_; rintro e w6 ⟨rfl, hb6⟩; have HQ := hid (HP8.out.on hb6); have HQG := hid (HG9.out.on hb6); clear hb6) | (refine wpList_load_fg (by rfl) _ rfl g9 F.zero rfl HQG.out ?_) | (refine wpList_build_zg (by rfl) rfl ?_) | (refine wpList_neq_fg (by rfl) _ _ rfl F.zero F.zero rfl rfl false (by rw [F.same_self]; rfl) ?_))
            go_roundw
            case measure => simp [intOf] <;> omega
            case rel => exact ⟨k + 1, _, by omega, by go_num, HQ⟩
          · have r00 : ¬ r < 0 := by omega
            go_wp2_with (first | (refine wpList_load_f rfl _ rfl g5 f rfl HP8.out.fil ?_) | (go_at_call 13; refine (HGT.out _).mono ?_; rintro e w6 ⟨rfl, hb6⟩; have HQ := hid (HP8.out.on hb6); have HQG := hid (HG9.out.on hb6); clear hb6) | (refine wpList_load_fg (by rfl) _ rfl g9 F.zero rfl HQG.out ?_) | (refine wpList_build_zg (by rfl) rfl ?_) | (refine wpList_neq_fg (by rfl) _ _ rfl F.zero F.zero rfl rfl false (by rw [F.same_self]; rfl) ?_))
            go_roundw
            case measure => simp [intOf] <;> omega
            case rel => exact ⟨k + 1, _, by omega, by go_num, HQ⟩
      · go_simp
        have HT14 := hid HD.out.wnt.lt
        have HP11 := hid (HD.out.on (below_one x0 (.cells #[.int .u32 0, .int .u32 0, .int .u32 0, .int .u32 0, .int .u32 0, .int .u32 0, .int .u32 0, .int .u32 0, .int .u32 0, .int .u32 0, .int .u32 0, .int .u32 0, .int .u32 0, .int .u32 0, .int .u32 0, .int .u32 0, .bool false, .bool false, .bool false] 27)))
        have HG12 := hid (cel_new27 x0)
        clear HD
        generalize hy : x0.alloc _ = y13 at *
        clear hy
        generalize hg : x0.heap.size = g9 at *
        clear hg
        refine hK.out _ _ HP11.out (fun hHeld => ?_)
        clear hK KQ
        try simp only [Act.put, List.setIfInBounds_toArray, List.set_cons_zero, List.set_cons_succ]
        refine wpAnyH_ready (rs := [7]) (by kernel_rfl) (by simp) (AllReadyH.cons (o := { dst := some 53, op := Op.call { callee := Callee.value (Operand.func 12), args := #[Operand.tmp 46, Operand.tmp 47, Operand.tmp 52], argTypes := #[27, 3, 22] }, type := 40, pos := "law.go:185", after := #[{ on := 0, ground := Ground.data }, { on := 1, ground := Ground.data }, { on := 6, ground := Ground.data }], guard := none }) rfl (fun KQ hK => ?_) AllReadyH.nil)
        go_simp
        refine (HST.out _).mono ?_
        rintro e w15 ⟨rfl, hb16⟩
        have HP17 := hid (HP11.out.on hb16)
        have HG18 := hid (HG12.out.on hb16)
        clear hb16
        go_wp2_with fail
        refine hK.out _ _ HP17.out (fun hHeld => ?_)
        clear hK KQ
        try simp only [Act.put, List.setIfInBounds_toArray, List.set_cons_zero, List.set_cons_succ]
        refine wpAnyH_take (i := 8) (oi := { dst := some 45, op := Op.move (Operand.tmp 53), type := 40, pos := "law.go:185", after := #[{ on := 7, ground := Ground.data }], guard := none }) (v := .tuple #[f'.v, .int .i64 er]) rfl (by kernel_rfl) (by kernel_rfl) (by kernel_rfl) (fun _ _ _ h => h) (Or.inl ⟨by rfl, by intro w hSw; go_simp⟩) (by assumption) ?_
        simp only [Act.put, List.setIfInBounds_toArray, List.set_cons_zero, List.set_cons_succ]
        refine wpAnyH_take (i := 9) (oi := { dst := some 54, op := Op.extract (Operand.tmp 45) 0, type := 27, pos := "law.go:185", after := #[{ on := 8, ground := Ground.data }], guard := none }) (v := f'.v) rfl (by kernel_rfl) (by kernel_rfl) (by kernel_rfl) (fun _ _ _ h => h) (Or.inl ⟨by rfl, by intro w hSw; go_simp⟩) (by assumption) ?_
        simp only [Act.put, List.setIfInBounds_toArray, List.set_cons_zero, List.set_cons_succ]
        refine wpAnyH_take (i := 10) (oi := { dst := some 55, op := Op.extract (Operand.tmp 45) 1, type := 39, pos := "law.go:185", after := #[{ on := 8, ground := Ground.data }, { on := 12, ground := Ground.gcOnly Departure.lateStores }], guard := none }) (v := .int .i64 er) rfl (by kernel_rfl) (by kernel_rfl) (by kernel_rfl) (fun _ _ _ h => h) (Or.inl ⟨by rfl, by intro w hSw; go_simp⟩) (by assumption) ?_
        simp only [Act.put, List.setIfInBounds_toArray, List.set_cons_zero, List.set_cons_succ]
        refine wpAnyH_ready (rs := [12]) (by kernel_rfl) (by simp) (AllReadyH.cons (o := { dst := none, op := Op.store 27 (Operand.tmp 9) (Operand.tmp 54), type := 0, pos := "law.go:185", after := #[{ on := 11, ground := Ground.data }, { on := 9, ground := Ground.data }, { on := 7, ground := Ground.chain }, { on := 0, ground := Ground.phase }, { on := 1, ground := Ground.phase }, { on := 2, ground := Ground.phase }, { on := 3, ground := Ground.phase }, { on := 4, ground := Ground.phase }, { on := 5, ground := Ground.phase }, { on := 6, ground := Ground.phase }, { on := 7, ground := Ground.phase }, { on := 8, ground := Ground.phase }, { on := 9, ground := Ground.phase }, { on := 10, ground := Ground.textOnly Departure.lateStores }, { on := 11, ground := Ground.phase }], guard := none }) rfl (fun KQ hK => ?_) AllReadyH.nil)
        rw [if_pos (by rfl)]
        refine wp_store_st 27 _ _ rfl g9 f'.cs rfl rfl HG18.out (by rw [size27, F.len]) (by rw [F.len, F.len]) f'.all ?_
        have HP19 := hid (HP17.out.but (ButL.setRow w15 g9 f'.cs.toArray (by simp)) HT14.out)
        have HG20 := hid (HG18.out.set f'.cs)
        clear HP17 HG18
        generalize hy : w15.setRow g9 _ = y21 at *
        clear hy
        refine hK.out _ _ HP19.out (fun hHeld => ?_)
        clear hK KQ
        try simp only [Act.put]
        refine wpAnyH_ready (rs := [13]) (by kernel_rfl) (by simp) (AllReadyH.cons (o := { dst := some 10, op := Op.assign (Operand.tmp 55), type := 39, pos := "law.go:185", after := #[{ on := 10, ground := Ground.data }, { on := 12, ground := Ground.chain }, { on := 0, ground := Ground.phase }, { on := 1, ground := Ground.phase }, { on := 2, ground := Ground.phase }, { on := 3, ground := Ground.phase }, { on := 4, ground := Ground.phase }, { on := 5, ground := Ground.phase }, { on := 6, ground := Ground.phase }, { on := 7, ground := Ground.phase }, { on := 8, ground := Ground.phase }, { on := 9, ground := Ground.phase }, { on := 10, ground := Ground.phase }, { on := 11, ground := Ground.phase }, { on := 12, ground := Ground.phase }], guard := none }) rfl (fun KQ hK => ?_) AllReadyH.nil)
        go_simp
        refine hK.out _ _ HP19.out (fun hHeld => ?_)
        clear hK KQ
        try simp only [Act.put, List.setIfInBounds_toArray, List.set_cons_zero, List.set_cons_succ]
        refine wpAnyH_done (by kernel_rfl) ?_ _
        clear HST
        rcases HCS.out with ⟨r0, r1, rfl, rfl⟩ | ⟨rr, rfl, rfl⟩
        · clear HCS
          have r14 : ¬ r < 0 := by omega
          have r15 : ¬ 14 < r := by omega
          go_wp2_with (first | (refine wpList_load_f rfl _ rfl g9 (f.put r.toNat v) rfl HG20.out ?_) | (refine wpList_store_f rfl _ _ rfl g5 f (f.put r.toNat v) rfl rfl HP19.out.fil ?_; intro w5 hc5 hb5 hs5; have HQ := hid (HP19.out.put r.toNat v hb5 hc5); have HB5 := hid (HP19.out.below.trans (hb5.below (B := W.heap.size) (by simp; have := HP19.out.lo; have := HP19.out.l1; omega) HP19.out.below.size)); have x1 := HX1.out w5 HB5.out; have hw5 := HP19.out.wnt.but hb5 (by rw [List.mem_singleton]; have := HP19.out.l2; omega); have y0 := (hw5.cell r.toNat).trans (rs_at f.r r.toNat (by omega)); have y1 := hw5.free r.toNat; clear hc5 hb5 hs5 hw5 HP19 HG20))
          go_roundw
          case measure => simp [intOf] <;> omega
          case rel => exact ⟨k + 1, _, by omega, by go_num, HQ⟩
        · clear HCS
          have HGT : Hid (∀ w, Calls Try.prog 13 #[f.v, .int .i64 r] w fun e W' => e = .returned (.tuple #[.int .u32 0, .int .i64 81]) ∧ Below w.heap.size w W') := hid fun w => by have := get_any w f r; rwa [if_neg (by omega)] at this
          rcases rr with rr | rr
          · have rok := rr
            go_wp2_with (first | (refine wpList_load_f rfl _ rfl g5 f rfl HP19.out.fil ?_) | (go_at_call 13; refine (HGT.out _).mono ?_; rintro e w6 ⟨rfl, hb6⟩; have HQ := hid (HP19.out.on hb6); have HQG := hid (HG20.out.on hb6); clear hb6) | (refine wpList_load_fg (by rfl) _ rfl g9 F.zero rfl HQG.out ?_) | (refine wpList_build_zg (by rfl) rfl ?_) | (refine wpList_neq_fg (by rfl) _ _ rfl F.zero F.zero rfl rfl false (by rw [F.same_self]; rfl) ?_))
            go_roundw
            case measure => simp [intOf] <;> omega
            case rel => exact ⟨k + 1, _, by omega, by go_num, HQ⟩
          · have r00 : ¬ r < 0 := by omega
            go_wp2_with (first | (refine wpList_load_f rfl _ rfl g5 f rfl HP19.out.fil ?_) | (go_at_call 13; refine (HGT.out _).mono ?_; rintro e w6 ⟨rfl, hb6⟩; have HQ := hid (HP19.out.on hb6); have HQG := hid (HG20.out.on hb6); clear hb6) | (refine wpList_load_fg (by rfl) _ rfl g9 F.zero rfl HQG.out ?_) | (refine wpList_build_zg (by rfl) rfl ?_) | (refine wpList_neq_fg (by rfl) _ _ rfl F.zero F.zero rfl rfl false (by rw [F.same_self]; rfl) ?_))
            go_roundw
            case measure => simp [intOf] <;> omega
            case rel => exact ⟨k + 1, _, by omega, by go_num, HQ⟩
    · obtain rfl : k = n := by omega
      clear HSC HAO
      go_wp2_with fail
      go_loopw [13] (fun i wr => ∃ j : Nat, j ≤ 15 ∧ i = .int .i64 (j : Int) ∧ Hid (L4 W wr g2 g5 g6 s0 s1 s2 s3 f)) (fun i _ => 15 - (intOf i).toNat)
      case atStart => exact ⟨0, by omega, rfl, HI⟩
      case round =>
        clear HI
        obtain ⟨j, hj, rfl, HI⟩ := hrel
        by_cases hlt2 : j < 15
        · have c1 : (j : Int) < 15 := by omega
          have HGT : Hid (∀ w, Calls Try.prog 13 #[f.v, .int .i64 (j : Int)] w fun e W' => e = .returned (.tuple #[.int .u32 (f.r j), .int .i64 0]) ∧ Below w.heap.size w W') := hid fun w => by have := get_any w f (j : Int); rwa [if_pos (by omega), Int.toNat_natCast] at this
          go_wp2_with (refine wpList_load_f rfl _ rfl g5 f rfl HI.out.fil ?_)
          refine (HGT.out _).mono ?_
          rintro e w6 ⟨rfl, hb6⟩
          have HQ := hid (HI.out.on hb6)
          have y0 := (HQ.out.fil.cell j).trans (f.at j hlt2)
          have y1 := (HQ.out.wnt.cell j).trans (rs_at f.r j hlt2)
          clear hb6 HI HGT
          go_wp2_with fail
          go_roundw
          case measure => simp [intOf] <;> omega
          case rel => exact ⟨j + 1, by omega, by go_num, HQ⟩
        · obtain rfl : j = 15 := by omega
          have y15 := (HI.out.fil.cell 15).trans f.at15
          have y16 := (HI.out.fil.cell 16).trans f.at16
          have y17 := (HI.out.fil.cell 17).trans f.at17
          have y18 := (HI.out.fil.cell 18).trans f.at18
          rw [HI.out.pc] at y15
          rw [HI.out.z] at y16
          rw [HI.out.n] at y17
          rw [HI.out.l] at y18
          have b0 : wr.cell? ⟨g2, 0, none⟩ = some (.int .u32 s0) := HI.out.box.cell 0
          go_wp2_with fail
          go_ret
          exact ⟨rfl, HI.out.below⟩
end Go.Proofs.Ythpkodkilbcepaa
