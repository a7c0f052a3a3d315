/- The law's madeDoc 6. -/
import Derived.Test.YteldpapacdbbiaaGreatDoorN6F0F1
namespace Go.Proofs.YteldpapacdbbiaaGreatDoor
open Go.RowKit
set_option maxHeartbeats 8000000
set_option maxRecDepth 100000
attribute [-simp] Tryz.isAgg26 Tryz.sizeOf26 Tryz.isAgg24 Tryz.isAgg28 Tryz.sizeOf28
def ML (X w : World) (gr g6 : Nat) (m : MS) (cs : List Value) : Prop := ∃ r : Rf, r.g = gr ∧ g6 ∉ r.all ∧ NewR X w r m ∧ Cel w g6 62 cs
theorem ML.on {X w w' : World} {gr g6 : Nat} {m : MS} {cs : List Value} (h : ML X w gr g6 m cs) (hb : Below w.heap.size w w') : ML X w' gr g6 m cs := by
  obtain ⟨r, h1, h2, h3, h4⟩ := h
  exact ⟨r, h1, h2, h3.on hb, h4.on hb⟩
theorem ML.cel {X w : World} {gr g6 : Nat} {m : MS} {cs : List Value} (h : ML X w gr g6 m cs) : Cel w g6 62 cs := by obtain ⟨r, h1, h2, h3, h4⟩ := h; exact h4
theorem ML.below {X w : World} {gr g6 : Nat} {m : MS} {cs : List Value} (h : ML X w gr g6 m cs) : Below X.heap.size X w := by obtain ⟨r, h1, h2, h3, h4⟩ := h; exact h3.below
theorem ML.new {X w : World} {gr g6 : Nat} {m : MS} {cs : List Value} (h : ML X w gr g6 m cs) : ∃ r : Rf, r.g = gr ∧ NewR X w r m := by obtain ⟨r, h1, h2, h3, h4⟩ := h; exact ⟨r, h1, h3⟩
theorem ML.wr {X w : World} {gr g6 : Nat} {m : MS} {cs : List Value} (h : ML X w gr g6 m cs) (s : Bool) (p off v : Int) :
    Calls Tryz.prog 22 #[ptr gr, fr s p, .int .i64 off, .int .u32 v] w fun x w' => x = .returned (.int .i64 (m.err s p off)) ∧ ML X w' gr g6 (m.write s p off v) cs := by
  obtain ⟨r, rfl, h2, h3, h4⟩ := h
  refine (rwrite_any w r m h3.mem s p off v).mono ?_
  rintro x w' ⟨h5, r', hs⟩
  exact ⟨h5, r', hs.g, fun hm => by
    rcases hs.sub _ hm with k | k
    · exact h2 k
    · have := h4.lt; omega, h3.step hs, h4.but hs.but h2⟩
theorem madeDoc_any (W : World) (q : Mq) (bk off : Nat) (L : Nat → Ly) (hq : q.Ok W bk off L) :
    Calls Tryz.prog 6 #[q.v] W fun e W' => ∃ r : Rf, e = .returned (ptr r.g) ∧ NewR W W' r (q.m L) := by
  have HC : Hid (MB W (W.alloc (.cells q.cs.toArray 28)) W.heap.size q) := hid ⟨Cel.new W 28 _, below_one _ _⟩
  have HX : Hid (W.heap.size < (W.alloc (.cells q.cs.toArray 28)).heap.size) := hid (by simp)
  have H1 := hid (fun W => size_any W q.s)
  have H2 := hid (fun W => size_any W q.n)
  have e1 := sz_range q.s
  have e2 := sz_range q.n
  have H3 := hid (fun W => rnew_any W (sz q.s) (sz q.n) e1.1 (by omega) e2.1 (by omega))
  have HQ := hid hq.at_
  have hn := hq.n
  clear hq e1 e2
  unfold ptr Mq.m Mq.v at *
  generalize MS.new (sz q.s) (sz q.n) = m at *
  generalize sz q.s = pa at *
  generalize sz q.n = pb at *
  generalize hcs : q.cs.toArray = C at *
  clear hcs
  go_enter Tryz.func6, Tryz.ntmps6
  go_upto_region 1 with fail
  generalize hX : W.alloc _ = X at *
  clear hX
  generalize hg : W.heap.size = g0 at *
  have HD := hid (HC.out.on (Below.refl _ _).drew)
  refine wp_region_held_drew (S := fun x => MB W x g0 q) (by kernel_rfl) HD.out (fun hHeld => ?_)
  refine wpAnyH_take (i := 0) (oi := { dst := some 9, op := Op.fieldAddr 28 (Operand.tmp 1) 0, type := 0, pos := "law.go:67", after := #[], guard := none }) (v := .pointer (some ⟨g0, 0, none⟩)) rfl (by kernel_rfl) (by kernel_rfl) (by kernel_rfl) (fun _ _ _ h => h) (Or.inl ⟨by rfl, by intro w hSw; go_simp⟩) (by assumption) ?_
  simp only [Act.put, List.setIfInBounds_toArray, List.set_cons_zero, List.set_cons_succ]
  refine wpAnyH_take (i := 1) (oi := { dst := some 10, op := Op.load 3 (Operand.tmp 9), type := 3, pos := "law.go:67", after := #[{ on := 0, ground := Ground.data }], guard := none }) (v := .int .i64 q.s) rfl (by kernel_rfl) (by kernel_rfl) (by kernel_rfl) (fun _ _ _ h => h) (Or.inl ⟨by rfl, by intro w hSw; have hq := hSw.c0; go_simp⟩) (by assumption) ?_
  simp only [Act.put, List.setIfInBounds_toArray, List.set_cons_zero, List.set_cons_succ]
  refine wpAnyH_take (i := 3) (oi := { dst := some 12, op := Op.fieldAddr 28 (Operand.tmp 1) 1, type := 0, pos := "law.go:67", after := #[], guard := none }) (v := .pointer (some ⟨g0, 1, none⟩)) rfl (by kernel_rfl) (by kernel_rfl) (by kernel_rfl) (fun _ _ _ h => h) (Or.inl ⟨by rfl, by intro w hSw; go_simp⟩) (by assumption) ?_
  simp only [Act.put, List.setIfInBounds_toArray, List.set_cons_zero, List.set_cons_succ]
  refine wpAnyH_take (i := 4) (oi := { dst := some 13, op := Op.load 3 (Operand.tmp 12), type := 3, pos := "law.go:67", after := #[{ on := 3, ground := Ground.data }], guard := none }) (v := .int .i64 q.n) rfl (by kernel_rfl) (by kernel_rfl) (by kernel_rfl) (fun _ _ _ h => h) (Or.inl ⟨by rfl, by intro w hSw; have hq := hSw.c1; go_simp⟩) (by assumption) ?_
  simp only [Act.put, List.setIfInBounds_toArray, List.set_cons_zero, List.set_cons_succ]
  refine wpAnyH_ready (rs := [2]) (by kernel_rfl) (by simp) (AllReadyH.cons (o := { dst := some 11, op := Op.call { callee := Callee.value (Operand.func 18), args := #[Operand.tmp 10], argTypes := #[3] }, type := 3, pos := "law.go:67", after := #[{ on := 1, ground := Ground.data }], guard := none }) rfl (fun KQ hK => ?_) AllReadyH.nil)
  go_simp
  refine (H1.out _).mono ?_
  rintro e wx ⟨rfl, rfl⟩
  go_wp2_with fail
  refine hK.out _ _ HD.out (fun hHeld => ?_)
  clear hK KQ
  try simp only [Act.put, List.setIfInBounds_toArray, List.set_cons_zero, List.set_cons_succ]
  refine wpAnyH_ready (rs := [5]) (by kernel_rfl) (by simp) (AllReadyH.cons (o := { dst := some 14, op := Op.call { callee := Callee.value (Operand.func 18), args := #[Operand.tmp 13], argTypes := #[3] }, type := 3, pos := "law.go:67", after := #[{ on := 4, ground := Ground.data }, { on := 2, ground := Ground.chain }], guard := none }) rfl (fun KQ hK => ?_) AllReadyH.nil)
  go_simp
  refine (H2.out _).mono ?_
  rintro e wx ⟨rfl, rfl⟩
  go_wp2_with fail
  refine hK.out _ _ HD.out (fun hHeld => ?_)
  clear hK KQ
  try simp only [Act.put, List.setIfInBounds_toArray, List.set_cons_zero, List.set_cons_succ]
  refine wpAnyH_ready (rs := [6]) (by kernel_rfl) (by simp) (AllReadyH.cons (o := { dst := some 15, op := Op.call { callee := Callee.value (Operand.func 21), args := #[Operand.tmp 11, Operand.tmp 14], argTypes := #[3, 3] }, type := 65, pos := "law.go:67", after := #[{ on := 2, ground := Ground.data }, { on := 5, ground := Ground.data }, { on := 5, ground := Ground.chain }], guard := none }) rfl (fun KQ hK => ?_) AllReadyH.nil)
  go_simp
  refine (H3.out _).mono ?_
  rintro e w1 ⟨r0, rfl, hm1⟩
  have HM1 : Hid (∃ r : Rf, r.g = r0.g ∧ NewR X.drew w1 r m) := hid ⟨r0, rfl, hm1⟩
  have HE := hid (HD.out.on hm1.below)
  clear hm1
  generalize r0.g = gr at *
  go_wp2_with fail
  refine hK.out _ _ HE.out (fun hHeld => ?_)
  clear hK KQ
  try simp only [Act.put, List.setIfInBounds_toArray, List.set_cons_zero, List.set_cons_succ]
  refine wpAnyH_take (i := 7) (oi := { dst := some 8, op := Op.move (Operand.tmp 15), type := 65, pos := "law.go:67", after := #[{ on := 6, ground := Ground.data }], guard := none }) (v := .tuple #[.pointer (some ⟨gr, 0, none⟩), .int .i64 0]) rfl (by kernel_rfl) (by kernel_rfl) (by kernel_rfl) (fun _ _ _ h => h) (Or.inl ⟨by rfl, by intro w hSw; go_simp⟩) (by assumption) ?_
  simp only [Act.put, List.setIfInBounds_toArray, List.set_cons_zero, List.set_cons_succ]
  refine wpAnyH_take (i := 8) (oi := { dst := some 16, op := Op.extract (Operand.tmp 8) 0, type := 32, pos := "law.go:67", after := #[{ on := 7, ground := Ground.data }], guard := none }) (v := .pointer (some ⟨gr, 0, none⟩)) rfl (by kernel_rfl) (by kernel_rfl) (by kernel_rfl) (fun _ _ _ h => h) (Or.inl ⟨by rfl, by intro w hSw; go_simp⟩) (by assumption) ?_
  simp only [Act.put, List.setIfInBounds_toArray, List.set_cons_zero, List.set_cons_succ]
  refine wpAnyH_take (i := 9) (oi := { dst := some 17, op := Op.extract (Operand.tmp 8) 1, type := 3, pos := "law.go:67", after := #[{ on := 7, ground := Ground.data }, { on := 10, ground := Ground.gcOnly Departure.lateStores }], guard := none }) (v := .int .i64 0) rfl (by kernel_rfl) (by kernel_rfl) (by kernel_rfl) (fun _ _ _ h => h) (Or.inl ⟨by rfl, by intro w hSw; go_simp⟩) (by assumption) ?_
  simp only [Act.put, List.setIfInBounds_toArray, List.set_cons_zero, List.set_cons_succ]
  refine wpAnyH_ready (rs := [10]) (by kernel_rfl) (by simp) (AllReadyH.cons (o := { dst := some 3, op := Op.assign (Operand.tmp 16), type := 32, pos := "law.go:67", after := #[{ on := 8, ground := Ground.data }, { on := 6, ground := Ground.chain }, { on := 0, ground := Ground.phase }, { on := 1, ground := Ground.phase }, { on := 2, ground := Ground.phase }, { on := 3, ground := Ground.phase }, { on := 4, ground := Ground.phase }, { on := 5, ground := Ground.phase }, { on := 6, ground := Ground.phase }, { on := 7, ground := Ground.phase }, { on := 8, ground := Ground.phase }, { on := 9, ground := Ground.textOnly Departure.lateStores }], guard := none }) rfl (fun KQ hK => ?_) AllReadyH.nil)
  go_simp
  refine hK.out _ _ HE.out (fun hHeld => ?_)
  clear hK KQ
  try simp only [Act.put, List.setIfInBounds_toArray, List.set_cons_zero, List.set_cons_succ]
  refine wpAnyH_ready (rs := [11]) (by kernel_rfl) (by simp) (AllReadyH.cons (o := { dst := some 4, op := Op.assign (Operand.tmp 17), type := 3, pos := "law.go:67", after := #[{ on := 9, ground := Ground.data }, { on := 10, ground := Ground.chain }, { on := 0, ground := Ground.phase }, { on := 1, ground := Ground.phase }, { on := 2, ground := Ground.phase }, { on := 3, ground := Ground.phase }, { on := 4, ground := Ground.phase }, { on := 5, ground := Ground.phase }, { on := 6, ground := Ground.phase }, { on := 7, ground := Ground.phase }, { on := 8, ground := Ground.phase }, { on := 9, ground := Ground.phase }, { on := 10, ground := Ground.phase }], guard := none }) rfl (fun KQ hK => ?_) AllReadyH.nil)
  go_simp
  refine hK.out _ _ HE.out (fun hHeld => ?_)
  clear hK KQ
  try simp only [Act.put, List.setIfInBounds_toArray, List.set_cons_zero, List.set_cons_succ]
  refine wpAnyH_done (by kernel_rfl) ?_ _
  subst hg
  have HB1 := hid HE.out.below
  go_wp2_with fail
  go_loopw [5] (fun i wr => ∃ j : Nat, j ≤ q.ln ∧ i = .int .i64 (j : Int) ∧ Hid (∃ r : Rf, r.g = gr ∧ NewR X.drew wr r (m.lays L j))) (fun i _ => q.ln - (intOf i).toNat)
  case atStart => exact ⟨0, Nat.zero_le _, rfl, HM1⟩
  case round =>
    obtain ⟨j, hj, rfl, HN0⟩ := hrel
    have HMB : Hid (MB W wr W.heap.size q) := hid (by obtain ⟨r, _, h⟩ := HN0.out; exact HD.out.on h.below)
    have HNB : Hid (Below X.drew.heap.size X.drew wr) := hid (by obtain ⟨r, _, h⟩ := HN0.out; exact h.below)
    have c2 := HMB.out.c2
    by_cases hlt : j < q.ln
    · have q1 : (j : Int) < (q.ln : Int) := by omega
      obtain ⟨hao, hb0⟩ := HQ.out.ao (by omega)
      rw [hao] at c2
      clear hao
      have HKx := hid (HQ.out.on (below_on HD.out.below HNB.out))
      obtain ⟨k0, k1, k2, k3⟩ := HKx.out.c j hlt
      have HLy := hid (HQ.out.ok j hlt)
      have HNX : Hid (m.lays L (j + 1) = (m.lays L j).lay1 (L j) (min (L j).n 1024)) := hid rfl
      clear HKx
      generalize m.lays L j = mj at *
      generalize L j = y at *
      obtain ⟨ys, yp, yo, yao, yn, ycp, yw⟩ := y
      simp only at k0 k1 k2 k3 HNX
      have HN2 : Hid (ML X.drew (wr.alloc (.cells #[.bool ys, .int .i64 yp, .int .i64 yo, .slice yao yn ycp] 62)) gr wr.heap.size mj [.bool ys, .int .i64 yp, .int .i64 yo, .slice yao yn ycp]) := hid (by
        obtain ⟨r, h1, h2⟩ := HN0.out
        exact ⟨r, h1, fun hm => by have := h2.mem.lt _ hm; omega, h2.on (below_one _ _), Cel.new wr 62 [.bool ys, .int .i64 yp, .int .i64 yo, .slice yao yn ycp]⟩)
      have HB6 : Hid (Below W.heap.size W wr) := hid (below_on HD.out.below HNB.out)
      clear HN0 HMB HNB
      go_upto_region 6 with fail
      generalize hX6 : wr.alloc _ = x6 at *
      clear hX6 c2 k0 k1 k2 k3
      generalize wr.heap.size = g6 at *
      go_wp2_with fail
      go_loopw [7] (fun i w7 => ∃ t : Nat, t ≤ min yn 1024 ∧ i = .int .i64 (t : Int) ∧ Hid (ML X.drew w7 gr g6 (mj.lay1 ⟨ys, yp, yo, yao, yn, ycp, yw⟩ t) [.bool ys, .int .i64 yp, .int .i64 yo, .slice yao yn ycp])) (fun i _ => min yn 1024 - (intOf i).toNat)
      case atStart => exact ⟨0, Nat.zero_le _, rfl, HN2⟩
      case round =>
        obtain ⟨t, ht, rfl, HT⟩ := hrel
        have d2 := HT.out.cel.cell 2
        have d3 := HT.out.cel.cell 3
        simp only [List.getElem?_cons_zero, List.getElem?_cons_succ] at d2 d3
        by_cases htl : t < min yn 1024
        · have t1 : (t : Int) < (yn : Int) := by omega
          have t2 : (t : Int) < 1024 := by omega
          have HT1 : Hid (t < min yn 1024) := hid htl
          by_cases ho : 0 ≤ yo ∧ yo < 1024
          · have HO := hid ho
            obtain ⟨o0, o1⟩ := ho
            go_upto_region 10 with fail
            clear d2 d3
            obtain ⟨b, of, hao, hlt2, hw⟩ := HLy.out.c (by show 0 < yn; omega)
            simp only at hao hw
            subst hao
            have HW0 := hid (hw t (by omega))
            have HW1 : Hid (∀ x, Below W.heap.size W x → x.cell? ⟨b, of + t, none⟩ = some (.int .u32 (yw t))) := hid (fun x hb => (hb.cell (p := ⟨b, of + t, none⟩) hlt2).trans HW0.out)
            have HW2 := hid (HW1.out _ (below_on HD.out.below HT.out.below).drew)
            clear hw HW0
            have HWr : Hid (∀ x, ML X.drew x gr g6 (mj.lay1 ⟨ys, yp, yo, some ⟨b, of, none⟩, yn, ycp, yw⟩ t) [.bool ys, .int .i64 yp, .int .i64 yo, .slice (some ⟨b, of, none⟩) yn ycp] → _) := hid (fun x hm => hm.wr ys yp (yo + (t : Int)) (yw t))
            have HDc := hid (fun x => doc_any x ys yp)
            unfold fr ptr at HWr
            unfold fr at HDc
            have HTD := hid (HT.out.on (Below.refl _ _).drew)
            refine wp_region_held_drew (S := fun x => Cel x g6 62 [.bool ys, .int .i64 yp, .int .i64 yo, .slice (some ⟨b, of, none⟩) yn ycp] ∧ x.cell? ⟨b, of + t, none⟩ = some (.int .u32 (yw t))) (by kernel_rfl) ⟨HTD.out.cel, HW2.out⟩ (fun hHeld => ?_)
            refine wpAnyH_take (i := 0) (oi := { dst := some 49, op := Op.move (Operand.tmp 3), type := 32, pos := "law.go:72", after := #[], guard := none }) (v := .pointer (some ⟨gr, 0, none⟩)) rfl (by kernel_rfl) (by kernel_rfl) (by kernel_rfl) (fun _ _ _ h => h) (Or.inl ⟨by rfl, by intro w hSw; go_simp⟩) (by assumption) ?_
            simp only [Act.put, List.setIfInBounds_toArray, List.set_cons_zero, List.set_cons_succ]
            refine wpAnyH_take (i := 1) (oi := { dst := some 50, op := Op.fieldAddr 62 (Operand.tmp 6) 0, type := 0, pos := "law.go:72", after := #[], guard := none }) (v := .pointer (some ⟨g6, 0, none⟩)) rfl (by kernel_rfl) (by kernel_rfl) (by kernel_rfl) (fun _ _ _ h => h) (Or.inl ⟨by rfl, by intro w hSw; go_simp⟩) (by assumption) ?_
            simp only [Act.put, List.setIfInBounds_toArray, List.set_cons_zero, List.set_cons_succ]
            refine wpAnyH_take (i := 2) (oi := { dst := some 51, op := Op.load 59 (Operand.tmp 50), type := 59, pos := "law.go:72", after := #[{ on := 1, ground := Ground.data }], guard := none }) (v := .agg #[.bool ys, .int .i64 yp]) rfl (by kernel_rfl) (by kernel_rfl) (by kernel_rfl) (fun _ _ _ h => h) (Or.inl ⟨by rfl, by intro w hSw; have h0 := Cel.cell hSw.1 0; have h1 := Cel.cell hSw.1 1; have h2 := Cel.cell hSw.1 2; have h3 := Cel.cell hSw.1 3; simp only [List.getElem?_cons_zero, List.getElem?_cons_succ] at h0 h1 h2 h3; go_simp⟩) (by assumption) ?_
            simp only [Act.put, List.setIfInBounds_toArray, List.set_cons_zero, List.set_cons_succ]
            refine wpAnyH_take (i := 4) (oi := { dst := some 53, op := Op.fieldAddr 62 (Operand.tmp 6) 1, type := 0, pos := "law.go:72", after := #[], guard := none }) (v := .pointer (some ⟨g6, 2, none⟩)) rfl (by kernel_rfl) (by kernel_rfl) (by kernel_rfl) (fun _ _ _ h => h) (Or.inl ⟨by rfl, by intro w hSw; go_simp⟩) (by assumption) ?_
            simp only [Act.put, List.setIfInBounds_toArray, List.set_cons_zero, List.set_cons_succ]
            refine wpAnyH_take (i := 5) (oi := { dst := some 54, op := Op.load 3 (Operand.tmp 53), type := 3, pos := "law.go:72", after := #[{ on := 4, ground := Ground.data }], guard := none }) (v := .int .i64 yo) rfl (by kernel_rfl) (by kernel_rfl) (by kernel_rfl) (fun _ _ _ h => h) (Or.inl ⟨by rfl, by intro w hSw; have h0 := Cel.cell hSw.1 0; have h1 := Cel.cell hSw.1 1; have h2 := Cel.cell hSw.1 2; have h3 := Cel.cell hSw.1 3; simp only [List.getElem?_cons_zero, List.getElem?_cons_succ] at h0 h1 h2 h3; go_simp⟩) (by assumption) ?_
            simp only [Act.put, List.setIfInBounds_toArray, List.set_cons_zero, List.set_cons_succ]
            refine wpAnyH_take (i := 6) (oi := { dst := some 55, op := Op.move (Operand.tmp 7), type := 3, pos := "law.go:72", after := #[], guard := none }) (v := .int .i64 (t : Int)) rfl (by kernel_rfl) (by kernel_rfl) (by kernel_rfl) (fun _ _ _ h => h) (Or.inl ⟨by rfl, by intro w hSw; go_simp⟩) (by assumption) ?_
            simp only [Act.put, List.setIfInBounds_toArray, List.set_cons_zero, List.set_cons_succ]
            refine wpAnyH_take (i := 7) (oi := { dst := some 56, op := Op.binOp BinOp.add 3 (Operand.tmp 54) (Operand.tmp 55) 3, type := 3, pos := "law.go:72", after := #[{ on := 5, ground := Ground.data }, { on := 6, ground := Ground.data }], guard := none }) (v := .int .i64 (yo + (t : Int))) rfl (by kernel_rfl) (by kernel_rfl) (by kernel_rfl) (fun _ _ _ h => h) (Or.inl ⟨by rfl, by intro w hSw; go_simp; exact wrapI _ (by omega)⟩) (by assumption) ?_
            simp only [Act.put, List.setIfInBounds_toArray, List.set_cons_zero, List.set_cons_succ]
            refine wpAnyH_take (i := 8) (oi := { dst := some 57, op := Op.fieldAddr 62 (Operand.tmp 6) 2, type := 0, pos := "law.go:72", after := #[], guard := none }) (v := .pointer (some ⟨g6, 3, none⟩)) rfl (by kernel_rfl) (by kernel_rfl) (by kernel_rfl) (fun _ _ _ h => h) (Or.inl ⟨by rfl, by intro w hSw; go_simp⟩) (by assumption) ?_
            simp only [Act.put, List.setIfInBounds_toArray, List.set_cons_zero, List.set_cons_succ]
            refine wpAnyH_take (i := 9) (oi := { dst := some 58, op := Op.load 60 (Operand.tmp 57), type := 60, pos := "law.go:72", after := #[{ on := 8, ground := Ground.data }], guard := none }) (v := .slice (some ⟨b, of, none⟩) yn ycp) rfl (by kernel_rfl) (by kernel_rfl) (by kernel_rfl) (fun _ _ _ h => h) (Or.inl ⟨by rfl, by intro w hSw; have h0 := Cel.cell hSw.1 0; have h1 := Cel.cell hSw.1 1; have h2 := Cel.cell hSw.1 2; have h3 := Cel.cell hSw.1 3; simp only [List.getElem?_cons_zero, List.getElem?_cons_succ] at h0 h1 h2 h3; go_simp⟩) (by assumption) ?_
            simp only [Act.put, List.setIfInBounds_toArray, List.set_cons_zero, List.set_cons_succ]
            refine wpAnyH_take (i := 10) (oi := { dst := some 59, op := Op.move (Operand.tmp 7), type := 3, pos := "law.go:72", after := #[], guard := none }) (v := .int .i64 (t : Int)) rfl (by kernel_rfl) (by kernel_rfl) (by kernel_rfl) (fun _ _ _ h => h) (Or.inl ⟨by rfl, by intro w hSw; go_simp⟩) (by assumption) ?_
            simp only [Act.put, List.setIfInBounds_toArray, List.set_cons_zero, List.set_cons_succ]
            refine wpAnyH_take (i := 11) (oi := { dst := some 60, op := Op.indexAddr 60 (Operand.tmp 58) (Operand.tmp 59), type := 0, pos := "law.go:72", after := #[{ on := 9, ground := Ground.data }, { on := 10, ground := Ground.data }], guard := none }) (v := .pointer (some ⟨b, of + t, none⟩)) rfl (by kernel_rfl) (by kernel_rfl) (by kernel_rfl) (fun _ _ _ h => h) (Or.inl ⟨by rfl, by intro w hSw; go_simp⟩) (by assumption) ?_
            simp only [Act.put, List.setIfInBounds_toArray, List.set_cons_zero, List.set_cons_succ]
            refine wpAnyH_take (i := 12) (oi := { dst := some 61, op := Op.load 23 (Operand.tmp 60), type := 23, pos := "law.go:72", after := #[{ on := 11, ground := Ground.data }], guard := none }) (v := .int .u32 (yw t)) rfl (by kernel_rfl) (by kernel_rfl) (by kernel_rfl) (fun _ _ _ h => h) (Or.inl ⟨by rfl, by intro w hSw; have h0 := hSw.2; go_simp⟩) (by assumption) ?_
            simp only [Act.put, List.setIfInBounds_toArray, List.set_cons_zero, List.set_cons_succ]
            refine wpAnyH_ready (rs := [3]) (by kernel_rfl) (by simp) (AllReadyH.cons (o := { dst := some 52, op := Op.call { callee := Callee.value (Operand.func 23), args := #[Operand.tmp 51], argTypes := #[59] }, type := 68, pos := "law.go:72", after := #[{ on := 2, ground := Ground.data }], guard := none }) rfl (fun KQ hK => ?_) AllReadyH.nil)
            go_simp
            refine (HDc.out _).mono ?_
            rintro e w8 ⟨rfl, hb8⟩
            have HT8 := hid (HTD.out.on hb8)
            have HW8 := hid (HW1.out _ (below_on HD.out.below HT8.out.below))
            clear hb8
            go_wp2_with fail
            refine hK.out _ _ ⟨HT8.out.cel, HW8.out⟩ (fun hHeld => ?_)
            clear hK KQ
            try simp only [Act.put, List.setIfInBounds_toArray, List.set_cons_zero, List.set_cons_succ]
            refine wpAnyH_ready (rs := [13]) (by kernel_rfl) (by simp) (AllReadyH.cons (o := { dst := some 62, op := Op.call { callee := Callee.value (Operand.func 22), args := #[Operand.tmp 49, Operand.tmp 52, Operand.tmp 56, Operand.tmp 61], argTypes := #[32, 68, 3, 23] }, type := 3, pos := "law.go:72", after := #[{ on := 0, ground := Ground.data }, { on := 3, ground := Ground.data }, { on := 7, ground := Ground.data }, { on := 12, ground := Ground.data }, { on := 3, ground := Ground.chain }], guard := none }) rfl (fun KQ hK => ?_) AllReadyH.nil)
            go_simp
            refine (HWr.out _ HT8.out).mono ?_
            rintro e w9 ⟨rfl, hm9⟩
            have HT9 := hid hm9
            have HW9 := hid (HW1.out _ (below_on HD.out.below HT9.out.below))
            clear hm9
            go_wp2_with fail
            refine hK.out _ _ ⟨HT9.out.cel, HW9.out⟩ (fun hHeld => ?_)
            clear hK KQ
            try simp only [Act.put, List.setIfInBounds_toArray, List.set_cons_zero, List.set_cons_succ]
            refine wpAnyH_done (by kernel_rfl) ?_ _
            go_wp2_with fail
            go_roundw
            case measure => simp [intOf] <;> omega
            case rel => exact ⟨t + 1, by have := HT1.out; omega, by simp, hid (by
              have h := HT9.out
              unfold MS.lay1
              rw [if_pos (show 0 ≤ yo ∧ yo < 1024 from HO.out)]
              exact h)⟩
          · have HO := hid ho
            have HS2 : Hid (ML X.drew wr gr g6 (mj.lay1 ⟨ys, yp, yo, yao, yn, ycp, yw⟩ (t + 1)) [.bool ys, .int .i64 yp, .int .i64 yo, .slice yao yn ycp]) := hid (by
              have h := HT.out
              unfold MS.lay1
              rw [if_neg (show ¬ (0 ≤ yo ∧ yo < 1024) from HO.out)]
              exact h)
            have ho' : yo < 0 ∨ 1024 ≤ yo := by omega
            clear ho
            rcases ho' with ho | ho
            all_goals go_wp2_with fail
            all_goals go_roundw
            all_goals first | (simp [intOf] <;> omega) | exact ⟨t + 1, by have := HT1.out; omega, by simp, HS2⟩
        · have htn : t = min yn 1024 := by omega
          subst htn
          have HZ : Hid (∃ r : Rf, r.g = gr ∧ NewR X.drew wr r (m.lays L (j + 1))) := hid (by rw [HNX.out]; exact HT.out.new)
          by_cases hyn : yn < 1024
          · have e1 : ((min yn 1024 : Nat) : Int) = (yn : Int) := by omega
            rw [e1] at *
            go_wp2_with fail
            go_roundw
            case measure => simp [intOf] <;> omega
            case rel => exact ⟨j + 1, by omega, by simp, HZ⟩
          · have e1 : ((min yn 1024 : Nat) : Int) = 1024 := by omega
            rw [e1] at *
            by_cases hy2 : yn = 1024
            · have e2 : (yn : Int) = 1024 := by omega
              rw [e2] at *
              clear hy2 hyn e2
              go_wp2_with fail
              go_roundw
              all_goals first | exact ⟨⟨j + 1, by omega, by simp, HZ⟩, by simp [intOf]; omega⟩ | exact ⟨j + 1, by omega, by simp, HZ⟩ | (simp [intOf]; omega)
            · have e2 : 1024 < (yn : Int) := by omega
              go_wp2_with fail
              go_roundw
              case measure => simp [intOf] <;> omega
              case rel => exact ⟨j + 1, by omega, by simp, HZ⟩
    · have hjn : j = q.ln := by omega
      subst hjn
      have HZ : Hid (∃ r : Rf, r.g = gr ∧ NewR W wr r (m.lays L q.ln)) := hid (by
        obtain ⟨r, h1, h2⟩ := HN0.out
        exact ⟨r, h1, h2.mem, below_to HD.out.below (by have := HX.out; simp at this ⊢; omega) h2.below, fun k hk => by have := h2.new k hk; have := HX.out; simp at *; omega⟩)
      go_wp2_with fail
      go_returns
      obtain ⟨r, rfl, h2⟩ := HZ.out
      exact ⟨r, rfl, h2⟩
end Go.Proofs.YteldpapacdbbiaaGreatDoor
