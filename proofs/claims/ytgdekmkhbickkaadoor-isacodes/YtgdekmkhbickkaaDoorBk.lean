/- IsaBack (3): the walk. -/
import Derived.Test.YtgdekmkhbickkaaDoorOne
import Derived.Test.YtgdekmkhbickkaaDoorMat5
namespace Go.Proofs.YtgdekmkhbickkaaDoor
open Go.RowKit

def AtU (W : World) (ao : Option Addr) (xs : List Int) : Prop := xs = [] ∨ ∃ g off, ao = some ⟨g, off, none⟩ ∧ g < W.heap.size ∧ ∀ i (h : i < xs.length), W.cell? ⟨g, off + i, none⟩ = some (.int .u32 xs[i])
def AtI (W : World) (ao : Option Addr) (is : List Ins) : Prop := is = [] ∨ ∃ g off, ao = some ⟨g, off, none⟩ ∧ g < W.heap.size ∧ ∀ i (h : i < is.length), W.rangeAt g (off + i * 6) is[i].cs
theorem decode_ins (W : World) (hT : Tabs W) (w : Int) (w0 : 0 ≤ w) (w1 : w < 4294967296) (op cond a b c imm e : Int) (h : dec w = ⟨op, cond, a, b, c, imm⟩) (he : decE w = e) :
    Calls Tryd.prog 8 #[.int .u32 w] W fun r W' => r = .returned (.tuple #[.agg #[.int .i64 op, .int .i64 cond, .int .i64 a, .int .i64 b, .int .i64 c, .int .i32 imm], .int .i64 e]) ∧ Below W.heap.size W W' := by
  have := decode_any W hT.f hT.t hT.z w w0 w1
  rw [h, he] at this
  exact this
theorem encode_ins (W : World) (hT : Tabs W) (op cond a b c imm v e : Int) (i0 : -2147483648 ≤ imm) (i1 : imm < 2147483648) (hv : enc ⟨op, cond, a, b, c, imm⟩ = v) (he : chk ⟨op, cond, a, b, c, imm⟩ = e) :
    Calls Tryd.prog 10 #[.agg #[.int .i64 op, .int .i64 cond, .int .i64 a, .int .i64 b, .int .i64 c, .int .i32 imm]] W fun r W' => r = .returned (.tuple #[.int .u32 v, .int .i64 e]) ∧ Below W.heap.size W W' := by
  have := encode_any W hT.f hT.t hT.z ⟨op, cond, a, b, c, imm⟩ i0 i1
  rw [hv, he] at this
  exact this
theorem check_ins (W : World) (hT : Tabs W) (op cond a b c imm e : Int) (i0 : -2147483648 ≤ imm) (i1 : imm < 2147483648) (he : chk ⟨op, cond, a, b, c, imm⟩ = e) :
    Calls Tryd.prog 11 #[.agg #[.int .i64 op, .int .i64 cond, .int .i64 a, .int .i64 b, .int .i64 c, .int .i32 imm]] W fun r W' => r = .returned (.int .i64 e) ∧ Below W.heap.size W W' := by
  have := check_any W hT.f hT.z ⟨op, cond, a, b, c, imm⟩ i0 i1
  rw [he] at this
  exact this

set_option maxRecDepth 40000 in
set_option maxHeartbeats 4000000 in
theorem back_walk (W : World) (hT : Tabs W) (ao : Option Addr) (n cp : Nat) (xs : List Int) (hx : xs.length = n) (hxb : ∀ x ∈ xs, 0 ≤ x ∧ x < 4294967296) (hat : AtU W ao xs) (hn : n ≤ 140737488351232)
    (bo : Option Addr) (m dp : Nat) (is : List Ins) (hi : is.length = m) (hib : ∀ i ∈ is, -2147483648 ≤ i.imm ∧ i.imm < 2147483648) (hbt : AtI W bo is) (hm : m ≤ 140737488351232) :
    Calls Tryd.prog 3 #[.slice ao n cp, .slice bo m dp] W fun e W' => e = .returned (.bool true) ∧ Below W.heap.size W W' := by
  have HT : Hid (∀ x, Below W.heap.size W x → Tabs x) := fun x hb => hT.on hb
  have HA : Hid (AtU W ao xs) := hat
  have HB : Hid (AtI W bo is) := hbt
  have HX : Hid (xs.length = n ∧ ∀ x ∈ xs, 0 ≤ x ∧ x < 4294967296) := ⟨hx, hxb⟩
  have HI : Hid (is.length = m ∧ ∀ i ∈ is, -2147483648 ≤ i.imm ∧ i.imm < 2147483648) := ⟨hi, hib⟩
  have n1 : (n : Int) ≤ 140737488351232 := by omega
  have m1 : (m : Int) ≤ 140737488351232 := by omega
  clear hT hat hbt hx hxb hi hib hn hm
  go_enter Tryd.func3, Tryd.ntmps3
  go_wp2_with fail
  go_loopw [5] (fun i wr => ∃ k : Nat, k ≤ n ∧ i = .int .i64 k ∧ Hid (Below W.heap.size W wr)) (fun i _ => n - (intOf i).toNat)
  case atStart => exact ⟨0, Nat.zero_le _, rfl, Below.refl _ _⟩
  case round =>
    obtain ⟨k, hk, rfl, BR⟩ := hrel
    by_cases hk2 : k < n
    · have c1 : (k : Int) < (n : Int) := by omega
      rcases HA.out with h0 | ⟨g, off, rfl, hg, hcell⟩
      · have h2 := HX.out.1; rw [h0] at h2; simp at h2; omega
      have hkx : k < xs.length := by have := HX.out.1; omega
      have hxk := HX.out.2 xs[k] (List.getElem_mem hkx)
      have HQ : Hid (∀ w, Below W.heap.size W w → w.cell? ⟨g, off + k, none⟩ = some (.int .u32 xs[k])) := fun w hb => (hb.cell (p := ⟨g, off + k, none⟩) hg).trans (hcell k hkx)
      generalize xs[k] = x at *
      obtain ⟨x0, x1⟩ := hxk
      clear hcell hkx hg
      have q0 : wr.cell? ⟨g, off + k, none⟩ = some (.int .u32 x) := HQ.out _ BR.out
      obtain ⟨I, hI⟩ : ∃ I, dec x = I := ⟨_, rfl⟩
      obtain ⟨op, cond, a, b, c, imm⟩ := I
      by_cases he : decE x = 0
      · have hy := dec_yes he
        have hm := dec_imm x
        rw [hI] at hy hm
        have HD : Hid (∀ w, Below W.heap.size W w → _) := fun w hb => decode_ins w (HT.out w hb) x x0 x1 op cond a b c imm 0 hI he
        have HE : Hid (∀ w, Below W.heap.size W w → _) := fun w hb => encode_ins w (HT.out w hb) op cond a b c imm x 0 hm.1 hm.2 hy.1 hy.2
        have HC : Hid (∀ w, Below W.heap.size W w → _) := fun w hb => check_ins w (HT.out w hb) op cond a b c imm 0 hm.1 hm.2 hy.2
        clear hI he hy hm hk2
        go_wp2_with (first | (go_at_call 9; refine (num_any _ _).mono ?_; rintro e w9 ⟨rfl, rfl⟩) | (go_at_call 8; refine (HD.out _ BR.out).mono ?_; rintro e w1 ⟨rfl, hb1⟩; have B1 : Hid (Below W.heap.size W w1) := below_on BR.out hb1) | (go_at_call 10; refine (HE.out _ (below_on B1.out (below_one _ _))).mono ?_; rintro e w2 ⟨rfl, hb2⟩; have B2 : Hid (Below W.heap.size W w2) := below_on (below_on B1.out (below_one _ _)) hb2; have q2 := HQ.out _ B2.out; have CX : Hid (Cel w2 w1.heap.size 27 (Ins.mk op cond a b c imm).cs) := (Cel.new w1 27 (Ins.mk op cond a b c imm).cs).on hb2; have y0 : w2.cell? ⟨w1.heap.size, 0, none⟩ = some (.int .i64 op) := CX.out.cell 0; have y1 : w2.cell? ⟨w1.heap.size, 1, none⟩ = some (.int .i64 cond) := CX.out.cell 1; have y2 : w2.cell? ⟨w1.heap.size, 2, none⟩ = some (.int .i64 a) := CX.out.cell 2; have y3 : w2.cell? ⟨w1.heap.size, 3, none⟩ = some (.int .i64 b) := CX.out.cell 3; have y4 : w2.cell? ⟨w1.heap.size, 4, none⟩ = some (.int .i64 c) := CX.out.cell 4; have y5 : w2.cell? ⟨w1.heap.size, 5, none⟩ = some (.int .i32 imm) := CX.out.cell 5) | (go_at_call 11; refine (HC.out _ B2.out).mono ?_; rintro e w3 ⟨rfl, hb3⟩; have B3 : Hid (Below W.heap.size W w3) := below_on B2.out hb3))
        go_roundw
        case measure => simp [intOf]; omega
        case rel => exact ⟨k + 1, by omega, by go_num, B3⟩
      · obtain ⟨h1, h2⟩ := dec_no he
        rw [hI] at h2
        have e0 : op = 0 ∧ cond = 0 ∧ a = 0 ∧ b = 0 ∧ c = 0 ∧ imm = 0 := by simpa [Ins.z] using h2
        obtain ⟨rfl, rfl, rfl, rfl, rfl, rfl⟩ := e0
        have HD : Hid (∀ w, Below W.heap.size W w → _) := fun w hb => decode_ins w (HT.out w hb) x x0 x1 0 0 0 0 0 0 50 hI h1
        clear hI he h1 h2 hk2
        go_wp2_with (first | (go_at_call 9; refine (num_any _ _).mono ?_; rintro e w9 ⟨rfl, rfl⟩) | (go_at_call 8; refine (HD.out _ BR.out).mono ?_; rintro e w1 ⟨rfl, hb1⟩; have B1 : Hid (Below W.heap.size W w1) := below_on BR.out hb1))
        go_roundw
        case measure => simp [intOf]; omega
        case rel => exact ⟨k + 1, by omega, by go_num, below_on B1.out (below_one _ _)⟩
    · obtain rfl : k = n := by omega
      clear hk hk2
      go_wp2_with fail
      go_loopw [10] (fun i wr => ∃ k : Nat, k ≤ m ∧ i = .int .i64 k ∧ Hid (Below W.heap.size W wr)) (fun i _ => m - (intOf i).toNat)
      case atStart => exact ⟨0, Nat.zero_le _, rfl, BR⟩
      case round =>
        clear BR
        obtain ⟨j, hj, rfl, BR⟩ := hrel
        by_cases hj2 : j < m
        · have c1 : (j : Int) < (m : Int) := by omega
          rcases HB.out with h0 | ⟨g, off, rfl, hg, hcell⟩
          · have h2 := HI.out.1; rw [h0] at h2; simp at h2; omega
          have hjx : j < is.length := by have := HI.out.1; omega
          have hib := HI.out.2 is[j] (List.getElem_mem hjx)
          have HQ : Hid (∀ w, Below W.heap.size W w → w.rangeAt g (off + j * 6) is[j].cs) := fun w hb t v ht => (hb.cell (p := ⟨g, off + j * 6 + t, none⟩) hg).trans (hcell j hjx t v ht)
          generalize is[j] = I at *
          obtain ⟨op, cond, a, b, c, imm⟩ := I
          obtain ⟨i0, i1⟩ := hib
          clear hcell hjx hg
          have q0 : wr.cell? ⟨g, off + j * 6, none⟩ = some (.int .i64 op) := HQ.out _ BR.out 0 _ rfl
          have q1 : wr.cell? ⟨g, off + j * 6 + 1, none⟩ = some (.int .i64 cond) := HQ.out _ BR.out 1 _ rfl
          have q2 : wr.cell? ⟨g, off + j * 6 + 2, none⟩ = some (.int .i64 a) := HQ.out _ BR.out 2 _ rfl
          have q3 : wr.cell? ⟨g, off + j * 6 + 3, none⟩ = some (.int .i64 b) := HQ.out _ BR.out 3 _ rfl
          have q4 : wr.cell? ⟨g, off + j * 6 + 4, none⟩ = some (.int .i64 c) := HQ.out _ BR.out 4 _ rfl
          have q5 : wr.cell? ⟨g, off + j * 6 + 5, none⟩ = some (.int .i32 imm) := HQ.out _ BR.out 5 _ rfl
          obtain ⟨v, hv⟩ : ∃ v, enc ⟨op, cond, a, b, c, imm⟩ = v := ⟨_, rfl⟩
          obtain ⟨e, he⟩ : ∃ e, chk ⟨op, cond, a, b, c, imm⟩ = e := ⟨_, rfl⟩
          have HE : Hid (∀ w, Below W.heap.size W w → _) := fun w hb => encode_ins w (HT.out w hb) op cond a b c imm v e i0 i1 hv he
          have HC : Hid (∀ w, Below W.heap.size W w → _) := fun w hb => check_ins w (HT.out w hb) op cond a b c imm e i0 i1 he
          have HV : Hid (enc ⟨op, cond, a, b, c, imm⟩ = v ∧ chk ⟨op, cond, a, b, c, imm⟩ = e) := ⟨hv, he⟩
          clear hv he
          go_wp2_with (go_at_call 10; refine (HE.out _ BR.out).mono ?_; rintro e w1 ⟨rfl, hb1⟩; have B1 : Hid (Below W.heap.size W w1) := below_on BR.out hb1)
          have RI : Hid (∀ w, Below w1.heap.size w1 w → w.rangeAt g (off + j * 6) (Ins.mk op cond a b c imm).cs) := fun w hb => HQ.out w (below_on B1.out hb)
          clear q0 q1 q2 q3 q4 q5
          refine wp_region_held_drew (S := fun w => Below w1.heap.size w1 w) (by kernel_rfl) ((Below.refl _ _).drew) (fun hHeld => ?_)
          refine wpAnyH_take (i := 0) (oi := { dst := some 76, op := Op.move (Operand.tmp 12), type := 28, pos := "outright.go:24", after := #[], guard := none }) (v := .int .i64 e) rfl (by kernel_rfl) (by kernel_rfl) (by kernel_rfl) (fun _ _ _ h => h) (Or.inl ⟨by rfl, by intro w hSw; go_simp⟩) (by assumption) ?_
          simp only [Act.put, List.setIfInBounds_toArray, List.set_cons_zero, List.set_cons_succ]
          refine wpAnyH_take (i := 2) (oi := { dst := some 78, op := Op.move (Operand.tmp 1), type := 23, pos := "outright.go:24", after := #[], guard := none }) (v := .slice (some ⟨g, off, none⟩) m dp) rfl (by kernel_rfl) (by kernel_rfl) (by kernel_rfl) (fun _ _ _ h => h) (Or.inl ⟨by rfl, by intro w hSw; go_simp⟩) (by assumption) ?_
          simp only [Act.put, List.setIfInBounds_toArray, List.set_cons_zero, List.set_cons_succ]
          refine wpAnyH_take (i := 3) (oi := { dst := some 79, op := Op.move (Operand.tmp 10), type := 3, pos := "outright.go:24", after := #[], guard := none }) (v := .int .i64 (j : Int)) rfl (by kernel_rfl) (by kernel_rfl) (by kernel_rfl) (fun _ _ _ h => h) (Or.inl ⟨by rfl, by intro w hSw; go_simp⟩) (by assumption) ?_
          simp only [Act.put, List.setIfInBounds_toArray, List.set_cons_zero, List.set_cons_succ]
          refine wpAnyH_take (i := 4) (oi := { dst := some 80, op := Op.indexAddr 23 (Operand.tmp 78) (Operand.tmp 79), type := 0, pos := "outright.go:24", after := #[{ on := 2, ground := Ground.data }, { on := 3, ground := Ground.data }], guard := none }) (v := .pointer (some ⟨g, off + j * 6, none⟩)) rfl (by kernel_rfl) (by kernel_rfl) (by kernel_rfl) (fun _ _ _ h => h) (Or.inl ⟨by rfl, by intro w hSw; go_simp⟩) (by assumption) ?_
          simp only [Act.put, List.setIfInBounds_toArray, List.set_cons_zero, List.set_cons_succ]
          refine wpAnyH_take (i := 5) (oi := { dst := some 81, op := Op.load 27 (Operand.tmp 80), type := 27, pos := "outright.go:24", after := #[{ on := 4, ground := Ground.data }], guard := none }) (v := .agg #[.int .i64 op, .int .i64 cond, .int .i64 a, .int .i64 b, .int .i64 c, .int .i32 imm]) rfl (by kernel_rfl) (by kernel_rfl) (by kernel_rfl) (fun _ _ _ h => h) (yieldsIf_load_mid (by rfl) _ _ rfl _ _ rfl _ _ (fun w hSw => RI.out w hSw) Tryd.underlying27 rfl size27) (by assumption) ?_
          simp only [Act.put, List.setIfInBounds_toArray, List.set_cons_zero, List.set_cons_succ]
          refine wpAnyH_ready (rs := [1]) (by kernel_rfl) (by simp) (AllReadyH.cons (o := { dst := some 77, op := Op.call { callee := Callee.value (Operand.func 9), args := #[Operand.tmp 76], argTypes := #[28] }, type := 3, pos := "outright.go:24", after := #[{ on := 0, ground := Ground.data }], guard := none }) rfl (fun KQ hK => ?_) AllReadyH.nil)
          go_simp
          refine (num_any _ _).mono ?_
          rintro e w9 ⟨rfl, rfl⟩
          go_wp2_with fail
          refine hK.out _ _ ((Below.refl _ _).drew) (fun hHeld => ?_)
          clear hK KQ
          try simp only [Act.put, List.setIfInBounds_toArray, List.set_cons_zero, List.set_cons_succ]
          refine wpAnyH_ready (rs := [6]) (by kernel_rfl) (by simp) (AllReadyH.cons (o := { dst := some 82, op := Op.call { callee := Callee.value (Operand.func 11), args := #[Operand.tmp 81], argTypes := #[27] }, type := 28, pos := "outright.go:24", after := #[{ on := 5, ground := Ground.data }, { on := 1, ground := Ground.chain }], guard := none }) rfl (fun KQ hK => ?_) AllReadyH.nil)
          go_simp
          refine (HC.out _ (below_on B1.out ((Below.refl _ _).drew))).mono ?_
          rintro e w2 ⟨rfl, hb2⟩
          have BB : Below w1.heap.size w1 w2 := below_on ((Below.refl _ _).drew) hb2
          go_wp2_with fail
          refine hK.out _ _ BB (fun hHeld => ?_)
          clear hK KQ
          try simp only [Act.put, List.setIfInBounds_toArray, List.set_cons_zero, List.set_cons_succ]
          refine wpAnyH_ready (rs := [7]) (by kernel_rfl) (by simp) (AllReadyH.cons (o := { dst := some 83, op := Op.call { callee := Callee.value (Operand.func 9), args := #[Operand.tmp 82], argTypes := #[28] }, type := 3, pos := "outright.go:24", after := #[{ on := 6, ground := Ground.data }, { on := 6, ground := Ground.chain }], guard := none }) rfl (fun KQ hK => ?_) AllReadyH.nil)
          go_simp
          refine (num_any _ _).mono ?_
          rintro e w9 ⟨rfl, rfl⟩
          go_wp2_with fail
          refine hK.out _ _ BB (fun hHeld => ?_)
          clear hK KQ
          try simp only [Act.put, List.setIfInBounds_toArray, List.set_cons_zero, List.set_cons_succ]
          refine wpAnyH_take (i := 8) (oi := { dst := some 84, op := Op.binOp BinOp.neq 3 (Operand.tmp 77) (Operand.tmp 83) 3, type := 4, pos := "outright.go:24", after := #[{ on := 1, ground := Ground.data }, { on := 7, ground := Ground.data }], guard := none }) (v := .bool false) rfl (by kernel_rfl) (by kernel_rfl) (by kernel_rfl) (fun _ _ _ h => h) (Or.inl ⟨by rfl, by intro w hSw; go_simp⟩) (by assumption) ?_
          simp only [Act.put, List.setIfInBounds_toArray, List.set_cons_zero, List.set_cons_succ]
          refine wpAnyH_done (by kernel_rfl) ?_ _
          have B2 : Hid (Below W.heap.size W w2) := below_on B1.out BB
          clear hHeld
          by_cases he : e = 0
          · subst he
            have hbk := dec_back HV.out.2
            have hbd := enc_bounds ⟨op, cond, a, b, c, imm⟩
            rw [HV.out.1] at hbk hbd
            have HD : Hid (∀ w, Below W.heap.size W w → _) := fun w hb => decode_ins w (HT.out w hb) v hbd.1 hbd.2 op cond a b c imm 0 hbk.1 hbk.2
            clear hbk hbd hj2
            go_wp2_with (first | (go_at_call 9; refine (num_any _ _).mono ?_; rintro e w9 ⟨rfl, rfl⟩) | (go_at_call 8; refine (HD.out _ (by first | exact B2.out | exact below_on B2.out ((Below.refl _ _).drew))).mono ?_; rintro e w3 ⟨rfl, hb3⟩; have B3 : Hid (Below W.heap.size W w3) := below_on (by first | exact B2.out | exact below_on B2.out ((Below.refl _ _).drew)) hb3))
            have B4 : Hid (Below W.heap.size W (w3.alloc (Obj.cells #[Value.int .i64 op, Value.int .i64 cond, Value.int .i64 a, Value.int .i64 b, Value.int .i64 c, Value.int .i32 imm] 27))) := below_on B3.out (below_one _ _)
            have C4 : Hid (Cel (w3.alloc (Obj.cells #[Value.int .i64 op, Value.int .i64 cond, Value.int .i64 a, Value.int .i64 b, Value.int .i64 c, Value.int .i32 imm] 27)) w3.heap.size 27 (Ins.mk op cond a b c imm).cs) := Cel.new _ _ _
            generalize w3.alloc (Obj.cells #[Value.int .i64 op, Value.int .i64 cond, Value.int .i64 a, Value.int .i64 b, Value.int .i64 c, Value.int .i32 imm] 27) = w4 at *
            generalize w3.heap.size = gd at *
            have RJ : Hid (∀ w, Below w4.heap.size w4 w → w.rangeAt g (off + j * 6) (Ins.mk op cond a b c imm).cs) := fun w hb => HQ.out w (below_on B4.out hb)
            have RK : Hid (∀ w, Below w4.heap.size w4 w → w.rangeAt gd 0 (Ins.mk op cond a b c imm).cs) := fun w hb => (C4.out.on hb).range
            refine wp_region_held_drew (S := fun w => Below w4.heap.size w4 w) (by kernel_rfl) ((Below.refl _ _).drew) (fun hHeld => ?_)
            refine wpAnyH_take (i := 0) (oi := { dst := some 105, op := Op.load 27 (Operand.tmp 13), type := 27, pos := "outright.go:34", after := #[], guard := none }) (v := .agg #[.int .i64 op, .int .i64 cond, .int .i64 a, .int .i64 b, .int .i64 c, .int .i32 imm]) rfl (by kernel_rfl) (by kernel_rfl) (by kernel_rfl) (fun _ _ _ h => h) (yieldsIf_load_mid (by rfl) _ _ rfl _ _ rfl _ _ (fun w hSw => RK.out w hSw) Tryd.underlying27 rfl size27) (by assumption) ?_
            simp only [Act.put, List.setIfInBounds_toArray, List.set_cons_zero, List.set_cons_succ]
            refine wpAnyH_take (i := 1) (oi := { dst := some 106, op := Op.move (Operand.tmp 1), type := 23, pos := "outright.go:34", after := #[], guard := none }) (v := .slice (some ⟨g, off, none⟩) m dp) rfl (by kernel_rfl) (by kernel_rfl) (by kernel_rfl) (fun _ _ _ h => h) (Or.inl ⟨by rfl, by intro w hSw; go_simp⟩) (by assumption) ?_
            simp only [Act.put, List.setIfInBounds_toArray, List.set_cons_zero, List.set_cons_succ]
            refine wpAnyH_take (i := 2) (oi := { dst := some 107, op := Op.move (Operand.tmp 10), type := 3, pos := "outright.go:34", after := #[], guard := none }) (v := .int .i64 (j : Int)) rfl (by kernel_rfl) (by kernel_rfl) (by kernel_rfl) (fun _ _ _ h => h) (Or.inl ⟨by rfl, by intro w hSw; go_simp⟩) (by assumption) ?_
            simp only [Act.put, List.setIfInBounds_toArray, List.set_cons_zero, List.set_cons_succ]
            refine wpAnyH_take (i := 3) (oi := { dst := some 108, op := Op.indexAddr 23 (Operand.tmp 106) (Operand.tmp 107), type := 0, pos := "outright.go:34", after := #[{ on := 1, ground := Ground.data }, { on := 2, ground := Ground.data }], guard := none }) (v := .pointer (some ⟨g, off + j * 6, none⟩)) rfl (by kernel_rfl) (by kernel_rfl) (by kernel_rfl) (fun _ _ _ h => h) (Or.inl ⟨by rfl, by intro w hSw; go_simp⟩) (by assumption) ?_
            simp only [Act.put, List.setIfInBounds_toArray, List.set_cons_zero, List.set_cons_succ]
            refine wpAnyH_take (i := 4) (oi := { dst := some 109, op := Op.load 27 (Operand.tmp 108), type := 27, pos := "outright.go:34", after := #[{ on := 3, ground := Ground.data }], guard := none }) (v := .agg #[.int .i64 op, .int .i64 cond, .int .i64 a, .int .i64 b, .int .i64 c, .int .i32 imm]) rfl (by kernel_rfl) (by kernel_rfl) (by kernel_rfl) (fun _ _ _ h => h) (yieldsIf_load_mid (by rfl) _ _ rfl _ _ rfl _ _ (fun w hSw => RJ.out w hSw) Tryd.underlying27 rfl size27) (by assumption) ?_
            simp only [Act.put, List.setIfInBounds_toArray, List.set_cons_zero, List.set_cons_succ]
            refine wpAnyH_take (i := 5) (oi := { dst := some 110, op := Op.binOp BinOp.neq 27 (Operand.tmp 105) (Operand.tmp 109) 27, type := 4, pos := "outright.go:34", after := #[{ on := 0, ground := Ground.data }, { on := 4, ground := Ground.data }], guard := none }) (v := .bool false) rfl (by kernel_rfl) (by kernel_rfl) (by kernel_rfl) (fun _ _ _ h => h) (Or.inl ⟨by rfl, by intro w hSw; go_simp⟩) (by assumption) ?_
            simp only [Act.put, List.setIfInBounds_toArray, List.set_cons_zero, List.set_cons_succ]
            refine wpAnyH_take (i := 6) (oi := { dst := some 111, op := Op.move (Operand.tmp 110), type := 4, pos := "outright.go:34", after := #[{ on := 5, ground := Ground.data }], guard := none }) (v := .bool false) rfl (by kernel_rfl) (by kernel_rfl) (by kernel_rfl) (fun _ _ _ h => h) (Or.inl ⟨by rfl, by intro w hSw; go_simp⟩) (by assumption) ?_
            simp only [Act.put, List.setIfInBounds_toArray, List.set_cons_zero, List.set_cons_succ]
            refine wpAnyH_take (i := 7) (oi := { dst := some 112, op := Op.move (Operand.tmp 14), type := 28, pos := "outright.go:34", after := #[{ on := 6, ground := Ground.guard }], guard := some (6, false) }) (v := .int .i64 0) rfl (by kernel_rfl) (by kernel_rfl) (by kernel_rfl) (fun _ _ _ h => h) (Or.inl ⟨by rfl, by intro w hSw; go_simp⟩) (by assumption) ?_
            simp only [Act.put, List.setIfInBounds_toArray, List.set_cons_zero, List.set_cons_succ]
            refine wpAnyH_ready (rs := [8]) (by kernel_rfl) (by simp) (AllReadyH.cons (o := { dst := some 113, op := Op.call { callee := Callee.value (Operand.func 9), args := #[Operand.tmp 112], argTypes := #[28] }, type := 3, pos := "outright.go:34", after := #[{ on := 7, ground := Ground.data }, { on := 6, ground := Ground.chain }, { on := 6, ground := Ground.guard }], guard := some (6, false) }) rfl (fun KQ hK => ?_) AllReadyH.nil)
            go_simp
            refine (num_any _ _).mono ?_
            rintro e w9 ⟨rfl, rfl⟩
            go_wp2_with fail
            refine hK.out _ _ ((Below.refl _ _).drew) (fun hHeld => ?_)
            clear hK KQ
            try simp only [Act.put, List.setIfInBounds_toArray, List.set_cons_zero, List.set_cons_succ]
            refine wpAnyH_take (i := 9) (oi := { dst := some 114, op := Op.binOp BinOp.neq 3 (Operand.tmp 113) (Operand.const (Value.int IntKind.i64 0)) 3, type := 4, pos := "outright.go:34", after := #[{ on := 8, ground := Ground.data }, { on := 6, ground := Ground.guard }], guard := some (6, false) }) (v := .bool false) rfl (by kernel_rfl) (by kernel_rfl) (by kernel_rfl) (fun _ _ _ h => h) (Or.inl ⟨by rfl, by intro w hSw; go_simp⟩) (by assumption) ?_
            simp only [Act.put, List.setIfInBounds_toArray, List.set_cons_zero, List.set_cons_succ]
            refine wpAnyH_take (i := 10) (oi := { dst := some 115, op := Op.pick (Operand.tmp 111) (Operand.const (Value.bool true)) (Operand.tmp 114), type := 4, pos := "outright.go:34", after := #[{ on := 6, ground := Ground.data }, { on := 9, ground := Ground.data }], guard := none }) (v := .bool false) rfl (by kernel_rfl) (by kernel_rfl) (by kernel_rfl) (fun _ _ _ h => h) (Or.inl ⟨by rfl, by intro w hSw; go_simp⟩) (by assumption) ?_
            simp only [Act.put, List.setIfInBounds_toArray, List.set_cons_zero, List.set_cons_succ]
            refine wpAnyH_done (by kernel_rfl) ?_ _
            clear hHeld
            go_wp2_with (go_at_call 9; refine (num_any _ _).mono ?_; rintro e w9 ⟨rfl, rfl⟩)
            go_roundw
            case measure => simp [intOf]; omega
            case rel => exact ⟨j + 1, by omega, by go_num, below_on B4.out ((Below.refl _ _).drew)⟩
          · have hv : v = 0 := by rw [← HV.out.1, enc, if_neg (by rw [HV.out.2]; exact he)]
            have he2 : e = 50 ∨ e = 51 := by have := chk_three ⟨op, cond, a, b, c, imm⟩; rw [HV.out.2] at this; omega
            clear HV HE HC he
            subst hv
            clear hj2
            rcases he2 with rfl | rfl
            all_goals
              go_wp2_with (go_at_call 9; refine (num_any _ _).mono ?_; rintro e w9 ⟨rfl, rfl⟩)
              go_roundw
              case measure => simp [intOf]; omega
              case rel => exact ⟨j + 1, by omega, by go_num, B2⟩
        · obtain rfl : j = m := by omega
          clear hj hj2
          have HO : Hid (∀ w, Below W.heap.size W w → Calls Tryd.prog 12 #[] w fun e W' => e = .returned (.bool true) ∧ Below w.heap.size w W') := fun w hb => one_any w (HT.out w hb)
          go_wp2_with (go_at_call 12; refine (HO.out _ BR.out).mono ?_; rintro e w1 ⟨rfl, hb1⟩)
          go_ret
          exact ⟨rfl, below_on BR.out hb1⟩
end Go.Proofs.YtgdekmkhbickkaaDoor
