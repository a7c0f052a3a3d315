/- IsaCodes (7): the walk. -/
import Derived.Test.YtgdekmkhbickkaaDoorBk
import Derived.Test.YtgdekmkhbickkaaDoorRde
namespace Go.Proofs.YtgdekmkhbickkaaDoor
open Go.RowKit

structure TabsR (W : World) : Prop where
  t : Tabs W
  r : RShapes W
theorem TabsR.on {W w : World} (h : TabsR W) (hb : Below W.heap.size W w) : TabsR w := ⟨h.t.on hb, h.r.below hb (by have := h.t.z; omega)⟩
theorem rencode_ins (W : World) (hT : TabsR W) (op cond a b c imm v e : Int) (i0 : -2147483648 ≤ imm) (i1 : imm < 2147483648) (hv : enc (Ins.mk op cond a b c imm) = v) (he : chk (Ins.mk op cond a b c imm) = e) :
    Calls Tryd.prog 24 #[.agg #[.int .i64 op, .int .i64 cond, .int .i64 a, .int .i64 b, .int .i64 c, .int .i64 imm]] W fun r W' => r = .returned (.tuple #[.int .u32 v, .int .i64 e]) ∧ Below W.heap.size W W' := by
  have := rencode_any W hT.r hT.t.z op cond a b c imm i0 i1
  rw [hv, he] at this
  exact this
theorem rcheck_ins (W : World) (hT : TabsR W) (op cond a b c imm e : Int) (i0 : -2147483648 ≤ imm) (i1 : imm < 2147483648) (he : chk (Ins.mk op cond a b c imm) = e) :
    Calls Tryd.prog 26 #[.agg #[.int .i64 op, .int .i64 cond, .int .i64 a, .int .i64 b, .int .i64 c, .int .i64 imm]] W fun r W' => r = .returned (.int .i64 e) ∧ Below W.heap.size W W' := by
  have := rcheck_any W hT.r hT.t.z op cond a b c imm i0 i1
  rw [he] at this
  exact this
theorem rdecode_ins (W : World) (hT : TabsR W) (w : Int) (w0 : 0 ≤ w) (w1 : w < 4294967296) (op cond a b c imm e : Int) (h : dec w = ⟨op, cond, a, b, c, imm⟩) (he : decE w = e) :
    Calls Tryd.prog 27 #[.int .u32 w] W fun r W' => r = .returned (.tuple #[.agg #[.int .i64 op, .int .i64 cond, .int .i64 a, .int .i64 b, .int .i64 c, .int .i64 imm], .int .i64 e]) ∧ Below W.heap.size W W' := by
  have := rdecode_any W hT.r hT.t.z w w0 w1
  rw [h, he] at this
  exact this
theorem dec_ldr : dec 1010368508 = ⟨15, 0, 0, 14, 0, -4⟩ ∧ decE 1010368508 = 0 := by decide +kernel

set_option maxRecDepth 40000 in
set_option maxHeartbeats 8000000 in
theorem codes_walk (W : World) (hT : TabsR W) (bo : Option Addr) (m dp : Nat) (is : List Ins) (hi : is.length = m) (hib : ∀ i ∈ is, -2147483648 ≤ i.imm ∧ i.imm < 2147483648) (hbt : AtI W bo is) (hm : m ≤ 140737488351232)
    (ao : Option Addr) (n cp : Nat) (xs : List Int) (hx : xs.length = n) (hxb : ∀ x ∈ xs, 0 ≤ x ∧ x < 4294967296) (hat : AtU W ao xs) (hn : n ≤ 140737488351232) :
    Calls Tryd.prog 7 #[.slice bo m dp, .slice ao n cp] W fun e W' => e = .returned (.bool true) ∧ Below W.heap.size W W' := by
  have HT : Hid (∀ x, Below W.heap.size W x → TabsR x) := fun x hb => hT.on hb
  have HA : Hid (AtU W ao xs) := hat
  have HB : Hid (AtI W bo is) := hbt
  have HX : Hid (xs.length = n ∧ ∀ x ∈ xs, 0 ≤ x ∧ x < 4294967296) := ⟨hx, hxb⟩
  have HI : Hid (is.length = m ∧ ∀ i ∈ is, -2147483648 ≤ i.imm ∧ i.imm < 2147483648) := ⟨hi, hib⟩
  have n1 : (n : Int) ≤ 140737488351232 := by omega
  have m1 : (m : Int) ≤ 140737488351232 := by omega
  clear hT hat hbt hx hxb hi hib hn hm
  go_enter Tryd.func7, Tryd.ntmps7
  go_wp2_with fail
  go_loopw [5] (fun i wr => ∃ k : Nat, k ≤ m ∧ i = .int .i64 k ∧ Hid (Below W.heap.size W wr)) (fun i _ => m - (intOf i).toNat)
  case atStart => exact ⟨0, Nat.zero_le _, rfl, Below.refl _ _⟩
  case round =>
    obtain ⟨j, hj, rfl, BR⟩ := hrel
    by_cases hj2 : j < m
    · have c1 : (j : Int) < (m : Int) := by omega
      rcases HB.out with h0 | ⟨g, off, rfl, hg, hcell⟩
      · have h2 := HI.out.1; rw [h0] at h2; simp at h2; omega
      have hjx : j < is.length := by have := HI.out.1; omega
      have hib := HI.out.2 is[j] (List.getElem_mem hjx)
      have HQ : Hid (∀ w, Below W.heap.size W w → w.rangeAt g (off + j * 6) is[j].cs) := fun w hb t v ht => (hb.cell (p := ⟨g, off + j * 6 + t, none⟩) hg).trans (hcell j hjx t v ht)
      generalize is[j] = I at *
      obtain ⟨op, cond, a, b, c, imm⟩ := I
      obtain ⟨i0, i1⟩ := hib
      simp only at i0 i1
      clear hcell hjx hg
      have q0 : wr.cell? ⟨g, off + j * 6, none⟩ = some (.int .i64 op) := HQ.out _ BR.out 0 _ rfl
      have q1 : wr.cell? ⟨g, off + j * 6 + 1, none⟩ = some (.int .i64 cond) := HQ.out _ BR.out 1 _ rfl
      have q2 : wr.cell? ⟨g, off + j * 6 + 2, none⟩ = some (.int .i64 a) := HQ.out _ BR.out 2 _ rfl
      have q3 : wr.cell? ⟨g, off + j * 6 + 3, none⟩ = some (.int .i64 b) := HQ.out _ BR.out 3 _ rfl
      have q4 : wr.cell? ⟨g, off + j * 6 + 4, none⟩ = some (.int .i64 c) := HQ.out _ BR.out 4 _ rfl
      have q5 : wr.cell? ⟨g, off + j * 6 + 5, none⟩ = some (.int .i32 imm) := HQ.out _ BR.out 5 _ rfl
      obtain ⟨v, hv⟩ : ∃ v, enc (Ins.mk op cond a b c imm) = v := ⟨_, rfl⟩
      obtain ⟨e, he⟩ : ∃ e, chk (Ins.mk op cond a b c imm) = e := ⟨_, rfl⟩
      have HE : Hid (∀ w, Below W.heap.size W w → _) := fun w hb => encode_ins w (HT.out w hb).t op cond a b c imm v e i0 i1 hv he
      have HC : Hid (∀ w, Below W.heap.size W w → _) := fun w hb => check_ins w (HT.out w hb).t op cond a b c imm e i0 i1 he
      have HRE : Hid (∀ w, Below W.heap.size W w → _) := fun w hb => rencode_ins w (HT.out w hb) op cond a b c imm v e i0 i1 hv he
      have HRC : Hid (∀ w, Below W.heap.size W w → _) := fun w hb => rcheck_ins w (HT.out w hb) op cond a b c imm e i0 i1 he
      have HDO : Hid (∀ w, _) := fun w => doc_any w op cond a b c imm i0 i1
      clear hv he
      go_wp2_with (first | (go_at_call 10; refine (HE.out _ BR.out).mono ?_; rintro e w1 ⟨rfl, hb1⟩; have B1 : Hid (Below W.heap.size W w1) := below_on BR.out hb1; have r0 : w1.cell? ⟨g, off + j * 6, none⟩ = some (.int .i64 op) := HQ.out _ B1.out 0 _ rfl; have r1 : w1.cell? ⟨g, off + j * 6 + 1, none⟩ = some (.int .i64 cond) := HQ.out _ B1.out 1 _ rfl; have r2 : w1.cell? ⟨g, off + j * 6 + 2, none⟩ = some (.int .i64 a) := HQ.out _ B1.out 2 _ rfl; have r3 : w1.cell? ⟨g, off + j * 6 + 3, none⟩ = some (.int .i64 b) := HQ.out _ B1.out 3 _ rfl; have r4 : w1.cell? ⟨g, off + j * 6 + 4, none⟩ = some (.int .i64 c) := HQ.out _ B1.out 4 _ rfl; have r5 : w1.cell? ⟨g, off + j * 6 + 5, none⟩ = some (.int .i32 imm) := HQ.out _ B1.out 5 _ rfl) | (go_at_call 25; refine (HDO.out _).mono ?_; rintro e w2 ⟨rfl, hb2⟩; have B2 : Hid (Below W.heap.size W w2) := below_on B1.out hb2) | (go_at_call 24; refine (HRE.out _ B2.out).mono ?_; rintro e w3 ⟨rfl, hb3⟩; have B3 : Hid (Below W.heap.size W w3) := below_on B2.out hb3))
      have RI : Hid (∀ w, Below w3.heap.size w3 w → w.rangeAt g (off + j * 6) (Ins.mk op cond a b c imm).cs) := fun w hb => HQ.out w (below_on B3.out hb)
      clear q0 q1 q2 q3 q4 q5 r0 r1 r2 r3 r4 r5
      refine wp_region_held_drew (S := fun w => Below w3.heap.size w3 w) (by kernel_rfl) ((Below.refl _ _).drew) (fun hHeld => ?_)
      refine wpAnyH_take (i := 0) (oi := { dst := some 40, op := Op.move (Operand.tmp 6), type := 31, pos := "law.go:60", after := #[], guard := none }) (v := .int .u32 v) rfl (by kernel_rfl) (by kernel_rfl) (by kernel_rfl) (fun _ _ _ h => h) (Or.inl ⟨by rfl, by intro w hSw; go_simp⟩) (by assumption) ?_
      simp only [Act.put, List.setIfInBounds_toArray, List.set_cons_zero, List.set_cons_succ]
      refine wpAnyH_take (i := 1) (oi := { dst := some 41, op := Op.move (Operand.tmp 8), type := 31, pos := "law.go:60", after := #[], guard := none }) (v := .int .u32 v) rfl (by kernel_rfl) (by kernel_rfl) (by kernel_rfl) (fun _ _ _ h => h) (Or.inl ⟨by rfl, by intro w hSw; go_simp⟩) (by assumption) ?_
      simp only [Act.put, List.setIfInBounds_toArray, List.set_cons_zero, List.set_cons_succ]
      refine wpAnyH_take (i := 2) (oi := { dst := some 42, op := Op.binOp BinOp.neq 31 (Operand.tmp 40) (Operand.tmp 41) 31, type := 4, pos := "law.go:60", after := #[{ on := 0, ground := Ground.data }, { on := 1, ground := Ground.data }], guard := none }) (v := .bool false) rfl (by kernel_rfl) (by kernel_rfl) (by kernel_rfl) (fun _ _ _ h => h) (Or.inl ⟨by rfl, by intro w hSw; go_simp⟩) (by assumption) ?_
      simp only [Act.put, List.setIfInBounds_toArray, List.set_cons_zero, List.set_cons_succ]
      refine wpAnyH_take (i := 3) (oi := { dst := some 43, op := Op.move (Operand.tmp 42), type := 4, pos := "law.go:60", after := #[{ on := 2, ground := Ground.data }], guard := none }) (v := .bool false) rfl (by kernel_rfl) (by kernel_rfl) (by kernel_rfl) (fun _ _ _ h => h) (Or.inl ⟨by rfl, by intro w hSw; go_simp⟩) (by assumption) ?_
      simp only [Act.put, List.setIfInBounds_toArray, List.set_cons_zero, List.set_cons_succ]
      refine wpAnyH_take (i := 4) (oi := { dst := some 44, op := Op.move (Operand.tmp 7), type := 28, pos := "law.go:60", after := #[{ on := 3, ground := Ground.guard }], guard := some (3, false) }) (v := .int .i64 e) rfl (by kernel_rfl) (by kernel_rfl) (by kernel_rfl) (fun _ _ _ h => h) (Or.inl ⟨by rfl, by intro w hSw; go_simp⟩) (by assumption) ?_
      simp only [Act.put, List.setIfInBounds_toArray, List.set_cons_zero, List.set_cons_succ]
      refine wpAnyH_take (i := 6) (oi := { dst := some 46, op := Op.move (Operand.tmp 9), type := 3, pos := "law.go:60", after := #[{ on := 3, ground := Ground.guard }], guard := some (3, false) }) (v := .int .i64 e) rfl (by kernel_rfl) (by kernel_rfl) (by kernel_rfl) (fun _ _ _ h => h) (Or.inl ⟨by rfl, by intro w hSw; go_simp⟩) (by assumption) ?_
      simp only [Act.put, List.setIfInBounds_toArray, List.set_cons_zero, List.set_cons_succ]
      refine wpAnyH_ready (rs := [5]) (by kernel_rfl) (by simp) (AllReadyH.cons (o := { dst := some 45, op := Op.call { callee := Callee.value (Operand.func 9), args := #[Operand.tmp 44], argTypes := #[28] }, type := 3, pos := "law.go:60", after := #[{ on := 4, ground := Ground.data }, { on := 3, ground := Ground.chain }, { on := 3, ground := Ground.guard }], guard := some (3, false) }) rfl (fun KQ hK => ?_) AllReadyH.nil)
      go_simp
      refine (num_any _ _).mono ?_
      rintro e w9 ⟨rfl, rfl⟩
      go_wp2_with fail
      refine hK.out _ _ ((Below.refl _ _).drew) (fun hHeld => ?_)
      clear hK KQ
      try simp only [Act.put, List.setIfInBounds_toArray, List.set_cons_zero, List.set_cons_succ]
      refine wpAnyH_take (i := 7) (oi := { dst := some 47, op := Op.binOp BinOp.neq 3 (Operand.tmp 45) (Operand.tmp 46) 3, type := 4, pos := "law.go:60", after := #[{ on := 5, ground := Ground.data }, { on := 6, ground := Ground.data }, { on := 3, ground := Ground.guard }], guard := some (3, false) }) (v := .bool false) rfl (by kernel_rfl) (by kernel_rfl) (by kernel_rfl) (fun _ _ _ h => h) (Or.inl ⟨by rfl, by intro w hSw; go_simp⟩) (by assumption) ?_
      simp only [Act.put, List.setIfInBounds_toArray, List.set_cons_zero, List.set_cons_succ]
      refine wpAnyH_take (i := 8) (oi := { dst := some 48, op := Op.pick (Operand.tmp 43) (Operand.const (Value.bool true)) (Operand.tmp 47), type := 4, pos := "law.go:60", after := #[{ on := 3, ground := Ground.data }, { on := 7, ground := Ground.data }], guard := none }) (v := .bool false) rfl (by kernel_rfl) (by kernel_rfl) (by kernel_rfl) (fun _ _ _ h => h) (Or.inl ⟨by rfl, by intro w hSw; go_simp⟩) (by assumption) ?_
      simp only [Act.put, List.setIfInBounds_toArray, List.set_cons_zero, List.set_cons_succ]
      refine wpAnyH_take (i := 9) (oi := { dst := some 49, op := Op.move (Operand.tmp 48), type := 4, pos := "law.go:60", after := #[{ on := 8, ground := Ground.data }, { on := 5, ground := Ground.chain }], guard := none }) (v := .bool false) rfl (by kernel_rfl) (by kernel_rfl) (by kernel_rfl) (fun _ _ _ h => h) (Or.inl ⟨by rfl, by intro w hSw; go_simp⟩) (by assumption) ?_
      simp only [Act.put, List.setIfInBounds_toArray, List.set_cons_zero, List.set_cons_succ]
      refine wpAnyH_take (i := 10) (oi := { dst := some 50, op := Op.move (Operand.tmp 0), type := 23, pos := "law.go:60", after := #[{ on := 9, ground := Ground.guard }], guard := some (9, false) }) (v := .slice (some ⟨g, off, none⟩) m dp) rfl (by kernel_rfl) (by kernel_rfl) (by kernel_rfl) (fun _ _ _ h => h) (Or.inl ⟨by rfl, by intro w hSw; go_simp⟩) (by assumption) ?_
      simp only [Act.put, List.setIfInBounds_toArray, List.set_cons_zero, List.set_cons_succ]
      refine wpAnyH_take (i := 11) (oi := { dst := some 51, op := Op.move (Operand.tmp 5), type := 3, pos := "law.go:60", after := #[{ on := 9, ground := Ground.guard }], guard := some (9, false) }) (v := .int .i64 (j : Int)) rfl (by kernel_rfl) (by kernel_rfl) (by kernel_rfl) (fun _ _ _ h => h) (Or.inl ⟨by rfl, by intro w hSw; go_simp⟩) (by assumption) ?_
      simp only [Act.put, List.setIfInBounds_toArray, List.set_cons_zero, List.set_cons_succ]
      refine wpAnyH_take (i := 12) (oi := { dst := some 52, op := Op.indexAddr 23 (Operand.tmp 50) (Operand.tmp 51), type := 0, pos := "law.go:60", after := #[{ on := 10, ground := Ground.data }, { on := 11, ground := Ground.data }, { on := 9, ground := Ground.guard }], guard := some (9, false) }) (v := .pointer (some ⟨g, off + j * 6, none⟩)) rfl (by kernel_rfl) (by kernel_rfl) (by kernel_rfl) (fun _ _ _ h => h) (Or.inl ⟨by rfl, by intro w hSw; go_simp⟩) (by assumption) ?_
      simp only [Act.put, List.setIfInBounds_toArray, List.set_cons_zero, List.set_cons_succ]
      refine wpAnyH_take (i := 13) (oi := { dst := some 53, op := Op.load 27 (Operand.tmp 52), type := 27, pos := "law.go:60", after := #[{ on := 12, ground := Ground.data }, { on := 9, ground := Ground.guard }], guard := some (9, false) }) (v := .agg #[.int .i64 op, .int .i64 cond, .int .i64 a, .int .i64 b, .int .i64 c, .int .i32 imm]) rfl (by kernel_rfl) (by kernel_rfl) (by kernel_rfl) (fun _ _ _ h => h) (yieldsIf_load_mid (by rfl) _ _ rfl _ _ rfl _ _ (fun w hSw => RI.out w hSw) Tryd.underlying27 rfl size27) (by assumption) ?_
      simp only [Act.put, List.setIfInBounds_toArray, List.set_cons_zero, List.set_cons_succ]
      refine wpAnyH_take (i := 16) (oi := { dst := some 56, op := Op.move (Operand.tmp 0), type := 23, pos := "law.go:60", after := #[{ on := 9, ground := Ground.guard }], guard := some (9, false) }) (v := .slice (some ⟨g, off, none⟩) m dp) rfl (by kernel_rfl) (by kernel_rfl) (by kernel_rfl) (fun _ _ _ h => h) (Or.inl ⟨by rfl, by intro w hSw; go_simp⟩) (by assumption) ?_
      simp only [Act.put, List.setIfInBounds_toArray, List.set_cons_zero, List.set_cons_succ]
      refine wpAnyH_take (i := 17) (oi := { dst := some 57, op := Op.move (Operand.tmp 5), type := 3, pos := "law.go:60", after := #[{ on := 9, ground := Ground.guard }], guard := some (9, false) }) (v := .int .i64 (j : Int)) rfl (by kernel_rfl) (by kernel_rfl) (by kernel_rfl) (fun _ _ _ h => h) (Or.inl ⟨by rfl, by intro w hSw; go_simp⟩) (by assumption) ?_
      simp only [Act.put, List.setIfInBounds_toArray, List.set_cons_zero, List.set_cons_succ]
      refine wpAnyH_take (i := 18) (oi := { dst := some 58, op := Op.indexAddr 23 (Operand.tmp 56) (Operand.tmp 57), type := 0, pos := "law.go:60", after := #[{ on := 16, ground := Ground.data }, { on := 17, ground := Ground.data }, { on := 9, ground := Ground.guard }], guard := some (9, false) }) (v := .pointer (some ⟨g, off + j * 6, none⟩)) rfl (by kernel_rfl) (by kernel_rfl) (by kernel_rfl) (fun _ _ _ h => h) (Or.inl ⟨by rfl, by intro w hSw; go_simp⟩) (by assumption) ?_
      simp only [Act.put, List.setIfInBounds_toArray, List.set_cons_zero, List.set_cons_succ]
      refine wpAnyH_take (i := 19) (oi := { dst := some 59, op := Op.load 27 (Operand.tmp 58), type := 27, pos := "law.go:60", after := #[{ on := 18, ground := Ground.data }, { on := 9, ground := Ground.guard }], guard := some (9, false) }) (v := .agg #[.int .i64 op, .int .i64 cond, .int .i64 a, .int .i64 b, .int .i64 c, .int .i32 imm]) rfl (by kernel_rfl) (by kernel_rfl) (by kernel_rfl) (fun _ _ _ h => h) (yieldsIf_load_mid (by rfl) _ _ rfl _ _ rfl _ _ (fun w hSw => RI.out w hSw) Tryd.underlying27 rfl size27) (by assumption) ?_
      simp only [Act.put, List.setIfInBounds_toArray, List.set_cons_zero, List.set_cons_succ]
      refine wpAnyH_ready (rs := [14]) (by kernel_rfl) (by simp) (AllReadyH.cons (o := { dst := some 54, op := Op.call { callee := Callee.value (Operand.func 11), args := #[Operand.tmp 53], argTypes := #[27] }, type := 28, pos := "law.go:60", after := #[{ on := 13, ground := Ground.data }, { on := 9, ground := Ground.chain }, { on := 9, ground := Ground.guard }], guard := some (9, false) }) rfl (fun KQ hK => ?_) AllReadyH.nil)
      go_simp
      refine (HC.out _ (below_on B3.out ((Below.refl _ _).drew))).mono ?_
      rintro e w4 ⟨rfl, hb4⟩
      have BB4 : Below w3.heap.size w3 w4 := below_on ((Below.refl _ _).drew) hb4
      go_wp2_with fail
      refine hK.out _ _ BB4 (fun hHeld => ?_)
      clear hK KQ
      try simp only [Act.put, List.setIfInBounds_toArray, List.set_cons_zero, List.set_cons_succ]
      refine wpAnyH_ready (rs := [15]) (by kernel_rfl) (by simp) (AllReadyH.cons (o := { dst := some 55, op := Op.call { callee := Callee.value (Operand.func 9), args := #[Operand.tmp 54], argTypes := #[28] }, type := 3, pos := "law.go:60", after := #[{ on := 14, ground := Ground.data }, { on := 14, ground := Ground.chain }, { on := 9, ground := Ground.guard }], guard := some (9, false) }) rfl (fun KQ hK => ?_) AllReadyH.nil)
      go_simp
      refine (num_any _ _).mono ?_
      rintro e w9 ⟨rfl, rfl⟩
      go_wp2_with fail
      refine hK.out _ _ BB4 (fun hHeld => ?_)
      clear hK KQ
      try simp only [Act.put, List.setIfInBounds_toArray, List.set_cons_zero, List.set_cons_succ]
      refine wpAnyH_ready (rs := [20]) (by kernel_rfl) (by simp) (AllReadyH.cons (o := { dst := some 60, op := Op.call { callee := Callee.value (Operand.func 25), args := #[Operand.tmp 59], argTypes := #[27] }, type := 57, pos := "law.go:60", after := #[{ on := 19, ground := Ground.data }, { on := 15, ground := Ground.chain }, { on := 9, ground := Ground.guard }], guard := some (9, false) }) rfl (fun KQ hK => ?_) AllReadyH.nil)
      go_simp
      refine (HDO.out _).mono ?_
      rintro e w5 ⟨rfl, hb5⟩
      have BB5 : Below w3.heap.size w3 w5 := below_on BB4 hb5
      go_wp2_with fail
      refine hK.out _ _ BB5 (fun hHeld => ?_)
      clear hK KQ
      try simp only [Act.put, List.setIfInBounds_toArray, List.set_cons_zero, List.set_cons_succ]
      refine wpAnyH_ready (rs := [21]) (by kernel_rfl) (by simp) (AllReadyH.cons (o := { dst := some 61, op := Op.call { callee := Callee.value (Operand.func 26), args := #[Operand.tmp 60], argTypes := #[57] }, type := 3, pos := "law.go:60", after := #[{ on := 20, ground := Ground.data }, { on := 20, ground := Ground.chain }, { on := 9, ground := Ground.guard }], guard := some (9, false) }) rfl (fun KQ hK => ?_) AllReadyH.nil)
      go_simp
      refine (HRC.out _ (below_on B3.out BB5)).mono ?_
      rintro e w6 ⟨rfl, hb6⟩
      have BB6 : Below w3.heap.size w3 w6 := below_on BB5 hb6
      go_wp2_with fail
      refine hK.out _ _ BB6 (fun hHeld => ?_)
      clear hK KQ
      try simp only [Act.put, List.setIfInBounds_toArray, List.set_cons_zero, List.set_cons_succ]
      refine wpAnyH_take (i := 22) (oi := { dst := some 62, op := Op.binOp BinOp.neq 3 (Operand.tmp 55) (Operand.tmp 61) 3, type := 4, pos := "law.go:60", after := #[{ on := 15, ground := Ground.data }, { on := 21, ground := Ground.data }, { on := 9, ground := Ground.guard }], guard := some (9, false) }) (v := .bool false) rfl (by kernel_rfl) (by kernel_rfl) (by kernel_rfl) (fun _ _ _ h => h) (Or.inl ⟨by rfl, by intro w hSw; go_simp⟩) (by assumption) ?_
      simp only [Act.put, List.setIfInBounds_toArray, List.set_cons_zero, List.set_cons_succ]
      refine wpAnyH_take (i := 23) (oi := { dst := some 63, op := Op.pick (Operand.tmp 49) (Operand.const (Value.bool true)) (Operand.tmp 62), type := 4, pos := "law.go:60", after := #[{ on := 9, ground := Ground.data }, { on := 22, ground := Ground.data }], guard := none }) (v := .bool false) rfl (by kernel_rfl) (by kernel_rfl) (by kernel_rfl) (fun _ _ _ h => h) (Or.inl ⟨by rfl, by intro w hSw; go_simp⟩) (by assumption) ?_
      simp only [Act.put, List.setIfInBounds_toArray, List.set_cons_zero, List.set_cons_succ]
      refine wpAnyH_done (by kernel_rfl) ?_ _
      have BZ : Hid (Below W.heap.size W w6) := below_on B3.out BB6
      clear hHeld
      go_wp2_with (go_at_call 9; refine (num_any _ _).mono ?_; rintro e w9 ⟨rfl, rfl⟩)
      go_roundw
      case measure => simp [intOf]; omega
      case rel => exact ⟨j + 1, by omega, by go_num, BZ⟩
    · obtain rfl : j = m := by omega
      clear hj hj2
      go_wp2_with fail
      go_loopw [10] (fun i wr => ∃ k : Nat, k ≤ n ∧ i = .int .i64 k ∧ Hid (Below W.heap.size W wr)) (fun i _ => n - (intOf i).toNat)
      case atStart => exact ⟨0, Nat.zero_le _, rfl, BR⟩
      case round =>
        clear BR
        obtain ⟨k, hk, rfl, BR⟩ := hrel
        by_cases hk2 : k < n
        · have c1 : (k : Int) < (n : Int) := by omega
          rcases HA.out with h0 | ⟨g, off, rfl, hg, hcell⟩
          · have h2 := HX.out.1; rw [h0] at h2; simp at h2; omega
          have hkx : k < xs.length := by have := HX.out.1; omega
          have hxk := HX.out.2 xs[k] (List.getElem_mem hkx)
          have HQ : Hid (∀ w, Below W.heap.size W w → w.cell? ⟨g, off + k, none⟩ = some (.int .u32 xs[k])) := fun w hb => (hb.cell (p := ⟨g, off + k, none⟩) hg).trans (hcell k hkx)
          generalize xs[k] = x at *
          obtain ⟨x0, x1⟩ := hxk
          clear hcell hkx hg
          have q0 : wr.cell? ⟨g, off + k, none⟩ = some (.int .u32 x) := HQ.out _ BR.out
          obtain ⟨I, hI⟩ : ∃ I, dec x = I := ⟨_, rfl⟩
          obtain ⟨f, hf⟩ : ∃ f, decE x = f := ⟨_, rfl⟩
          have hm := dec_imm x
          rw [hI] at hm
          obtain ⟨op, cond, a, b, c, imm⟩ := I
          obtain ⟨i0, i1⟩ := hm
          simp only at i0 i1
          have HD : Hid (∀ w, Below W.heap.size W w → _) := fun w hb => decode_ins w (HT.out w hb).t x x0 x1 op cond a b c imm f hI hf
          have HRD : Hid (∀ w, Below W.heap.size W w → _) := fun w hb => rdecode_ins w (HT.out w hb) x x0 x1 op cond a b c imm f hI hf
          have HDO : Hid (∀ w, _) := fun w => doc_any w op cond a b c imm i0 i1
          clear hI hf hk2
          go_wp2_with (first | (go_at_call 8; refine (HD.out _ BR.out).mono ?_; rintro e w1 ⟨rfl, hb1⟩; have B1 : Hid (Below W.heap.size W w1) := below_on BR.out hb1; have q1 : w1.cell? ⟨g, off + k, none⟩ = some (.int .u32 x) := HQ.out _ B1.out; have q2 : (w1.alloc (Obj.cells #[Value.int .i64 op, Value.int .i64 cond, Value.int .i64 a, Value.int .i64 b, Value.int .i64 c, Value.int .i32 imm] 27)).cell? ⟨g, off + k, none⟩ = some (.int .u32 x) := HQ.out _ (below_on B1.out (below_one _ _))) | (go_at_call 27; refine (HRD.out _ (below_on B1.out (below_one _ _))).mono ?_; rintro e w2 ⟨rfl, hb2⟩; have B2 : Hid (Below W.heap.size W w2) := below_on (below_on B1.out (below_one _ _)) hb2; have C2 : Hid (Cel w2 w1.heap.size 27 (Ins.mk op cond a b c imm).cs) := (Cel.new w1 27 (Ins.mk op cond a b c imm).cs).on hb2))
          have BX : Hid (Below W.heap.size W (w2.alloc (Obj.cells #[Value.int .i64 op, Value.int .i64 cond, Value.int .i64 a, Value.int .i64 b, Value.int .i64 c, Value.int .i64 imm] 57))) := below_on B2.out (below_one _ _)
          have CX : Hid (Cel (w2.alloc (Obj.cells #[Value.int .i64 op, Value.int .i64 cond, Value.int .i64 a, Value.int .i64 b, Value.int .i64 c, Value.int .i64 imm] 57)) w1.heap.size 27 (Ins.mk op cond a b c imm).cs) := C2.out.on (below_one _ _)
          have CY : Hid (Cel (w2.alloc (Obj.cells #[Value.int .i64 op, Value.int .i64 cond, Value.int .i64 a, Value.int .i64 b, Value.int .i64 c, Value.int .i64 imm] 57)) w2.heap.size 57 (Ins.mk op cond a b c imm).rs) := Cel.new _ _ _
          generalize w2.alloc (Obj.cells #[Value.int .i64 op, Value.int .i64 cond, Value.int .i64 a, Value.int .i64 b, Value.int .i64 c, Value.int .i64 imm] 57) = X at *
          generalize w1.heap.size = gi at *
          generalize w2.heap.size = gr at *
          have RI : Hid (∀ w, Below X.heap.size X w → w.rangeAt gi 0 (Ins.mk op cond a b c imm).cs) := fun w hb => (CX.out.on hb).range
          have RR : Hid (∀ w, Below X.heap.size X w → w.rangeAt gr 0 (Ins.mk op cond a b c imm).rs) := fun w hb => (CY.out.on hb).range
          clear q0 q1 q2
          refine wp_region_held_drew (S := fun w => Below X.heap.size X w) (by kernel_rfl) ((Below.refl _ _).drew) (fun hHeld => ?_)
          refine wpAnyH_take (i := 0) (oi := { dst := some 86, op := Op.load 27 (Operand.tmp 11), type := 27, pos := "law.go:67", after := #[], guard := none }) (v := .agg #[.int .i64 op, .int .i64 cond, .int .i64 a, .int .i64 b, .int .i64 c, .int .i32 imm]) rfl (by kernel_rfl) (by kernel_rfl) (by kernel_rfl) (fun _ _ _ h => h) (yieldsIf_load_mid (by rfl) _ _ rfl _ _ rfl _ _ (fun w hSw => RI.out w hSw) Tryd.underlying27 rfl size27) (by assumption) ?_
          simp only [Act.put, List.setIfInBounds_toArray, List.set_cons_zero, List.set_cons_succ]
          refine wpAnyH_take (i := 2) (oi := { dst := some 88, op := Op.load 57 (Operand.tmp 13), type := 57, pos := "law.go:67", after := #[], guard := none }) (v := .agg #[.int .i64 op, .int .i64 cond, .int .i64 a, .int .i64 b, .int .i64 c, .int .i64 imm]) rfl (by kernel_rfl) (by kernel_rfl) (by kernel_rfl) (fun _ _ _ h => h) (yieldsIf_load_mid (by rfl) _ _ rfl _ _ rfl _ _ (fun w hSw => RR.out w hSw) Tryd.underlying57 rfl size57) (by assumption) ?_
          simp only [Act.put, List.setIfInBounds_toArray, List.set_cons_zero, List.set_cons_succ]
          refine wpAnyH_ready (rs := [1]) (by kernel_rfl) (by simp) (AllReadyH.cons (o := { dst := some 87, op := Op.call { callee := Callee.value (Operand.func 25), args := #[Operand.tmp 86], argTypes := #[27] }, type := 57, pos := "law.go:67", after := #[{ on := 0, ground := Ground.data }], guard := none }) rfl (fun KQ hK => ?_) AllReadyH.nil)
          go_simp
          refine (HDO.out _).mono ?_
          rintro e w4 ⟨rfl, hb4⟩
          have BB4 : Below X.heap.size X w4 := below_on ((Below.refl _ _).drew) hb4
          go_wp2_with fail
          refine hK.out _ _ BB4 (fun hHeld => ?_)
          clear hK KQ
          try simp only [Act.put, List.setIfInBounds_toArray, List.set_cons_zero, List.set_cons_succ]
          refine wpAnyH_take (i := 3) (oi := { dst := some 89, op := Op.binOp BinOp.neq 57 (Operand.tmp 87) (Operand.tmp 88) 57, type := 4, pos := "law.go:67", after := #[{ on := 1, ground := Ground.data }, { on := 2, ground := Ground.data }], guard := none }) (v := .bool false) rfl (by kernel_rfl) (by kernel_rfl) (by kernel_rfl) (fun _ _ _ h => h) (Or.inl ⟨by rfl, by intro w hSw; go_simp⟩) (by assumption) ?_
          simp only [Act.put, List.setIfInBounds_toArray, List.set_cons_zero, List.set_cons_succ]
          refine wpAnyH_take (i := 4) (oi := { dst := some 90, op := Op.move (Operand.tmp 89), type := 4, pos := "law.go:67", after := #[{ on := 3, ground := Ground.data }, { on := 1, ground := Ground.chain }], guard := none }) (v := .bool false) rfl (by kernel_rfl) (by kernel_rfl) (by kernel_rfl) (fun _ _ _ h => h) (Or.inl ⟨by rfl, by intro w hSw; go_simp⟩) (by assumption) ?_
          simp only [Act.put, List.setIfInBounds_toArray, List.set_cons_zero, List.set_cons_succ]
          refine wpAnyH_take (i := 5) (oi := { dst := some 91, op := Op.move (Operand.tmp 12), type := 28, pos := "law.go:67", after := #[{ on := 4, ground := Ground.guard }], guard := some (4, false) }) (v := .int .i64 f) rfl (by kernel_rfl) (by kernel_rfl) (by kernel_rfl) (fun _ _ _ h => h) (Or.inl ⟨by rfl, by intro w hSw; go_simp⟩) (by assumption) ?_
          simp only [Act.put, List.setIfInBounds_toArray, List.set_cons_zero, List.set_cons_succ]
          refine wpAnyH_take (i := 7) (oi := { dst := some 93, op := Op.move (Operand.tmp 14), type := 3, pos := "law.go:67", after := #[{ on := 4, ground := Ground.guard }], guard := some (4, false) }) (v := .int .i64 f) rfl (by kernel_rfl) (by kernel_rfl) (by kernel_rfl) (fun _ _ _ h => h) (Or.inl ⟨by rfl, by intro w hSw; go_simp⟩) (by assumption) ?_
          simp only [Act.put, List.setIfInBounds_toArray, List.set_cons_zero, List.set_cons_succ]
          refine wpAnyH_ready (rs := [6]) (by kernel_rfl) (by simp) (AllReadyH.cons (o := { dst := some 92, op := Op.call { callee := Callee.value (Operand.func 9), args := #[Operand.tmp 91], argTypes := #[28] }, type := 3, pos := "law.go:67", after := #[{ on := 5, ground := Ground.data }, { on := 4, ground := Ground.chain }, { on := 4, ground := Ground.guard }], guard := some (4, false) }) rfl (fun KQ hK => ?_) AllReadyH.nil)
          go_simp
          refine (num_any _ _).mono ?_
          rintro e w9 ⟨rfl, rfl⟩
          go_wp2_with fail
          refine hK.out _ _ BB4 (fun hHeld => ?_)
          clear hK KQ
          try simp only [Act.put, List.setIfInBounds_toArray, List.set_cons_zero, List.set_cons_succ]
          refine wpAnyH_take (i := 8) (oi := { dst := some 94, op := Op.binOp BinOp.neq 3 (Operand.tmp 92) (Operand.tmp 93) 3, type := 4, pos := "law.go:67", after := #[{ on := 6, ground := Ground.data }, { on := 7, ground := Ground.data }, { on := 4, ground := Ground.guard }], guard := some (4, false) }) (v := .bool false) rfl (by kernel_rfl) (by kernel_rfl) (by kernel_rfl) (fun _ _ _ h => h) (Or.inl ⟨by rfl, by intro w hSw; go_simp⟩) (by assumption) ?_
          simp only [Act.put, List.setIfInBounds_toArray, List.set_cons_zero, List.set_cons_succ]
          refine wpAnyH_take (i := 9) (oi := { dst := some 95, op := Op.pick (Operand.tmp 90) (Operand.const (Value.bool true)) (Operand.tmp 94), type := 4, pos := "law.go:67", after := #[{ on := 4, ground := Ground.data }, { on := 8, ground := Ground.data }], guard := none }) (v := .bool false) rfl (by kernel_rfl) (by kernel_rfl) (by kernel_rfl) (fun _ _ _ h => h) (Or.inl ⟨by rfl, by intro w hSw; go_simp⟩) (by assumption) ?_
          simp only [Act.put, List.setIfInBounds_toArray, List.set_cons_zero, List.set_cons_succ]
          refine wpAnyH_done (by kernel_rfl) ?_ _
          have BZ : Hid (Below W.heap.size W w4) := below_on BX.out BB4
          clear hHeld
          go_wp2_with (go_at_call 9; refine (num_any _ _).mono ?_; rintro e w9 ⟨rfl, rfl⟩)
          go_roundw
          case measure => simp [intOf]; omega
          case rel => exact ⟨k + 1, by omega, by go_num, BZ⟩
        · obtain rfl : k = n := by omega
          clear hk hk2
          have HD : Hid (∀ w, Below W.heap.size W w → _) := fun w hb => decode_ins w (HT.out w hb).t 1010368508 (by decide) (by decide) 15 0 0 14 0 (-4) 0 dec_ldr.1 dec_ldr.2
          have HO : Hid (∀ w, Below W.heap.size W w → Calls Tryd.prog 12 #[] w fun e W' => e = .returned (.bool true) ∧ Below w.heap.size w W') := fun w hb => one_any w (HT.out w hb).t
          go_wp2_with (first | (go_at_call 9; refine (num_any _ _).mono ?_; rintro e w9 ⟨rfl, rfl⟩) | (go_at_call 8; refine (HD.out _ BR.out).mono ?_; rintro e w1 ⟨rfl, hb1⟩; have B1 : Hid (Below W.heap.size W w1) := below_on BR.out hb1) | (go_at_call 12; refine (HO.out _ (below_on B1.out (below_one _ _))).mono ?_; rintro e w2 ⟨rfl, hb2⟩; have B2 : Hid (Below W.heap.size W w2) := below_on (below_on B1.out (below_one _ _)) hb2; have CX : Hid (Cel w2 w1.heap.size 27 (Ins.mk 15 0 0 14 0 (-4)).cs) := (Cel.new w1 27 (Ins.mk 15 0 0 14 0 (-4)).cs).on hb2; have y0 : w2.cell? ⟨w1.heap.size, 0, none⟩ = some (.int .i64 15) := CX.out.cell 0; have y1 : w2.cell? ⟨w1.heap.size, 1, none⟩ = some (.int .i64 0) := CX.out.cell 1; have y2 : w2.cell? ⟨w1.heap.size, 2, none⟩ = some (.int .i64 0) := CX.out.cell 2; have y3 : w2.cell? ⟨w1.heap.size, 3, none⟩ = some (.int .i64 14) := CX.out.cell 3; have y4 : w2.cell? ⟨w1.heap.size, 4, none⟩ = some (.int .i64 0) := CX.out.cell 4; have y5 : w2.cell? ⟨w1.heap.size, 5, none⟩ = some (.int .i32 (-4)) := CX.out.cell 5))
          go_ret
          exact ⟨rfl, B2.out⟩
end Go.Proofs.YtgdekmkhbickkaaDoor
