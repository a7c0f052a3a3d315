/- IsaPlaces (5): the walk. -/
import Derived.Test.YtgdekmkhbickkaaDoorBk
import Derived.Test.YtgdekmkhbickkaaDoorMat6
namespace Go.Proofs.YtgdekmkhbickkaaDoor
open Go.RowKit

theorem wrap_imm (w imm : Int) (z1 : w % 65536 = imm % 65536) (z2 : -32768 ≤ imm) (z3 : imm ≤ 32767) : IntKind.i16.wrap (IntKind.u16.wrap w) = imm := by
  simp [IntKind.wrap, IntKind.signed, IntKind.bits]
  split <;> omega
theorem wrap_i64 (imm : Int) (i0 : -2147483648 ≤ imm) (i1 : imm < 2147483648) : IntKind.i64.wrap imm = imm := by
  simp [IntKind.wrap, IntKind.signed, IntKind.bits]
  split <;> omega
theorem places_no (W : World) (hT : Tabs W) (w : Int) (w0 : 0 ≤ w) (w1 : w < 4294967296) (h : decE w ≠ 0) :
    Calls Tryd.prog 5 #[.int .u32 w] W fun e W' => e = .returned (.bool true) ∧ Below W.heap.size W W' := by
  have HT : Hid (∀ x, Below W.heap.size W x → Tabs x) := fun x hb => hT.on hb
  obtain ⟨h1, h2⟩ := dec_no h
  have HD : Hid (∀ x, Below W.heap.size W x → _) := fun x hb => decode_ins x (HT.out x hb) w w0 w1 0 0 0 0 0 0 50 h2 h1
  have HO : Hid (∀ w, Below W.heap.size W w → Calls Tryd.prog 12 #[] w fun e W' => e = .returned (.bool true) ∧ Below w.heap.size w W') := fun w hb => one_any w (HT.out w hb)
  have B0 : Hid (Below W.heap.size W W) := Below.refl _ _
  clear hT h h1 h2
  go_enter Tryd.func5, Tryd.ntmps5
  go_wp2_with (first | (go_at_call 9; refine (num_any _ _).mono ?_; rintro e w9 ⟨rfl, rfl⟩) | (go_at_call 8; refine (HD.out _ B0.out).mono ?_; rintro e w1 ⟨rfl, hb1⟩; have B1 : Hid (Below W.heap.size W w1) := below_on B0.out hb1) | (go_at_call 12; refine (HO.out _ (below_on B1.out (below_one _ _))).mono ?_; rintro e w2 ⟨rfl, hb2⟩))
  go_ret
  exact ⟨rfl, below_on (below_on B1.out (below_one _ _)) hb2⟩

set_option maxRecDepth 40000 in
set_option maxHeartbeats 8000000 in
theorem places_yes (W : World) (hT : Tabs W) (w : Int) (w0 : 0 ≤ w) (wlt : w < 4294967296) (h : decE w = 0) :
    Calls Tryd.prog 5 #[.int .u32 w] W fun e W' => e = .returned (.bool true) ∧ Below W.heap.size W W' := by
  have HT : Hid (∀ x, Below W.heap.size W x → Tabs x) := fun x hb => hT.on hb
  obtain ⟨n, hn, k1, k2, hf, hr, hl, hlen⟩ := dec_at h
  have hi := dec_imm w
  obtain ⟨I, hI⟩ : ∃ I, dec w = I := ⟨_, rfl⟩
  rw [hI] at hn hf hl hi
  obtain ⟨op, cond, a, b, c, imm⟩ := I
  obtain rfl : op = (n : Int) := hn
  obtain ⟨i0, i1⟩ := hi
  simp only at i0 i1
  have HD : Hid (∀ x, Below W.heap.size W x → _) := fun x hb => decode_ins x (HT.out x hb) w w0 wlt n cond a b c imm 0 hI h
  have HS : Hid (∀ x, Below W.heap.size W x → Calls Tryd.prog 13 #[.int .i64 (n : Int)] x fun e W' => e = .returned (.string (shp n)) ∧ x = W') := fun x hb => by have := shape_any x (HT.out x hb).f n; rw [shpI, if_pos (by omega), Int.toNat_natCast] at this; exact this
  have hsz := (shp_ok n k2).1
  have HLT : Hid (∀ l ∈ ltr (shp n), letter l) := (shp_ok n k2).2
  have HL : Hid (∀ l ∈ ltr (shp n), AtL w ⟨n, cond, a, b, c, imm⟩ l) := hl
  have HR : Hid (restL w (ltr (shp n)) = 0) := hr
  rw [ltr_len] at hlen
  have s0 : (0 : Int) < ((shp n).size : Int) := by omega
  have hs : ((shp n).size : Int) ≤ 3 := by omega
  have HF : Hid (∀ x, Calls Tryd.prog 14 #[.int .u32 w, .int .i64 26, .int .i64 6] x fun e W' => e = .returned (.int .i64 (n : Int)) ∧ x = W') := fun x => by have := lfield_any x w w0 wlt 26 6 (by decide) (by decide); rw [hf] at this; exact this
  have HM : Hid (bits .andNot .u32 w 4227858432 = restL w []) := clr_bits w w0 wlt 26 6 (by decide) _ (by decide)
  have HMB := M.setF_bounds w 26 6 0 w0 wlt (by decide)
  generalize shp n = s at *
  have B0 : Hid (Below W.heap.size W W) := Below.refl _ _
  clear hT h hf hr hl hI hsz hlen k1 k2
  go_enter Tryd.func5, Tryd.ntmps5
  go_wp2_with (first | (go_at_call 9; refine (num_any _ _).mono ?_; rintro e w9 ⟨rfl, rfl⟩) | (go_at_call 8; refine (HD.out _ B0.out).mono ?_; rintro e w1 ⟨rfl, hb1⟩; have B1 : Hid (Below W.heap.size W w1) := below_on B0.out hb1))
  have B2 : Hid (Below W.heap.size W (w1.alloc (Obj.cells #[Value.int .i64 (n : Int), Value.int .i64 cond, Value.int .i64 a, Value.int .i64 b, Value.int .i64 c, Value.int .i32 imm] 27))) := below_on B1.out (below_one _ _)
  have C2 : Hid (Cel (w1.alloc (Obj.cells #[Value.int .i64 (n : Int), Value.int .i64 cond, Value.int .i64 a, Value.int .i64 b, Value.int .i64 c, Value.int .i32 imm] 27)) w1.heap.size 27 (Ins.mk n cond a b c imm).cs) := Cel.new _ _ _
  generalize w1.alloc (Obj.cells #[Value.int .i64 (n : Int), Value.int .i64 cond, Value.int .i64 a, Value.int .i64 b, Value.int .i64 c, Value.int .i32 imm] 27) = X at *
  generalize w1.heap.size = gi at *
  have R0 : Hid (∀ x, Below X.heap.size X x → x.cell? ⟨gi, 0, none⟩ = some (.int .i64 (n : Int))) := fun x hb => (C2.out.on hb).cell 0
  refine wp_region_held_drew (S := fun x => Below X.heap.size X x) (by kernel_rfl) ((Below.refl _ _).drew) (fun hHeld => ?_)
  refine wpAnyH_take (i := 0) (oi := { dst := some 20, op := Op.move (Operand.tmp 0), type := 31, pos := "outright.go:51", after := #[], guard := none }) (v := .int .u32 w) rfl (by kernel_rfl) (by kernel_rfl) (by kernel_rfl) (fun _ _ _ h => h) (Or.inl ⟨by rfl, by intro w hSw; go_simp⟩) (by assumption) ?_
  simp only [Act.put, List.setIfInBounds_toArray, List.set_cons_zero, List.set_cons_succ]
  refine wpAnyH_take (i := 2) (oi := { dst := some 22, op := Op.fieldAddr 27 (Operand.tmp 3) 0, type := 0, pos := "outright.go:51", after := #[], guard := none }) (v := .pointer (some ⟨gi, 0, none⟩)) rfl (by kernel_rfl) (by kernel_rfl) (by kernel_rfl) (fun _ _ _ h => h) (Or.inl ⟨by rfl, by intro w hSw; go_simp⟩) (by assumption) ?_
  simp only [Act.put, List.setIfInBounds_toArray, List.set_cons_zero, List.set_cons_succ]
  refine wpAnyH_take (i := 3) (oi := { dst := some 23, op := Op.load 24 (Operand.tmp 22), type := 24, pos := "outright.go:51", after := #[{ on := 2, ground := Ground.data }], guard := none }) (v := .int .i64 (n : Int)) rfl (by kernel_rfl) (by kernel_rfl) (by kernel_rfl) (fun _ _ _ h => h) (Or.inl ⟨by rfl, by intro w hSw; have hcc := R0.out w hSw; go_simp⟩) (by assumption) ?_
  simp only [Act.put, List.setIfInBounds_toArray, List.set_cons_zero, List.set_cons_succ]
  refine wpAnyH_ready (rs := [1]) (by kernel_rfl) (by simp) (AllReadyH.cons (o := { dst := some 21, op := Op.call { callee := Callee.value (Operand.func 14), args := #[Operand.tmp 20, Operand.const (Value.int IntKind.i64 26), Operand.const (Value.int IntKind.i64 6)], argTypes := #[31, 3, 3] }, type := 3, pos := "outright.go:51", after := #[{ on := 0, ground := Ground.data }], guard := none }) rfl (fun KQ hK => ?_) AllReadyH.nil)
  go_simp
  refine (HF.out _).mono ?_
  rintro e w9 ⟨rfl, rfl⟩
  go_wp2_with fail
  refine hK.out _ _ ((Below.refl _ _).drew) (fun hHeld => ?_)
  clear hK KQ
  try simp only [Act.put, List.setIfInBounds_toArray, List.set_cons_zero, List.set_cons_succ]
  refine wpAnyH_take (i := 4) (oi := { dst := some 24, op := Op.binOp BinOp.neq 3 (Operand.tmp 21) (Operand.tmp 23) 3, type := 4, pos := "outright.go:51", after := #[{ on := 1, ground := Ground.data }, { on := 3, ground := Ground.data }], guard := none }) (v := .bool false) rfl (by kernel_rfl) (by kernel_rfl) (by kernel_rfl) (fun _ _ _ h => h) (Or.inl ⟨by rfl, by intro w hSw; go_simp⟩) (by assumption) ?_
  simp only [Act.put, List.setIfInBounds_toArray, List.set_cons_zero, List.set_cons_succ]
  refine wpAnyH_done (by kernel_rfl) ?_ _
  clear hHeld
  have B3 : Hid (Below W.heap.size W X.drew) := B2.out.drew
  have C3 : Hid (Cel X.drew gi 27 (Ins.mk n cond a b c imm).cs) := C2.out.on (Below.refl _ _).drew
  generalize X.drew = Y at *
  have R3 : Y.cell? ⟨gi, 0, none⟩ = some (.int .i64 (n : Int)) := C3.out.cell 0
  clear R0 C2 B2
  go_wp2_with (go_at_call 13; refine (HS.out _ B3.out).mono ?_; rintro e w2 ⟨rfl, rfl⟩)
  clear R3
  rw [HM.out]
  go_loopw [5, 7] (fun x i wr => ∃ (k : Nat) (r : Int), k ≤ s.size ∧ i = .int .i64 k ∧ x = .int .u32 r ∧ 0 ≤ r ∧ r < 4294967296 ∧ Hid (r = restL w ((ltr s).take k)) ∧ Hid (Below W.heap.size W wr) ∧ Hid (Cel wr gi 27 (Ins.mk n cond a b c imm).cs)) (fun _ i _ => s.size - (intOf i).toNat)
  case atStart => exact ⟨0, _, Nat.zero_le _, rfl, rfl, HMB.1, HMB.2, rfl, B3, C3⟩
  case round =>
    clear B3 C3 HMB HM
    obtain ⟨k, r, hk, rfl, rfl, r0, r1, HV, BR, CR⟩ := hrel
    by_cases hk2 : k < s.size
    · have c1 : (k : Int) < (s.size : Int) := by omega
      obtain ⟨l, hlk⟩ : ∃ l, s[k].toNat = l := ⟨_, rfl⟩
      have hml : l ∈ ltr s := List.mem_iff_getElem.2 ⟨k, by rw [ltr_len]; exact hk2, by rw [ltr_get s k hk2, hlk]⟩
      have HLL := HLT.out l hml
      have hA := HL.out l hml
      clear hml
      have HV2 : Hid (M.SetF r (fl l).low.toNat (fl l).bits.toNat 0 = restL w ((ltr s).take (k + 1))) := (show _ = _ by rw [ltr_snoc s k hk2, restL_snoc, hlk, ← HV.out])
      have HK : Hid (k < s.size) := hk2
      obtain ⟨a1, a2, a3, a4, a5, a6⟩ := hA
      rcases HLL with rfl | rfl | rfl | rfl | rfl | rfl | rfl
      · obtain ⟨z1, z2⟩ := a1 rfl
        have HG : Hid (∀ x, Calls Tryd.prog 14 #[.int .u32 w, .int .i64 22, .int .i64 4] x fun e W' => e = .returned (.int .i64 a) ∧ x = W') := fun x => by have := lfield_any x w w0 wlt 22 4 (by decide) (by decide); rw [z1] at this; exact this
        have z3 : a ≤ 14 := z2
        clear a1 a2 a3 a4 a5 a6 z1 z2
        go_wp2_with fail
        have RI : Hid (∀ x, Below wr.heap.size wr x → x.cell? ⟨gi, 2, none⟩ = some (.int .i64 a)) := fun x hb => (CR.out.on hb).cell 2
        refine wp_region_held_drew (S := fun x => Below wr.heap.size wr x) (by kernel_rfl) ((Below.refl _ _).drew) (fun hHeld => ?_)
        refine wpAnyH_take (i := 0) (oi := { dst := some 39, op := Op.move (Operand.tmp 0), type := 31, pos := "outright.go:59", after := #[], guard := none }) (v := .int .u32 w) rfl (by kernel_rfl) (by kernel_rfl) (by kernel_rfl) (fun _ _ _ h => h) (Or.inl ⟨by rfl, by intro w hSw; go_simp⟩) (by assumption) ?_
        simp only [Act.put, List.setIfInBounds_toArray, List.set_cons_zero, List.set_cons_succ]
        refine wpAnyH_take (i := 2) (oi := { dst := some 41, op := Op.fieldAddr 27 (Operand.tmp 3) 2, type := 0, pos := "outright.go:59", after := #[], guard := none }) (v := .pointer (some ⟨gi, 2, none⟩)) rfl (by kernel_rfl) (by kernel_rfl) (by kernel_rfl) (fun _ _ _ h => h) (Or.inl ⟨by rfl, by intro w hSw; go_simp⟩) (by assumption) ?_
        simp only [Act.put, List.setIfInBounds_toArray, List.set_cons_zero, List.set_cons_succ]
        refine wpAnyH_take (i := 3) (oi := { dst := some 42, op := Op.load 3 (Operand.tmp 41), type := 3, pos := "outright.go:59", after := #[{ on := 2, ground := Ground.data }], guard := none }) (v := .int .i64 a) rfl (by kernel_rfl) (by kernel_rfl) (by kernel_rfl) (fun _ _ _ h => h) (Or.inl ⟨by rfl, by intro w hSw; have hcc := RI.out w hSw; go_simp⟩) (by assumption) ?_
        simp only [Act.put, List.setIfInBounds_toArray, List.set_cons_zero, List.set_cons_succ]
        refine wpAnyH_ready (rs := [1]) (by kernel_rfl) (by simp) (AllReadyH.cons (o := { dst := some 40, op := Op.call { callee := Callee.value (Operand.func 14), args := #[Operand.tmp 39, Operand.const (Value.int IntKind.i64 22), Operand.const (Value.int IntKind.i64 4)], argTypes := #[31, 3, 3] }, type := 3, pos := "outright.go:59", after := #[{ on := 0, ground := Ground.data }], guard := none }) rfl (fun KQ hK => ?_) AllReadyH.nil)
        go_simp
        refine (HG.out _).mono ?_
        rintro e w9 ⟨rfl, rfl⟩
        go_wp2_with fail
        refine hK.out _ _ ((Below.refl _ _).drew) (fun hHeld => ?_)
        clear hK KQ
        try simp only [Act.put, List.setIfInBounds_toArray, List.set_cons_zero, List.set_cons_succ]
        refine wpAnyH_take (i := 4) (oi := { dst := some 43, op := Op.binOp BinOp.eql 3 (Operand.tmp 40) (Operand.tmp 42) 3, type := 4, pos := "outright.go:59", after := #[{ on := 1, ground := Ground.data }, { on := 3, ground := Ground.data }], guard := none }) (v := .bool true) rfl (by kernel_rfl) (by kernel_rfl) (by kernel_rfl) (fun _ _ _ h => h) (Or.inl ⟨by rfl, by intro w hSw; go_simp⟩) (by assumption) ?_
        simp only [Act.put, List.setIfInBounds_toArray, List.set_cons_zero, List.set_cons_succ]
        refine wpAnyH_take (i := 5) (oi := { dst := some 44, op := Op.move (Operand.tmp 43), type := 4, pos := "outright.go:59", after := #[{ on := 4, ground := Ground.data }, { on := 1, ground := Ground.chain }], guard := none }) (v := .bool true) rfl (by kernel_rfl) (by kernel_rfl) (by kernel_rfl) (fun _ _ _ h => h) (Or.inl ⟨by rfl, by intro w hSw; go_simp⟩) (by assumption) ?_
        simp only [Act.put, List.setIfInBounds_toArray, List.set_cons_zero, List.set_cons_succ]
        refine wpAnyH_take (i := 6) (oi := { dst := some 45, op := Op.fieldAddr 27 (Operand.tmp 3) 2, type := 0, pos := "outright.go:59", after := #[{ on := 5, ground := Ground.guard }], guard := some (5, true) }) (v := .pointer (some ⟨gi, 2, none⟩)) rfl (by kernel_rfl) (by kernel_rfl) (by kernel_rfl) (fun _ _ _ h => h) (Or.inl ⟨by rfl, by intro w hSw; go_simp⟩) (by assumption) ?_
        simp only [Act.put, List.setIfInBounds_toArray, List.set_cons_zero, List.set_cons_succ]
        refine wpAnyH_take (i := 7) (oi := { dst := some 46, op := Op.load 3 (Operand.tmp 45), type := 3, pos := "outright.go:59", after := #[{ on := 6, ground := Ground.data }, { on := 5, ground := Ground.guard }], guard := some (5, true) }) (v := .int .i64 a) rfl (by kernel_rfl) (by kernel_rfl) (by kernel_rfl) (fun _ _ _ h => h) (Or.inl ⟨by rfl, by intro w hSw; have hcc := RI.out w hSw; go_simp⟩) (by assumption) ?_
        simp only [Act.put, List.setIfInBounds_toArray, List.set_cons_zero, List.set_cons_succ]
        refine wpAnyH_take (i := 8) (oi := { dst := some 47, op := Op.binOp BinOp.leq 3 (Operand.tmp 46) (Operand.const (Value.int IntKind.i64 14)) 3, type := 4, pos := "outright.go:59", after := #[{ on := 7, ground := Ground.data }, { on := 5, ground := Ground.guard }], guard := some (5, true) }) (v := .bool true) rfl (by kernel_rfl) (by kernel_rfl) (by kernel_rfl) (fun _ _ _ h => h) (Or.inl ⟨by rfl, by intro w hSw; go_simp⟩) (by assumption) ?_
        simp only [Act.put, List.setIfInBounds_toArray, List.set_cons_zero, List.set_cons_succ]
        refine wpAnyH_take (i := 9) (oi := { dst := some 48, op := Op.pick (Operand.tmp 44) (Operand.tmp 47) (Operand.const (Value.bool false)), type := 4, pos := "outright.go:59", after := #[{ on := 5, ground := Ground.data }, { on := 8, ground := Ground.data }], guard := none }) (v := .bool true) rfl (by kernel_rfl) (by kernel_rfl) (by kernel_rfl) (fun _ _ _ h => h) (Or.inl ⟨by rfl, by intro w hSw; go_simp⟩) (by assumption) ?_
        simp only [Act.put, List.setIfInBounds_toArray, List.set_cons_zero, List.set_cons_succ]
        refine wpAnyH_ready (rs := [10]) (by kernel_rfl) (by simp) (AllReadyH.cons (o := { dst := some 8, op := Op.assign (Operand.tmp 48), type := 4, pos := "outright.go:59", after := #[{ on := 9, ground := Ground.data }, { on := 5, ground := Ground.chain }, { on := 0, ground := Ground.phase }, { on := 1, ground := Ground.phase }, { on := 2, ground := Ground.phase }, { on := 3, ground := Ground.phase }, { on := 4, ground := Ground.phase }, { on := 5, ground := Ground.phase }, { on := 6, ground := Ground.phase }, { on := 7, ground := Ground.phase }, { on := 8, ground := Ground.phase }, { on := 9, ground := Ground.phase }], guard := none }) rfl (fun KQ hK => ?_) AllReadyH.nil)
        go_simp
        refine hK.out _ _ ((Below.refl _ _).drew) (fun hHeld => ?_)
        clear hK KQ
        try simp only [Act.put, List.setIfInBounds_toArray, List.set_cons_zero, List.set_cons_succ]
        refine wpAnyH_done (by kernel_rfl) ?_ _
        clear hHeld
        have HC : Hid (bits .andNot .u32 r 62914560 = M.SetF r 22 4 0) := clr_bits r r0 r1 22 4 (by decide) _ (by decide)
        have HCB := M.setF_bounds r 22 4 0 r0 r1 (by decide)
        go_wp2_with fail
        go_roundw
        case measure => have := HK.out; simp [intOf]; omega
        case rel => exact ⟨k + 1, _, HK.out, by go_num, rfl, by rw [HC.out]; exact HCB.1, by rw [HC.out]; exact HCB.2, HC.out.trans HV2.out, BR.out.drew, CR.out.on (Below.refl _ _).drew⟩
      · obtain ⟨z1, z2⟩ := a3 rfl
        have HG : Hid (∀ x, Calls Tryd.prog 14 #[.int .u32 w, .int .i64 18, .int .i64 4] x fun e W' => e = .returned (.int .i64 b) ∧ x = W') := fun x => by have := lfield_any x w w0 wlt 18 4 (by decide) (by decide); rw [z1] at this; exact this
        have z3 : b ≤ 14 := z2
        clear a1 a2 a3 a4 a5 a6 z1 z2
        go_wp2_with fail
        have RI : Hid (∀ x, Below wr.heap.size wr x → x.cell? ⟨gi, 3, none⟩ = some (.int .i64 b)) := fun x hb => (CR.out.on hb).cell 3
        refine wp_region_held_drew (S := fun x => Below wr.heap.size wr x) (by kernel_rfl) ((Below.refl _ _).drew) (fun hHeld => ?_)
        refine wpAnyH_take (i := 0) (oi := { dst := some 67, op := Op.move (Operand.tmp 0), type := 31, pos := "outright.go:65", after := #[], guard := none }) (v := .int .u32 w) rfl (by kernel_rfl) (by kernel_rfl) (by kernel_rfl) (fun _ _ _ h => h) (Or.inl ⟨by rfl, by intro w hSw; go_simp⟩) (by assumption) ?_
        simp only [Act.put, List.setIfInBounds_toArray, List.set_cons_zero, List.set_cons_succ]
        refine wpAnyH_take (i := 2) (oi := { dst := some 69, op := Op.fieldAddr 27 (Operand.tmp 3) 3, type := 0, pos := "outright.go:65", after := #[], guard := none }) (v := .pointer (some ⟨gi, 3, none⟩)) rfl (by kernel_rfl) (by kernel_rfl) (by kernel_rfl) (fun _ _ _ h => h) (Or.inl ⟨by rfl, by intro w hSw; go_simp⟩) (by assumption) ?_
        simp only [Act.put, List.setIfInBounds_toArray, List.set_cons_zero, List.set_cons_succ]
        refine wpAnyH_take (i := 3) (oi := { dst := some 70, op := Op.load 3 (Operand.tmp 69), type := 3, pos := "outright.go:65", after := #[{ on := 2, ground := Ground.data }], guard := none }) (v := .int .i64 b) rfl (by kernel_rfl) (by kernel_rfl) (by kernel_rfl) (fun _ _ _ h => h) (Or.inl ⟨by rfl, by intro w hSw; have hcc := RI.out w hSw; go_simp⟩) (by assumption) ?_
        simp only [Act.put, List.setIfInBounds_toArray, List.set_cons_zero, List.set_cons_succ]
        refine wpAnyH_ready (rs := [1]) (by kernel_rfl) (by simp) (AllReadyH.cons (o := { dst := some 68, op := Op.call { callee := Callee.value (Operand.func 14), args := #[Operand.tmp 67, Operand.const (Value.int IntKind.i64 18), Operand.const (Value.int IntKind.i64 4)], argTypes := #[31, 3, 3] }, type := 3, pos := "outright.go:65", after := #[{ on := 0, ground := Ground.data }], guard := none }) rfl (fun KQ hK => ?_) AllReadyH.nil)
        go_simp
        refine (HG.out _).mono ?_
        rintro e w9 ⟨rfl, rfl⟩
        go_wp2_with fail
        refine hK.out _ _ ((Below.refl _ _).drew) (fun hHeld => ?_)
        clear hK KQ
        try simp only [Act.put, List.setIfInBounds_toArray, List.set_cons_zero, List.set_cons_succ]
        refine wpAnyH_take (i := 4) (oi := { dst := some 71, op := Op.binOp BinOp.eql 3 (Operand.tmp 68) (Operand.tmp 70) 3, type := 4, pos := "outright.go:65", after := #[{ on := 1, ground := Ground.data }, { on := 3, ground := Ground.data }], guard := none }) (v := .bool true) rfl (by kernel_rfl) (by kernel_rfl) (by kernel_rfl) (fun _ _ _ h => h) (Or.inl ⟨by rfl, by intro w hSw; go_simp⟩) (by assumption) ?_
        simp only [Act.put, List.setIfInBounds_toArray, List.set_cons_zero, List.set_cons_succ]
        refine wpAnyH_take (i := 5) (oi := { dst := some 72, op := Op.move (Operand.tmp 71), type := 4, pos := "outright.go:65", after := #[{ on := 4, ground := Ground.data }, { on := 1, ground := Ground.chain }], guard := none }) (v := .bool true) rfl (by kernel_rfl) (by kernel_rfl) (by kernel_rfl) (fun _ _ _ h => h) (Or.inl ⟨by rfl, by intro w hSw; go_simp⟩) (by assumption) ?_
        simp only [Act.put, List.setIfInBounds_toArray, List.set_cons_zero, List.set_cons_succ]
        refine wpAnyH_take (i := 6) (oi := { dst := some 73, op := Op.fieldAddr 27 (Operand.tmp 3) 3, type := 0, pos := "outright.go:65", after := #[{ on := 5, ground := Ground.guard }], guard := some (5, true) }) (v := .pointer (some ⟨gi, 3, none⟩)) rfl (by kernel_rfl) (by kernel_rfl) (by kernel_rfl) (fun _ _ _ h => h) (Or.inl ⟨by rfl, by intro w hSw; go_simp⟩) (by assumption) ?_
        simp only [Act.put, List.setIfInBounds_toArray, List.set_cons_zero, List.set_cons_succ]
        refine wpAnyH_take (i := 7) (oi := { dst := some 74, op := Op.load 3 (Operand.tmp 73), type := 3, pos := "outright.go:65", after := #[{ on := 6, ground := Ground.data }, { on := 5, ground := Ground.guard }], guard := some (5, true) }) (v := .int .i64 b) rfl (by kernel_rfl) (by kernel_rfl) (by kernel_rfl) (fun _ _ _ h => h) (Or.inl ⟨by rfl, by intro w hSw; have hcc := RI.out w hSw; go_simp⟩) (by assumption) ?_
        simp only [Act.put, List.setIfInBounds_toArray, List.set_cons_zero, List.set_cons_succ]
        refine wpAnyH_take (i := 8) (oi := { dst := some 75, op := Op.binOp BinOp.leq 3 (Operand.tmp 74) (Operand.const (Value.int IntKind.i64 14)) 3, type := 4, pos := "outright.go:65", after := #[{ on := 7, ground := Ground.data }, { on := 5, ground := Ground.guard }], guard := some (5, true) }) (v := .bool true) rfl (by kernel_rfl) (by kernel_rfl) (by kernel_rfl) (fun _ _ _ h => h) (Or.inl ⟨by rfl, by intro w hSw; go_simp⟩) (by assumption) ?_
        simp only [Act.put, List.setIfInBounds_toArray, List.set_cons_zero, List.set_cons_succ]
        refine wpAnyH_take (i := 9) (oi := { dst := some 76, op := Op.pick (Operand.tmp 72) (Operand.tmp 75) (Operand.const (Value.bool false)), type := 4, pos := "outright.go:65", after := #[{ on := 5, ground := Ground.data }, { on := 8, ground := Ground.data }], guard := none }) (v := .bool true) rfl (by kernel_rfl) (by kernel_rfl) (by kernel_rfl) (fun _ _ _ h => h) (Or.inl ⟨by rfl, by intro w hSw; go_simp⟩) (by assumption) ?_
        simp only [Act.put, List.setIfInBounds_toArray, List.set_cons_zero, List.set_cons_succ]
        refine wpAnyH_ready (rs := [10]) (by kernel_rfl) (by simp) (AllReadyH.cons (o := { dst := some 8, op := Op.assign (Operand.tmp 76), type := 4, pos := "outright.go:65", after := #[{ on := 9, ground := Ground.data }, { on := 5, ground := Ground.chain }, { on := 0, ground := Ground.phase }, { on := 1, ground := Ground.phase }, { on := 2, ground := Ground.phase }, { on := 3, ground := Ground.phase }, { on := 4, ground := Ground.phase }, { on := 5, ground := Ground.phase }, { on := 6, ground := Ground.phase }, { on := 7, ground := Ground.phase }, { on := 8, ground := Ground.phase }, { on := 9, ground := Ground.phase }], guard := none }) rfl (fun KQ hK => ?_) AllReadyH.nil)
        go_simp
        refine hK.out _ _ ((Below.refl _ _).drew) (fun hHeld => ?_)
        clear hK KQ
        try simp only [Act.put, List.setIfInBounds_toArray, List.set_cons_zero, List.set_cons_succ]
        refine wpAnyH_done (by kernel_rfl) ?_ _
        clear hHeld
        have HC : Hid (bits .andNot .u32 r 3932160 = M.SetF r 18 4 0) := clr_bits r r0 r1 18 4 (by decide) _ (by decide)
        have HCB := M.setF_bounds r 18 4 0 r0 r1 (by decide)
        go_wp2_with fail
        go_roundw
        case measure => have := HK.out; simp [intOf]; omega
        case rel => exact ⟨k + 1, _, HK.out, by go_num, rfl, by rw [HC.out]; exact HCB.1, by rw [HC.out]; exact HCB.2, HC.out.trans HV2.out, BR.out.drew, CR.out.on (Below.refl _ _).drew⟩
      · obtain ⟨z1, z2⟩ := a4 rfl
        have HG : Hid (∀ x, Calls Tryd.prog 14 #[.int .u32 w, .int .i64 14, .int .i64 4] x fun e W' => e = .returned (.int .i64 c) ∧ x = W') := fun x => by have := lfield_any x w w0 wlt 14 4 (by decide) (by decide); rw [z1] at this; exact this
        have z3 : c ≤ 14 := z2
        clear a1 a2 a3 a4 a5 a6 z1 z2
        go_wp2_with fail
        have RI : Hid (∀ x, Below wr.heap.size wr x → x.cell? ⟨gi, 4, none⟩ = some (.int .i64 c)) := fun x hb => (CR.out.on hb).cell 4
        refine wp_region_held_drew (S := fun x => Below wr.heap.size wr x) (by kernel_rfl) ((Below.refl _ _).drew) (fun hHeld => ?_)
        refine wpAnyH_take (i := 0) (oi := { dst := some 81, op := Op.move (Operand.tmp 0), type := 31, pos := "outright.go:68", after := #[], guard := none }) (v := .int .u32 w) rfl (by kernel_rfl) (by kernel_rfl) (by kernel_rfl) (fun _ _ _ h => h) (Or.inl ⟨by rfl, by intro w hSw; go_simp⟩) (by assumption) ?_
        simp only [Act.put, List.setIfInBounds_toArray, List.set_cons_zero, List.set_cons_succ]
        refine wpAnyH_take (i := 2) (oi := { dst := some 83, op := Op.fieldAddr 27 (Operand.tmp 3) 4, type := 0, pos := "outright.go:68", after := #[], guard := none }) (v := .pointer (some ⟨gi, 4, none⟩)) rfl (by kernel_rfl) (by kernel_rfl) (by kernel_rfl) (fun _ _ _ h => h) (Or.inl ⟨by rfl, by intro w hSw; go_simp⟩) (by assumption) ?_
        simp only [Act.put, List.setIfInBounds_toArray, List.set_cons_zero, List.set_cons_succ]
        refine wpAnyH_take (i := 3) (oi := { dst := some 84, op := Op.load 3 (Operand.tmp 83), type := 3, pos := "outright.go:68", after := #[{ on := 2, ground := Ground.data }], guard := none }) (v := .int .i64 c) rfl (by kernel_rfl) (by kernel_rfl) (by kernel_rfl) (fun _ _ _ h => h) (Or.inl ⟨by rfl, by intro w hSw; have hcc := RI.out w hSw; go_simp⟩) (by assumption) ?_
        simp only [Act.put, List.setIfInBounds_toArray, List.set_cons_zero, List.set_cons_succ]
        refine wpAnyH_ready (rs := [1]) (by kernel_rfl) (by simp) (AllReadyH.cons (o := { dst := some 82, op := Op.call { callee := Callee.value (Operand.func 14), args := #[Operand.tmp 81, Operand.const (Value.int IntKind.i64 14), Operand.const (Value.int IntKind.i64 4)], argTypes := #[31, 3, 3] }, type := 3, pos := "outright.go:68", after := #[{ on := 0, ground := Ground.data }], guard := none }) rfl (fun KQ hK => ?_) AllReadyH.nil)
        go_simp
        refine (HG.out _).mono ?_
        rintro e w9 ⟨rfl, rfl⟩
        go_wp2_with fail
        refine hK.out _ _ ((Below.refl _ _).drew) (fun hHeld => ?_)
        clear hK KQ
        try simp only [Act.put, List.setIfInBounds_toArray, List.set_cons_zero, List.set_cons_succ]
        refine wpAnyH_take (i := 4) (oi := { dst := some 85, op := Op.binOp BinOp.eql 3 (Operand.tmp 82) (Operand.tmp 84) 3, type := 4, pos := "outright.go:68", after := #[{ on := 1, ground := Ground.data }, { on := 3, ground := Ground.data }], guard := none }) (v := .bool true) rfl (by kernel_rfl) (by kernel_rfl) (by kernel_rfl) (fun _ _ _ h => h) (Or.inl ⟨by rfl, by intro w hSw; go_simp⟩) (by assumption) ?_
        simp only [Act.put, List.setIfInBounds_toArray, List.set_cons_zero, List.set_cons_succ]
        refine wpAnyH_take (i := 5) (oi := { dst := some 86, op := Op.move (Operand.tmp 85), type := 4, pos := "outright.go:68", after := #[{ on := 4, ground := Ground.data }, { on := 1, ground := Ground.chain }], guard := none }) (v := .bool true) rfl (by kernel_rfl) (by kernel_rfl) (by kernel_rfl) (fun _ _ _ h => h) (Or.inl ⟨by rfl, by intro w hSw; go_simp⟩) (by assumption) ?_
        simp only [Act.put, List.setIfInBounds_toArray, List.set_cons_zero, List.set_cons_succ]
        refine wpAnyH_take (i := 6) (oi := { dst := some 87, op := Op.fieldAddr 27 (Operand.tmp 3) 4, type := 0, pos := "outright.go:68", after := #[{ on := 5, ground := Ground.guard }], guard := some (5, true) }) (v := .pointer (some ⟨gi, 4, none⟩)) rfl (by kernel_rfl) (by kernel_rfl) (by kernel_rfl) (fun _ _ _ h => h) (Or.inl ⟨by rfl, by intro w hSw; go_simp⟩) (by assumption) ?_
        simp only [Act.put, List.setIfInBounds_toArray, List.set_cons_zero, List.set_cons_succ]
        refine wpAnyH_take (i := 7) (oi := { dst := some 88, op := Op.load 3 (Operand.tmp 87), type := 3, pos := "outright.go:68", after := #[{ on := 6, ground := Ground.data }, { on := 5, ground := Ground.guard }], guard := some (5, true) }) (v := .int .i64 c) rfl (by kernel_rfl) (by kernel_rfl) (by kernel_rfl) (fun _ _ _ h => h) (Or.inl ⟨by rfl, by intro w hSw; have hcc := RI.out w hSw; go_simp⟩) (by assumption) ?_
        simp only [Act.put, List.setIfInBounds_toArray, List.set_cons_zero, List.set_cons_succ]
        refine wpAnyH_take (i := 8) (oi := { dst := some 89, op := Op.binOp BinOp.leq 3 (Operand.tmp 88) (Operand.const (Value.int IntKind.i64 14)) 3, type := 4, pos := "outright.go:68", after := #[{ on := 7, ground := Ground.data }, { on := 5, ground := Ground.guard }], guard := some (5, true) }) (v := .bool true) rfl (by kernel_rfl) (by kernel_rfl) (by kernel_rfl) (fun _ _ _ h => h) (Or.inl ⟨by rfl, by intro w hSw; go_simp⟩) (by assumption) ?_
        simp only [Act.put, List.setIfInBounds_toArray, List.set_cons_zero, List.set_cons_succ]
        refine wpAnyH_take (i := 9) (oi := { dst := some 90, op := Op.pick (Operand.tmp 86) (Operand.tmp 89) (Operand.const (Value.bool false)), type := 4, pos := "outright.go:68", after := #[{ on := 5, ground := Ground.data }, { on := 8, ground := Ground.data }], guard := none }) (v := .bool true) rfl (by kernel_rfl) (by kernel_rfl) (by kernel_rfl) (fun _ _ _ h => h) (Or.inl ⟨by rfl, by intro w hSw; go_simp⟩) (by assumption) ?_
        simp only [Act.put, List.setIfInBounds_toArray, List.set_cons_zero, List.set_cons_succ]
        refine wpAnyH_ready (rs := [10]) (by kernel_rfl) (by simp) (AllReadyH.cons (o := { dst := some 8, op := Op.assign (Operand.tmp 90), type := 4, pos := "outright.go:68", after := #[{ on := 9, ground := Ground.data }, { on := 5, ground := Ground.chain }, { on := 0, ground := Ground.phase }, { on := 1, ground := Ground.phase }, { on := 2, ground := Ground.phase }, { on := 3, ground := Ground.phase }, { on := 4, ground := Ground.phase }, { on := 5, ground := Ground.phase }, { on := 6, ground := Ground.phase }, { on := 7, ground := Ground.phase }, { on := 8, ground := Ground.phase }, { on := 9, ground := Ground.phase }], guard := none }) rfl (fun KQ hK => ?_) AllReadyH.nil)
        go_simp
        refine hK.out _ _ ((Below.refl _ _).drew) (fun hHeld => ?_)
        clear hK KQ
        try simp only [Act.put, List.setIfInBounds_toArray, List.set_cons_zero, List.set_cons_succ]
        refine wpAnyH_done (by kernel_rfl) ?_ _
        clear hHeld
        have HC : Hid (bits .andNot .u32 r 245760 = M.SetF r 14 4 0) := clr_bits r r0 r1 14 4 (by decide) _ (by decide)
        have HCB := M.setF_bounds r 14 4 0 r0 r1 (by decide)
        go_wp2_with fail
        go_roundw
        case measure => have := HK.out; simp [intOf]; omega
        case rel => exact ⟨k + 1, _, HK.out, by go_num, rfl, by rw [HC.out]; exact HCB.1, by rw [HC.out]; exact HCB.2, HC.out.trans HV2.out, BR.out.drew, CR.out.on (Below.refl _ _).drew⟩
      · obtain ⟨z1, z2⟩ := a2 rfl
        have HG : Hid (∀ x, Calls Tryd.prog 14 #[.int .u32 w, .int .i64 22, .int .i64 3] x fun e W' => e = .returned (.int .i64 cond) ∧ x = W') := fun x => by have := lfield_any x w w0 wlt 22 3 (by decide) (by decide); rw [z1] at this; exact this
        have z3 : cond ≤ 6 := z2
        clear a1 a2 a3 a4 a5 a6 z1 z2
        go_wp2_with fail
        have RI : Hid (∀ x, Below wr.heap.size wr x → x.cell? ⟨gi, 1, none⟩ = some (.int .i64 cond)) := fun x hb => (CR.out.on hb).cell 1
        refine wp_region_held_drew (S := fun x => Below wr.heap.size wr x) (by kernel_rfl) ((Below.refl _ _).drew) (fun hHeld => ?_)
        refine wpAnyH_take (i := 0) (oi := { dst := some 53, op := Op.move (Operand.tmp 0), type := 31, pos := "outright.go:62", after := #[], guard := none }) (v := .int .u32 w) rfl (by kernel_rfl) (by kernel_rfl) (by kernel_rfl) (fun _ _ _ h => h) (Or.inl ⟨by rfl, by intro w hSw; go_simp⟩) (by assumption) ?_
        simp only [Act.put, List.setIfInBounds_toArray, List.set_cons_zero, List.set_cons_succ]
        refine wpAnyH_take (i := 2) (oi := { dst := some 55, op := Op.fieldAddr 27 (Operand.tmp 3) 1, type := 0, pos := "outright.go:62", after := #[], guard := none }) (v := .pointer (some ⟨gi, 1, none⟩)) rfl (by kernel_rfl) (by kernel_rfl) (by kernel_rfl) (fun _ _ _ h => h) (Or.inl ⟨by rfl, by intro w hSw; go_simp⟩) (by assumption) ?_
        simp only [Act.put, List.setIfInBounds_toArray, List.set_cons_zero, List.set_cons_succ]
        refine wpAnyH_take (i := 3) (oi := { dst := some 56, op := Op.load 25 (Operand.tmp 55), type := 25, pos := "outright.go:62", after := #[{ on := 2, ground := Ground.data }], guard := none }) (v := .int .i64 cond) rfl (by kernel_rfl) (by kernel_rfl) (by kernel_rfl) (fun _ _ _ h => h) (Or.inl ⟨by rfl, by intro w hSw; have hcc := RI.out w hSw; go_simp⟩) (by assumption) ?_
        simp only [Act.put, List.setIfInBounds_toArray, List.set_cons_zero, List.set_cons_succ]
        refine wpAnyH_ready (rs := [1]) (by kernel_rfl) (by simp) (AllReadyH.cons (o := { dst := some 54, op := Op.call { callee := Callee.value (Operand.func 14), args := #[Operand.tmp 53, Operand.const (Value.int IntKind.i64 22), Operand.const (Value.int IntKind.i64 3)], argTypes := #[31, 3, 3] }, type := 3, pos := "outright.go:62", after := #[{ on := 0, ground := Ground.data }], guard := none }) rfl (fun KQ hK => ?_) AllReadyH.nil)
        go_simp
        refine (HG.out _).mono ?_
        rintro e w9 ⟨rfl, rfl⟩
        go_wp2_with fail
        refine hK.out _ _ ((Below.refl _ _).drew) (fun hHeld => ?_)
        clear hK KQ
        try simp only [Act.put, List.setIfInBounds_toArray, List.set_cons_zero, List.set_cons_succ]
        refine wpAnyH_take (i := 4) (oi := { dst := some 57, op := Op.binOp BinOp.eql 3 (Operand.tmp 54) (Operand.tmp 56) 3, type := 4, pos := "outright.go:62", after := #[{ on := 1, ground := Ground.data }, { on := 3, ground := Ground.data }], guard := none }) (v := .bool true) rfl (by kernel_rfl) (by kernel_rfl) (by kernel_rfl) (fun _ _ _ h => h) (Or.inl ⟨by rfl, by intro w hSw; go_simp⟩) (by assumption) ?_
        simp only [Act.put, List.setIfInBounds_toArray, List.set_cons_zero, List.set_cons_succ]
        refine wpAnyH_take (i := 5) (oi := { dst := some 58, op := Op.move (Operand.tmp 57), type := 4, pos := "outright.go:62", after := #[{ on := 4, ground := Ground.data }, { on := 1, ground := Ground.chain }], guard := none }) (v := .bool true) rfl (by kernel_rfl) (by kernel_rfl) (by kernel_rfl) (fun _ _ _ h => h) (Or.inl ⟨by rfl, by intro w hSw; go_simp⟩) (by assumption) ?_
        simp only [Act.put, List.setIfInBounds_toArray, List.set_cons_zero, List.set_cons_succ]
        refine wpAnyH_take (i := 6) (oi := { dst := some 59, op := Op.fieldAddr 27 (Operand.tmp 3) 1, type := 0, pos := "outright.go:62", after := #[{ on := 5, ground := Ground.guard }], guard := some (5, true) }) (v := .pointer (some ⟨gi, 1, none⟩)) rfl (by kernel_rfl) (by kernel_rfl) (by kernel_rfl) (fun _ _ _ h => h) (Or.inl ⟨by rfl, by intro w hSw; go_simp⟩) (by assumption) ?_
        simp only [Act.put, List.setIfInBounds_toArray, List.set_cons_zero, List.set_cons_succ]
        refine wpAnyH_take (i := 7) (oi := { dst := some 60, op := Op.load 25 (Operand.tmp 59), type := 25, pos := "outright.go:62", after := #[{ on := 6, ground := Ground.data }, { on := 5, ground := Ground.guard }], guard := some (5, true) }) (v := .int .i64 cond) rfl (by kernel_rfl) (by kernel_rfl) (by kernel_rfl) (fun _ _ _ h => h) (Or.inl ⟨by rfl, by intro w hSw; have hcc := RI.out w hSw; go_simp⟩) (by assumption) ?_
        simp only [Act.put, List.setIfInBounds_toArray, List.set_cons_zero, List.set_cons_succ]
        refine wpAnyH_take (i := 8) (oi := { dst := some 61, op := Op.binOp BinOp.leq 25 (Operand.tmp 60) (Operand.const (Value.int IntKind.i64 6)) 25, type := 4, pos := "outright.go:62", after := #[{ on := 7, ground := Ground.data }, { on := 5, ground := Ground.guard }], guard := some (5, true) }) (v := .bool true) rfl (by kernel_rfl) (by kernel_rfl) (by kernel_rfl) (fun _ _ _ h => h) (Or.inl ⟨by rfl, by intro w hSw; go_simp⟩) (by assumption) ?_
        simp only [Act.put, List.setIfInBounds_toArray, List.set_cons_zero, List.set_cons_succ]
        refine wpAnyH_take (i := 9) (oi := { dst := some 62, op := Op.pick (Operand.tmp 58) (Operand.tmp 61) (Operand.const (Value.bool false)), type := 4, pos := "outright.go:62", after := #[{ on := 5, ground := Ground.data }, { on := 8, ground := Ground.data }], guard := none }) (v := .bool true) rfl (by kernel_rfl) (by kernel_rfl) (by kernel_rfl) (fun _ _ _ h => h) (Or.inl ⟨by rfl, by intro w hSw; go_simp⟩) (by assumption) ?_
        simp only [Act.put, List.setIfInBounds_toArray, List.set_cons_zero, List.set_cons_succ]
        refine wpAnyH_ready (rs := [10]) (by kernel_rfl) (by simp) (AllReadyH.cons (o := { dst := some 8, op := Op.assign (Operand.tmp 62), type := 4, pos := "outright.go:62", after := #[{ on := 9, ground := Ground.data }, { on := 5, ground := Ground.chain }, { on := 0, ground := Ground.phase }, { on := 1, ground := Ground.phase }, { on := 2, ground := Ground.phase }, { on := 3, ground := Ground.phase }, { on := 4, ground := Ground.phase }, { on := 5, ground := Ground.phase }, { on := 6, ground := Ground.phase }, { on := 7, ground := Ground.phase }, { on := 8, ground := Ground.phase }, { on := 9, ground := Ground.phase }], guard := none }) rfl (fun KQ hK => ?_) AllReadyH.nil)
        go_simp
        refine hK.out _ _ ((Below.refl _ _).drew) (fun hHeld => ?_)
        clear hK KQ
        try simp only [Act.put, List.setIfInBounds_toArray, List.set_cons_zero, List.set_cons_succ]
        refine wpAnyH_done (by kernel_rfl) ?_ _
        clear hHeld
        have HC : Hid (bits .andNot .u32 r 29360128 = M.SetF r 22 3 0) := clr_bits r r0 r1 22 3 (by decide) _ (by decide)
        have HCB := M.setF_bounds r 22 3 0 r0 r1 (by decide)
        go_wp2_with fail
        go_roundw
        case measure => have := HK.out; simp [intOf]; omega
        case rel => exact ⟨k + 1, _, HK.out, by go_num, rfl, by rw [HC.out]; exact HCB.1, by rw [HC.out]; exact HCB.2, HC.out.trans HV2.out, BR.out.drew, CR.out.on (Below.refl _ _).drew⟩
      · have z1 := a5 rfl
        simp only at z1
        have HG : Hid (∀ x, Calls Tryd.prog 14 #[.int .u32 w, .int .i64 0, .int .i64 16] x fun e W' => e = .returned (.int .i64 imm) ∧ x = W') := fun x => by have := lfield_any x w w0 wlt 0 16 (by decide) (by decide); rw [z1] at this; exact this
        have HW : Hid (IntKind.i64.wrap imm = imm) := wrap_i64 imm i0 i1
        clear a1 a2 a3 a4 a5 a6 z1
        go_wp2_with fail
        have RI : Hid (∀ x, Below wr.heap.size wr x → x.cell? ⟨gi, 5, none⟩ = some (.int .i32 imm)) := fun x hb => (CR.out.on hb).cell 5
        refine wp_region_held_drew (S := fun x => Below wr.heap.size wr x) (by kernel_rfl) ((Below.refl _ _).drew) (fun hHeld => ?_)
        refine wpAnyH_take (i := 0) (oi := { dst := some 95, op := Op.move (Operand.tmp 0), type := 31, pos := "outright.go:71", after := #[], guard := none }) (v := .int .u32 w) rfl (by kernel_rfl) (by kernel_rfl) (by kernel_rfl) (fun _ _ _ h => h) (Or.inl ⟨by rfl, by intro w hSw; go_simp⟩) (by assumption) ?_
        simp only [Act.put, List.setIfInBounds_toArray, List.set_cons_zero, List.set_cons_succ]
        refine wpAnyH_take (i := 2) (oi := { dst := some 97, op := Op.fieldAddr 27 (Operand.tmp 3) 5, type := 0, pos := "outright.go:71", after := #[], guard := none }) (v := .pointer (some ⟨gi, 5, none⟩)) rfl (by kernel_rfl) (by kernel_rfl) (by kernel_rfl) (fun _ _ _ h => h) (Or.inl ⟨by rfl, by intro w hSw; go_simp⟩) (by assumption) ?_
        simp only [Act.put, List.setIfInBounds_toArray, List.set_cons_zero, List.set_cons_succ]
        refine wpAnyH_take (i := 3) (oi := { dst := some 98, op := Op.load 21 (Operand.tmp 97), type := 21, pos := "outright.go:71", after := #[{ on := 2, ground := Ground.data }], guard := none }) (v := .int .i32 imm) rfl (by kernel_rfl) (by kernel_rfl) (by kernel_rfl) (fun _ _ _ h => h) (Or.inl ⟨by rfl, by intro w hSw; have hcc := RI.out w hSw; go_simp⟩) (by assumption) ?_
        simp only [Act.put, List.setIfInBounds_toArray, List.set_cons_zero, List.set_cons_succ]
        refine wpAnyH_take (i := 4) (oi := { dst := some 99, op := Op.convert 21 3 (Operand.tmp 98), type := 3, pos := "outright.go:71", after := #[{ on := 3, ground := Ground.data }], guard := none }) (v := .int .i64 imm) rfl (by kernel_rfl) (by kernel_rfl) (by kernel_rfl) (fun _ _ _ h => h) (Or.inl ⟨by rfl, by intro w hSw; have hq := HW.out; go_simp⟩) (by assumption) ?_
        simp only [Act.put, List.setIfInBounds_toArray, List.set_cons_zero, List.set_cons_succ]
        refine wpAnyH_ready (rs := [1]) (by kernel_rfl) (by simp) (AllReadyH.cons (o := { dst := some 96, op := Op.call { callee := Callee.value (Operand.func 14), args := #[Operand.tmp 95, Operand.const (Value.int IntKind.i64 0), Operand.const (Value.int IntKind.i64 16)], argTypes := #[31, 3, 3] }, type := 3, pos := "outright.go:71", after := #[{ on := 0, ground := Ground.data }], guard := none }) rfl (fun KQ hK => ?_) AllReadyH.nil)
        go_simp
        refine (HG.out _).mono ?_
        rintro e w9 ⟨rfl, rfl⟩
        go_wp2_with fail
        refine hK.out _ _ ((Below.refl _ _).drew) (fun hHeld => ?_)
        clear hK KQ
        try simp only [Act.put, List.setIfInBounds_toArray, List.set_cons_zero, List.set_cons_succ]
        refine wpAnyH_take (i := 5) (oi := { dst := some 100, op := Op.binOp BinOp.eql 3 (Operand.tmp 96) (Operand.tmp 99) 3, type := 4, pos := "outright.go:71", after := #[{ on := 1, ground := Ground.data }, { on := 4, ground := Ground.data }], guard := none }) (v := .bool true) rfl (by kernel_rfl) (by kernel_rfl) (by kernel_rfl) (fun _ _ _ h => h) (Or.inl ⟨by rfl, by intro w hSw; go_simp⟩) (by assumption) ?_
        simp only [Act.put, List.setIfInBounds_toArray, List.set_cons_zero, List.set_cons_succ]
        refine wpAnyH_ready (rs := [6]) (by kernel_rfl) (by simp) (AllReadyH.cons (o := { dst := some 8, op := Op.assign (Operand.tmp 100), type := 4, pos := "outright.go:71", after := #[{ on := 5, ground := Ground.data }, { on := 1, ground := Ground.chain }, { on := 0, ground := Ground.phase }, { on := 1, ground := Ground.phase }, { on := 2, ground := Ground.phase }, { on := 3, ground := Ground.phase }, { on := 4, ground := Ground.phase }, { on := 5, ground := Ground.phase }], guard := none }) rfl (fun KQ hK => ?_) AllReadyH.nil)
        go_simp
        refine hK.out _ _ ((Below.refl _ _).drew) (fun hHeld => ?_)
        clear hK KQ
        try simp only [Act.put, List.setIfInBounds_toArray, List.set_cons_zero, List.set_cons_succ]
        refine wpAnyH_done (by kernel_rfl) ?_ _
        clear hHeld
        have HC : Hid (bits .andNot .u32 r 65535 = M.SetF r 0 16 0) := clr_bits r r0 r1 0 16 (by decide) _ (by decide)
        have HCB := M.setF_bounds r 0 16 0 r0 r1 (by decide)
        go_wp2_with fail
        go_roundw
        case measure => have := HK.out; simp [intOf]; omega
        case rel => exact ⟨k + 1, _, HK.out, by go_num, rfl, by rw [HC.out]; exact HCB.1, by rw [HC.out]; exact HCB.2, HC.out.trans HV2.out, BR.out.drew, CR.out.on (Below.refl _ _).drew⟩
      · obtain ⟨z1, z2, z3⟩ := a6 (by decide)
        simp only at z1 z2 z3
        have RI : wr.cell? ⟨gi, 5, none⟩ = some (.int .i32 imm) := CR.out.cell 5
        have q : IntKind.i16.wrap (IntKind.u16.wrap w) = imm := wrap_imm w imm z1 z2 z3
        clear a1 a2 a3 a4 a5 a6 z1
        have HC : Hid (bits .andNot .u32 r 65535 = M.SetF r 0 16 0) := clr_bits r r0 r1 0 16 (by decide) _ (by decide)
        have HCB := M.setF_bounds r 0 16 0 r0 r1 (by decide)
        go_wp2_with fail
        go_roundw
        case measure => have := HK.out; simp [intOf]; omega
        case rel => exact ⟨k + 1, _, HK.out, by go_num, rfl, by rw [HC.out]; exact HCB.1, by rw [HC.out]; exact HCB.2, HC.out.trans HV2.out, BR.out, CR.out⟩
      · obtain ⟨z1, z2, z3⟩ := a6 (by decide)
        simp only at z1 z2 z3
        have RI : wr.cell? ⟨gi, 5, none⟩ = some (.int .i32 imm) := CR.out.cell 5
        have q : IntKind.i16.wrap (IntKind.u16.wrap w) = imm := wrap_imm w imm z1 z2 z3
        clear a1 a2 a3 a4 a5 a6 z1
        have HC : Hid (bits .andNot .u32 r 65535 = M.SetF r 0 16 0) := clr_bits r r0 r1 0 16 (by decide) _ (by decide)
        have HCB := M.setF_bounds r 0 16 0 r0 r1 (by decide)
        go_wp2_with fail
        go_roundw
        case measure => have := HK.out; simp [intOf]; omega
        case rel => exact ⟨k + 1, _, HK.out, by go_num, rfl, by rw [HC.out]; exact HCB.1, by rw [HC.out]; exact HCB.2, HC.out.trans HV2.out, BR.out, CR.out⟩
    · obtain rfl : k = s.size := by omega
      have HZ : Hid (r = 0) := by have := HV.out; rw [show (ltr s).take s.size = ltr s by rw [← ltr_len, List.take_length], HR.out] at this; exact this
      clear hk hk2
      obtain rfl := HZ.out
      go_wp2_with fail
      go_ret
      exact ⟨ret_bool (decide_eq_true (by omega)), BR.out⟩
theorem places_walk (W : World) (hT : Tabs W) (w : Int) (w0 : 0 ≤ w) (w1 : w < 4294967296) :
    Calls Tryd.prog 5 #[.int .u32 w] W fun e W' => e = .returned (.bool true) ∧ Below W.heap.size W W' := by
  by_cases h : decE w = 0
  · exact places_yes W hT w w0 w1 h
  · exact places_no W hT w w0 w1 h
end Go.Proofs.YtgdekmkhbickkaaDoor
