import Derived.Test.YtncnogndopgknaaGreatDoorP06
import Derived.Test.YtncnogndopgknaaGreatDoorP01
namespace Go.Proofs.YtncnogndopgknaaGreatDoor
open Go.RowKit

def encL (i : Ins) (L : List Nat) : Int := L.foldl (fun w l => M.SetF w (fl l).low.toNat (fl l).bits.toNat (i.num l % 4294967296)) (M.SetF 0 26 6 i.op)
def encW (i : Ins) : Int := encL i (ltr (shp i.op.toNat))
def enc (i : Ins) : Int := if chk i = 0 then encW i else 0
theorem encL_snoc (i : Ins) (L : List Nat) (l : Nat) : encL i (L ++ [l]) = M.SetF (encL i L) (fl l).low.toNat (fl l).bits.toNat (i.num l % 4294967296) := by simp [encL, List.foldl_append]
theorem fl_ok (l : Nat) (h : letter l) : 1 ≤ (fl l).bits ∧ 0 ≤ (fl l).low ∧ (fl l).low ≤ 32 - (fl l).bits ∧ (fl l).bits ≤ 16 := by rcases h with rfl | rfl | rfl | rfl | rfl | rfl | rfl <;> decide
theorem fieldOf_agg (l : Nat) (h : letter l) (W : World) :
    Calls Tryz.prog 44 #[.int .u8 (l : Int)] W fun e W' => e = .returned (.agg #[.int .i64 (fl l).low, .int .i64 (fl l).bits, .int .i64 (fl l).least, .int .i64 (fl l).most]) ∧ Below W.heap.size W W' := fieldOf_any l h _ rfl W

theorem ret_u32_0 {a b : Int} (h : a = b) : Ending.returned (.tuple #[.int .u32 a, .int .i64 0]) = .returned (.tuple #[.int .u32 b, .int .i64 0]) := by rw [h]
theorem encode_no (W : World) (hF : Forms W) (hW : 5 < W.heap.size) (op cond a b c imm : Int) (i0 : -2147483648 ≤ imm) (i1 : imm < 2147483648) (h : chk ⟨op, cond, a, b, c, imm⟩ ≠ 0) :
    Calls Tryz.prog 28 #[(Ins.mk op cond a b c imm).v] W fun e W' => e = .returned (.tuple #[.int .u32 0, .int .i64 (chk ⟨op, cond, a, b, c, imm⟩)]) ∧ Below W.heap.size W W' := by
  have HC : Hid (∀ w, Below W.heap.size W w → Calls Tryz.prog 42 #[.agg #[.int .i64 op, .int .i64 cond, .int .i64 a, .int .i64 b, .int .i64 c, .int .i32 imm]] w fun e W' => e = .returned (.int .i64 (chk ⟨op, cond, a, b, c, imm⟩)) ∧ Below w.heap.size w W') := fun w hb => check_any w (hF.below hb (by omega)) (by have := hb.size; omega) ⟨op, cond, a, b, c, imm⟩ i0 i1
  generalize chk ⟨op, cond, a, b, c, imm⟩ = r at *
  have h' : (r != 0) = true := by simpa using h
  clear hF hW h
  simp only [Ins.v]
  go_enter Tryz.func28, Tryz.ntmps28
  go_wp2_with (go_at_call 42; refine (HC.out _ (below_one _ _)).mono ?_; rintro e w1 ⟨rfl, hb1⟩)
  go_ret2
  exact ⟨rfl, below_on (below_one _ _) hb1⟩

set_option maxRecDepth 40000 in
set_option maxHeartbeats 4000000 in
theorem encode_yes (W : World) (hF : Forms W) (hT : Tab W) (hW : 5 < W.heap.size) (s : ByteArray) (op cond a b c imm r : Int) (o0 : 1 ≤ op) (o1 : op < 25) (i0 : -2147483648 ≤ imm) (i1 : imm < 2147483648) (hc : W.cell? ⟨1, op.toNat * 2 + 1, none⟩ = some (.string s)) (hs : (s.size : Int) ≤ 3)
    (hl : ∀ k (h : k < s.size), letter s[k].toNat) (hk : chk (Ins.mk op cond a b c imm) = 0) (hr : encL (Ins.mk op cond a b c imm) (ltr s) = r) :
    Calls Tryz.prog 28 #[(Ins.mk op cond a b c imm).v] W fun e W' => e = .returned (.tuple #[.int .u32 r, .int .i64 0]) ∧ Below W.heap.size W W' := by
  have HC : Hid (∀ w, Below W.heap.size W w → Calls Tryz.prog 42 #[.agg #[.int .i64 op, .int .i64 cond, .int .i64 a, .int .i64 b, .int .i64 c, .int .i32 imm]] w fun e W' => e = .returned (.int .i64 0) ∧ Below w.heap.size w W') := fun w hb => by have := check_any w (hF.below hb (by omega)) (by have := hb.size; omega) (Ins.mk op cond a b c imm) i0 i1; rw [hk] at this; exact this
  have HS : Hid (∀ w, Below W.heap.size W w → w.cell? ⟨1, op.toNat * 2 + 1, none⟩ = some (.string s)) := fun w hb => (hb.cell (p := ⟨1, op.toNat * 2 + 1, none⟩) (by simp only; omega)).trans hc
  have HT : Hid (∀ w, Below W.heap.size W w → Tab w) := fun w hb => hT.below hb hW
  have HL : Hid (∀ k (h : k < s.size), letter s[k].toNat) := hl
  have HR : Hid (encL (Ins.mk op cond a b c imm) (ltr s) = r) := hr
  have o2 : 0 ≤ op := by omega
  have H0 := M.setF_bounds 0 26 6 op (by decide) (by decide) (by decide)
  clear hc hW hl hr hF hT hk
  simp only [Ins.v]
  go_enter Tryz.func28, Tryz.ntmps28
  go_wp2_with (first | (go_at_call 42; refine (HC.out _ (below_one _ _)).mono ?_; rintro e w1 ⟨rfl, hb1⟩; have CB : Hid (Cel w1 W.heap.size 84 (Ins.mk op cond a b c imm).cs) := (Cel.new W 84 (Ins.mk op cond a b c imm).cs).on hb1; have q0 : w1.cell? ⟨W.heap.size, 0, none⟩ = some (.int .i64 op) := CB.out.cell 0; have BW : Hid (Below W.heap.size W w1) := below_on (below_one _ _) hb1; have q1 : w1.cell? ⟨1, op.toNat * 2 + 1, none⟩ = some (.string s) := HS.out _ BW.out; clear hb1) | (go_at_call 43; refine (setField_yes _ (HT.out _ BW.out) 0 26 6 op (by decide) (by decide) (by omega) (by omega) (by decide) (by decide) (by decide)).mono ?_; rintro e w2 ⟨rfl, rfl⟩))
  clear q0 q1
  obtain ⟨gi, hgi⟩ : ∃ g, W.heap.size = g := ⟨_, rfl⟩
  have GI : Hid (W.heap.size ≤ gi) := Nat.le_of_eq hgi
  rw [hgi] at CB ⊢
  clear hgi
  go_loopw [6, 25] (fun x i wr => ∃ (k : Nat) (v : Int), k ≤ s.size ∧ i = .int .i64 k ∧ x = .int .u32 v ∧ 0 ≤ v ∧ v < 4294967296 ∧ Hid (v = encL (Ins.mk op cond a b c imm) ((ltr s).take k)) ∧ Hid (Below W.heap.size W wr) ∧ Hid (Cel wr gi 84 (Ins.mk op cond a b c imm).cs)) (fun _ i _ => s.size - (intOf i).toNat)
  case atStart => exact ⟨0, _, Nat.zero_le _, rfl, rfl, H0.1, H0.2, rfl, BW, CB⟩
  case round =>
    clear BW CB H0
    obtain ⟨k, v, hk, rfl, rfl, v0, v1, HV, BR, CR⟩ := hrel
    by_cases hk2 : k < s.size
    · have c1 : (k : Int) < (s.size : Int) := by omega
      obtain ⟨l, hlk⟩ : ∃ l, s[k].toNat = l := ⟨_, rfl⟩
      have HLL : Hid (letter l) := by have := HL.out k hk2; rw [hlk] at this; exact this
      go_wp2_with (go_at_call 44; refine (fieldOf_agg l HLL.out _).mono ?_; rintro e w2 ⟨rfl, hb2⟩)
      have FO : Hid (1 ≤ (fl l).bits ∧ 0 ≤ (fl l).low ∧ (fl l).low ≤ 32 - (fl l).bits ∧ (fl l).bits ≤ 16) := fl_ok l HLL.out
      have BX : Hid (Below W.heap.size W (w2.alloc (Obj.cells #[Value.int .i64 (fl l).low, Value.int .i64 (fl l).bits, Value.int .i64 (fl l).least, Value.int .i64 (fl l).most] 125))) := below_on (below_on BR.out hb2) (below_one _ _)
      have CX : Hid (Cel (w2.alloc (Obj.cells #[Value.int .i64 (fl l).low, Value.int .i64 (fl l).bits, Value.int .i64 (fl l).least, Value.int .i64 (fl l).most] 125)) gi 84 (Ins.mk op cond a b c imm).cs) := (CR.out.on hb2).on (below_one _ _)
      have CF : Hid (Cel (w2.alloc (Obj.cells #[Value.int .i64 (fl l).low, Value.int .i64 (fl l).bits, Value.int .i64 (fl l).least, Value.int .i64 (fl l).most] 125)) w2.heap.size 125 (fl l).cs) := Cel.new _ _ _
      generalize w2.alloc (Obj.cells #[Value.int .i64 (fl l).low, Value.int .i64 (fl l).bits, Value.int .i64 (fl l).least, Value.int .i64 (fl l).most] 125) = X at *
      generalize w2.heap.size = gf at *
      clear hb2
      have RI : Hid (∀ w, Below X.heap.size X w → w.rangeAt gi 0 (Ins.mk op cond a b c imm).cs) := fun w hb => (CX.out.on hb).range
      have R0 : Hid (∀ w, Below X.heap.size X w → w.cell? ⟨gf, 0, none⟩ = some (.int .i64 (fl l).low)) := fun w hb => (CF.out.on hb).cell 0
      have R1 : Hid (∀ w, Below X.heap.size X w → w.cell? ⟨gf, 1, none⟩ = some (.int .i64 (fl l).bits)) := fun w hb => (CF.out.on hb).cell 1
      refine wp_region_held_drew (S := fun w => Below X.heap.size X w) (by kernel_rfl) ((Below.refl _ _).drew) (fun hHeld => ?_)
      refine tk 0 ⟨some 32, .move (.tmp 6), 22, "isa.go:92", #[], none⟩ (.int .u32 v) ?_
      simp only [Act.put, List.setIfInBounds_toArray, List.set_cons_zero, List.set_cons_succ]
      refine tk 1 ⟨some 33, .fieldAddr 125 (.tmp 8) 0, 0, "isa.go:92", #[], none⟩ (.pointer (some ⟨gf, 0, none⟩)) ?_
      simp only [Act.put, List.setIfInBounds_toArray, List.set_cons_zero, List.set_cons_succ]
      refine tk 2 ⟨some 34, .load 3 (.tmp 33), 3, "isa.go:92", #[⟨1, .data⟩], none⟩ (.int .i64 (fl l).low) ?_ (hy := Or.inl ⟨by rfl, by intro w hSw; have hcc := R0.out w hSw; go_simp⟩)
      simp only [Act.put, List.setIfInBounds_toArray, List.set_cons_zero, List.set_cons_succ]
      refine tk 3 ⟨some 35, .fieldAddr 125 (.tmp 8) 1, 0, "isa.go:92", #[], none⟩ (.pointer (some ⟨gf, 1, none⟩)) ?_
      simp only [Act.put, List.setIfInBounds_toArray, List.set_cons_zero, List.set_cons_succ]
      refine tk 4 ⟨some 36, .load 3 (.tmp 35), 3, "isa.go:92", #[⟨3, .data⟩], none⟩ (.int .i64 (fl l).bits) ?_ (hy := Or.inl ⟨by rfl, by intro w hSw; have hcc := R1.out w hSw; go_simp⟩)
      simp only [Act.put, List.setIfInBounds_toArray, List.set_cons_zero, List.set_cons_succ]
      refine tk 5 ⟨some 37, .load 84 (.tmp 1), 84, "isa.go:92", #[], none⟩ (.agg #[.int .i64 op, .int .i64 cond, .int .i64 a, .int .i64 b, .int .i64 c, .int .i32 imm]) ?_ (hy := yieldsIf_load_mid (by rfl) _ _ rfl _ _ rfl _ _ (fun w hSw => RI.out w hSw) Tryz.underlying84 rfl size27)
      simp only [Act.put, List.setIfInBounds_toArray, List.set_cons_zero, List.set_cons_succ]
      refine tk 6 ⟨some 38, .move (.tmp 5), 9, "isa.go:92", #[], none⟩ (.string s) ?_
      simp only [Act.put, List.setIfInBounds_toArray, List.set_cons_zero, List.set_cons_succ]
      refine tk 7 ⟨some 39, .move (.tmp 7), 3, "isa.go:92", #[], none⟩ (.int .i64 (k : Int)) ?_
      simp only [Act.put, List.setIfInBounds_toArray, List.set_cons_zero, List.set_cons_succ]
      refine tk 8 ⟨some 40, .index 9 (.tmp 38) (.tmp 39), 5, "isa.go:92", #[⟨6, .data⟩, ⟨7, .data⟩], none⟩ (.int .u8 (l : Int)) ?_
      simp only [Act.put, List.setIfInBounds_toArray, List.set_cons_zero, List.set_cons_succ]
      refine wpAnyH_ready (rs := [9]) (by kernel_rfl) (by simp) (AllReadyH.cons (o := ⟨some 41, .call { callee := .value (.func 45), args := #[.tmp 37, .tmp 40], argTypes := #[84, 5] }, 3, "isa.go:92", #[⟨5, .data⟩, ⟨8, .data⟩], none⟩) rfl (fun KQ hK => ?_) AllReadyH.nil)
      go_simp
      refine (inum_any (Ins.mk op cond a b c imm) i0 i1 l HLL.out _ rfl _).mono ?_
      rintro e w3 ⟨rfl, hb3⟩
      have B3 : Below X.heap.size X w3 := below_on ((Below.refl _ _).drew) hb3
      go_wp2_with fail
      refine hK.out _ _ B3 (fun hHeld => ?_)
      clear hK KQ
      try simp only [Act.put, List.setIfInBounds_toArray, List.set_cons_zero, List.set_cons_succ]
      refine tk 10 ⟨some 42, .convert 3 22 (.tmp 41), 22, "isa.go:92", #[⟨9, .data⟩], none⟩ (.int .u32 ((Ins.mk op cond a b c imm).num l % 4294967296)) ?_ (hy := Or.inl ⟨by rfl, by intro w hSw; go_simp; rfl⟩)
      simp only [Act.put, List.setIfInBounds_toArray, List.set_cons_zero, List.set_cons_succ]
      refine wpAnyH_ready (rs := [11]) (by kernel_rfl) (by simp) (AllReadyH.cons (o := ⟨some 43, .call { callee := .value (.func 43), args := #[.tmp 32, .tmp 34, .tmp 36, .tmp 42], argTypes := #[22, 3, 3, 22] }, 22, "isa.go:92", #[⟨0, .data⟩, ⟨2, .data⟩, ⟨4, .data⟩, ⟨10, .data⟩, ⟨9, .chain⟩], none⟩) rfl (fun KQ hK => ?_) AllReadyH.nil)
      go_simp
      refine (setField_yes _ (HT.out _ (below_on BX.out B3)) v (fl l).low (fl l).bits ((Ins.mk op cond a b c imm).num l % 4294967296) v0 v1 (Int.emod_nonneg _ (by decide)) (Int.emod_lt_of_pos _ (by decide)) FO.out.1 FO.out.2.1 FO.out.2.2.1).mono ?_
      rintro e w4 ⟨rfl, rfl⟩
      go_wp2_with fail
      refine hK.out _ _ B3 (fun hHeld => ?_)
      clear hK KQ
      try simp only [Act.put, List.setIfInBounds_toArray, List.set_cons_zero, List.set_cons_succ]
      refine wpAnyH_ready (rs := [12]) (by kernel_rfl) (by simp) (AllReadyH.cons (o := ⟨some 6, .assign (.tmp 43), 22, "isa.go:92", #[⟨11, .data⟩, ⟨11, .chain⟩, ⟨0, .phase⟩, ⟨1, .phase⟩, ⟨2, .phase⟩, ⟨3, .phase⟩, ⟨4, .phase⟩, ⟨5, .phase⟩, ⟨6, .phase⟩, ⟨7, .phase⟩, ⟨8, .phase⟩, ⟨9, .phase⟩, ⟨10, .phase⟩, ⟨11, .phase⟩], none⟩) rfl (fun KQ hK => ?_) AllReadyH.nil)
      go_simp
      refine hK.out _ _ B3 (fun hHeld => ?_)
      clear hK KQ
      try simp only [Act.put, List.setIfInBounds_toArray, List.set_cons_zero, List.set_cons_succ]
      refine wpAnyH_done (by kernel_rfl) ?_ _
      clear hHeld
      have HN := M.setF_bounds v (fl l).low.toNat (fl l).bits.toNat ((Ins.mk op cond a b c imm).num l % 4294967296) v0 v1 (by have := FO.out; omega)
      have HV2 : Hid (M.SetF v (fl l).low.toNat (fl l).bits.toNat ((Ins.mk op cond a b c imm).num l % 4294967296) = encL (Ins.mk op cond a b c imm) ((ltr s).take (k + 1))) := (show _ = _ by rw [ltr_snoc s k hk2, encL_snoc, hlk, ← HV.out])
      go_wp2_with fail
      go_roundw
      case measure => simp [intOf]; omega
      case rel => exact ⟨k + 1, _, by omega, by go_num, rfl, HN.1, HN.2, HV2, below_on BX.out B3, CX.out.on B3⟩
    · obtain rfl : k = s.size := by omega
      have HF : Hid (v = r) := by have := HV.out; rw [show (ltr s).take s.size = ltr s by rw [← ltr_len, List.take_length], HR.out] at this; exact this
      clear hk hk2
      go_wp2_with fail
      go_ret2
      exact ⟨ret_u32_0 HF.out, BR.out⟩
theorem encode_any (W : World) (hF : Forms W) (hT : Tab W) (hW : 5 < W.heap.size) (i : Ins) (i0 : -2147483648 ≤ i.imm) (i1 : i.imm < 2147483648) :
    Calls Tryz.prog 28 #[i.v] W fun e W' => e = .returned (.tuple #[.int .u32 (enc i), .int .i64 (chk i)]) ∧ Below W.heap.size W W' := by
  obtain ⟨op, cond, a, b, c, imm⟩ := i
  unfold enc
  by_cases hz : chk ⟨op, cond, a, b, c, imm⟩ = 0
  · have h : 1 ≤ op ∧ op < 25 := Classical.byContradiction fun h => by unfold chk at hz; rw [if_neg h] at hz; exact absurd hz (by decide)
    obtain ⟨n, rfl⟩ := Int.eq_ofNat_of_zero_le (show 0 ≤ op by omega)
    have h2 := shp_ok n (by omega)
    rw [if_pos hz, hz]
    exact encode_yes W hF hT hW (shp n) n cond a b c imm _ h.1 h.2 i0 i1 (by rw [Int.toNat_natCast]; exact (hF n (by omega)).2) (by omega) (fun k hk => h2.2 _ (List.mem_iff_getElem.2 ⟨k, by rw [ltr_len]; exact hk, ltr_get _ k hk⟩)) hz (by unfold encW; rw [Int.toNat_natCast])
  · rw [if_neg hz]
    exact encode_no W hF hW op cond a b c imm i0 i1 hz
end Go.Proofs.YtncnogndopgknaaGreatDoor
