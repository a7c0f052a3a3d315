/- The document's: two (44), Signed (43), Get (25), Set (26), Compare (28), Holds (29), Flags (31), Start (34); the law's same (27). -/
import Derived.Test.YthpkodkilbcepaaP0
namespace Go.Proofs.Ythpkodkilbcepaa
open Go.RowKit
set_option maxHeartbeats 4000000
set_option maxRecDepth 100000
attribute [-simp] Try.isAgg27 Try.sizeOf27 Try.isAgg25 Try.sizeOf25 Try.isAgg23 Try.isAgg46 Try.sizeOf46
theorem two_any (W : World) (k : Nat) (hk : k ≤ 32) : Calls Try.prog 44 #[.int .i64 (k : Int)] W fun e W' => e = .returned (.int .i64 (2 ^ k)) ∧ W = W' := by
  go_enter Try.func44, Try.ntmps44
  go_wp2_with fail
  go_loopw [3, 4] (fun p i wr => ∃ j : Nat, j ≤ k ∧ p = .int .i64 (2 ^ j) ∧ i = .int .i64 (j : Int) ∧ wr = W) (fun _ i _ => k - (intOf i).toNat)
  case atStart => exact ⟨0, Nat.zero_le _, rfl, rfl, rfl⟩
  case round =>
    obtain ⟨j, hj, rfl, rfl, rfl⟩ := hrel
    by_cases hlt : j < k
    · have c1 : (j : Int) < (k : Int) := by omega
      have hp : (2 : Int) ^ j ≤ 4294967296 := by
        have := Nat.pow_le_pow_right (n := 2) (by decide) (show j ≤ 32 by omega)
        have h2 : ((2 ^ j : Nat) : Int) ≤ ((2 ^ 32 : Nat) : Int) := by exact_mod_cast this
        simpa using h2
      have h0 : (0 : Int) ≤ 2 ^ j := Int.le_of_lt (Int.pow_pos (by decide))
      have HE : Hid (2 * 2 ^ j = (2 : Int) ^ (j + 1)) := hid (by rw [Int.pow_succ]; omega)
      generalize (2 : Int) ^ j = p at *
      go_wp2_with fail
      go_roundw
      case measure => simp [intOf] <;> omega
      case rel => exact ⟨j + 1, by omega, congrArg (Value.int .i64) HE.out, by go_num, trivial⟩
    · obtain rfl : j = k := by omega
      go_wp2_with fail
      go_ret
      exact ⟨rfl, rfl⟩
theorem signed_any (W : World) (a : Int) (a0 : 0 ≤ a) (a1 : a < 4294967296) : Calls Try.prog 43 #[.int .u32 a] W fun e W' => e = .returned (.int .i64 (wrap32 a)) ∧ W = W' := by
  have T1 : Hid (∀ w, Calls Try.prog 44 #[.int .i64 31] w fun e W' => e = .returned (.int .i64 2147483648) ∧ w = W') := hid fun w => two_any w 31 (by decide)
  have T2 : Hid (∀ w, Calls Try.prog 44 #[.int .i64 32] w fun e W' => e = .returned (.int .i64 4294967296) ∧ w = W') := hid fun w => two_any w 32 (by decide)
  by_cases h : 2147483648 ≤ a
  · have HE : Hid (a - 4294967296 = wrap32 a) := hid (by unfold wrap32; omega)
    have e1 : wrap64 a = a := by unfold wrap64; omega
    have h' : ¬ a < 2147483648 := by omega
    go_enter Try.func43, Try.ntmps43
    go_wp2_with (first | (go_at_call_of 44 (Value.int .i64 31); refine (T1.out _).mono ?_; rintro e w' ⟨rfl, rfl⟩) | (go_at_call_of 44 (Value.int .i64 32); refine (T2.out _).mono ?_; rintro e w' ⟨rfl, rfl⟩))
    go_ret
    exact ⟨ret_int HE.out, rfl⟩
  · have HE : Hid (a = wrap32 a) := hid (by unfold wrap32; omega)
    have e1 : wrap64 a = a := by unfold wrap64; omega
    have h' : a < 2147483648 := by omega
    go_enter Try.func43, Try.ntmps43
    go_wp2_with (first | (go_at_call_of 44 (Value.int .i64 31); refine (T1.out _).mono ?_; rintro e w' ⟨rfl, rfl⟩))
    go_ret
    exact ⟨ret_int HE.out, rfl⟩
theorem rget_any (W : World) (f : F) (r : Int) : Calls Try.prog 25 #[f.v, .int .i64 r] W fun e W' => e = .returned (if 0 ≤ r ∧ r < 15 then .tuple #[.int .u32 (f.r r.toNat), .int .i64 0] else .tuple #[.int .u32 0, .int .i64 81]) ∧ Below W.heap.size W W' := by
  unfold F.v
  by_cases h : 0 ≤ r ∧ r < 15
  · have y0 : (W.alloc (.cells f.cs.toArray 25)).cell? ⟨W.heap.size, r.toNat, none⟩ = some (.int .u32 (f.r r.toNat)) := by rw [(Cel.new W 25 f.cs).cell]; exact f.at _ (by omega)
    rw [if_pos h]
    obtain ⟨h0, h1⟩ := h
    have h2 : ¬ r < 0 := by omega
    have h3 : ¬ 14 < r := by omega
    generalize hc : f.cs.toArray = C at *
    clear hc
    go_enter Try.func25, Try.ntmps25
    go_wp2_with fail
    go_ret2
    exact ⟨rfl, below_one _ _⟩
  · rw [if_neg h]
    have hh : r < 0 ∨ (¬ r < 0 ∧ 14 < r) := by omega
    clear h
    generalize hc : f.cs.toArray = C at *
    clear hc
    rcases hh with hh | ⟨hh, hh2⟩
    · go_enter Try.func25, Try.ntmps25
      go_wp2_with fail
      go_ret2
      exact ⟨rfl, below_one _ _⟩
    · go_enter Try.func25, Try.ntmps25
      go_wp2_with fail
      go_ret2
      exact ⟨rfl, below_one _ _⟩
theorem rset_any (W : World) (f : F) (r v : Int) : Calls Try.prog 26 #[f.v, .int .i64 r, .int .u32 v] W fun e W' => e = .returned (if 0 ≤ r ∧ r < 15 then .tuple #[(f.put r.toNat v).v, .int .i64 0] else .tuple #[F.zero.v, .int .i64 81]) ∧ Below W.heap.size W W' := by
  have hP := prep W 25 25 f
  by_cases h : 0 ≤ r ∧ r < 15
  · have y0 := (hP.box.cell r.toNat).trans (f.at r.toNat (by omega))
    have y1 := hP.box.free r.toNat
    have HP2 := hid (hP.set (f' := f.put r.toNat v) r.toNat (.int .u32 v) (f.set _ (by omega) v))
    rw [if_pos h]
    obtain ⟨h0, h1⟩ := h
    have h2 : ¬ r < 0 := by omega
    have h3 : ¬ 14 < r := by omega
    clear hP
    unfold F.v
    generalize hc : f.cs.toArray = C at *
    clear hc
    go_enter Try.func26, Try.ntmps26
    go_upto_region 1 with fail
    generalize hX : (W.alloc _).alloc _ = X at *
    clear hX
    go_wp2_with (first | (refine wpList_load_g rfl _ rfl W.heap.size (f.put r.toNat v) rfl HP2.out.box ?_) | (refine wpList_store_g rfl _ _ rfl (W.heap.size + 1) F.zero (f.put r.toNat v) rfl rfl HP2.out.res ?_; intro w1 hc1 hb1 hs1; have HRR := hid (HP2.out.ret hc1 hb1); clear hc1 hb1 hs1))
    refine ret_st2 rfl rfl (W.heap.size + 1) _ rfl HRR.out.1 under25 rfl (by rw [size25]; simp [F.len]) ⟨rfl, HRR.out.2⟩
  · rw [if_neg h]
    have hh : r < 0 ∨ (¬ r < 0 ∧ 14 < r) := by omega
    have HP := hid hP
    clear h hP
    unfold F.v
    generalize hc : f.cs.toArray = C at *
    clear hc
    rcases hh with hh | ⟨hh, hh2⟩
    · go_enter Try.func26, Try.ntmps26
      go_upto_region 1 with fail
      generalize hX : (W.alloc _).alloc _ = X at *
      clear hX
      go_wp2_with (first | (refine wpList_build_zero' rfl rfl ?_) | (refine wpList_store_g rfl _ _ rfl (W.heap.size + 1) F.zero F.zero rfl rfl HP.out.res ?_; intro w1 hc1 hb1 hs1; have HR := hid (HP.out.ret hc1 hb1); clear hc1 hb1 hs1))
      refine ret_st2 rfl rfl (W.heap.size + 1) _ rfl HR.out.1 under25 rfl (by rw [size25]; simp [F.len]) ⟨rfl, HR.out.2⟩
    · go_enter Try.func26, Try.ntmps26
      go_upto_region 1 with fail
      generalize hX : (W.alloc _).alloc _ = X at *
      clear hX
      go_wp2_with (first | (refine wpList_build_zero' rfl rfl ?_) | (refine wpList_store_g rfl _ _ rfl (W.heap.size + 1) F.zero F.zero rfl rfl HP.out.res ?_; intro w1 hc1 hb1 hs1; have HR := hid (HP.out.ret hc1 hb1); clear hc1 hb1 hs1))
      refine ret_st2 rfl rfl (W.heap.size + 1) _ rfl HR.out.1 under25 rfl (by rw [size25]; simp [F.len]) ⟨rfl, HR.out.2⟩
structure SM (w : World) (g2 g3 : Nat) (f g : F) : Prop where
  a : Cel w g2 27 f.cs
  b : Cel w g3 25 g.cs
theorem SM.on {w w' : World} {g2 g3 : Nat} {f g : F} (h : SM w g2 g3 f g) (hb : Below w.heap.size w w') : SM w' g2 g3 f g := ⟨h.a.on hb, h.b.on hb⟩
theorem same_any (W : World) (f g : F) : Calls Try.prog 27 #[f.v, g.v] W fun e W' => e = .returned (.bool (f.same g)) ∧ Below W.heap.size W W' := by
  have c1 := (Cel.new W 27 f.cs).on (below_one _ (.cells g.cs.toArray 25))
  have c2 := Cel.new (W.alloc (.cells f.cs.toArray 27)) 25 g.cs
  rw [show (W.alloc (Obj.cells f.cs.toArray 27)).heap.size = W.heap.size + 1 by show (W.heap.push _).size = _; simp] at c2
  have HB := hid (below_two W (.cells f.cs.toArray 27) (.cells g.cs.toArray 25))
  have HC1 := hid c1
  have HC2 := hid c2
  clear c1 c2
  unfold F.v
  generalize hc : f.cs.toArray = C at *
  generalize hd : g.cs.toArray = D at *
  clear hc hd
  go_enter Try.func27, Try.ntmps27
  go_upto_region 1 with fail
  generalize hX : (W.alloc _).alloc _ = X at *
  clear hX
  have HS : Hid (SM X W.heap.size (W.heap.size + 1) f g) := hid ⟨HC1.out, HC2.out⟩
  have HD := hid (HS.out.on (Below.refl _ _).drew)
  have HBD := hid (HB.out.drew)
  clear HS HC1 HC2 HB
  refine wp_region_held_drew (S := fun x => SM x W.heap.size (W.heap.size + 1) f g) (by kernel_rfl) HD.out (fun hHeld => ?_)
  refine wpAnyH_take (i := 0) (oi := { dst := some 5, op := Op.load 27 (Operand.tmp 2), type := 27, pos := "law.go:41", after := #[], guard := none }) (v := f.v) rfl (by kernel_rfl) (by kernel_rfl) (by kernel_rfl) (fun _ _ _ h => h) (yieldsIf_load_mid (by rfl) 27 _ rfl W.heap.size 0 rfl f.cs _ (fun w hSw => hSw.a.range) under27 rfl (by rw [size27, F.len])) (by assumption) ?_
  simp only [Act.put, List.setIfInBounds_toArray, List.set_cons_zero, List.set_cons_succ]
  refine wpAnyH_take (i := 1) (oi := { dst := some 6, op := Op.load 25 (Operand.tmp 3), type := 25, pos := "law.go:41", after := #[], guard := none }) (v := g.v) rfl (by kernel_rfl) (by kernel_rfl) (by kernel_rfl) (fun _ _ _ h => h) (yieldsIf_load_mid (by rfl) 25 _ rfl (W.heap.size + 1) 0 rfl g.cs _ (fun w hSw => hSw.b.range) under25 rfl (by rw [size25, F.len])) (by assumption) ?_
  simp only [Act.put, List.setIfInBounds_toArray, List.set_cons_zero, List.set_cons_succ]
  refine wpAnyH_ready (rs := [2]) (by kernel_rfl) (by simp) (AllReadyH.cons (o := { dst := some 7, op := Op.call { callee := Callee.value (Operand.func 9), args := #[Operand.tmp 6], argTypes := #[25] }, type := 27, pos := "law.go:41", after := #[{ on := 1, ground := Ground.data }], guard := none }) rfl (fun KQ hK => ?_) AllReadyH.nil)
  go_simp
  refine (file_any _ _).mono ?_
  rintro e w1 ⟨rfl, hb1⟩
  have HD1 := hid (HD.out.on hb1)
  have HB1 := hid (below_on HBD.out hb1)
  clear hb1
  go_wp2_with fail
  refine hK.out _ _ HD1.out (fun hHeld => ?_)
  clear hK KQ
  try simp only [Act.put, List.setIfInBounds_toArray, List.set_cons_zero, List.set_cons_succ]
  refine wpAnyH_take (i := 3) (oi := { dst := some 8, op := Op.binOp BinOp.eql 27 (Operand.tmp 5) (Operand.tmp 7) 27, type := 4, pos := "law.go:41", after := #[{ on := 0, ground := Ground.data }, { on := 2, ground := Ground.data }], guard := none }) (v := .bool (f.same g)) rfl (by kernel_rfl) (by kernel_rfl) (by kernel_rfl) (fun _ _ _ h => h) (Or.inl ⟨by rfl, fun w hSw => exec_eql_f _ _ rfl f g rfl rfl _ rfl⟩) (by assumption) ?_
  simp only [Act.put, List.setIfInBounds_toArray, List.set_cons_zero, List.set_cons_succ]
  refine wpAnyH_ready (rs := [4]) (by kernel_rfl) (by simp) (AllReadyH.cons (o := { dst := some 4, op := Op.assign (Operand.tmp 8), type := 4, pos := "law.go:41", after := #[{ on := 3, ground := Ground.data }, { on := 2, ground := Ground.chain }, { on := 0, ground := Ground.phase }, { on := 1, ground := Ground.phase }, { on := 2, ground := Ground.phase }, { on := 3, ground := Ground.phase }], guard := none }) rfl (fun KQ hK => ?_) AllReadyH.nil)
  go_simp
  refine hK.out _ _ HD1.out (fun hHeld => ?_)
  clear hK KQ
  try simp only [Act.put, List.setIfInBounds_toArray, List.set_cons_zero, List.set_cons_succ]
  refine wpAnyH_done (by kernel_rfl) ?_ _
  go_wp2_with fail
  go_ret
  exact ⟨rfl, HB1.out⟩
end Go.Proofs.Ythpkodkilbcepaa
