/- regs' leaves. -/
import Derived.Test.YthpkodkilbcepaaLb
namespace Go.Proofs.Ythpkodkilbcepaa
open Go.RowKit

theorem isReg_any (W : World) (r : Int) : Calls Try.prog 22 #[.int .i64 r] W fun e W' => e = .returned (.bool (decide (0 ≤ r ∧ r < 15))) ∧ W = W' := by
  by_cases h : 0 ≤ r
  · go_enter Try.func22, Try.ntmps22
    go_wp2
    go_ret
    exact ⟨ret_bool (Bool.eq_iff_iff.2 (by first | (simp only [decide_eq_true_eq]; omega) | (simp; omega))), rfl⟩
  · have h' : r < 0 := by omega
    go_enter Try.func22, Try.ntmps22
    go_wp2
    go_ret
    exact ⟨ret_bool (Bool.eq_iff_iff.2 (by first | (simp only [decide_eq_true_eq]; omega) | (simp; omega))), rfl⟩
theorem less_any (W : World) (a b : Int) : Calls Try.prog 20 #[.int .u32 a, .int .u32 b] W fun e W' => e = .returned (.bool (decide (wrap32 a < wrap32 b))) ∧ W = W' := by
  go_enter Try.func20, Try.ntmps20
  go_wp2
  go_ret
  exact ⟨rfl, rfl⟩
theorem bit_any (W : World) (b : Bool) (x : Int) : Calls Try.prog 24 #[.bool b, .int .u32 x] W fun e W' => e = .returned (.int .u32 (if b then x else 0)) ∧ W = W' := by
  cases b
  all_goals
    go_enter Try.func24, Try.ntmps24
    go_wp2
    go_ret
    exact ⟨rfl, rfl⟩
attribute [-simp] Try.isAgg27 Try.sizeOf27 Try.isAgg25 Try.sizeOf25 Try.isAgg23 Try.isAgg46 Try.sizeOf46
/-- A boxed file, and a file of zeros for the answer. -/
structure Prep (W X : World) (t u : TypeId) (f : F) : Prop where
  box : Cel X W.heap.size t f.cs
  res : Cel X (W.heap.size + 1) u F.zero.cs
  below : Below W.heap.size W X
  size : X.heap.size = W.heap.size + 2
theorem zc : (#[.int .u32 0, .int .u32 0, .int .u32 0, .int .u32 0, .int .u32 0, .int .u32 0, .int .u32 0, .int .u32 0, .int .u32 0, .int .u32 0, .int .u32 0, .int .u32 0, .int .u32 0, .int .u32 0, .int .u32 0, .int .u32 0, .bool false, .bool false, .bool false] : Array Value) = F.zero.cs.toArray := by kernel_rfl
theorem prep (W : World) (t u : TypeId) (f : F) : Prep W ((W.alloc (.cells f.cs.toArray t)).alloc (.cells #[.int .u32 0, .int .u32 0, .int .u32 0, .int .u32 0, .int .u32 0, .int .u32 0, .int .u32 0, .int .u32 0, .int .u32 0, .int .u32 0, .int .u32 0, .int .u32 0, .int .u32 0, .int .u32 0, .int .u32 0, .int .u32 0, .bool false, .bool false, .bool false] u)) t u f := by
  rw [zc]
  have c1 := Cel.new (W.alloc (.cells f.cs.toArray t)) u F.zero.cs
  rw [show (W.alloc (Obj.cells f.cs.toArray t)).heap.size = W.heap.size + 1 by show (W.heap.push _).size = _; simp] at c1
  exact ⟨(Cel.new W t f.cs).on (below_one _ _), c1, below_two _ _ _, by show ((W.heap.push _).push _).size = _; simp⟩
theorem Prep.ret {W X w' : World} {t u : TypeId} {f f' : F} (h : Prep W X t u f) (hc : Cel w' (W.heap.size + 1) u f'.cs) (hb : ButL [W.heap.size + 1] X w') : Cel w' (W.heap.size + 1) u f'.cs ∧ Below W.heap.size W w' :=
  ⟨hc, h.below.trans (hb.below (by simp) (by rw [h.size]; omega))⟩
theorem Prep.set {W X : World} {t u : TypeId} {f f' : F} (h : Prep W X t u f) (j : Nat) (x : Value) (hs : f.cs.set j x = f'.cs) : Prep W (X.setCell ⟨W.heap.size, j, none⟩ x) t u f' := by
  have hb := ButL.setCell (G := [W.heap.size]) X W.heap.size j x (by simp)
  exact ⟨by rw [← hs]; exact h.box.setCell j x, h.res.but hb (by rw [List.mem_singleton]; omega), h.below.trans (hb.below (by simp) (by rw [h.size]; omega)), by simpa using h.size⟩
theorem file_any (W : World) (f : F) : Calls Try.prog 9 #[f.v] W fun e W' => e = .returned f.v ∧ Below W.heap.size W W' := by
  have hP := prep W 25 27 f
  have y15 := (hP.box.cell 15).trans f.at15
  have y16 := (hP.box.cell 16).trans f.at16
  have y17 := (hP.box.cell 17).trans f.at17
  have y18 := (hP.box.cell 18).trans f.at18
  have HP := hid hP
  clear hP
  unfold F.v
  generalize hc : f.cs.toArray = C at *
  have HC := hid hc
  clear hc
  go_enter Try.func9, Try.ntmps9
  go_wp2_with (first | (refine wpList_load_r rfl _ rfl W.heap.size f rfl HP.out.box ?_) | (refine wpList_build_file rfl _ _ _ _ _ rfl f rfl rfl rfl rfl rfl ?_) | (refine wpList_store_f rfl _ _ rfl (W.heap.size + 1) F.zero f rfl rfl HP.out.res ?_; intro w1 hc1 hb1 hs1; have HR := hid (HP.out.ret hc1 hb1); clear hc1 hb1 hs1))
  refine ret_st rfl rfl (W.heap.size + 1) _ rfl HR.out.1 under27 rfl (by rw [size27]; simp [F.len]) ⟨by rw [← HC.out], HR.out.2⟩
theorem start_any (W : World) (p a b c : Int) : Calls Try.prog 11 #[.int .u32 p, .int .u32 a, .int .u32 b, .int .u32 c] W fun e W' => e = .returned (F.v ⟨st3 a b c, p, false, false, false⟩) ∧ Below W.heap.size W W' := by
  have c1 : Hid (Cel (W.alloc (.cells #[.int .u32 0, .int .u32 0, .int .u32 0, .int .u32 0, .int .u32 0, .int .u32 0, .int .u32 0, .int .u32 0, .int .u32 0, .int .u32 0, .int .u32 0, .int .u32 0, .int .u32 0, .int .u32 0, .int .u32 0, .int .u32 0, .bool false, .bool false, .bool false] 27)) W.heap.size 27 F.zero.cs) := by rw [zc]; exact hid (Cel.new W 27 F.zero.cs)
  have hb := hid (below_one W (.cells #[.int .u32 0, .int .u32 0, .int .u32 0, .int .u32 0, .int .u32 0, .int .u32 0, .int .u32 0, .int .u32 0, .int .u32 0, .int .u32 0, .int .u32 0, .int .u32 0, .int .u32 0, .int .u32 0, .int .u32 0, .int .u32 0, .bool false, .bool false, .bool false] 27))
  go_enter Try.func11, Try.ntmps11
  go_wp2_with (first | (refine wpList_build_r3 rfl _ _ _ rfl a b c rfl rfl rfl ?_) | (refine wpList_build_start rfl _ _ rfl (st3 a b c) p rfl rfl ?_) | (refine wpList_store_f rfl _ _ rfl W.heap.size F.zero ⟨st3 a b c, p, false, false, false⟩ rfl rfl c1.out ?_; intro w1 hc1 hb1 hs1; have HR := hid (And.intro hc1 (hb.out.trans (hb1.below (B := W.heap.size) (by simp) (by show _ ≤ (W.heap.push _).size; simp)))); clear hc1 hb1 hs1))
  refine ret_st rfl rfl W.heap.size _ rfl HR.out.1 under27 rfl (by rw [size27]; simp [F.len]) ⟨rfl, HR.out.2⟩
theorem get_any (W : World) (f : F) (r : Int) : Calls Try.prog 13 #[f.v, .int .i64 r] W fun e W' => e = .returned (if 0 ≤ r ∧ r < 15 then .tuple #[.int .u32 (f.r r.toNat), .int .i64 0] else .tuple #[.int .u32 0, .int .i64 81]) ∧ Below W.heap.size W W' := by
  unfold F.v
  by_cases h : 0 ≤ r ∧ r < 15
  · have y0 : (W.alloc (.cells f.cs.toArray 27)).cell? ⟨W.heap.size, r.toNat, none⟩ = some (.int .u32 (f.r r.toNat)) := by rw [(Cel.new W 27 f.cs).cell]; exact f.at _ (by omega)
    have HR := hid h
    obtain ⟨h0, h1⟩ := h
    generalize hc : f.cs.toArray = C at *
    clear hc
    go_enter Try.func13, Try.ntmps13
    go_wp2_with (go_at_call 22; refine (isReg_any _ _).mono ?_; rintro e w' ⟨rfl, rfl⟩)
    go_ret2
    exact ⟨rfl, below_one _ _⟩
  · have HC : Hid (∀ w, Calls Try.prog 22 #[.int .i64 r] w fun e W' => e = .returned (.bool false) ∧ w = W') := fun w => by have := isReg_any w r; rwa [decide_eq_false h] at this
    have HR := hid h
    clear h
    generalize hc : f.cs.toArray = C at *
    clear hc
    go_enter Try.func13, Try.ntmps13
    go_wp2_with (go_at_call 22; refine (HC.out _).mono ?_; rintro e w' ⟨rfl, rfl⟩)
    go_ret2
    exact ⟨rfl, below_one _ _⟩
theorem set_any (W : World) (f : F) (r v : Int) : Calls Try.prog 12 #[f.v, .int .i64 r, .int .u32 v] W fun e W' => e = .returned (if 0 ≤ r ∧ r < 15 then .tuple #[(f.put r.toNat v).v, .int .i64 0] else .tuple #[F.zero.v, .int .i64 81]) ∧ Below W.heap.size W W' := by
  have hP := prep W 27 27 f
  by_cases h : 0 ≤ r ∧ r < 15
  · have HR := hid h
    have y0 := (hP.box.cell r.toNat).trans (f.at r.toNat (by omega))
    have y1 := hP.box.free r.toNat
    have HP2 := hid (hP.set (f' := f.put r.toNat v) r.toNat (.int .u32 v) (f.set _ (by omega) v))
    obtain ⟨h0, h1⟩ := h
    clear hP
    rw [if_pos HR.out]
    unfold F.v
    generalize hc : f.cs.toArray = C at *
    clear hc
    go_enter Try.func12, Try.ntmps12
    go_wp2_with fail
    refine (isReg_any _ _).mono ?_
    rintro e w' ⟨rfl, rfl⟩
    generalize hX : (W.alloc _).alloc _ = X at *
    clear hX
    go_wp2_with (first | (refine wpList_load_f rfl _ rfl W.heap.size (f.put r.toNat v) rfl HP2.out.box ?_) | (refine wpList_store_f rfl _ _ rfl (W.heap.size + 1) F.zero (f.put r.toNat v) rfl rfl HP2.out.res ?_; intro w1 hc1 hb1 hs1; have HRR := hid (HP2.out.ret hc1 hb1); clear hc1 hb1 hs1))
    refine ret_st2 rfl rfl (W.heap.size + 1) _ rfl HRR.out.1 under27 rfl (by rw [size27]; simp [F.len]) ⟨rfl, HRR.out.2⟩
  · have HC : Hid (∀ w, Calls Try.prog 22 #[.int .i64 r] w fun e W' => e = .returned (.bool false) ∧ w = W') := fun w => by have := isReg_any w r; rwa [decide_eq_false h] at this
    rw [if_neg h]
    have HP := hid hP
    clear h hP
    unfold F.v
    generalize hc : f.cs.toArray = C at *
    clear hc
    go_enter Try.func12, Try.ntmps12
    go_wp2_with (first | (go_at_call 22; refine (HC.out _).mono ?_; rintro e w' ⟨rfl, rfl⟩) | (refine wpList_build_zero rfl rfl ?_) | (refine wpList_store_f rfl _ _ rfl (W.heap.size + 1) F.zero F.zero rfl rfl HP.out.res ?_; intro w1 hc1 hb1 hs1; have HR := hid (HP.out.ret hc1 hb1); clear hc1 hb1 hs1))
    refine ret_st2 rfl rfl (W.heap.size + 1) _ rfl HR.out.1 under27 rfl (by rw [size27]; simp [F.len]) ⟨rfl, HR.out.2⟩
end Go.Proofs.Ythpkodkilbcepaa
