/- regs' leaves. -/
import Derived.Test.YteldpapacdbbiaaGreatDoorRBsRLb
namespace Go.Proofs.YteldpapacdbbiaaGreatDoor
open Go.RowKit
set_option maxRecDepth 100000
set_option maxHeartbeats 4000000

theorem less_any (W : World) (a b : Int) : Calls Tryz.prog 86 #[.int .u32 a, .int .u32 b] W fun e W' => e = .returned (.bool (decide (wrap32 a < wrap32 b))) ∧ W = W' := by
  go_enter Tryz.func86, Tryz.ntmps86
  go_wp2
  go_ret
  exact ⟨rfl, rfl⟩
attribute [-simp] Tryz.isAgg26 Tryz.sizeOf26 Tryz.isAgg24
/-- A boxed file, and a file of zeros for the answer. -/
structure Prep (W X : World) (t u : TypeId) (f : F) : Prop where
  box : Cel X W.heap.size t f.cs
  res : Cel X (W.heap.size + 1) u F.zero.cs
  below : Below W.heap.size W X
  size : X.heap.size = W.heap.size + 2
theorem zc : (#[.int .u32 0, .int .u32 0, .int .u32 0, .int .u32 0, .int .u32 0, .int .u32 0, .int .u32 0, .int .u32 0, .int .u32 0, .int .u32 0, .int .u32 0, .int .u32 0, .int .u32 0, .int .u32 0, .int .u32 0, .int .u32 0, .bool false, .bool false, .bool false] : Array Value) = F.zero.cs.toArray := by kernel_rfl
theorem prep (W : World) (t u : TypeId) (f : F) : Prep W ((W.alloc (.cells f.cs.toArray t)).alloc (.cells #[.int .u32 0, .int .u32 0, .int .u32 0, .int .u32 0, .int .u32 0, .int .u32 0, .int .u32 0, .int .u32 0, .int .u32 0, .int .u32 0, .int .u32 0, .int .u32 0, .int .u32 0, .int .u32 0, .int .u32 0, .int .u32 0, .bool false, .bool false, .bool false] u)) t u f := by
  rw [zc]
  have c1 := Cel.new (W.alloc (.cells f.cs.toArray t)) u F.zero.cs
  rw [show (W.alloc (Obj.cells f.cs.toArray t)).heap.size = W.heap.size + 1 by show (W.heap.push _).size = _; simp] at c1
  exact ⟨(Cel.new W t f.cs).on (below_one _ _), c1, below_two _ _ _, by show ((W.heap.push _).push _).size = _; simp⟩
theorem Prep.ret {W X w' : World} {t u : TypeId} {f f' : F} (h : Prep W X t u f) (hc : Cel w' (W.heap.size + 1) u f'.cs) (hb : ButL [W.heap.size + 1] X w') : Cel w' (W.heap.size + 1) u f'.cs ∧ Below W.heap.size W w' :=
  ⟨hc, h.below.trans (hb.below (by simp) (by rw [h.size]; omega))⟩
theorem Prep.set {W X : World} {t u : TypeId} {f f' : F} (h : Prep W X t u f) (j : Nat) (x : Value) (hs : f.cs.set j x = f'.cs) : Prep W (X.setCell ⟨W.heap.size, j, none⟩ x) t u f' := by
  have hb := ButL.setCell (G := [W.heap.size]) X W.heap.size j x (by simp)
  exact ⟨by rw [← hs]; exact h.box.setCell j x, h.res.but hb (by rw [List.mem_singleton]; omega), h.below.trans (hb.below (by simp) (by rw [h.size]; omega)), by simpa using h.size⟩
theorem start_any (W : World) (p a b c : Int) : Calls Tryz.prog 20 #[.int .u32 p, .int .u32 a, .int .u32 b, .int .u32 c] W fun e W' => e = .returned (F.v ⟨st3 a b c, p, false, false, false⟩) ∧ Below W.heap.size W W' := by
  have c1 : Hid (Cel (W.alloc (.cells #[.int .u32 0, .int .u32 0, .int .u32 0, .int .u32 0, .int .u32 0, .int .u32 0, .int .u32 0, .int .u32 0, .int .u32 0, .int .u32 0, .int .u32 0, .int .u32 0, .int .u32 0, .int .u32 0, .int .u32 0, .int .u32 0, .bool false, .bool false, .bool false] 26)) W.heap.size 26 F.zero.cs) := by rw [zc]; exact hid (Cel.new W 26 F.zero.cs)
  have hb := hid (below_one W (.cells #[.int .u32 0, .int .u32 0, .int .u32 0, .int .u32 0, .int .u32 0, .int .u32 0, .int .u32 0, .int .u32 0, .int .u32 0, .int .u32 0, .int .u32 0, .int .u32 0, .int .u32 0, .int .u32 0, .int .u32 0, .int .u32 0, .bool false, .bool false, .bool false] 26))
  go_enter Tryz.func20, Tryz.ntmps20
  go_wp2_with (first | (refine wpList_build_r3 rfl _ _ _ rfl a b c rfl rfl rfl ?_) | (refine wpList_build_start rfl _ _ rfl (st3 a b c) p rfl rfl ?_) | (refine wpList_store_f rfl _ _ rfl W.heap.size F.zero ⟨st3 a b c, p, false, false, false⟩ rfl rfl c1.out ?_; intro w1 hc1 hb1 hs1; have HR := hid (And.intro hc1 (hb.out.trans (hb1.below (B := W.heap.size) (by simp) (by show _ ≤ (W.heap.push _).size; simp)))); clear hc1 hb1 hs1))
  refine ret_st rfl rfl W.heap.size _ rfl HR.out.1 under27 rfl (by rw [size27]; simp [F.len]) ⟨rfl, HR.out.2⟩
end Go.Proofs.YteldpapacdbbiaaGreatDoor
