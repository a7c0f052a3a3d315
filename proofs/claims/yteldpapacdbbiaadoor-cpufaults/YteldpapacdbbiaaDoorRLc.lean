/- regs: Compare (8), settled (24), question (21), Holds (10). -/
import Derived.Test.YteldpapacdbbiaaDoorRLa
import Derived.Deep.DeepCutAuto
namespace Go.Proofs.YteldpapacdbbiaaDoor
open Go.RowKit
set_option maxRecDepth 100000
set_option maxHeartbeats 1000000
attribute [-simp] Tryd.isAgg26 Tryd.sizeOf26 Tryd.isAgg24
def F.fl (f : F) (z n l : Bool) : F := { f with z := z, n := n, l := l }
def F.cmp (f : F) (a b : Int) : F := f.fl (a == b) (decide (wrap32 a < wrap32 b)) (decide (a < b))
theorem Prep.set3 {W X : World} {t u : TypeId} {f : F} (h : Prep W X t u f) (z n l : Bool) : Prep W (((X.setCell ⟨W.heap.size, 16, none⟩ (.bool z)).setCell ⟨W.heap.size, 17, none⟩ (.bool n)).setCell ⟨W.heap.size, 18, none⟩ (.bool l)) t u (f.fl z n l) :=
  ((h.set (f' := { f with z := z }) 16 (.bool z) (f.set16 z)).set (f' := { f with z := z, n := n }) 17 (.bool n) (F.set17 _ n)).set (f' := f.fl z n l) 18 (.bool l) (F.set18 _ l)
theorem Prep.set2 {W X : World} {t u : TypeId} {f : F} (h : Prep W X t u f) (n l : Bool) : Prep W ((X.setCell ⟨W.heap.size, 17, none⟩ (.bool n)).setCell ⟨W.heap.size, 18, none⟩ (.bool l)) t u (f.fl f.z n l) :=
  (h.set (f' := { f with n := n }) 17 (.bool n) (f.set17 n)).set (f' := f.fl f.z n l) 18 (.bool l) (F.set18 _ l)
theorem compare_any (W : World) (f : F) (a b : Int) : Calls Tryd.prog 45 #[f.v, .int .u32 a, .int .u32 b] W fun e W' => e = .returned (f.cmp a b).v ∧ Below W.heap.size W W' := by
  have hP := prep W 26 26 f
  have HP := hid hP
  have y16 := (hP.box.cell 16).trans f.at16
  have y17 := (hP.box.cell 17).trans f.at17
  have y18 := (hP.box.cell 18).trans f.at18
  have z16 := hP.box.free 16
  have z17 := hP.box.free 17
  have z18 := hP.box.free 18
  have HQ := hid (hP.set3 (a == b) (decide (wrap32 a < wrap32 b)) (decide (a < b)))
  rw [show f.fl (a == b) (decide (wrap32 a < wrap32 b)) (decide (a < b)) = f.cmp a b from rfl] at HQ
  generalize f.cmp a b = f' at *
  clear hP
  unfold F.v
  generalize hc : f.cs.toArray = C at *
  clear hc
  go_enter Tryd.func45, Tryd.ntmps45
  go_wp2_with fail
  refine (less_any _ _ _).mono ?_
  rintro e w' ⟨rfl, rfl⟩
  generalize hX : (W.alloc _).alloc _ = X at *
  clear hX
  go_wp2_with (first | (refine wpList_load_f rfl _ rfl W.heap.size f' rfl HQ.out.box ?_) | (refine wpList_store_f rfl _ _ rfl (W.heap.size + 1) F.zero f' rfl rfl HQ.out.res ?_; intro w1 hc1 hb1 hs1; have HRR := hid (HQ.out.ret hc1 hb1); clear hc1 hb1 hs1))
  refine ret_st rfl rfl (W.heap.size + 1) _ rfl HRR.out.1 under27 rfl (by rw [size27]; simp [F.len]) ⟨rfl, HRR.out.2⟩
def F.stl (f : F) : F := if f.z then f.fl true false false else f
end Go.Proofs.YteldpapacdbbiaaDoor
