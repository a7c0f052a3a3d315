import Derived.Test.YtbpdmkohihgnjaaDoorVHex
namespace Go.Proofs.YtbpdmkohihgnjaaDoor.V
set_option maxRecDepth 100000
open Go.RowKit

theorem hexAll_nil (W : World) (ao : Option Addr) (cap : Nat) :
    Calls Tryd.prog 46 #[.slice ao 0 cap] W fun e W' => e = .returned (.string (strOfNums (hexD []))) ∧ Below W.heap.size W W' := by
  obtain ⟨i0, hi, hz0, hz1, hz2⟩ := info_parts Tryd.info5
  go_enter Tryd.func46, Tryd.ntmps46
  go_wp2_with (first | (at_make; refine wpList_make_full _ rfl _ _ 30 rfl W.heap.size 5 i0 (.int .u8 0) 1 Tryd.underlying30 hi hz0 hz1 .i64 .i64 _ _ 0 rfl rfl rfl rfl ?c1 ?c2 (Nat.le_refl _) ?_))
  case c1 => omega
  case c2 => unfold maxLen; omega
  intro w' hown hg
  have F0 := Filled.start (D := []) rfl hown hg
  clear hown hg hi hz0 hz1 hz2
  go_wp2
  refine wp_loop_rounds 1 ?_
  rw [rounds_succ]
  have hcv := run_convert_bytes_arg (P := Tryd.prog) w' 30 5 Tryd.underlying30 Tryd.underlying5 W.heap.size 0 0 0 [] rfl (fun j hj => by omega) 9 Tryd.underlying9
  have HB := F0.below
  clear F0
  go_wp2
  go_ret
  exact ⟨rfl, HB⟩

theorem cell_new (W : World) (C : Array Value) (e : TypeId) (i : Nat) : (W.alloc (.cells C e)).cell? ⟨W.heap.size, i, none⟩ = C[i]? := World.cell?_alloc_mark W C e (0, 0) i
theorem row_new (W : World) (k : IntKind) (e : TypeId) (xs : List Int) (C : Array Value) (hC : C = (xs.map (Value.int k)).toArray) : Row (W.alloc (.cells C e)) k W.heap.size 0 xs := by
  intro i hi
  rw [Nat.zero_add, cell_new, hC]
  simp [List.getD_eq_getElem?_getD, hi]
theorem Tab.alloc {W : World} (h : Tab W) (h0 : 0 < W.heap.size) (o : Obj) : Tab (W.alloc o) := h.below ((Below.refl W.heap.size W).alloc (Nat.le_refl _) o) h0
theorem Row.alloc {W : World} {k : IntKind} {b off : Nat} {xs : List Int} (h : Row W k b off xs) (hb : b < W.heap.size) (o : Obj) : Row (W.alloc o) k b off xs := h.below ((Below.refl W.heap.size W).alloc (Nat.le_refl _) o) hb
theorem wds_one {w : Int} (w0 : 0 ≤ w) (w1 : w < 4294967296) : Wds [w] := by
  intro i
  match i with
  | 0 => exact ⟨w0, w1⟩
  | i + 1 => simp

end Go.Proofs.YtbpdmkohihgnjaaDoor.V
