import Derived.Test.YtlfnpllojinjdaaDoorHex
namespace Go.Proofs.YtlfnpllojinjdaaDoor
open Go.RowKit

theorem hexAll_nil (W : World) (ao : Option Addr) (cap : Nat) :
    Calls Tryd.prog 15 #[.slice ao 0 cap] W fun e W' => e = .returned (.string (strOfNums (hexD []))) ∧ Below W.heap.size W W' := by
  obtain ⟨i0, hi, hz0, hz1, hz2⟩ := info_parts Tryd.info5
  go_enter Tryd.func15, Tryd.ntmps15
  go_wp2_with (first | (at_make; refine wpList_make_full _ rfl _ _ 36 rfl W.heap.size 5 i0 (.int .u8 0) 1 Tryd.underlying36 hi hz0 hz1 .i64 .i64 _ _ 0 rfl rfl rfl rfl ?c1 ?c2 (Nat.le_refl _) ?_))
  case c1 => omega
  case c2 => unfold maxLen; omega
  intro w' hown hg
  have F0 := Filled.start (D := []) rfl hown hg
  clear hown hg hi hz0 hz1 hz2
  go_wp2
  refine wp_loop_rounds 1 ?_
  rw [rounds_succ]
  have hcv := run_convert_bytes_arg (P := Tryd.prog) w' 36 5 Tryd.underlying36 Tryd.underlying5 W.heap.size 0 0 0 [] rfl (fun j hj => by omega) 9 Tryd.underlying9
  have HB := F0.below
  clear F0
  go_wp2
  go_ret
  exact ⟨rfl, HB⟩

theorem cell_new (W : World) (C : Array Value) (e : TypeId) (i : Nat) : (W.alloc (.cells C e)).cell? ⟨W.heap.size, i, none⟩ = C[i]? := World.cell?_alloc_mark W C e (0, 0) i
theorem row_new (W : World) (k : IntKind) (e : TypeId) (xs : List Int) (C : Array Value) (hC : C = (xs.map (Value.int k)).toArray) : Row (W.alloc (.cells C e)) k W.heap.size 0 xs := by
  intro i hi
  rw [Nat.zero_add, cell_new, hC]
  simp [List.getD_eq_getElem?_getD, hi]
theorem Tab.alloc {W : World} (h : Tab W) (h0 : 0 < W.heap.size) (o : Obj) : Tab (W.alloc o) := h.below ((Below.refl W.heap.size W).alloc (Nat.le_refl _) o) h0
theorem Row.alloc {W : World} {k : IntKind} {b off : Nat} {xs : List Int} (h : Row W k b off xs) (hb : b < W.heap.size) (o : Obj) : Row (W.alloc o) k b off xs := h.below ((Below.refl W.heap.size W).alloc (Nat.le_refl _) o) hb
theorem wds_one {w : Int} (w0 : 0 ≤ w) (w1 : w < 4294967296) : Wds [w] := by
  intro i
  match i with
  | 0 => exact ⟨w0, w1⟩
  | i + 1 => simp

theorem hex_any (W : World) (hT : Tab W) (w : Int) (w0 : 0 ≤ w) (w1 : w < 4294967296) (h0 : 0 < W.heap.size) :
    Calls Tryd.prog 20 #[.int .u32 w] W fun e W' => e = .returned (.string (strOfNums (hexW w))) ∧ Below W.heap.size W W' := by
  have HW : hexD [w] = hexW w := by simp [hexD]
  rw [← HW]
  clear HW
  have HB : Below W.heap.size W (W.alloc (Obj.cells #[Value.int IntKind.u32 w] 22)) := (Below.refl W.heap.size W).alloc (Nat.le_refl _) _
  go_enter Tryd.func20, Tryd.ntmps20
  go_wp2_with (first | (go_at_call 15; go_must (refine (hexAll_any _ (hT.alloc h0 _) _ _ _ _ [w] rfl (wds_one w0 w1) (row_new W .u32 22 [w] _ rfl) (by simp) (by simp) (by simp)).mono ?_); rintro e w' ⟨rfl, hb⟩))
  go_ret
  exact ⟨rfl, HB.trans (hb.mono (by simp))⟩

theorem head_any (W : World) (hT : Tab W) (h0 : 0 < W.heap.size) :
    Calls Tryd.prog 8 #[] W fun e W' => e = .returned (.bool true) ∧ Below W.heap.size W W' := by
  have e1 : M.Fld 4660 8 8 = 18 := rfl
  have e2 : strOfNums (hexW 7) = ⟨#[48, 48, 48, 48, 48, 48, 48, 55]⟩ := rfl
  go_enter Tryd.func8, Tryd.ntmps8
  go_wp2_with (first | (go_at_call 9; refine (add_any _ _ _ _ (by decide) (by decide) (by decide) (by decide) (by decide) (by decide)).mono ?_; rintro e w' ⟨rfl, rfl⟩) | (go_at_call 21; refine (field_yes _ hT _ _ _ (by decide) (by decide) (by decide) (by decide) (by decide)).mono ?_; rintro e w' ⟨rfl, d, rfl⟩) | (go_at_call 20; refine (hex_any _ (hT.drewN _) _ (by decide) (by decide) h0).mono ?_; rintro e w' ⟨rfl, hb⟩))
  go_ret
  exact ⟨rfl, (below_drewN (Below.refl _ _) _).trans hb⟩
end Go.Proofs.YtlfnpllojinjdaaDoor
