import Derived.Test.YtialckmoigcdeaaSame
import Derived.Laws.StructEq
namespace Go.Proofs.Ytialckmoigcdeaa
open Go.RowKit

attribute [-simp] Try.isAgg23 Try.sizeOf23 Try.zeroValue23
set_option maxRecDepth 20000 in
theorem macSame_any (W : World) (xs ys : List Int) (hx : xs.length = 8) (hy : ys.length = 8) (wx : Wds xs) (wy : Wds ys) :
    Calls Try.prog 4 #[.agg (xs.map (Value.int .u32)).toArray, .agg (ys.map (Value.int .u32)).toArray] W fun e W' => e = .returned (.tuple #[.bool (decide (xs = ys)), .int .i64 8]) ∧ Below W.heap.size W W' := by
  have B1 : Blk ((W.alloc (Obj.cells (List.map (Value.int IntKind.u32) xs).toArray 23)).alloc (Obj.cells (List.map (Value.int IntKind.u32) ys).toArray 23)) W.heap.size .u32 23 xs := (Blk.new W .u32 23 xs).alloc _
  have B2 : Blk ((W.alloc (Obj.cells (List.map (Value.int IntKind.u32) xs).toArray 23)).alloc (Obj.cells (List.map (Value.int IntKind.u32) ys).toArray 23)) (W.heap.size + 1) .u32 23 ys := Blk.newAt (by simp) .u32 23 ys
  have HB : Below W.heap.size W ((W.alloc (Obj.cells (List.map (Value.int IntKind.u32) xs).toArray 23)).alloc (Obj.cells (List.map (Value.int IntKind.u32) ys).toArray 23)) := (below_one W _).alloc (by simp) _
  go_enter Try.func4, Try.ntmps4
  go_wp2_with fail
  generalize ((W.alloc (Obj.cells (List.map (Value.int IntKind.u32) xs).toArray 23)).alloc (Obj.cells (List.map (Value.int IntKind.u32) ys).toArray 23)) = X at *
  have SM : Hid (∀ n, Calls Try.prog 6 #[.slice (some ⟨W.heap.size, 0, none⟩) 8 8, .slice (some ⟨W.heap.size + 1, 0, none⟩) 8 8] (X.drewN n) fun e W' => e = .returned (.tuple #[.bool (decide (xs = ys)), .int .i64 8]) ∧ ∃ m, W' = X.drewN m) := by
    intro n
    refine (same_like _ _ _ _ _ 8 8 8 xs ys hx hy wx wy (B1.row.drewN n) (B2.row.drewN n) (by decide)).mono ?_
    rintro e w ⟨rfl, k, rfl⟩
    exact ⟨rfl, _, World.drewN_drewN _ _ _⟩
  clear B1 B2 wx wy hx hy
  obtain ⟨r, hr⟩ : ∃ r, decide (xs = ys) = r := ⟨_, rfl⟩
  have HR : Hid (decide (xs = ys) = r) := hr
  rw [hr] at SM
  clear hr
  go_quiet (first | (go_at_call 6; exact SM.out _))
  go_wp2
  go_ret2
  exact ⟨by rw [HR.out]; rfl, below_drewN HB _⟩

theorem within_any (W : World) (x : Int) :
    Calls Try.prog 5 #[.int .i64 x, .int .i64 0, .int .i64 255] W fun e W' => (∃ r : Nat, r < 256 ∧ e = .returned (.int .i64 (r : Int))) ∧ W = W' := by
  have b1 : x.tmod 256 < 256 := Int.tmod_lt_of_pos x (by decide)
  have b2 : -256 < x.tmod 256 := by
    have := Int.tmod_lt_of_pos (-x) (show (0 : Int) < 256 by decide)
    rw [Int.neg_tmod] at this
    omega
  obtain ⟨t, ht⟩ : ∃ t, x.tmod 256 = t := ⟨_, rfl⟩
  rw [ht] at b1 b2
  by_cases hneg : t < 0
  · have HR : Hid (∃ r : Nat, r < 256 ∧ t + 256 = (r : Int)) := ⟨(t + 256).toNat, by omega, by omega⟩
    go_enter Try.func5, Try.ntmps5
    go_wp2
    go_ret
    obtain ⟨r, hr1, hr2⟩ := HR.out
    exact ⟨⟨r, hr1, ret_int (by omega)⟩, rfl⟩
  · have HR : Hid (∃ r : Nat, r < 256 ∧ t = (r : Int)) := ⟨t.toNat, by omega, by omega⟩
    go_enter Try.func5, Try.ntmps5
    go_wp2
    go_ret
    obtain ⟨r, hr1, hr2⟩ := HR.out
    exact ⟨⟨r, hr1, ret_int (by omega)⟩, rfl⟩
end Go.Proofs.Ytialckmoigcdeaa
