import Derived.Test.YtialckmoigcdeaaDoorBase
namespace Go.Proofs.YtialckmoigcdeaaDoor
open Go.RowKit

theorem left_any (W : World) (x : Int) (k : Nat) (h0 : 1 ≤ k) (h1 : k ≤ 31) :
    Calls Tryd.prog 64 #[.int .u32 x, .int .i64 (-(k : Int))] W fun e W' => e = .returned (.int .u32 (S.rot x k)) ∧ W = W' := by
  have h : bits .and .u64 (18446744073709551616 - (k : Int)) 31 = ((32 - k : Nat) : Int) := by
    have : ∀ k : Fin 32, 1 ≤ k.val → bits .and .u64 (18446744073709551616 - (k.val : Int)) 31 = ((32 - k.val : Nat) : Int) := by decide +kernel
    exact this ⟨k, by omega⟩ h0
  have e1 : IntKind.u64.wrap (-(k : Int)) = 18446744073709551616 - (k : Int) := by rw [IntKind.wrap_u64]; omega
  have e2 : (32 : Int) - ((32 - k : Nat) : Int) = (k : Int) := by omega
  go_enter Tryd.func64, Tryd.ntmps64
  go_wp2
  go_ret
  exact ⟨rfl, rfl⟩
theorem right_any (W : World) (x : Int) (k : Nat) (h0 : 1 ≤ k) (h1 : k ≤ 31) :
    Calls Tryd.prog 62 #[.int .u32 x, .int .i64 (k : Int)] W fun e W' => e = .returned (.int .u32 (S.rot x k)) ∧ W = W' := by
  go_enter Tryd.func62, Tryd.ntmps62
  go_wp2_with (first | (go_at_call 64; refine (left_any _ x k h0 h1).mono ?_; rintro e w' ⟨rfl, rfl⟩))
  go_ret
  exact ⟨rfl, rfl⟩
theorem rot_any (W : World) (x : Int) (z : Int) (k : Nat) (hz : z = k) (h0 : 1 ≤ k) (h1 : k ≤ 31) :
    Calls Tryd.prog 62 #[.int .u32 x, .int .i64 z] W fun e W' => e = .returned (.int .u32 (S.rot x k)) ∧ W = W' := by
  subst hz
  exact right_any W x k h0 h1

theorem quiet_same {P : Program} {f : FuncId} {args : Array Value} {w : World} {n : Nat} {v : Value}
    (h : Calls P f args (w.drewN n) fun e w' => e = .returned v ∧ w.drewN n = w') : Calls P f args (w.drewN n) fun e w'' => e = .returned v ∧ ∃ m, w'' = w.drewN m :=
  h.mono fun _ _ ⟨he, hm⟩ => ⟨he, n, hm.symm⟩
attribute [-simp] Tryd.isAgg26 Tryd.sizeOf26
set_option maxRecDepth 20000 in
set_option maxHeartbeats 2000000 in
theorem round_eight (W : World) (a b c d e f g h x : Int) :
    Calls Tryd.prog 57 #[.agg #[.int .u32 a, .int .u32 b, .int .u32 c, .int .u32 d, .int .u32 e, .int .u32 f, .int .u32 g, .int .u32 h], .int .u32 x] W fun en W' => en = .returned (Ag (S.round [a, b, c, d, e, f, g, h] x)) ∧ Below W.heap.size W W' := by
  have R : Hid (∀ (w : World) (x : Int) (z : Int) (k : Nat), z = k → 1 ≤ k → k ≤ 31 → Calls Tryd.prog 62 #[.int .u32 x, .int .i64 z] w fun e W' => e = .returned (.int .u32 (S.rot x k)) ∧ w = W') := rot_any
  have HB := below_one W (Obj.cells #[.int .u32 a, .int .u32 b, .int .u32 c, .int .u32 d, .int .u32 e, .int .u32 f, .int .u32 g, .int .u32 h] 26)
  have hsg : (if IntKind.u32.signed = true then (-1 : Int) else IntKind.u32.max) = 4294967295 := by decide
  go_enter Tryd.func57, Tryd.ntmps57
  go_wp2
  go_quiet (fail)
  go_wp2
  have c7 : (World.drewN ((W.alloc (Obj.cells #[.int .u32 a, .int .u32 b, .int .u32 c, .int .u32 d, .int .u32 e, .int .u32 f, .int .u32 g, .int .u32 h] 26)).alloc (Obj.cells #[.int .u32 0, .int .u32 0, .int .u32 0, .int .u32 0, .int .u32 0, .int .u32 0, .int .u32 0, .int .u32 0] 26)) nq).cell? ⟨W.heap.size, 7, none⟩ = some (.int .u32 h) := by simp
  have c3 : (World.drewN ((W.alloc (Obj.cells #[.int .u32 a, .int .u32 b, .int .u32 c, .int .u32 d, .int .u32 e, .int .u32 f, .int .u32 g, .int .u32 h] 26)).alloc (Obj.cells #[.int .u32 0, .int .u32 0, .int .u32 0, .int .u32 0, .int .u32 0, .int .u32 0, .int .u32 0, .int .u32 0] 26)) nq).cell? ⟨W.heap.size, 3, none⟩ = some (.int .u32 d) := by simp
  have b0 : Blk (World.drewN ((W.alloc (Obj.cells #[.int .u32 a, .int .u32 b, .int .u32 c, .int .u32 d, .int .u32 e, .int .u32 f, .int .u32 g, .int .u32 h] 26)).alloc (Obj.cells #[.int .u32 0, .int .u32 0, .int .u32 0, .int .u32 0, .int .u32 0, .int .u32 0, .int .u32 0, .int .u32 0] 26)) nq) (W.heap.size + 1) .u32 26 [0, 0, 0, 0, 0, 0, 0, 0] := by
    have := (Blk.new (W.alloc (Obj.cells #[.int .u32 a, .int .u32 b, .int .u32 c, .int .u32 d, .int .u32 e, .int .u32 f, .int .u32 g, .int .u32 h] 26)) .u32 26 [0, 0, 0, 0, 0, 0, 0, 0]).drewN nq
    simpa using this
  have HX : Below W.heap.size W (World.drewN ((W.alloc (Obj.cells #[.int .u32 a, .int .u32 b, .int .u32 c, .int .u32 d, .int .u32 e, .int .u32 f, .int .u32 g, .int .u32 h] 26)).alloc (Obj.cells #[.int .u32 0, .int .u32 0, .int .u32 0, .int .u32 0, .int .u32 0, .int .u32 0, .int .u32 0, .int .u32 0] 26)) nq) := below_drewN (HB.alloc (by simp) _) nq
  generalize World.drewN _ nq = X at *
  have B0 : Hid (∀ n, Blk (X.drewN n) (W.heap.size + 1) .u32 26 [0, 0, 0, 0, 0, 0, 0, 0]) := fun n => b0.drewN n
  have HX' : Hid _ := HX
  clear HX b0 HB
  go_quiet (first | (go_at_call_of 62 (Value.int .i64 6); exact quiet_same (R.out _ _ _ 6 rfl (by decide) (by decide))) | (go_at_call_of 62 (Value.int .i64 11); exact quiet_same (R.out _ _ _ 11 rfl (by decide) (by decide))) | (go_at_call_of 62 (Value.int .i64 25); exact quiet_same (R.out _ _ _ 25 rfl (by decide) (by decide))))
  go_wp2_with (first | (refine wpList_store_blk rfl 26 _ _ rfl (W.heap.size + 1) (S.round [a, b, c, d, e, f, g, h] x) rfl rfl (B0.out _) size26 rfl ?_) | (go_at_call_of 62 (Value.int .i64 2); refine (R.out _ _ _ 2 rfl (by decide) (by decide)).mono ?_; rintro en w' ⟨rfl, rfl⟩) | (go_at_call_of 62 (Value.int .i64 13); refine (R.out _ _ _ 13 rfl (by decide) (by decide)).mono ?_; rintro en w' ⟨rfl, rfl⟩) | (go_at_call_of 62 (Value.int .i64 22); refine (R.out _ _ _ 22 rfl (by decide) (by decide)).mono ?_; rintro en w' ⟨rfl, rfl⟩))
  refine ret_cell rfl rfl (W.heap.size + 1) (S.round [a, b, c, d, e, f, g, h] x) rfl ((B0.out _).setRow _) Tryd.underlying26 size26 ⟨rfl, ?_⟩
  exact below_setRow (below_drewN HX'.out _) (by omega) _
theorem round_any (W : World) (L : List Int) (x : Int) (hL : L.length = 8) :
    Calls Tryd.prog 57 #[Ag L, .int .u32 x] W fun en W' => en = .returned (Ag (S.round L x)) ∧ Below W.heap.size W W' := by
  match L, hL with
  | [a, b, c, d, e, f, g, h], _ => exact round_eight W a b c d e f g h x
end Go.Proofs.YtialckmoigcdeaaDoor
