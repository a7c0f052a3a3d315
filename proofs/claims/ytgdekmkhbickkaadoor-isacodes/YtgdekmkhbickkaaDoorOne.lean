/- one (12), num (9), the law's field (14). -/
import Derived.Test.YtgdekmkhbickkaaDoorDec
namespace Go.Proofs.YtgdekmkhbickkaaDoor
open Go.RowKit
/-- The tables lie where their initialisers laid them. -/
structure Tabs (W : World) : Prop where
  f : Forms W
  t : Tab W
  z : 5 < W.heap.size
theorem Tabs.on {W w : World} (h : Tabs W) (hb : Below W.heap.size W w) : Tabs w := ⟨h.f.below hb (by have := h.z; omega), h.t.below hb h.z, by have := hb.size; have := h.z; omega⟩
theorem one_enc : enc ⟨4, 0, 1, 2, 3, 0⟩ = 273203200 ∧ chk ⟨4, 0, 1, 2, 3, 0⟩ = 0 := by decide +kernel
theorem num_any (W : World) (x : Int) : Calls Tryd.prog 9 #[.int .i64 x] W fun e W' => e = .returned (.int .i64 x) ∧ W = W' := by
  go_enter Tryd.func9, Tryd.ntmps9
  go_wp2
  go_ret
  exact ⟨rfl, rfl⟩
theorem one_any (W : World) (hT : Tabs W) : Calls Tryd.prog 12 #[] W fun e W' => e = .returned (.bool true) ∧ Below W.heap.size W W' := by
  have HE : Hid (Calls Tryd.prog 10 #[.agg #[.int .i64 4, .int .i64 0, .int .i64 1, .int .i64 2, .int .i64 3, .int .i32 0]] W fun e W' => e = .returned (.tuple #[.int .u32 273203200, .int .i64 0]) ∧ Below W.heap.size W W') := by
    have := encode_any W hT.f hT.t hT.z ⟨4, 0, 1, 2, 3, 0⟩ (by decide) (by decide)
    rw [one_enc.1, one_enc.2] at this
    exact this
  clear hT
  go_enter Tryd.func12, Tryd.ntmps12
  go_wp2_with (first | (go_at_call 10; refine HE.out.mono ?_; rintro e w1 ⟨rfl, hb1⟩) | (go_at_call 9; refine (num_any _ _).mono ?_; rintro e w2 ⟨rfl, rfl⟩))
  go_ret
  exact ⟨rfl, hb1⟩
theorem lfield_any (W : World) (w : Int) (w0 : 0 ≤ w) (w1 : w < 4294967296) (lo n : Nat) (hl : (lo : Int) < 32) (hn : (n : Int) < 32) :
    Calls Tryd.prog 14 #[.int .u32 w, .int .i64 (lo : Int), .int .i64 (n : Int)] W fun e W' => e = .returned (.int .i64 (M.Fld w lo n)) ∧ W = W' := by
  have hp := M.two_pos n
  have hq : (2 : Int) ^ n ≤ 4294967296 := by have := M.two_le (show n ≤ 32 by omega); rw [M.two_32] at this; exact this
  have hq' : (2 : Int) ^ n < 4294967296 := by have := M.two_le (show n ≤ 31 by omega); omega
  have h := M.cut_eq w lo n w0 w1 (by omega)
  have f := M.fld_bounds w lo n (by omega)
  have H : Hid (bits .and .u32 (w / 2 ^ lo) (2 ^ n - 1) = M.Fld w lo n) := h
  have HF : Hid (wrap64 (M.Fld w lo n) = M.Fld w lo n) := fld_w w lo n (by omega)
  clear h f
  go_enter Tryd.func14, Tryd.ntmps14
  go_wp2
  go_ret
  exact ⟨ret_int (by rw [H.out, HF.out]), rfl⟩
end Go.Proofs.YtgdekmkhbickkaaDoor
