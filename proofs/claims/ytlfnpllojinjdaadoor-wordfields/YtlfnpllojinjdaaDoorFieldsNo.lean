import Derived.Test.YtlfnpllojinjdaaDoorFields
import Derived.Test.YtlfnpllojinjdaaDoorSumsPre
namespace Go.Proofs.YtlfnpllojinjdaaDoor
open Go.RowKit

set_option maxRecDepth 100000 in
set_option maxHeartbeats 4000000 in
theorem fields_no (W : World) (hT : Tab W) (h0 : 0 < W.heap.size) (w v lo n : Int) (n0 : -9223372036854775808 ≤ n) (n1 : n ≤ 9223372036854775807) (h : ¬ (1 ≤ n ∧ 0 ≤ lo ∧ lo ≤ 32 - n)) :
    Calls Tryd.prog 5 #[.agg #[.int .u32 w, .int .i64 lo, .int .i64 n, .int .u32 v]] W fun e W' => e = .returned (.bool true) ∧ Below W.heap.size W W' := by
  have H : Hid (¬ (1 ≤ n ∧ 0 ≤ lo ∧ lo ≤ 32 - n)) := h
  have HB0 : Below W.heap.size W (W.alloc (.cells #[.int .u32 w, .int .i64 lo, .int .i64 n, .int .u32 v] 49)) := (Below.refl W.heap.size W).alloc (Nat.le_refl _) _
  rcases (show n < 1 ∨ (1 ≤ n ∧ 32 < n) ∨ (1 ≤ n ∧ n ≤ 32 ∧ lo < 0) ∨ (1 ≤ n ∧ n ≤ 32 ∧ 0 ≤ lo ∧ 31 < lo) ∨ (1 ≤ n ∧ n ≤ 32 ∧ 0 ≤ lo ∧ lo ≤ 31 ∧ 32 - lo < n) by omega) with c | ⟨c1, c2⟩ | ⟨c1, c2, c3⟩ | ⟨c1, c2, c3, c4⟩ | ⟨c1, c2, c3, c4, c5⟩
  all_goals clear h
  all_goals
    go_enter Tryd.func5, Tryd.ntmps5
    go_wp2_with fail
    go_quiet (fail)
    go_wp2_with fail
    refine (head_any _ ((hT.alloc h0 _).drewN _) (by simp)).mono ?_
    rintro e w1' ⟨rfl, hb1⟩
    have hb2 := (below_drewN HB0 _).trans (hb1.mono (by simp))
    clear hb1 HB0 hT
    go_wp2_with (first | (go_at_call 21; refine (field_no _ _ _ _ n0 n1 H.out).mono ?_; rintro e w' ⟨rfl, rfl⟩) | (go_at_call 22; refine (setField_no _ _ _ _ _ n0 n1 H.out).mono ?_; rintro e w' ⟨rfl, rfl⟩))
    go_ret
    exact ⟨rfl, hb2⟩
end Go.Proofs.YtlfnpllojinjdaaDoor
