/- MemRefuses (3). -/
import Derived.Test.YtnmdhnbgikbpoaaR3
import Derived.Deep.DeepCutAuto
namespace Go.Proofs.Ytnmdhnbgikbpoaa
open Go.RowKit
set_option maxRecDepth 40000 in
set_option maxHeartbeats 8000000 in
theorem refuses_any (w : World) (s : Bool) (p oo se ins : Int) (ao : Option Addr) (n c : Nat) (hn : n ≤ 9223372036854775807) :
    Calls Try.prog 3 #[.agg #[.bool s, .int .i64 p], .int .i64 oo, .int .i64 se, .int .i64 ins, .slice ao n c] w fun x w' => x = .returned (.bool true) ∧ Below w.heap.size w w' := by
  have HC0 := hid (Cel.new w 23 [.bool s, .int .i64 p])
  have HB0 := hid (below_one w (.cells #[.bool s, .int .i64 p] 23))
  by_cases hf : (1 ≤ se ∧ se ≤ 64 ∧ 1 ≤ ins ∧ ins ≤ 64)
  · obtain ⟨h1, h2, h3, h4⟩ := hf
    obtain ⟨a, rfl⟩ := Int.eq_ofNat_of_zero_le (show 0 ≤ se by omega)
    obtain ⟨b, rfl⟩ := Int.eq_ofNat_of_zero_le (show 0 ≤ ins by omega)
    have HN := hid (new_any (w.alloc (.cells #[.bool s, .int .i64 p] 23)) a b (by omega) (by omega) (by omega) (by omega))
    go_enter Try.func3, Try.ntmps3
    go_wp2_with fail
    refine HN.out.mono ?_
    rintro x wk ⟨f0, rfl, hm⟩
    have HK := hid (below_on HB0.out hm.below)
    have HC := hid (HC0.out.on hm.below)
    clear hm HN HB0 HC0
    generalize w.alloc _ = X at *
    simp only [ptr]
    go_upto_region 2 with fail
    go_cut [13] from 37 to 50 (fun r w1 => w1 = wk ∧ r = .bool true)
    case first =>
      go_wp2_with fail
      go_meet
      exact ⟨rfl, rfl⟩
    case rest =>
      obtain ⟨rfl, rfl⟩ := hcut
      exact (‹∀ (a : Act) (w : World), Code.wp Try.prog _ _ a w → _› _ _ (tail3y HK.out HC.out hn))
  · have HN := hid (new_no (w.alloc (.cells #[.bool s, .int .i64 p] 23)) se ins hf)
    have h4 : se < 1 ∨ (1 ≤ se ∧ 64 < se) ∨ (1 ≤ se ∧ se ≤ 64 ∧ ins < 1) ∨ (1 ≤ se ∧ se ≤ 64 ∧ 1 ≤ ins ∧ 64 < ins) := by omega
    have H4 := hid h4
    clear hf h4
    go_enter Try.func3, Try.ntmps3
    go_wp2_with fail
    refine HN.out.mono ?_
    rintro x wk ⟨rfl, rfl⟩
    clear HN
    generalize w.alloc _ = X at *
    go_upto_region 2 with fail
    go_cut [13] from 37 to 50 (fun r w1 => w1 = X ∧ r = .bool false)
    case first =>
      rcases H4.out with h | ⟨h1, h2⟩ | ⟨h1, h2, h3⟩ | ⟨h1, h2, h3, h4⟩
      all_goals clear H4
      all_goals go_wp2_with fail
      all_goals go_meet
      all_goals exact ⟨rfl, by first | rfl | (simp <;> omega)⟩
    case rest =>
      obtain ⟨rfl, rfl⟩ := hcut
      exact (‹∀ (a : Act) (w : World), Code.wp Try.prog _ _ a w → _› _ _ (tail3n HB0.out HC0.out hn))
end Go.Proofs.Ytnmdhnbgikbpoaa
