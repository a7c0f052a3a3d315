/- The contracts of the leaves of package word: fields, moves, sums. -/
import Derived.Test.YteldpapacdbbiaaGreatDoorChecked
import Derived.Test.YteldpapacdbbiaaGreatDoorMath
import Derived.WalkKit
import Derived.WalkSpells
import Derived.WalkLawsBesides
import Derived.Deep.QuietTactic
import Derived.BigQuiet
import Derived.Handy
namespace Go.Proofs.YteldpapacdbbiaaGreatDoor.I
open Go.RowKit

/-- The table of masks lies where its initialiser laid it. -/
def Tab (W : World) : Prop := ∀ i : Nat, i ≤ 32 → W.cell? ⟨3, i, none⟩ = some (.int .u32 (2 ^ i - 1))
theorem Tab.drewN {W : World} (h : Tab W) (k : Nat) : Tab (W.drewN k) := fun i hi => (World.cell?_drewN W k _).trans (h i hi)
theorem Tab.below {W w : World} {B : Nat} (h : Tab W) (hb : Below B W w) (hB : 3 < B) : Tab w := fun i hi => (hb.cell (p := ⟨3, i, none⟩) hB).trans (h i hi)
theorem ret_int {k : IntKind} {a b : Int} (h : a = b) : Ending.returned (.int k a) = .returned (.int k b) := by rw [h]
theorem ret_bool {a b : Bool} (h : a = b) : Ending.returned (.bool a) = .returned (.bool b) := by rw [h]

theorem cut_any (W : World) (hT : Tab W) (w lo n : Int) (w0 : 0 ≤ w) (w1 : w < 4294967296) (l0 : 0 ≤ lo) (n0 : 0 ≤ n) (hn : n ≤ 32) (l1 : lo ≤ 31) :
    Calls Tryz.prog 76 #[.int .u32 w, .int .i64 lo, .int .i64 n] W fun e W' => e = .returned (.int .u32 (M.Fld w lo.toNat n.toNat)) ∧ ∃ k, W' = W.drewN k := by
  obtain ⟨l, rfl⟩ := Int.eq_ofNat_of_zero_le l0
  obtain ⟨m, rfl⟩ := Int.eq_ofNat_of_zero_le n0
  have h := hT m (by omega)
  have H : Hid (bits .and .u32 (w / 2 ^ l) (2 ^ m - 1) = M.Fld w l m) := M.cut_eq w l m w0 w1 (by omega)
  clear hT
  go_enter Tryz.func76, Tryz.ntmps76
  go_wp2
  go_quiet (fail)
  go_wp2
  go_ret
  exact ⟨ret_int (by rw [Int.toNat_natCast, Int.toNat_natCast]; exact H.out), _, rfl⟩

theorem mayBe_yes (W : World) (lo n : Int) (h0 : 1 ≤ n) (h1 : 0 ≤ lo) (h2 : lo ≤ 32 - n) :
    Calls Tryz.prog 75 #[.int .i64 lo, .int .i64 n] W fun e W' => e = .returned (.bool true) ∧ W = W' := by
  go_enter Tryz.func75, Tryz.ntmps75
  go_wp2
  all_goals go_ret
  all_goals exact ⟨rfl, rfl⟩
theorem field_yes (W : World) (hT : Tab W) (w lo n : Int) (w0 : 0 ≤ w) (w1 : w < 4294967296) (h0 : 1 ≤ n) (h1 : 0 ≤ lo) (h2 : lo ≤ 32 - n) :
    Calls Tryz.prog 44 #[.int .u32 w, .int .i64 lo, .int .i64 n] W fun e W' => e = .returned (.int .u32 (M.Fld w lo.toNat n.toNat)) ∧ ∃ k, W' = W.drewN k := by
  go_enter Tryz.func44, Tryz.ntmps44
  go_wp2_with (first | (go_at_call 75; refine (mayBe_yes _ _ _ h0 h1 h2).mono ?_; rintro e w' ⟨rfl, rfl⟩) | (go_at_call 76; refine (cut_any _ hT _ _ _ w0 w1 h1 (by omega) (by omega) (by omega)).mono ?_; rintro e w' ⟨rfl, k, rfl⟩))
  go_ret
  exact ⟨rfl, _, rfl⟩
theorem setField_yes (W : World) (hT : Tab W) (w lo n v : Int) (w0 : 0 ≤ w) (w1 : w < 4294967296) (v0 : 0 ≤ v) (v1 : v < 4294967296) (h0 : 1 ≤ n) (h1 : 0 ≤ lo) (h2 : lo ≤ 32 - n) :
    Calls Tryz.prog 80 #[.int .u32 w, .int .i64 lo, .int .i64 n, .int .u32 v] W fun e W' => e = .returned (.int .u32 (M.SetF w lo.toNat n.toNat v)) ∧ W = W' := by
  obtain ⟨l, rfl⟩ := Int.eq_ofNat_of_zero_le h1
  obtain ⟨m, rfl⟩ := Int.eq_ofNat_of_zero_le (show 0 ≤ n by omega)
  have hc := hT m (by omega)
  have H : Hid (_ = M.SetF w l m v) := M.setF_eq w l m v w0 w1 v0 v1 (by omega)
  clear hT
  go_enter Tryz.func80, Tryz.ntmps80
  go_wp2_with (first | (go_at_call 75; refine (mayBe_yes _ _ _ h0 h1 h2).mono ?_; rintro e w' ⟨rfl, rfl⟩))
  go_ret
  exact ⟨ret_int (by rw [Int.toNat_natCast, Int.toNat_natCast]; exact H.out), rfl⟩
theorem extend_yes (W : World) (hT : Tab W) (w n : Int) (w0 : 0 ≤ w) (w1 : w < 4294967296) (h0 : 1 ≤ n) (h2 : n ≤ 32) :
    Calls Tryz.prog 78 #[.int .u32 w, .int .i64 n] W fun e W' => e = .returned (.int .i32 (M.Ext w n.toNat)) ∧ ∃ k, W' = W.drewN k := by
  obtain ⟨m, rfl⟩ : ∃ m : Nat, n = (m : Int) + 1 := ⟨(n - 1).toNat, by omega⟩
  have hc := hT (m + 1) (by omega)
  have hd := hT m (by omega)
  have hs := M.ext_sign (m + 1) (by omega) (by omega)
  have ha := M.and_low w (m + 1) w0 w1 (by omega)
  have h := (M.ext_eq w (m + 1) (by omega) (by omega)).1
  rw [Nat.add_sub_cancel] at hs h
  rw [show ((m : Int) + 1).toNat = m + 1 by omega]
  have H : Hid (_ = M.Ext w (m + 1)) := h
  clear hT h
  go_enter Tryz.func78, Tryz.ntmps78
  go_wp2_with (first | (go_at_call 75; refine (mayBe_yes _ _ _ h0 (by decide) (by omega)).mono ?_; rintro e w' ⟨rfl, rfl⟩))
  go_quiet (fail)
  go_wp2
  go_ret
  exact ⟨ret_int H.out, _, rfl⟩
end Go.Proofs.YteldpapacdbbiaaGreatDoor.I
