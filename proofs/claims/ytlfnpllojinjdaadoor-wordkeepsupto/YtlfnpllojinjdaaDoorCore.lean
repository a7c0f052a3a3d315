/- The contracts of the leaves of package word: fields, moves, sums. -/
import Derived.Test.YtlfnpllojinjdaaDoorChecked
import Derived.Test.YtlfnpllojinjdaaDoorMath
import Derived.WalkKit
import Derived.WalkSpells
import Derived.WalkLawsBesides
import Derived.Deep.QuietTactic
import Derived.BigQuiet
import Derived.Handy
namespace Go.Proofs.YtlfnpllojinjdaaDoor
open Go.RowKit

/-- The table of masks lies where its initialiser laid it. -/
def Tab (W : World) : Prop := ∀ i : Nat, i ≤ 32 → W.cell? ⟨0, i, none⟩ = some (.int .u32 (2 ^ i - 1))
theorem Tab.drewN {W : World} (h : Tab W) (k : Nat) : Tab (W.drewN k) := fun i hi => (World.cell?_drewN W k _).trans (h i hi)
theorem Tab.below {W w : World} {B : Nat} (h : Tab W) (hb : Below B W w) (hB : 0 < B) : Tab w := fun i hi => (hb.cell (p := ⟨0, i, none⟩) hB).trans (h i hi)
theorem ret_int {k : IntKind} {a b : Int} (h : a = b) : Ending.returned (.int k a) = .returned (.int k b) := by rw [h]
theorem ret_bool {a b : Bool} (h : a = b) : Ending.returned (.bool a) = .returned (.bool b) := by rw [h]

theorem cut_any (W : World) (hT : Tab W) (w lo n : Int) (w0 : 0 ≤ w) (w1 : w < 4294967296) (l0 : 0 ≤ lo) (n0 : 0 ≤ n) (hn : n ≤ 32) (l1 : lo ≤ 31) :
    Calls Tryd.prog 35 #[.int .u32 w, .int .i64 lo, .int .i64 n] W fun e W' => e = .returned (.int .u32 (M.Fld w lo.toNat n.toNat)) ∧ ∃ k, W' = W.drewN k := by
  obtain ⟨l, rfl⟩ := Int.eq_ofNat_of_zero_le l0
  obtain ⟨m, rfl⟩ := Int.eq_ofNat_of_zero_le n0
  have h := hT m (by omega)
  have H : Hid (bits .and .u32 (w / 2 ^ l) (2 ^ m - 1) = M.Fld w l m) := M.cut_eq w l m w0 w1 (by omega)
  clear hT
  go_enter Tryd.func35, Tryd.ntmps35
  go_wp2
  go_quiet (fail)
  go_wp2
  go_ret
  exact ⟨ret_int (by rw [Int.toNat_natCast, Int.toNat_natCast]; exact H.out), _, rfl⟩

theorem mayBe_yes (W : World) (lo n : Int) (h0 : 1 ≤ n) (h1 : 0 ≤ lo) (h2 : lo ≤ 32 - n) :
    Calls Tryd.prog 37 #[.int .i64 lo, .int .i64 n] W fun e W' => e = .returned (.bool true) ∧ W = W' := by
  go_enter Tryd.func37, Tryd.ntmps37
  go_wp2
  all_goals go_ret
  all_goals exact ⟨rfl, rfl⟩
theorem mayBe_no (W : World) (lo n : Int) (h1 : -9223372036854775808 ≤ n) (h2 : n ≤ 9223372036854775807) (h : ¬ (1 ≤ n ∧ 0 ≤ lo ∧ lo ≤ 32 - n)) :
    Calls Tryd.prog 37 #[.int .i64 lo, .int .i64 n] W fun e W' => e = .returned (.bool false) ∧ W = W' := by
  by_cases a : 1 ≤ n
  · by_cases b : 0 ≤ lo
    · have c : 32 - n < lo := by omega
      clear h
      go_enter Tryd.func37, Tryd.ntmps37
      go_wp2
      go_ret
      exact ⟨ret_bool (decide_eq_false (by omega)), rfl⟩
    · have c : lo < 0 := by omega
      clear h
      go_enter Tryd.func37, Tryd.ntmps37
      go_wp2
      go_ret
      exact ⟨rfl, rfl⟩
  · have c : n < 1 := by omega
    clear h
    go_enter Tryd.func37, Tryd.ntmps37
    go_wp2
    go_ret
    exact ⟨rfl, rfl⟩

theorem field_yes (W : World) (hT : Tab W) (w lo n : Int) (w0 : 0 ≤ w) (w1 : w < 4294967296) (h0 : 1 ≤ n) (h1 : 0 ≤ lo) (h2 : lo ≤ 32 - n) :
    Calls Tryd.prog 21 #[.int .u32 w, .int .i64 lo, .int .i64 n] W fun e W' => e = .returned (.int .u32 (M.Fld w lo.toNat n.toNat)) ∧ ∃ k, W' = W.drewN k := by
  go_enter Tryd.func21, Tryd.ntmps21
  go_wp2_with (first | (go_at_call 37; refine (mayBe_yes _ _ _ h0 h1 h2).mono ?_; rintro e w' ⟨rfl, rfl⟩) | (go_at_call 35; refine (cut_any _ hT _ _ _ w0 w1 h1 (by omega) (by omega) (by omega)).mono ?_; rintro e w' ⟨rfl, k, rfl⟩))
  go_ret
  exact ⟨rfl, _, rfl⟩
theorem field_no (W : World) (w lo n : Int) (h1 : -9223372036854775808 ≤ n) (h2 : n ≤ 9223372036854775807) (h : ¬ (1 ≤ n ∧ 0 ≤ lo ∧ lo ≤ 32 - n)) :
    Calls Tryd.prog 21 #[.int .u32 w, .int .i64 lo, .int .i64 n] W fun e W' => e = .returned (.int .u32 0) ∧ W = W' := by
  have H : Hid (¬ (1 ≤ n ∧ 0 ≤ lo ∧ lo ≤ 32 - n)) := h
  clear h
  go_enter Tryd.func21, Tryd.ntmps21
  go_wp2_with (first | (go_at_call 37; refine (mayBe_no _ _ _ h1 h2 H.out).mono ?_; rintro e w' ⟨rfl, rfl⟩))
  go_ret
  exact ⟨rfl, rfl⟩

theorem setField_yes (W : World) (hT : Tab W) (w lo n v : Int) (w0 : 0 ≤ w) (w1 : w < 4294967296) (v0 : 0 ≤ v) (v1 : v < 4294967296) (h0 : 1 ≤ n) (h1 : 0 ≤ lo) (h2 : lo ≤ 32 - n) :
    Calls Tryd.prog 22 #[.int .u32 w, .int .i64 lo, .int .i64 n, .int .u32 v] W fun e W' => e = .returned (.int .u32 (M.SetF w lo.toNat n.toNat v)) ∧ W = W' := by
  obtain ⟨l, rfl⟩ := Int.eq_ofNat_of_zero_le h1
  obtain ⟨m, rfl⟩ := Int.eq_ofNat_of_zero_le (show 0 ≤ n by omega)
  have hc := hT m (by omega)
  have H : Hid (_ = M.SetF w l m v) := M.setF_eq w l m v w0 w1 v0 v1 (by omega)
  clear hT
  go_enter Tryd.func22, Tryd.ntmps22
  go_wp2_with (first | (go_at_call 37; refine (mayBe_yes _ _ _ h0 h1 h2).mono ?_; rintro e w' ⟨rfl, rfl⟩))
  go_ret
  exact ⟨ret_int (by rw [Int.toNat_natCast, Int.toNat_natCast]; exact H.out), rfl⟩
theorem setField_no (W : World) (w lo n v : Int) (h1 : -9223372036854775808 ≤ n) (h2 : n ≤ 9223372036854775807) (h : ¬ (1 ≤ n ∧ 0 ≤ lo ∧ lo ≤ 32 - n)) :
    Calls Tryd.prog 22 #[.int .u32 w, .int .i64 lo, .int .i64 n, .int .u32 v] W fun e W' => e = .returned (.int .u32 w) ∧ W = W' := by
  have H : Hid (¬ (1 ≤ n ∧ 0 ≤ lo ∧ lo ≤ 32 - n)) := h
  clear h
  go_enter Tryd.func22, Tryd.ntmps22
  go_wp2_with (first | (go_at_call 37; refine (mayBe_no _ _ _ h1 h2 H.out).mono ?_; rintro e w' ⟨rfl, rfl⟩))
  go_ret
  exact ⟨rfl, rfl⟩

theorem add32_any (W : World) (a b c : Int) (ha0 : 0 ≤ a) (ha : a < 4294967296) (hb0 : 0 ≤ b) (hb : b < 4294967296) (hc0 : 0 ≤ c) (hc : c < 2) :
    Calls Tryd.prog 34 #[.int .u32 a, .int .u32 b, .int .u32 c] W fun e W' => e = .returned (.tuple #[.int .u32 ((a + b + c) % 4294967296), .int .u32 ((a + b + c) / 4294967296)]) ∧ W = W' := by
  go_enter Tryd.func34, Tryd.ntmps34
  go_wp2
  go_ret2
  exact ⟨rfl, rfl⟩
theorem add_any (W : World) (a b c : Int) (ha0 : 0 ≤ a) (ha : a < 4294967296) (hb0 : 0 ≤ b) (hb : b < 4294967296) (hc0 : 0 ≤ c) (hc : c < 4294967296) :
    Calls Tryd.prog 9 #[.int .u32 a, .int .u32 b, .int .u32 c] W fun e W' => e = .returned (.tuple #[.int .u32 ((a + b + c % 2) % 4294967296), .int .u32 ((a + b + c % 2) / 4294967296)]) ∧ W = W' := by
  have h1 : bits .and .u32 c 1 = c % 2 := M.and_low c 1 hc0 hc (by decide)
  go_enter Tryd.func9, Tryd.ntmps9
  go_wp2_with (first | (go_at_call 34; refine (add32_any _ _ _ _ ha0 ha hb0 hb (by omega) (by omega)).mono ?_; rintro e w' ⟨rfl, rfl⟩))
  go_ret2
  exact ⟨rfl, rfl⟩
theorem div_any (W : World) (a b : Int) (ha0 : 0 ≤ a) (ha : a < 4294967296) (hb0 : 0 ≤ b) (hb : b < 4294967296) :
    Calls Tryd.prog 10 #[.int .u32 a, .int .u32 b] W fun e W' => e = .returned (.int .u32 (if b = 0 then 4294967295 else a / b)) ∧ W = W' := by
  by_cases h : b = 0
  · subst h
    go_enter Tryd.func10, Tryd.ntmps10
    go_wp2
    go_ret
    exact ⟨rfl, rfl⟩
  · have h' : (b == 0) = false := by simpa using h
    go_enter Tryd.func10, Tryd.ntmps10
    go_wp2
    go_ret
    exact ⟨rfl, rfl⟩
theorem less_any (W : World) (a b : Int) :
    Calls Tryd.prog 11 #[.int .u32 a, .int .u32 b] W fun e W' => e = .returned (.bool (decide (wrap32 a < wrap32 b))) ∧ W = W' := by
  go_enter Tryd.func11, Tryd.ntmps11
  go_wp2
  go_ret
  exact ⟨rfl, rfl⟩
theorem overlap_any (W : World) (a n b m : Int) (ha0 : 0 ≤ a) (ha : a < 4294967296) (hb0 : 0 ≤ b) (hb : b < 4294967296) (hn0 : 0 ≤ n) (hn : n < 4294967296) (hm0 : 0 ≤ m) (hm : m < 4294967296) :
    Calls Tryd.prog 12 #[.int .u32 a, .int .u32 n, .int .u32 b, .int .u32 m] W fun e W' => e = .returned (.bool (decide (a < a + n ∧ a < b + m ∧ b < a + n ∧ b < b + m))) ∧ W = W' := by
  by_cases h1 : a < b
  all_goals by_cases h2 : b + m < a + n
  all_goals
    go_enter Tryd.func12, Tryd.ntmps12
    go_wp2
    go_ret
    exact ⟨ret_bool (Bool.eq_iff_iff.2 (by simp only [decide_eq_true_eq, Bool.and_eq_true]; omega)), rfl⟩
theorem left_any (W : World) (a b : Int) (hb0 : 0 ≤ b) :
    Calls Tryd.prog 24 #[.int .u32 a, .int .u32 b] W fun e W' => e = .returned (.int .u32 (a * 2 ^ min b.toNat 32 % 4294967296)) ∧ W = W' := by
  go_enter Tryd.func24, Tryd.ntmps24
  go_wp2
  go_ret
  exact ⟨rfl, rfl⟩
theorem right_any (W : World) (a b : Int) (hb0 : 0 ≤ b) :
    Calls Tryd.prog 23 #[.int .u32 a, .int .u32 b] W fun e W' => e = .returned (.int .u32 (a / 2 ^ min b.toNat 32)) ∧ W = W' := by
  go_enter Tryd.func23, Tryd.ntmps23
  go_wp2
  go_ret
  exact ⟨rfl, rfl⟩
theorem arith_any (W : World) (a b : Int) (hb0 : 0 ≤ b) :
    Calls Tryd.prog 27 #[.int .u32 a, .int .u32 b] W fun e W' => e = .returned (.int .u32 (wrap32 a / 2 ^ min b.toNat 32 % 4294967296)) ∧ W = W' := by
  go_enter Tryd.func27, Tryd.ntmps27
  go_wp2
  go_ret
  exact ⟨rfl, rfl⟩
theorem rotate_any (W : World) (a b : Int) (ha0 : 0 ≤ a) (ha : a < 4294967296) :
    Calls Tryd.prog 25 #[.int .u32 a, .int .i64 b] W fun e W' => e = .returned (.int .u32 (M.Rot a (b % 32).toNat)) ∧ W = W' := by
  obtain ⟨k, hk⟩ := Int.eq_ofNat_of_zero_le (Int.emod_nonneg b (show (32 : Int) ≠ 0 by decide))
  have h1 : bits .and .u32 (b % 4294967296) 31 = (k : Int) := by
    have := M.and_low (b % 4294967296) 5 (by omega) (by omega) (by decide)
    rw [show (2 : Int) ^ 5 - 1 = 31 from by decide] at this
    rw [this]; omega
  have hk31 : k ≤ 31 := by omega
  have H : Hid (_ = M.Rot a k) := M.rot_eq a k ha0 ha hk31
  rw [hk, Int.toNat_natCast]
  clear hk
  go_enter Tryd.func25, Tryd.ntmps25
  go_wp2
  go_ret
  exact ⟨ret_int H.out, rfl⟩
theorem extend_yes (W : World) (hT : Tab W) (w n : Int) (w0 : 0 ≤ w) (w1 : w < 4294967296) (h0 : 1 ≤ n) (h2 : n ≤ 32) :
    Calls Tryd.prog 26 #[.int .u32 w, .int .i64 n] W fun e W' => e = .returned (.int .i32 (M.Ext w n.toNat)) ∧ ∃ k, W' = W.drewN k := by
  obtain ⟨m, rfl⟩ : ∃ m : Nat, n = (m : Int) + 1 := ⟨(n - 1).toNat, by omega⟩
  have hc := hT (m + 1) (by omega)
  have hd := hT m (by omega)
  have hs := M.ext_sign (m + 1) (by omega) (by omega)
  have ha := M.and_low w (m + 1) w0 w1 (by omega)
  have h := (M.ext_eq w (m + 1) (by omega) (by omega)).1
  rw [Nat.add_sub_cancel] at hs h
  rw [show ((m : Int) + 1).toNat = m + 1 by omega]
  have H : Hid (_ = M.Ext w (m + 1)) := h
  clear hT h
  go_enter Tryd.func26, Tryd.ntmps26
  go_wp2_with (first | (go_at_call 37; refine (mayBe_yes _ _ _ h0 (by decide) (by omega)).mono ?_; rintro e w' ⟨rfl, rfl⟩))
  go_quiet (fail)
  go_wp2
  go_ret
  exact ⟨ret_int H.out, _, rfl⟩
theorem extend_no (W : World) (w n : Int) (h1 : -9223372036854775808 ≤ n) (h2 : n ≤ 9223372036854775807) (h : ¬ (1 ≤ n ∧ n ≤ 32)) :
    Calls Tryd.prog 26 #[.int .u32 w, .int .i64 n] W fun e W' => e = .returned (.int .i32 0) ∧ W = W' := by
  have H : Hid (¬ (1 ≤ n ∧ (0 : Int) ≤ 0 ∧ (0 : Int) ≤ 32 - n)) := fun c => h (by omega)
  clear h
  go_enter Tryd.func26, Tryd.ntmps26
  go_wp2_with (first | (go_at_call 37; refine (mayBe_no _ _ _ h1 h2 H.out).mono ?_; rintro e w' ⟨rfl, rfl⟩))
  go_ret
  exact ⟨rfl, rfl⟩
end Go.Proofs.YtlfnpllojinjdaaDoor
