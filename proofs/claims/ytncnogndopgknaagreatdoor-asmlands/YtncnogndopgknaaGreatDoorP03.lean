import Derived.Test.YtncnogndopgknaaGreatDoorP02
import Derived.Test.YtncnogndopgknaaGreatDoorChecked
import Derived.Test.YtncnogndopgknaaGreatDoorP01
import Derived.WalkKit
import Derived.WalkSpells
import Derived.WalkLawsBesides
import Derived.Deep.QuietTactic
import Derived.BigQuiet
import Derived.Handy
namespace Go.Proofs.YtncnogndopgknaaGreatDoor
open Go.RowKit
def AtB (W : World) (ao : Option Addr) (l : List UInt8) : Prop := l = [] ∨ ∃ b off, ao = some ⟨b, off, none⟩ ∧ b < W.heap.size ∧ ∀ i (h : i < l.length), W.cell? ⟨b, off + i, none⟩ = some (.int .u8 (l[i].toNat : Int))
theorem hexD_at (n : Nat) (h : n < 16) (hp : n < (⟨#[48, 49, 50, 51, 52, 53, 54, 55, 56, 57, 97, 98, 99, 100, 101, 102]⟩ : ByteArray).size) : ((⟨#[48, 49, 50, 51, 52, 53, 54, 55, 56, 57, 97, 98, 99, 100, 101, 102]⟩ : ByteArray)[n]'hp) = T.hexD n := by
  revert n
  decide +kernel

theorem HB.drew {W wr : World} {v : Value} {l : List UInt8} (h : HB W wr v l) : HB W wr.drew v l := ⟨h.own, h.below.drew⟩
theorem HB.conv {W w : World} {v : Value} {l : List UInt8} (h : HB W w v l) : ∃ ao cap, v = .slice ao l.length cap ∧ (convert 91 9 (.slice ao l.length cap)).run Tryz.prog w = .ok (.string ⟨l.toArray⟩) w := by
  rcases h.own.2 with ⟨hv, h0⟩ | ⟨g, cap, cur, hv, _⟩
  · have hl : l = [] := List.eq_nil_of_length_eq_zero h0
    refine ⟨none, 0, by rw [hv, h0], ?_⟩
    rw [hl, List.length_nil, run_convert_bytes_string (P := Tryz.prog) w 91 9 5 none 0 0 Tryz.underlying91 Tryz.underlying5 Tryz.underlying9]
    rfl
  · exact ⟨some ⟨g, 0, none⟩, cap, hv, run_convert_bytes_back (P := Tryz.prog) w 91 9 5 ⟨g, 0, none⟩ cap l Tryz.underlying91 Tryz.underlying5 Tryz.underlying9 (fun j hj => h.own.cells (g := g) (by rw [hv]; rfl) j _ (by simp [Lib.byteCells, hj]))⟩
end Go.Proofs.YtncnogndopgknaaGreatDoor
namespace Go.Proofs.YtncnogndopgknaaGreatDoor
open Go.RowKit

def Tab (W : World) : Prop := ∀ i : Nat, i ≤ 32 → W.cell? ⟨3, i, none⟩ = some (.int .u32 (2 ^ i - 1))
theorem Tab.drewN {W : World} (h : Tab W) (k : Nat) : Tab (W.drewN k) := fun i hi => (World.cell?_drewN W k _).trans (h i hi)
theorem Tab.below {W w : World} {B : Nat} (h : Tab W) (hb : Below B W w) (hB : 5 < B) : Tab w := fun i hi => (hb.cell (p := ⟨3, i, none⟩) (show 3 < B by omega)).trans (h i hi)

theorem cut_any (W : World) (hT : Tab W) (w lo n : Int) (w0 : 0 ≤ w) (w1 : w < 4294967296) (l0 : 0 ≤ lo) (n0 : 0 ≤ n) (hn : n ≤ 32) (l1 : lo ≤ 31) :
    Calls Tryz.prog 71 #[.int .u32 w, .int .i64 lo, .int .i64 n] W fun e W' => e = .returned (.int .u32 (M.Fld w lo.toNat n.toNat)) ∧ ∃ k, W' = W.drewN k := by
  obtain ⟨l, rfl⟩ := Int.eq_ofNat_of_zero_le l0
  obtain ⟨m, rfl⟩ := Int.eq_ofNat_of_zero_le n0
  have h := hT m (by omega)
  have H : Hid (bits .and .u32 (w / 2 ^ l) (2 ^ m - 1) = M.Fld w l m) := M.cut_eq w l m w0 w1 (by omega)
  clear hT
  go_enter Tryz.func71, Tryz.ntmps71
  go_wp2
  go_quiet (fail)
  go_wp2
  go_ret
  exact ⟨ret_int (by rw [Int.toNat_natCast, Int.toNat_natCast]; exact H.out), _, rfl⟩

theorem mayBe_yes (W : World) (lo n : Int) (h0 : 1 ≤ n) (h1 : 0 ≤ lo) (h2 : lo ≤ 32 - n) :
    Calls Tryz.prog 70 #[.int .i64 lo, .int .i64 n] W fun e W' => e = .returned (.bool true) ∧ W = W' := by
  go_enter Tryz.func70, Tryz.ntmps70
  go_wp2
  all_goals go_ret
  all_goals exact ⟨rfl, rfl⟩
theorem field_yes (W : World) (hT : Tab W) (w lo n : Int) (w0 : 0 ≤ w) (w1 : w < 4294967296) (h0 : 1 ≤ n) (h1 : 0 ≤ lo) (h2 : lo ≤ 32 - n) :
    Calls Tryz.prog 46 #[.int .u32 w, .int .i64 lo, .int .i64 n] W fun e W' => e = .returned (.int .u32 (M.Fld w lo.toNat n.toNat)) ∧ ∃ k, W' = W.drewN k := by
  go_enter Tryz.func46, Tryz.ntmps46
  go_wp2_with (first | (go_at_call 70; refine (mayBe_yes _ _ _ h0 h1 h2).mono ?_; rintro e w' ⟨rfl, rfl⟩) | (go_at_call 71; refine (cut_any _ hT _ _ _ w0 w1 h1 (by omega) (by omega) (by omega)).mono ?_; rintro e w' ⟨rfl, k, rfl⟩))
  go_ret
  exact ⟨rfl, _, rfl⟩
theorem setField_yes (W : World) (hT : Tab W) (w lo n v : Int) (w0 : 0 ≤ w) (w1 : w < 4294967296) (v0 : 0 ≤ v) (v1 : v < 4294967296) (h0 : 1 ≤ n) (h1 : 0 ≤ lo) (h2 : lo ≤ 32 - n) :
    Calls Tryz.prog 43 #[.int .u32 w, .int .i64 lo, .int .i64 n, .int .u32 v] W fun e W' => e = .returned (.int .u32 (M.SetF w lo.toNat n.toNat v)) ∧ W = W' := by
  obtain ⟨l, rfl⟩ := Int.eq_ofNat_of_zero_le h1
  obtain ⟨m, rfl⟩ := Int.eq_ofNat_of_zero_le (show 0 ≤ n by omega)
  have hc := hT m (by omega)
  have H : Hid (_ = M.SetF w l m v) := M.setF_eq w l m v w0 w1 v0 v1 (by omega)
  clear hT
  go_enter Tryz.func43, Tryz.ntmps43
  go_wp2_with (first | (go_at_call 70; refine (mayBe_yes _ _ _ h0 h1 h2).mono ?_; rintro e w' ⟨rfl, rfl⟩))
  go_ret
  exact ⟨ret_int (by rw [Int.toNat_natCast, Int.toNat_natCast]; exact H.out), rfl⟩
theorem extend_yes (W : World) (hT : Tab W) (w n : Int) (w0 : 0 ≤ w) (w1 : w < 4294967296) (h0 : 1 ≤ n) (h2 : n ≤ 32) :
    Calls Tryz.prog 72 #[.int .u32 w, .int .i64 n] W fun e W' => e = .returned (.int .i32 (M.Ext w n.toNat)) ∧ ∃ k, W' = W.drewN k := by
  obtain ⟨m, rfl⟩ : ∃ m : Nat, n = (m : Int) + 1 := ⟨(n - 1).toNat, by omega⟩
  have hc := hT (m + 1) (by omega)
  have hd := hT m (by omega)
  have hs := M.ext_sign (m + 1) (by omega) (by omega)
  have ha := M.and_low w (m + 1) w0 w1 (by omega)
  have h := (M.ext_eq w (m + 1) (by omega) (by omega)).1
  rw [Nat.add_sub_cancel] at hs h
  rw [show ((m : Int) + 1).toNat = m + 1 by omega]
  have H : Hid (_ = M.Ext w (m + 1)) := h
  clear hT h
  go_enter Tryz.func72, Tryz.ntmps72
  go_wp2_with (first | (go_at_call 70; refine (mayBe_yes _ _ _ h0 (by decide) (by omega)).mono ?_; rintro e w' ⟨rfl, rfl⟩))
  go_quiet (fail)
  go_wp2
  go_ret
  exact ⟨ret_int H.out, _, rfl⟩
end Go.Proofs.YtncnogndopgknaaGreatDoor
