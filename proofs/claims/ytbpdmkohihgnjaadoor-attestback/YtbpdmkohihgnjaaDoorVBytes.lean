import Derived.Test.YtbpdmkohihgnjaaDoorVHead
import Derived.BigRegion
namespace Go.Proofs.YtbpdmkohihgnjaaDoor.V
set_option maxRecDepth 100000
open Go.RowKit

def byteW (w : Int) : List Int := [M.Fld w 24 8, M.Fld w 16 8, M.Fld w 8 8, M.Fld w 0 8]
def bytesD (xs : List Int) : List Int := (xs.map byteW).flatten
theorem bytesD_length (xs : List Int) : (bytesD xs).length = 4 * xs.length := by
  induction xs with
  | nil => rfl
  | cons x xs ih => simp only [bytesD, List.map_cons, List.flatten_cons, List.length_append] at ih ⊢; rw [ih]; simp [byteW]; omega
theorem bytesD_at (xs : List Int) (i j : Nat) (hi : i < xs.length) (hj : j < 4) : (bytesD xs).getD (4 * i + j) 0 = M.Fld (xs.getD i 0) (24 - 8 * j) 8 := by
  unfold bytesD
  rw [flat_getD byteW 4 (fun _ => rfl) xs i j hi hj]
  generalize xs.getD i 0 = x
  match j, hj with
  | 0, _ | 1, _ | 2, _ | 3, _ => rfl

theorem Filled.row {W wr : World} {k : IntKind} {e : TypeId} {N : Nat} {D : List Int} (h : Filled W wr k e N D N) : Row wr k W.heap.size 0 D := by
  intro i hi
  have := h.cell i (by rw [← h.len]; exact hi)
  rw [← h.len, fill_all] at this
  rw [Nat.zero_add]
  exact this
theorem Filled.lt {W wr : World} {k : IntKind} {e : TypeId} {N : Nat} {D : List Int} {t : Nat} (h : Filled W wr k e N D t) : W.heap.size < wr.heap.size := (h.own.lt W.heap.size rfl).2

set_option maxHeartbeats 400000 in
theorem bytes_any (W : World) (hT : Tab W) (b off n cap : Nat) (xs : List Int) (hx : xs.length = n) (wx : Wds xs) (h1 : Row W .u32 b off xs) (hn : 4 * n ≤ 140737488351232) (hb : b < W.heap.size) (h0 : 0 < W.heap.size) :
    Calls Tryd.prog 13 #[.slice (some ⟨b, off, none⟩) n cap] W fun e W' => e = .returned (.slice (some ⟨W.heap.size, 0, none⟩) (4 * n) (4 * n)) ∧ Filled W W' .u8 5 (4 * n) (bytesD xs) (4 * n) := by
  obtain ⟨i0, hi, hz0, hz1, hz2⟩ := info_parts Tryd.info5
  have hL := bytesD_length xs
  rw [hx] at hL
  go_enter Tryd.func13, Tryd.ntmps13
  go_wp2_with (first | (at_make; refine wpList_make_full _ rfl _ _ 30 rfl W.heap.size 5 i0 (.int .u8 0) 1 Tryd.underlying30 hi hz0 hz1 .i64 .i64 _ _ (4 * n) rfl rfl (by push_cast; rfl) (by push_cast; rfl) ?c1 ?c2 (Nat.le_refl _) ?_))
  case c1 => rw [hz2]; omega
  case c2 => unfold maxLen; omega
  intro w' hown hg
  have F0 := Filled.start hL hown hg
  clear hown hg hi hz0 hz1 hz2
  go_wp2
  go_loopw [12] (fun i wr => ∃ k : Nat, k ≤ n ∧ i = .int .i64 k ∧ Filled W wr .u8 5 (4 * n) (bytesD xs) (4 * k)) (fun i _ => n - (intOf i).toNat)
  case atStart => exact ⟨0, Nat.zero_le _, rfl, F0⟩
  case round =>
    obtain ⟨i, hin, rfl, F⟩ := hrel
    by_cases hlt : i < n
    · go_wp2
      go_loopw [15] (fun j wr => ∃ k : Nat, k ≤ 4 ∧ j = .int .i64 k ∧ Filled W wr .u8 5 (4 * n) (bytesD xs) (4 * i + k)) (fun j _ => 4 - (intOf j).toNat)
      case atStart => exact ⟨0, Nat.zero_le _, rfl, F⟩
      case round =>
        clear F
        obtain ⟨j, hj8, rfl, F⟩ := hrel
        by_cases hjlt : j < 4
        · have hc := h1.below F.below hb i (by omega)
          have hT' := hT.below F.below h0
          obtain ⟨q0, q1⟩ := wx i
          have hcell := F.cell (4 * i + j) (by omega)
          have hfree := F.free (4 * i + j)
          have HD := bytesD_at xs i j (by omega) hjlt
          generalize xs.getD i 0 = x at *
          obtain ⟨f0, f1, _⟩ := M.fld_bounds x (24 - 8 * j) 8 (by decide)
          rw [show (2 : Int) ^ 8 = 256 from rfl] at f1
          have HS : Hid (∀ (d : Nat), Filled W ((wr.drewN d).setCell ⟨W.heap.size, 4 * i + j, none⟩ (.int .u8 (M.Fld x (24 - 8 * j) 8))) .u8 5 (4 * n) (bytesD xs) (4 * i + (j + 1))) :=
            fun d => (F.drewN d).step (by omega) HD.symm
          clear HD F
          go_wp2_with (first | (go_at_call 41; refine (cut_any _ hT' _ _ _ q0 q1 (by omega) (by omega) (by omega) (by omega)).mono ?_; rintro e w' ⟨rfl, d, rfl⟩))
          go_roundw
          case rel => exact ⟨j + 1, by omega, by go_num, HS.out d⟩
          case measure => simp [intOf]; omega
        · obtain rfl : j = 4 := by omega
          go_wp2
          go_roundw
          case rel => exact ⟨i + 1, by omega, by go_num, F⟩
          case measure => simp [intOf]; omega
    · obtain rfl : i = n := by omega
      have HB : Hid (Filled W wr .u8 5 (4 * i) (bytesD xs) (4 * i)) := F
      clear F
      go_wp2
      go_ret
      exact ⟨rfl, HB⟩
theorem bytes_nil (W : World) (ao : Option Addr) (cap : Nat) :
    Calls Tryd.prog 13 #[.slice ao 0 cap] W fun e W' => e = .returned (.slice (some ⟨W.heap.size, 0, none⟩) 0 0) ∧ Filled W W' .u8 5 0 (bytesD []) 0 := by
  obtain ⟨i0, hi, hz0, hz1, hz2⟩ := info_parts Tryd.info5
  go_enter Tryd.func13, Tryd.ntmps13
  go_wp2_with (first | (at_make; refine wpList_make_full _ rfl _ _ 30 rfl W.heap.size 5 i0 (.int .u8 0) 1 Tryd.underlying30 hi hz0 hz1 .i64 .i64 _ _ 0 rfl rfl rfl rfl ?c1 ?c2 (Nat.le_refl _) ?_))
  case c1 => omega
  case c2 => unfold maxLen; omega
  intro w' hown hg
  have F0 := Filled.start (D := bytesD []) rfl hown hg
  clear hown hg hi hz0 hz1 hz2
  go_wp2
  refine wp_loop_rounds 1 ?_
  rw [rounds_succ]
  have HB : Hid (Filled W w' .u8 5 0 (bytesD []) 0) := F0
  clear F0
  go_wp2
  go_ret
  exact ⟨rfl, HB⟩
end Go.Proofs.YtbpdmkohihgnjaaDoor.V
