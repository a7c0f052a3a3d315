import Derived.Test.YtbpdmkohihgnjaaDoorVMathVCoreVSame
import Derived.BigRegion
namespace Go.Proofs.YtbpdmkohihgnjaaDoor.V
set_option maxRecDepth 100000
open Go.RowKit

theorem Tryd.info5 : (Tryd.prog.info? 5).map (fun i => (i.zero, i.size, i.bytes)) = some (some (.int .u8 0), 1, 1) := by kernel_rfl
theorem Tryd.info22 : (Tryd.prog.info? 22).map (fun i => (i.zero, i.size, i.bytes)) = some (some (.int .u32 0), 1, 4) := by kernel_rfl

/-- The first t of D's numbers, zeros behind them. -/
def fill (D : List Int) (t : Nat) : List Int := D.take t ++ List.replicate (D.length - t) 0
theorem fill_length (D : List Int) (t : Nat) (h : t ≤ D.length) : (fill D t).length = D.length := by simp [fill]; omega
theorem fill_zero (D : List Int) : fill D 0 = List.replicate D.length 0 := by simp [fill]
theorem fill_all (D : List Int) : fill D D.length = D := by simp [fill]
theorem fill_set (D : List Int) (t : Nat) (h : t < D.length) : (fill D t).set t (D.getD t 0) = fill D (t + 1) := by
  unfold fill
  rw [List.set_append_right _ _ (by simp; omega)]
  rw [List.take_succ_eq_append_getElem h, List.append_assoc]
  congr 1
  obtain ⟨m, hm⟩ : ∃ m, D.length - t = m + 1 := ⟨D.length - t - 1, by omega⟩
  rw [hm, List.replicate_succ, show t - (D.take t).length = 0 by simp; omega, List.set_cons_zero, show D.length - (t + 1) = m by omega]
  simp [List.getD_eq_getElem?_getD, h]

/-- A row of the call's own, filled as far as t. -/
structure Filled (W wr : World) (k : IntKind) (e : TypeId) (N : Nat) (D : List Int) (t : Nat) : Prop where
  len : D.length = N
  le : t ≤ N
  own : wr.ownsRow W.heap.size e 1 (.slice (some ⟨W.heap.size, 0, none⟩) N N) N ((fill D t).map (Value.int k))
  below : Below W.heap.size W wr
theorem Filled.cell {W wr : World} {k : IntKind} {e : TypeId} {N : Nat} {D : List Int} {t : Nat} (h : Filled W wr k e N D t) (j : Nat) (hj : j < N) : wr.cell? ⟨W.heap.size, j, none⟩ = some (.int k ((fill D t).getD j 0)) := by
  rw [h.own.cellAt j (by omega)]
  have := fill_length D t (by rw [h.len]; exact h.le)
  have := h.len
  simp [List.getD_eq_getElem?_getD, show j < (fill D t).length by omega]
theorem Filled.free {W wr : World} {k : IntKind} {e : TypeId} {N : Nat} {D : List Int} {t : Nat} (h : Filled W wr k e N D t) (j : Nat) : wr.frozen? ⟨W.heap.size, j, none⟩ = false := h.own.frozenAt j
theorem Filled.drewN {W wr : World} {k : IntKind} {e : TypeId} {N : Nat} {D : List Int} {t : Nat} (h : Filled W wr k e N D t) (d : Nat) : Filled W (wr.drewN d) k e N D t :=
  ⟨h.len, h.le, h.own, below_drewN h.below d⟩
theorem Filled.step {W wr : World} {k : IntKind} {e : TypeId} {N : Nat} {D : List Int} {t : Nat} (h : Filled W wr k e N D t) (ht : t < N) {u : Int} (hu : u = D.getD t 0) : Filled W (wr.setCell ⟨W.heap.size, t, none⟩ (.int k u)) k e N D (t + 1) := by
  subst hu
  refine ⟨h.len, ht, ?_, h.below.setCell (Nat.le_refl _) _⟩
  have := (h.own.stored t (.int k (D.getD t 0))).1
  rwa [← List.map_set, fill_set D t (by rw [h.len]; exact ht)] at this
theorem Filled.start {W w : World} {k : IntKind} {e : TypeId} {N : Nat} {D : List Int} (hN : D.length = N) (h : w.ownsRow W.heap.size e 1 (.slice (some ⟨W.heap.size, 0, none⟩) N N) N (madeCells #[Value.int k 0] N).toList) (hg : W.grownBy w none) : Filled W w k e N D 0 := by
  refine ⟨hN, Nat.zero_le _, ?_, (Below.refl _ W).grown hg (Nat.le_refl _) (fun _ h => by cases h)⟩
  rw [toList_madeCells_one] at h
  rw [fill_zero, hN, List.map_replicate]
  exact h

def dig (n : Int) : Int := if n < 10 then 48 + n else 87 + n
def hexW (w : Int) : List Int := [dig (M.Fld w 28 4), dig (M.Fld w 24 4), dig (M.Fld w 20 4), dig (M.Fld w 16 4), dig (M.Fld w 12 4), dig (M.Fld w 8 4), dig (M.Fld w 4 4), dig (M.Fld w 0 4)]
def hexD (xs : List Int) : List Int := (xs.map hexW).flatten
theorem hexD_length (xs : List Int) : (hexD xs).length = 8 * xs.length := by
  induction xs with
  | nil => rfl
  | cons x xs ih => simp only [hexD, List.map_cons, List.flatten_cons, List.length_append] at ih ⊢; rw [ih]; simp [hexW]; omega

theorem flat_getD (f : Int → List Int) (c : Nat) (hf : ∀ x, (f x).length = c) : ∀ (xs : List Int) (i j : Nat), i < xs.length → j < c → ((xs.map f).flatten).getD (c * i + j) 0 = (f (xs.getD i 0)).getD j 0
  | [], i, j, hi, _ => by simp at hi
  | x :: xs, 0, j, _, hj => by
    rw [List.map_cons, List.flatten_cons, Nat.mul_zero, Nat.zero_add]
    simp [List.getD_eq_getElem?_getD, List.getElem?_append_left (show j < (f x).length by rw [hf]; exact hj)]
  | x :: xs, i + 1, j, hi, hj => by
    have ih := flat_getD f c hf xs i j (by simpa using hi) hj
    rw [List.map_cons, List.flatten_cons]
    rw [List.getD_eq_getElem?_getD, List.getElem?_append_right (by rw [hf, Nat.mul_add]; omega), hf, show c * (i + 1) + j - c = c * i + j by rw [Nat.mul_add]; omega, ← List.getD_eq_getElem?_getD, ih]
    simp
theorem hexD_at (xs : List Int) (i j : Nat) (hi : i < xs.length) (hj : j < 8) : (hexD xs).getD (8 * i + j) 0 = dig (M.Fld (xs.getD i 0) (28 - 4 * j) 4) := by
  unfold hexD
  rw [flat_getD hexW 8 (fun _ => rfl) xs i j hi hj]
  generalize xs.getD i 0 = x
  match j, hj with
  | 0, _ | 1, _ | 2, _ | 3, _ | 4, _ | 5, _ | 6, _ | 7, _ => rfl
theorem dig_at (f : Int) (h0 : 0 ≤ f) (h1 : f < 16) (hp : f.toNat < (⟨#[48, 49, 50, 51, 52, 53, 54, 55, 56, 57, 97, 98, 99, 100, 101, 102]⟩ : ByteArray).size) : (((⟨#[48, 49, 50, 51, 52, 53, 54, 55, 56, 57, 97, 98, 99, 100, 101, 102]⟩ : ByteArray)[f.toNat]'hp).toNat : Int) = dig f := by
  obtain ⟨m, rfl⟩ := Int.eq_ofNat_of_zero_le h0
  have hm : m < 16 := by omega
  match m, hm with
  | 0, _ | 1, _ | 2, _ | 3, _ | 4, _ | 5, _ | 6, _ | 7, _ | 8, _ | 9, _ | 10, _ | 11, _ | 12, _ | 13, _ | 14, _ | 15, _ => rfl

set_option maxHeartbeats 400000 in
theorem hexAll_any (W : World) (hT : Tab W) (b off n cap : Nat) (xs : List Int) (hx : xs.length = n) (wx : Wds xs) (h1 : Row W .u32 b off xs) (hn : 4 * n ≤ 140737488351232) (hb : b < W.heap.size) (h0 : 0 < W.heap.size) :
    Calls Tryd.prog 46 #[.slice (some ⟨b, off, none⟩) n cap] W fun e W' => e = .returned (.string (strOfNums (hexD xs))) ∧ Below W.heap.size W W' := by
  obtain ⟨i0, hi, hz0, hz1, hz2⟩ := info_parts Tryd.info5
  have hL := hexD_length xs
  rw [hx] at hL
  go_enter Tryd.func46, Tryd.ntmps46
  go_wp2_with (first | (at_make; refine wpList_make_full _ rfl _ _ 30 rfl W.heap.size 5 i0 (.int .u8 0) 1 Tryd.underlying30 hi hz0 hz1 .i64 .i64 _ _ (8 * n) rfl rfl (by push_cast; rfl) (by push_cast; rfl) ?c1 ?c2 (Nat.le_refl _) ?_))
  case c1 => rw [hz2]; omega
  case c2 => unfold maxLen; omega
  intro w' hown hg
  have F0 := Filled.start hL hown hg
  clear hown hg hi hz0 hz1 hz2
  go_wp2
  go_loopw [12] (fun i wr => ∃ k : Nat, k ≤ n ∧ i = .int .i64 k ∧ Filled W wr .u8 5 (8 * n) (hexD xs) (8 * k)) (fun i _ => n - (intOf i).toNat)
  case atStart => exact ⟨0, Nat.zero_le _, rfl, F0⟩
  case round =>
    obtain ⟨i, hin, rfl, F⟩ := hrel
    by_cases hlt : i < n
    · go_wp2
      go_loopw [15] (fun j wr => ∃ k : Nat, k ≤ 8 ∧ j = .int .i64 k ∧ Filled W wr .u8 5 (8 * n) (hexD xs) (8 * i + k)) (fun j _ => 8 - (intOf j).toNat)
      case atStart => exact ⟨0, Nat.zero_le _, rfl, F⟩
      case round =>
        clear F
        obtain ⟨j, hj8, rfl, F⟩ := hrel
        by_cases hjlt : j < 8
        · have hc := h1.below F.below hb i (by omega)
          have hT' := hT.below F.below h0
          obtain ⟨q0, q1⟩ := wx i
          have hcell := F.cell (8 * i + j) (by omega)
          have hfree := F.free (8 * i + j)
          have HD := hexD_at xs i j (by omega) hjlt
          generalize xs.getD i 0 = x at *
          obtain ⟨f0, f1, _⟩ := M.fld_bounds x (28 - 4 * j) 4 (by decide)
          rw [show (2 : Int) ^ 4 = 16 from rfl] at f1
          have HS : Hid (∀ (d : Nat) hp, Filled W ((wr.drewN d).setCell ⟨W.heap.size, 8 * i + j, none⟩ (.int .u8 (((⟨#[48, 49, 50, 51, 52, 53, 54, 55, 56, 57, 97, 98, 99, 100, 101, 102]⟩ : ByteArray)[(M.Fld x (28 - 4 * j) 4).toNat]'hp).toNat : Int))) .u8 5 (8 * n) (hexD xs) (8 * i + (j + 1))) :=
            fun d hp => (F.drewN d).step (by omega) ((dig_at _ f0 f1 hp).trans HD.symm)
          clear HD F
          go_wp2_with (first | (go_at_call 41; refine (cut_any _ hT' _ _ _ q0 q1 (by omega) (by omega) (by omega) (by omega)).mono ?_; rintro e w' ⟨rfl, d, rfl⟩))
          go_roundw
          case rel => exact ⟨j + 1, by omega, by go_num, HS.out d _⟩
          case measure => simp [intOf]; omega
        · obtain rfl : j = 8 := by omega
          go_wp2
          go_roundw
          case rel => exact ⟨i + 1, by omega, by go_num, F⟩
          case measure => simp [intOf]; omega
    · obtain rfl : i = n := by omega
      have hcv := run_convert_bytes_arg (P := Tryd.prog) wr 30 5 Tryd.underlying30 Tryd.underlying5 W.heap.size 0 (8 * i) (8 * i) (hexD xs) hL (fun j hj => by rw [Nat.zero_add, F.cell j hj, ← hL, fill_all]) 9 Tryd.underlying9
      have HB := F.below
      clear F
      go_wp2
      go_ret
      exact ⟨rfl, HB⟩
end Go.Proofs.YtbpdmkohihgnjaaDoor.V
namespace Go.Proofs.YtbpdmkohihgnjaaDoor.V
set_option maxRecDepth 100000
open Go.RowKit

theorem hexAll_nil (W : World) (ao : Option Addr) (cap : Nat) :
    Calls Tryd.prog 46 #[.slice ao 0 cap] W fun e W' => e = .returned (.string (strOfNums (hexD []))) ∧ Below W.heap.size W W' := by
  obtain ⟨i0, hi, hz0, hz1, hz2⟩ := info_parts Tryd.info5
  go_enter Tryd.func46, Tryd.ntmps46
  go_wp2_with (first | (at_make; refine wpList_make_full _ rfl _ _ 30 rfl W.heap.size 5 i0 (.int .u8 0) 1 Tryd.underlying30 hi hz0 hz1 .i64 .i64 _ _ 0 rfl rfl rfl rfl ?c1 ?c2 (Nat.le_refl _) ?_))
  case c1 => omega
  case c2 => unfold maxLen; omega
  intro w' hown hg
  have F0 := Filled.start (D := []) rfl hown hg
  clear hown hg hi hz0 hz1 hz2
  go_wp2
  refine wp_loop_rounds 1 ?_
  rw [rounds_succ]
  have hcv := run_convert_bytes_arg (P := Tryd.prog) w' 30 5 Tryd.underlying30 Tryd.underlying5 W.heap.size 0 0 0 [] rfl (fun j hj => by omega) 9 Tryd.underlying9
  have HB := F0.below
  clear F0
  go_wp2
  go_ret
  exact ⟨rfl, HB⟩

theorem cell_new (W : World) (C : Array Value) (e : TypeId) (i : Nat) : (W.alloc (.cells C e)).cell? ⟨W.heap.size, i, none⟩ = C[i]? := World.cell?_alloc_mark W C e (0, 0) i
theorem row_new (W : World) (k : IntKind) (e : TypeId) (xs : List Int) (C : Array Value) (hC : C = (xs.map (Value.int k)).toArray) : Row (W.alloc (.cells C e)) k W.heap.size 0 xs := by
  intro i hi
  rw [Nat.zero_add, cell_new, hC]
  simp [List.getD_eq_getElem?_getD, hi]
theorem Tab.alloc {W : World} (h : Tab W) (h0 : 0 < W.heap.size) (o : Obj) : Tab (W.alloc o) := h.below ((Below.refl W.heap.size W).alloc (Nat.le_refl _) o) h0
theorem Row.alloc {W : World} {k : IntKind} {b off : Nat} {xs : List Int} (h : Row W k b off xs) (hb : b < W.heap.size) (o : Obj) : Row (W.alloc o) k b off xs := h.below ((Below.refl W.heap.size W).alloc (Nat.le_refl _) o) hb
theorem wds_one {w : Int} (w0 : 0 ≤ w) (w1 : w < 4294967296) : Wds [w] := by
  intro i
  match i with
  | 0 => exact ⟨w0, w1⟩
  | i + 1 => simp

end Go.Proofs.YtbpdmkohihgnjaaDoor.V
namespace Go.Proofs.YtbpdmkohihgnjaaDoor.V
set_option maxRecDepth 100000
open Go.RowKit

def byteW (w : Int) : List Int := [M.Fld w 24 8, M.Fld w 16 8, M.Fld w 8 8, M.Fld w 0 8]
def bytesD (xs : List Int) : List Int := (xs.map byteW).flatten
theorem bytesD_length (xs : List Int) : (bytesD xs).length = 4 * xs.length := by
  induction xs with
  | nil => rfl
  | cons x xs ih => simp only [bytesD, List.map_cons, List.flatten_cons, List.length_append] at ih ⊢; rw [ih]; simp [byteW]; omega
theorem bytesD_at (xs : List Int) (i j : Nat) (hi : i < xs.length) (hj : j < 4) : (bytesD xs).getD (4 * i + j) 0 = M.Fld (xs.getD i 0) (24 - 8 * j) 8 := by
  unfold bytesD
  rw [flat_getD byteW 4 (fun _ => rfl) xs i j hi hj]
  generalize xs.getD i 0 = x
  match j, hj with
  | 0, _ | 1, _ | 2, _ | 3, _ => rfl

theorem Filled.row {W wr : World} {k : IntKind} {e : TypeId} {N : Nat} {D : List Int} (h : Filled W wr k e N D N) : Row wr k W.heap.size 0 D := by
  intro i hi
  have := h.cell i (by rw [← h.len]; exact hi)
  rw [← h.len, fill_all] at this
  rw [Nat.zero_add]
  exact this
theorem Filled.lt {W wr : World} {k : IntKind} {e : TypeId} {N : Nat} {D : List Int} {t : Nat} (h : Filled W wr k e N D t) : W.heap.size < wr.heap.size := (h.own.lt W.heap.size rfl).2

set_option maxHeartbeats 400000 in
theorem bytes_any (W : World) (hT : Tab W) (b off n cap : Nat) (xs : List Int) (hx : xs.length = n) (wx : Wds xs) (h1 : Row W .u32 b off xs) (hn : 4 * n ≤ 140737488351232) (hb : b < W.heap.size) (h0 : 0 < W.heap.size) :
    Calls Tryd.prog 13 #[.slice (some ⟨b, off, none⟩) n cap] W fun e W' => e = .returned (.slice (some ⟨W.heap.size, 0, none⟩) (4 * n) (4 * n)) ∧ Filled W W' .u8 5 (4 * n) (bytesD xs) (4 * n) := by
  obtain ⟨i0, hi, hz0, hz1, hz2⟩ := info_parts Tryd.info5
  have hL := bytesD_length xs
  rw [hx] at hL
  go_enter Tryd.func13, Tryd.ntmps13
  go_wp2_with (first | (at_make; refine wpList_make_full _ rfl _ _ 30 rfl W.heap.size 5 i0 (.int .u8 0) 1 Tryd.underlying30 hi hz0 hz1 .i64 .i64 _ _ (4 * n) rfl rfl (by push_cast; rfl) (by push_cast; rfl) ?c1 ?c2 (Nat.le_refl _) ?_))
  case c1 => rw [hz2]; omega
  case c2 => unfold maxLen; omega
  intro w' hown hg
  have F0 := Filled.start hL hown hg
  clear hown hg hi hz0 hz1 hz2
  go_wp2
  go_loopw [12] (fun i wr => ∃ k : Nat, k ≤ n ∧ i = .int .i64 k ∧ Filled W wr .u8 5 (4 * n) (bytesD xs) (4 * k)) (fun i _ => n - (intOf i).toNat)
  case atStart => exact ⟨0, Nat.zero_le _, rfl, F0⟩
  case round =>
    obtain ⟨i, hin, rfl, F⟩ := hrel
    by_cases hlt : i < n
    · go_wp2
      go_loopw [15] (fun j wr => ∃ k : Nat, k ≤ 4 ∧ j = .int .i64 k ∧ Filled W wr .u8 5 (4 * n) (bytesD xs) (4 * i + k)) (fun j _ => 4 - (intOf j).toNat)
      case atStart => exact ⟨0, Nat.zero_le _, rfl, F⟩
      case round =>
        clear F
        obtain ⟨j, hj8, rfl, F⟩ := hrel
        by_cases hjlt : j < 4
        · have hc := h1.below F.below hb i (by omega)
          have hT' := hT.below F.below h0
          obtain ⟨q0, q1⟩ := wx i
          have hcell := F.cell (4 * i + j) (by omega)
          have hfree := F.free (4 * i + j)
          have HD := bytesD_at xs i j (by omega) hjlt
          generalize xs.getD i 0 = x at *
          obtain ⟨f0, f1, _⟩ := M.fld_bounds x (24 - 8 * j) 8 (by decide)
          rw [show (2 : Int) ^ 8 = 256 from rfl] at f1
          have HS : Hid (∀ (d : Nat), Filled W ((wr.drewN d).setCell ⟨W.heap.size, 4 * i + j, none⟩ (.int .u8 (M.Fld x (24 - 8 * j) 8))) .u8 5 (4 * n) (bytesD xs) (4 * i + (j + 1))) :=
            fun d => (F.drewN d).step (by omega) HD.symm
          clear HD F
          go_wp2_with (first | (go_at_call 41; refine (cut_any _ hT' _ _ _ q0 q1 (by omega) (by omega) (by omega) (by omega)).mono ?_; rintro e w' ⟨rfl, d, rfl⟩))
          go_roundw
          case rel => exact ⟨j + 1, by omega, by go_num, HS.out d⟩
          case measure => simp [intOf]; omega
        · obtain rfl : j = 4 := by omega
          go_wp2
          go_roundw
          case rel => exact ⟨i + 1, by omega, by go_num, F⟩
          case measure => simp [intOf]; omega
    · obtain rfl : i = n := by omega
      have HB : Hid (Filled W wr .u8 5 (4 * i) (bytesD xs) (4 * i)) := F
      clear F
      go_wp2
      go_ret
      exact ⟨rfl, HB⟩
theorem bytes_nil (W : World) (ao : Option Addr) (cap : Nat) :
    Calls Tryd.prog 13 #[.slice ao 0 cap] W fun e W' => e = .returned (.slice (some ⟨W.heap.size, 0, none⟩) 0 0) ∧ Filled W W' .u8 5 0 (bytesD []) 0 := by
  obtain ⟨i0, hi, hz0, hz1, hz2⟩ := info_parts Tryd.info5
  go_enter Tryd.func13, Tryd.ntmps13
  go_wp2_with (first | (at_make; refine wpList_make_full _ rfl _ _ 30 rfl W.heap.size 5 i0 (.int .u8 0) 1 Tryd.underlying30 hi hz0 hz1 .i64 .i64 _ _ 0 rfl rfl rfl rfl ?c1 ?c2 (Nat.le_refl _) ?_))
  case c1 => omega
  case c2 => unfold maxLen; omega
  intro w' hown hg
  have F0 := Filled.start (D := bytesD []) rfl hown hg
  clear hown hg hi hz0 hz1 hz2
  go_wp2
  refine wp_loop_rounds 1 ?_
  rw [rounds_succ]
  have HB : Hid (Filled W w' .u8 5 0 (bytesD []) 0) := F0
  clear F0
  go_wp2
  go_ret
  exact ⟨rfl, HB⟩
end Go.Proofs.YtbpdmkohihgnjaaDoor.V
namespace Go.Proofs.YtbpdmkohihgnjaaDoor.V
set_option maxRecDepth 100000
open Go.RowKit

/-- A row of the call's own that holds these numbers. -/
structure Owned (W wr : World) (k : IntKind) (e : TypeId) (N : Nat) (L : List Int) : Prop where
  len : L.length = N
  own : wr.ownsRow W.heap.size e 1 (.slice (some ⟨W.heap.size, 0, none⟩) N N) N (L.map (Value.int k))
  below : Below W.heap.size W wr
theorem Owned.cell {W wr : World} {k : IntKind} {e : TypeId} {N : Nat} {L : List Int} (h : Owned W wr k e N L) (j : Nat) (hj : j < N) : wr.cell? ⟨W.heap.size, j, none⟩ = some (.int k (L.getD j 0)) := by
  rw [h.own.cellAt j (by omega)]
  have := h.len
  simp [List.getD_eq_getElem?_getD, show j < L.length by omega]
theorem Owned.free {W wr : World} {k : IntKind} {e : TypeId} {N : Nat} {L : List Int} (h : Owned W wr k e N L) (j : Nat) : wr.frozen? ⟨W.heap.size, j, none⟩ = false := h.own.frozenAt j
theorem Owned.drewN {W wr : World} {k : IntKind} {e : TypeId} {N : Nat} {L : List Int} (h : Owned W wr k e N L) (d : Nat) : Owned W (wr.drewN d) k e N L := ⟨h.len, h.own, below_drewN h.below d⟩
theorem Owned.drew {W wr : World} {k : IntKind} {e : TypeId} {N : Nat} {L : List Int} (h : Owned W wr k e N L) : Owned W wr.drew k e N L := ⟨h.len, h.own, h.below.drew⟩
theorem Owned.step {W wr : World} {k : IntKind} {e : TypeId} {N : Nat} {L L' : List Int} (h : Owned W wr k e N L) (j : Nat) (u : Int) (hL : L.set j u = L') : Owned W (wr.setCell ⟨W.heap.size, j, none⟩ (.int k u)) k e N L' := by
  subst hL
  refine ⟨by simp [h.len], ?_, h.below.setCell (Nat.le_refl _) _⟩
  have := (h.own.stored j (.int k u)).1
  rwa [← List.map_set] at this
theorem Owned.start {W w : World} {k : IntKind} {e : TypeId} {N : Nat} (h : w.ownsRow W.heap.size e 1 (.slice (some ⟨W.heap.size, 0, none⟩) N N) N (madeCells #[Value.int k 0] N).toList) (hg : W.grownBy w none) : Owned W w k e N (List.replicate N 0) := by
  refine ⟨by simp, ?_, (Below.refl _ W).grown hg (Nat.le_refl _) (fun _ h => by cases h)⟩
  rw [toList_madeCells_one] at h
  rw [List.map_replicate]
  exact h
theorem Owned.row {W wr : World} {k : IntKind} {e : TypeId} {N : Nat} {L : List Int} (h : Owned W wr k e N L) : Row wr k W.heap.size 0 L := by
  intro i hi
  rw [Nat.zero_add]
  exact h.cell i (by rw [← h.len]; exact hi)
theorem Owned.lt {W wr : World} {k : IntKind} {e : TypeId} {N : Nat} {L : List Int} (h : Owned W wr k e N L) : W.heap.size < wr.heap.size := (h.own.lt W.heap.size rfl).2
theorem Filled.owned {W wr : World} {k : IntKind} {e : TypeId} {N : Nat} {D : List Int} (h : Filled W wr k e N D N) : Owned W wr k e N D := by
  refine ⟨h.len, ?_, h.below⟩
  have := h.own
  rwa [← h.len, fill_all, h.len] at this

/-- Bytes. -/
def Bts (xs : List Int) : Prop := ∀ i, 0 ≤ xs.getD i 0 ∧ xs.getD i 0 < 256
/-- Word i of the first t bytes. -/
def wordAt (bs : List Int) (t i : Nat) : Int :=
  let f := fun (a : Int) (j : Nat) => if 4 * i + j < t then a * 256 + bs.getD (4 * i + j) 0 else a
  f (f (f (f 0 0) 1) 2) 3
def partW (bs : List Int) (n t : Nat) : List Int := (List.range n).map (wordAt bs t)
def wordsD (bs : List Int) (n : Nat) : List Int := partW bs n (4 * n)
theorem partW_length (bs : List Int) (n t : Nat) : (partW bs n t).length = n := by simp [partW]
theorem partW_getD (bs : List Int) (n t i : Nat) (hi : i < n) : (partW bs n t).getD i 0 = wordAt bs t i := by simp [partW, List.getD_eq_getElem?_getD, hi]
theorem wordAt_zero (bs : List Int) (i : Nat) : wordAt bs 0 i = 0 := by simp [wordAt]
theorem wordAt_other (bs : List Int) (t i : Nat) (h : i ≠ t / 4) : wordAt bs (t + 1) i = wordAt bs t i := by
  have e : ∀ j, j < 4 → (4 * i + j < t + 1 ↔ 4 * i + j < t) := fun j hj => by omega
  simp only [wordAt, e 0 (by decide), e 1 (by decide), e 2 (by decide), e 3 (by decide)]
theorem wordAt_step (bs : List Int) (i j : Nat) (hj : j < 4) : wordAt bs (4 * i + j + 1) i = wordAt bs (4 * i + j) i * 256 + bs.getD (4 * i + j) 0 := by
  match j, hj with
  | 0, _ => simp (disch := omega) only [wordAt, if_pos, if_neg]
  | 1, _ => simp (disch := omega) only [wordAt, if_pos, if_neg]
  | 2, _ => simp (disch := omega) only [wordAt, if_pos, if_neg]
  | 3, _ => simp (disch := omega) only [wordAt, if_pos, if_neg]
theorem wordAt_bound (bs : List Int) (hb : Bts bs) (i j : Nat) (hj : j < 4) : 0 ≤ wordAt bs (4 * i + j) i ∧ wordAt bs (4 * i + j) i < 16777216 := by
  have h0 := hb (4 * i + 0)
  have h1 := hb (4 * i + 1)
  have h2 := hb (4 * i + 2)
  match j, hj with
  | 0, _ => simp (disch := omega) only [wordAt, if_neg]; omega
  | 1, _ => simp (disch := omega) only [wordAt, if_pos, if_neg]; omega
  | 2, _ => simp (disch := omega) only [wordAt, if_pos, if_neg]; omega
  | 3, _ => simp (disch := omega) only [wordAt, if_pos, if_neg]; omega
theorem partW_zero (bs : List Int) (n : Nat) : partW bs n 0 = List.replicate n 0 := by
  apply List.ext_getElem
  · simp [partW]
  · intro i h1 h2
    simp [partW, wordAt_zero]
theorem partW_step (bs : List Int) (n i j : Nat) (hi : i < n) (hj : j < 4) (u : Int) (hu : u = wordAt bs (4 * i + j) i * 256 + bs.getD (4 * i + j) 0) : (partW bs n (4 * i + j)).set i u = partW bs n (4 * i + j + 1) := by
  apply List.ext_getElem
  · simp [partW]
  · intro a h1 h2
    rw [List.getElem_set]
    simp only [partW, List.getElem_map, List.getElem_range]
    split
    · subst_vars
      rw [wordAt_step bs _ j hj]
    · rw [wordAt_other bs _ a (by omega)]
theorem or_byte (x b : Int) (x0 : 0 ≤ x) (x1 : x < 16777216) (b0 : 0 ≤ b) (b1 : b < 256) : bits .or .u32 (x * 256) b = x * 256 + b := by
  rw [u32_or _ _ (by omega) (by omega) b0 (by omega), nat_join 8 _ _ (by omega) (by omega)]
  omega

theorem words_long (W : World) (ao : Option Addr) (N cap : Nat) (h : 1048576 < N) (hN : N ≤ 140737488351232) :
    Calls Tryd.prog 65 #[.slice ao N cap] W fun e W' => e = .returned (.tuple #[.slice none 0 0, .int .i64 2]) ∧ W = W' := by
  go_enter Tryd.func65, Tryd.ntmps65
  go_wp2
  go_ret2
  exact ⟨rfl, rfl⟩
theorem words_part (W : World) (ao : Option Addr) (N cap : Nat) (h : N ≤ 1048576) (h4 : N % 4 ≠ 0) :
    Calls Tryd.prog 65 #[.slice ao N cap] W fun e W' => e = .returned (.tuple #[.slice none 0 0, .int .i64 11]) ∧ W = W' := by
  have h' : ((N : Int) % 4 != 0) = true := by simp; omega
  go_enter Tryd.func65, Tryd.ntmps65
  go_wp2
  go_ret2
  exact ⟨rfl, rfl⟩
set_option maxHeartbeats 400000 in
theorem words_any (W : World) (b off n cap : Nat) (bs : List Int) (hl : bs.length = 4 * n) (hbs : Bts bs) (h1 : Row W .u8 b off bs) (hn : 4 * n ≤ 1048576) (hb : b < W.heap.size) :
    Calls Tryd.prog 65 #[.slice (some ⟨b, off, none⟩) (4 * n) cap] W fun e W' => e = .returned (.tuple #[.slice (some ⟨W.heap.size, 0, none⟩) n n, .int .i64 0]) ∧ Owned W W' .u32 22 n (wordsD bs n) := by
  obtain ⟨i0, hi, hz0, hz1, hz2⟩ := info_parts Tryd.info22
  have h4 : (((4 * n : Nat) : Int) % 4 != 0) = false := by simp
  have h5 : ((4 * n : Nat) : Int) / 4 = (n : Int) := by omega
  go_enter Tryd.func65, Tryd.ntmps65
  go_wp2_with (first | (at_make; refine wpList_make_full _ rfl _ _ 25 rfl W.heap.size 22 i0 (.int .u32 0) 1 Tryd.underlying25 hi hz0 hz1 .i64 .i64 _ _ n rfl rfl (by omega) (by omega) ?c1 ?c2 (Nat.le_refl _) ?_))
  case c1 => rw [hz2]; omega
  case c2 => unfold maxLen; omega
  intro w' hown hg
  have F0 := Owned.start hown hg
  rw [← partW_zero bs n] at F0
  clear hown hg hi hz0 hz1 hz2
  go_wp2
  go_loopw [19] (fun i wr => ∃ t : Nat, t ≤ 4 * n ∧ i = .int .i64 t ∧ Owned W wr .u32 22 n (partW bs n t)) (fun i _ => 4 * n - (intOf i).toNat)
  case atStart => exact ⟨0, Nat.zero_le _, rfl, F0⟩
  case round =>
    obtain ⟨t, ht, rfl, F⟩ := hrel
    by_cases hlt : t < 4 * n
    · have hc := h1.below F.below hb t (by omega)
      obtain ⟨q0, q1⟩ := hbs t
      obtain ⟨x0, x1⟩ := wordAt_bound bs hbs (t / 4) (t % 4) (by omega)
      have hps := partW_step bs n (t / 4) (t % 4) (by omega) (by omega)
      rw [show 4 * (t / 4) + t % 4 = t by omega] at x0 x1 hps
      have hcell := F.cell (t / 4) (by omega)
      rw [partW_getD bs n _ (t / 4) (by omega)] at hcell
      have hfree := F.free (t / 4)
      have hor : Hid _ := or_byte _ _ x0 x1 q0 q1
      have HS : Hid (∀ u, u = wordAt bs t (t / 4) * 256 + bs.getD t 0 → Owned W (wr.drew.setCell ⟨W.heap.size, t / 4, none⟩ (.int .u32 u)) .u32 22 n (partW bs n (t + 1))) :=
        fun u hu => F.drew.step (t / 4) u (hps u hu)
      clear F hps
      generalize wordAt bs t (t / 4) = x at *
      generalize bs.getD t 0 = y at *
      go_wp2
      go_region
      go_wp2
      go_roundw
      case rel => exact ⟨t + 1, by omega, by go_num, HS.out _ hor.out⟩
      case measure => simp [intOf]; omega
    · obtain rfl : t = 4 * n := by omega
      have HB : Hid (Owned W wr .u32 22 n (wordsD bs n)) := F
      clear F
      go_wp2
      go_ret2
      exact ⟨rfl, HB⟩
theorem words_nil (W : World) (ao : Option Addr) (cap : Nat) :
    Calls Tryd.prog 65 #[.slice ao 0 cap] W fun e W' => e = .returned (.tuple #[.slice (some ⟨W.heap.size, 0, none⟩) 0 0, .int .i64 0]) ∧ Owned W W' .u32 22 0 [] := by
  obtain ⟨i0, hi, hz0, hz1, hz2⟩ := info_parts Tryd.info22
  go_enter Tryd.func65, Tryd.ntmps65
  go_wp2_with (first | (at_make; refine wpList_make_full _ rfl _ _ 25 rfl W.heap.size 22 i0 (.int .u32 0) 1 Tryd.underlying25 hi hz0 hz1 .i64 .i64 _ _ 0 rfl rfl rfl rfl ?c1 ?c2 (Nat.le_refl _) ?_))
  case c1 => omega
  case c2 => unfold maxLen; omega
  intro w' hown hg
  have HB : Hid (Owned W w' .u32 22 0 []) := Owned.start hown hg
  clear hown hg hi hz0 hz1 hz2
  go_wp2
  refine wp_loop_rounds 1 ?_
  rw [rounds_succ]
  go_wp2
  go_ret2
  exact ⟨rfl, HB⟩

/-- Words as bytes and back. -/
theorem words_bytes (xs : List Int) (wx : Wds xs) : wordsD (bytesD xs) xs.length = xs := by
  apply List.ext_getElem
  · simp [wordsD, partW]
  · intro i h1 h2
    have e : xs[i] = xs.getD i 0 := by simp [List.getD_eq_getElem?_getD, h2]
    simp only [wordsD, partW, List.getElem_map, List.getElem_range]
    rw [e]
    obtain ⟨x0, x1⟩ := wx i
    simp (disch := omega) only [wordAt, if_pos]
    rw [bytesD_at xs i 0 h2 (by decide), bytesD_at xs i 1 h2 (by decide), bytesD_at xs i 2 h2 (by decide), bytesD_at xs i 3 h2 (by decide)]
    simp only [M.Fld]
    omega
theorem bytesD_bts (xs : List Int) : Bts (bytesD xs) := by
  intro t
  by_cases h : t < 4 * xs.length
  · have := bytesD_at xs (t / 4) (t % 4) (by omega) (by omega)
    rw [show 4 * (t / 4) + t % 4 = t by omega] at this
    rw [this]
    have := M.fld_bounds (xs.getD (t / 4) 0) (24 - 8 * (t % 4)) 8 (by decide)
    rw [show (2 : Int) ^ 8 = 256 from rfl] at this
    omega
  · have := bytesD_length xs
    simp [List.getD_eq_getElem?_getD, List.getElem?_eq_none (show (bytesD xs).length ≤ t by omega)]
end Go.Proofs.YtbpdmkohihgnjaaDoor.V
