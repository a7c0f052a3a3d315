import Derived.Test.YtbpdmkohihgnjaaDoorVSame
namespace Go.Proofs.YtbpdmkohihgnjaaDoor.V
set_option maxRecDepth 100000
open Go.RowKit

theorem Tryd.info5 : (Tryd.prog.info? 5).map (fun i => (i.zero, i.size, i.bytes)) = some (some (.int .u8 0), 1, 1) := by kernel_rfl
theorem Tryd.info22 : (Tryd.prog.info? 22).map (fun i => (i.zero, i.size, i.bytes)) = some (some (.int .u32 0), 1, 4) := by kernel_rfl

/-- The first t of D's numbers, zeros behind them. -/
def fill (D : List Int) (t : Nat) : List Int := D.take t ++ List.replicate (D.length - t) 0
theorem fill_length (D : List Int) (t : Nat) (h : t ≤ D.length) : (fill D t).length = D.length := by simp [fill]; omega
theorem fill_zero (D : List Int) : fill D 0 = List.replicate D.length 0 := by simp [fill]
theorem fill_all (D : List Int) : fill D D.length = D := by simp [fill]
theorem fill_set (D : List Int) (t : Nat) (h : t < D.length) : (fill D t).set t (D.getD t 0) = fill D (t + 1) := by
  unfold fill
  rw [List.set_append_right _ _ (by simp; omega)]
  rw [List.take_succ_eq_append_getElem h, List.append_assoc]
  congr 1
  obtain ⟨m, hm⟩ : ∃ m, D.length - t = m + 1 := ⟨D.length - t - 1, by omega⟩
  rw [hm, List.replicate_succ, show t - (D.take t).length = 0 by simp; omega, List.set_cons_zero, show D.length - (t + 1) = m by omega]
  simp [List.getD_eq_getElem?_getD, h]

/-- A row of the call's own, filled as far as t. -/
structure Filled (W wr : World) (k : IntKind) (e : TypeId) (N : Nat) (D : List Int) (t : Nat) : Prop where
  len : D.length = N
  le : t ≤ N
  own : wr.ownsRow W.heap.size e 1 (.slice (some ⟨W.heap.size, 0, none⟩) N N) N ((fill D t).map (Value.int k))
  below : Below W.heap.size W wr
theorem Filled.cell {W wr : World} {k : IntKind} {e : TypeId} {N : Nat} {D : List Int} {t : Nat} (h : Filled W wr k e N D t) (j : Nat) (hj : j < N) : wr.cell? ⟨W.heap.size, j, none⟩ = some (.int k ((fill D t).getD j 0)) := by
  rw [h.own.cellAt j (by omega)]
  have := fill_length D t (by rw [h.len]; exact h.le)
  have := h.len
  simp [List.getD_eq_getElem?_getD, show j < (fill D t).length by omega]
theorem Filled.free {W wr : World} {k : IntKind} {e : TypeId} {N : Nat} {D : List Int} {t : Nat} (h : Filled W wr k e N D t) (j : Nat) : wr.frozen? ⟨W.heap.size, j, none⟩ = false := h.own.frozenAt j
theorem Filled.drewN {W wr : World} {k : IntKind} {e : TypeId} {N : Nat} {D : List Int} {t : Nat} (h : Filled W wr k e N D t) (d : Nat) : Filled W (wr.drewN d) k e N D t :=
  ⟨h.len, h.le, h.own, below_drewN h.below d⟩
theorem Filled.step {W wr : World} {k : IntKind} {e : TypeId} {N : Nat} {D : List Int} {t : Nat} (h : Filled W wr k e N D t) (ht : t < N) {u : Int} (hu : u = D.getD t 0) : Filled W (wr.setCell ⟨W.heap.size, t, none⟩ (.int k u)) k e N D (t + 1) := by
  subst hu
  refine ⟨h.len, ht, ?_, h.below.setCell (Nat.le_refl _) _⟩
  have := (h.own.stored t (.int k (D.getD t 0))).1
  rwa [← List.map_set, fill_set D t (by rw [h.len]; exact ht)] at this
theorem Filled.start {W w : World} {k : IntKind} {e : TypeId} {N : Nat} {D : List Int} (hN : D.length = N) (h : w.ownsRow W.heap.size e 1 (.slice (some ⟨W.heap.size, 0, none⟩) N N) N (madeCells #[Value.int k 0] N).toList) (hg : W.grownBy w none) : Filled W w k e N D 0 := by
  refine ⟨hN, Nat.zero_le _, ?_, (Below.refl _ W).grown hg (Nat.le_refl _) (fun _ h => by cases h)⟩
  rw [toList_madeCells_one] at h
  rw [fill_zero, hN, List.map_replicate]
  exact h

def dig (n : Int) : Int := if n < 10 then 48 + n else 87 + n
def hexW (w : Int) : List Int := [dig (M.Fld w 28 4), dig (M.Fld w 24 4), dig (M.Fld w 20 4), dig (M.Fld w 16 4), dig (M.Fld w 12 4), dig (M.Fld w 8 4), dig (M.Fld w 4 4), dig (M.Fld w 0 4)]
def hexD (xs : List Int) : List Int := (xs.map hexW).flatten
theorem hexD_length (xs : List Int) : (hexD xs).length = 8 * xs.length := by
  induction xs with
  | nil => rfl
  | cons x xs ih => simp only [hexD, List.map_cons, List.flatten_cons, List.length_append] at ih ⊢; rw [ih]; simp [hexW]; omega

theorem flat_getD (f : Int → List Int) (c : Nat) (hf : ∀ x, (f x).length = c) : ∀ (xs : List Int) (i j : Nat), i < xs.length → j < c → ((xs.map f).flatten).getD (c * i + j) 0 = (f (xs.getD i 0)).getD j 0
  | [], i, j, hi, _ => by simp at hi
  | x :: xs, 0, j, _, hj => by
    rw [List.map_cons, List.flatten_cons, Nat.mul_zero, Nat.zero_add]
    simp [List.getD_eq_getElem?_getD, List.getElem?_append_left (show j < (f x).length by rw [hf]; exact hj)]
  | x :: xs, i + 1, j, hi, hj => by
    have ih := flat_getD f c hf xs i j (by simpa using hi) hj
    rw [List.map_cons, List.flatten_cons]
    rw [List.getD_eq_getElem?_getD, List.getElem?_append_right (by rw [hf, Nat.mul_add]; omega), hf, show c * (i + 1) + j - c = c * i + j by rw [Nat.mul_add]; omega, ← List.getD_eq_getElem?_getD, ih]
    simp
theorem hexD_at (xs : List Int) (i j : Nat) (hi : i < xs.length) (hj : j < 8) : (hexD xs).getD (8 * i + j) 0 = dig (M.Fld (xs.getD i 0) (28 - 4 * j) 4) := by
  unfold hexD
  rw [flat_getD hexW 8 (fun _ => rfl) xs i j hi hj]
  generalize xs.getD i 0 = x
  match j, hj with
  | 0, _ | 1, _ | 2, _ | 3, _ | 4, _ | 5, _ | 6, _ | 7, _ => rfl
theorem dig_at (f : Int) (h0 : 0 ≤ f) (h1 : f < 16) (hp : f.toNat < (⟨#[48, 49, 50, 51, 52, 53, 54, 55, 56, 57, 97, 98, 99, 100, 101, 102]⟩ : ByteArray).size) : (((⟨#[48, 49, 50, 51, 52, 53, 54, 55, 56, 57, 97, 98, 99, 100, 101, 102]⟩ : ByteArray)[f.toNat]'hp).toNat : Int) = dig f := by
  obtain ⟨m, rfl⟩ := Int.eq_ofNat_of_zero_le h0
  have hm : m < 16 := by omega
  match m, hm with
  | 0, _ | 1, _ | 2, _ | 3, _ | 4, _ | 5, _ | 6, _ | 7, _ | 8, _ | 9, _ | 10, _ | 11, _ | 12, _ | 13, _ | 14, _ | 15, _ => rfl

set_option maxHeartbeats 400000 in
theorem hexAll_any (W : World) (hT : Tab W) (b off n cap : Nat) (xs : List Int) (hx : xs.length = n) (wx : Wds xs) (h1 : Row W .u32 b off xs) (hn : 4 * n ≤ 140737488351232) (hb : b < W.heap.size) (h0 : 0 < W.heap.size) :
    Calls Tryd.prog 46 #[.slice (some ⟨b, off, none⟩) n cap] W fun e W' => e = .returned (.string (strOfNums (hexD xs))) ∧ Below W.heap.size W W' := by
  obtain ⟨i0, hi, hz0, hz1, hz2⟩ := info_parts Tryd.info5
  have hL := hexD_length xs
  rw [hx] at hL
  go_enter Tryd.func46, Tryd.ntmps46
  go_wp2_with (first | (at_make; refine wpList_make_full _ rfl _ _ 30 rfl W.heap.size 5 i0 (.int .u8 0) 1 Tryd.underlying30 hi hz0 hz1 .i64 .i64 _ _ (8 * n) rfl rfl (by push_cast; rfl) (by push_cast; rfl) ?c1 ?c2 (Nat.le_refl _) ?_))
  case c1 => rw [hz2]; omega
  case c2 => unfold maxLen; omega
  intro w' hown hg
  have F0 := Filled.start hL hown hg
  clear hown hg hi hz0 hz1 hz2
  go_wp2
  go_loopw [12] (fun i wr => ∃ k : Nat, k ≤ n ∧ i = .int .i64 k ∧ Filled W wr .u8 5 (8 * n) (hexD xs) (8 * k)) (fun i _ => n - (intOf i).toNat)
  case atStart => exact ⟨0, Nat.zero_le _, rfl, F0⟩
  case round =>
    obtain ⟨i, hin, rfl, F⟩ := hrel
    by_cases hlt : i < n
    · go_wp2
      go_loopw [15] (fun j wr => ∃ k : Nat, k ≤ 8 ∧ j = .int .i64 k ∧ Filled W wr .u8 5 (8 * n) (hexD xs) (8 * i + k)) (fun j _ => 8 - (intOf j).toNat)
      case atStart => exact ⟨0, Nat.zero_le _, rfl, F⟩
      case round =>
        clear F
        obtain ⟨j, hj8, rfl, F⟩ := hrel
        by_cases hjlt : j < 8
        · have hc := h1.below F.below hb i (by omega)
          have hT' := hT.below F.below h0
          obtain ⟨q0, q1⟩ := wx i
          have hcell := F.cell (8 * i + j) (by omega)
          have hfree := F.free (8 * i + j)
          have HD := hexD_at xs i j (by omega) hjlt
          generalize xs.getD i 0 = x at *
          obtain ⟨f0, f1, _⟩ := M.fld_bounds x (28 - 4 * j) 4 (by decide)
          rw [show (2 : Int) ^ 4 = 16 from rfl] at f1
          have HS : Hid (∀ (d : Nat) hp, Filled W ((wr.drewN d).setCell ⟨W.heap.size, 8 * i + j, none⟩ (.int .u8 (((⟨#[48, 49, 50, 51, 52, 53, 54, 55, 56, 57, 97, 98, 99, 100, 101, 102]⟩ : ByteArray)[(M.Fld x (28 - 4 * j) 4).toNat]'hp).toNat : Int))) .u8 5 (8 * n) (hexD xs) (8 * i + (j + 1))) :=
            fun d hp => (F.drewN d).step (by omega) ((dig_at _ f0 f1 hp).trans HD.symm)
          clear HD F
          go_wp2_with (first | (go_at_call 41; refine (cut_any _ hT' _ _ _ q0 q1 (by omega) (by omega) (by omega) (by omega)).mono ?_; rintro e w' ⟨rfl, d, rfl⟩))
          go_roundw
          case rel => exact ⟨j + 1, by omega, by go_num, HS.out d _⟩
          case measure => simp [intOf]; omega
        · obtain rfl : j = 8 := by omega
          go_wp2
          go_roundw
          case rel => exact ⟨i + 1, by omega, by go_num, F⟩
          case measure => simp [intOf]; omega
    · obtain rfl : i = n := by omega
      have hcv := run_convert_bytes_arg (P := Tryd.prog) wr 30 5 Tryd.underlying30 Tryd.underlying5 W.heap.size 0 (8 * i) (8 * i) (hexD xs) hL (fun j hj => by rw [Nat.zero_add, F.cell j hj, ← hL, fill_all]) 9 Tryd.underlying9
      have HB := F.below
      clear F
      go_wp2
      go_ret
      exact ⟨rfl, HB⟩
end Go.Proofs.YtbpdmkohihgnjaaDoor.V
