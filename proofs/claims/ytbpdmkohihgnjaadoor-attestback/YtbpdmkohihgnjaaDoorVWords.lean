import Derived.Test.YtbpdmkohihgnjaaDoorVBytes
import Derived.BigRegion
namespace Go.Proofs.YtbpdmkohihgnjaaDoor.V
set_option maxRecDepth 100000
open Go.RowKit

/-- A row of the call's own that holds these numbers. -/
structure Owned (W wr : World) (k : IntKind) (e : TypeId) (N : Nat) (L : List Int) : Prop where
  len : L.length = N
  own : wr.ownsRow W.heap.size e 1 (.slice (some ⟨W.heap.size, 0, none⟩) N N) N (L.map (Value.int k))
  below : Below W.heap.size W wr
theorem Owned.cell {W wr : World} {k : IntKind} {e : TypeId} {N : Nat} {L : List Int} (h : Owned W wr k e N L) (j : Nat) (hj : j < N) : wr.cell? ⟨W.heap.size, j, none⟩ = some (.int k (L.getD j 0)) := by
  rw [h.own.cellAt j (by omega)]
  have := h.len
  simp [List.getD_eq_getElem?_getD, show j < L.length by omega]
theorem Owned.free {W wr : World} {k : IntKind} {e : TypeId} {N : Nat} {L : List Int} (h : Owned W wr k e N L) (j : Nat) : wr.frozen? ⟨W.heap.size, j, none⟩ = false := h.own.frozenAt j
theorem Owned.drewN {W wr : World} {k : IntKind} {e : TypeId} {N : Nat} {L : List Int} (h : Owned W wr k e N L) (d : Nat) : Owned W (wr.drewN d) k e N L := ⟨h.len, h.own, below_drewN h.below d⟩
theorem Owned.drew {W wr : World} {k : IntKind} {e : TypeId} {N : Nat} {L : List Int} (h : Owned W wr k e N L) : Owned W wr.drew k e N L := ⟨h.len, h.own, h.below.drew⟩
theorem Owned.step {W wr : World} {k : IntKind} {e : TypeId} {N : Nat} {L L' : List Int} (h : Owned W wr k e N L) (j : Nat) (u : Int) (hL : L.set j u = L') : Owned W (wr.setCell ⟨W.heap.size, j, none⟩ (.int k u)) k e N L' := by
  subst hL
  refine ⟨by simp [h.len], ?_, h.below.setCell (Nat.le_refl _) _⟩
  have := (h.own.stored j (.int k u)).1
  rwa [← List.map_set] at this
theorem Owned.start {W w : World} {k : IntKind} {e : TypeId} {N : Nat} (h : w.ownsRow W.heap.size e 1 (.slice (some ⟨W.heap.size, 0, none⟩) N N) N (madeCells #[Value.int k 0] N).toList) (hg : W.grownBy w none) : Owned W w k e N (List.replicate N 0) := by
  refine ⟨by simp, ?_, (Below.refl _ W).grown hg (Nat.le_refl _) (fun _ h => by cases h)⟩
  rw [toList_madeCells_one] at h
  rw [List.map_replicate]
  exact h
theorem Owned.row {W wr : World} {k : IntKind} {e : TypeId} {N : Nat} {L : List Int} (h : Owned W wr k e N L) : Row wr k W.heap.size 0 L := by
  intro i hi
  rw [Nat.zero_add]
  exact h.cell i (by rw [← h.len]; exact hi)
theorem Owned.lt {W wr : World} {k : IntKind} {e : TypeId} {N : Nat} {L : List Int} (h : Owned W wr k e N L) : W.heap.size < wr.heap.size := (h.own.lt W.heap.size rfl).2
theorem Filled.owned {W wr : World} {k : IntKind} {e : TypeId} {N : Nat} {D : List Int} (h : Filled W wr k e N D N) : Owned W wr k e N D := by
  refine ⟨h.len, ?_, h.below⟩
  have := h.own
  rwa [← h.len, fill_all, h.len] at this

/-- Bytes. -/
def Bts (xs : List Int) : Prop := ∀ i, 0 ≤ xs.getD i 0 ∧ xs.getD i 0 < 256
/-- Word i of the first t bytes. -/
def wordAt (bs : List Int) (t i : Nat) : Int :=
  let f := fun (a : Int) (j : Nat) => if 4 * i + j < t then a * 256 + bs.getD (4 * i + j) 0 else a
  f (f (f (f 0 0) 1) 2) 3
def partW (bs : List Int) (n t : Nat) : List Int := (List.range n).map (wordAt bs t)
def wordsD (bs : List Int) (n : Nat) : List Int := partW bs n (4 * n)
theorem partW_length (bs : List Int) (n t : Nat) : (partW bs n t).length = n := by simp [partW]
theorem partW_getD (bs : List Int) (n t i : Nat) (hi : i < n) : (partW bs n t).getD i 0 = wordAt bs t i := by simp [partW, List.getD_eq_getElem?_getD, hi]
theorem wordAt_zero (bs : List Int) (i : Nat) : wordAt bs 0 i = 0 := by simp [wordAt]
theorem wordAt_other (bs : List Int) (t i : Nat) (h : i ≠ t / 4) : wordAt bs (t + 1) i = wordAt bs t i := by
  have e : ∀ j, j < 4 → (4 * i + j < t + 1 ↔ 4 * i + j < t) := fun j hj => by omega
  simp only [wordAt, e 0 (by decide), e 1 (by decide), e 2 (by decide), e 3 (by decide)]
theorem wordAt_step (bs : List Int) (i j : Nat) (hj : j < 4) : wordAt bs (4 * i + j + 1) i = wordAt bs (4 * i + j) i * 256 + bs.getD (4 * i + j) 0 := by
  match j, hj with
  | 0, _ => simp (disch := omega) only [wordAt, if_pos, if_neg]
  | 1, _ => simp (disch := omega) only [wordAt, if_pos, if_neg]
  | 2, _ => simp (disch := omega) only [wordAt, if_pos, if_neg]
  | 3, _ => simp (disch := omega) only [wordAt, if_pos, if_neg]
theorem wordAt_bound (bs : List Int) (hb : Bts bs) (i j : Nat) (hj : j < 4) : 0 ≤ wordAt bs (4 * i + j) i ∧ wordAt bs (4 * i + j) i < 16777216 := by
  have h0 := hb (4 * i + 0)
  have h1 := hb (4 * i + 1)
  have h2 := hb (4 * i + 2)
  match j, hj with
  | 0, _ => simp (disch := omega) only [wordAt, if_neg]; omega
  | 1, _ => simp (disch := omega) only [wordAt, if_pos, if_neg]; omega
  | 2, _ => simp (disch := omega) only [wordAt, if_pos, if_neg]; omega
  | 3, _ => simp (disch := omega) only [wordAt, if_pos, if_neg]; omega
theorem partW_zero (bs : List Int) (n : Nat) : partW bs n 0 = List.replicate n 0 := by
  apply List.ext_getElem
  · simp [partW]
  · intro i h1 h2
    simp [partW, wordAt_zero]
theorem partW_step (bs : List Int) (n i j : Nat) (hi : i < n) (hj : j < 4) (u : Int) (hu : u = wordAt bs (4 * i + j) i * 256 + bs.getD (4 * i + j) 0) : (partW bs n (4 * i + j)).set i u = partW bs n (4 * i + j + 1) := by
  apply List.ext_getElem
  · simp [partW]
  · intro a h1 h2
    rw [List.getElem_set]
    simp only [partW, List.getElem_map, List.getElem_range]
    split
    · subst_vars
      rw [wordAt_step bs _ j hj]
    · rw [wordAt_other bs _ a (by omega)]
theorem or_byte (x b : Int) (x0 : 0 ≤ x) (x1 : x < 16777216) (b0 : 0 ≤ b) (b1 : b < 256) : bits .or .u32 (x * 256) b = x * 256 + b := by
  rw [u32_or _ _ (by omega) (by omega) b0 (by omega), nat_join 8 _ _ (by omega) (by omega)]
  omega

theorem words_long (W : World) (ao : Option Addr) (N cap : Nat) (h : 1048576 < N) (hN : N ≤ 140737488351232) :
    Calls Tryd.prog 65 #[.slice ao N cap] W fun e W' => e = .returned (.tuple #[.slice none 0 0, .int .i64 2]) ∧ W = W' := by
  go_enter Tryd.func65, Tryd.ntmps65
  go_wp2
  go_ret2
  exact ⟨rfl, rfl⟩
theorem words_part (W : World) (ao : Option Addr) (N cap : Nat) (h : N ≤ 1048576) (h4 : N % 4 ≠ 0) :
    Calls Tryd.prog 65 #[.slice ao N cap] W fun e W' => e = .returned (.tuple #[.slice none 0 0, .int .i64 11]) ∧ W = W' := by
  have h' : ((N : Int) % 4 != 0) = true := by simp; omega
  go_enter Tryd.func65, Tryd.ntmps65
  go_wp2
  go_ret2
  exact ⟨rfl, rfl⟩
set_option maxHeartbeats 400000 in
theorem words_any (W : World) (b off n cap : Nat) (bs : List Int) (hl : bs.length = 4 * n) (hbs : Bts bs) (h1 : Row W .u8 b off bs) (hn : 4 * n ≤ 1048576) (hb : b < W.heap.size) :
    Calls Tryd.prog 65 #[.slice (some ⟨b, off, none⟩) (4 * n) cap] W fun e W' => e = .returned (.tuple #[.slice (some ⟨W.heap.size, 0, none⟩) n n, .int .i64 0]) ∧ Owned W W' .u32 22 n (wordsD bs n) := by
  obtain ⟨i0, hi, hz0, hz1, hz2⟩ := info_parts Tryd.info22
  have h4 : (((4 * n : Nat) : Int) % 4 != 0) = false := by simp
  have h5 : ((4 * n : Nat) : Int) / 4 = (n : Int) := by omega
  go_enter Tryd.func65, Tryd.ntmps65
  go_wp2_with (first | (at_make; refine wpList_make_full _ rfl _ _ 25 rfl W.heap.size 22 i0 (.int .u32 0) 1 Tryd.underlying25 hi hz0 hz1 .i64 .i64 _ _ n rfl rfl (by omega) (by omega) ?c1 ?c2 (Nat.le_refl _) ?_))
  case c1 => rw [hz2]; omega
  case c2 => unfold maxLen; omega
  intro w' hown hg
  have F0 := Owned.start hown hg
  rw [← partW_zero bs n] at F0
  clear hown hg hi hz0 hz1 hz2
  go_wp2
  go_loopw [19] (fun i wr => ∃ t : Nat, t ≤ 4 * n ∧ i = .int .i64 t ∧ Owned W wr .u32 22 n (partW bs n t)) (fun i _ => 4 * n - (intOf i).toNat)
  case atStart => exact ⟨0, Nat.zero_le _, rfl, F0⟩
  case round =>
    obtain ⟨t, ht, rfl, F⟩ := hrel
    by_cases hlt : t < 4 * n
    · have hc := h1.below F.below hb t (by omega)
      obtain ⟨q0, q1⟩ := hbs t
      obtain ⟨x0, x1⟩ := wordAt_bound bs hbs (t / 4) (t % 4) (by omega)
      have hps := partW_step bs n (t / 4) (t % 4) (by omega) (by omega)
      rw [show 4 * (t / 4) + t % 4 = t by omega] at x0 x1 hps
      have hcell := F.cell (t / 4) (by omega)
      rw [partW_getD bs n _ (t / 4) (by omega)] at hcell
      have hfree := F.free (t / 4)
      have hor : Hid _ := or_byte _ _ x0 x1 q0 q1
      have HS : Hid (∀ u, u = wordAt bs t (t / 4) * 256 + bs.getD t 0 → Owned W (wr.drew.setCell ⟨W.heap.size, t / 4, none⟩ (.int .u32 u)) .u32 22 n (partW bs n (t + 1))) :=
        fun u hu => F.drew.step (t / 4) u (hps u hu)
      clear F hps
      generalize wordAt bs t (t / 4) = x at *
      generalize bs.getD t 0 = y at *
      go_wp2
      go_region
      go_wp2
      go_roundw
      case rel => exact ⟨t + 1, by omega, by go_num, HS.out _ hor.out⟩
      case measure => simp [intOf]; omega
    · obtain rfl : t = 4 * n := by omega
      have HB : Hid (Owned W wr .u32 22 n (wordsD bs n)) := F
      clear F
      go_wp2
      go_ret2
      exact ⟨rfl, HB⟩
theorem words_nil (W : World) (ao : Option Addr) (cap : Nat) :
    Calls Tryd.prog 65 #[.slice ao 0 cap] W fun e W' => e = .returned (.tuple #[.slice (some ⟨W.heap.size, 0, none⟩) 0 0, .int .i64 0]) ∧ Owned W W' .u32 22 0 [] := by
  obtain ⟨i0, hi, hz0, hz1, hz2⟩ := info_parts Tryd.info22
  go_enter Tryd.func65, Tryd.ntmps65
  go_wp2_with (first | (at_make; refine wpList_make_full _ rfl _ _ 25 rfl W.heap.size 22 i0 (.int .u32 0) 1 Tryd.underlying25 hi hz0 hz1 .i64 .i64 _ _ 0 rfl rfl rfl rfl ?c1 ?c2 (Nat.le_refl _) ?_))
  case c1 => omega
  case c2 => unfold maxLen; omega
  intro w' hown hg
  have HB : Hid (Owned W w' .u32 22 0 []) := Owned.start hown hg
  clear hown hg hi hz0 hz1 hz2
  go_wp2
  refine wp_loop_rounds 1 ?_
  rw [rounds_succ]
  go_wp2
  go_ret2
  exact ⟨rfl, HB⟩

/-- Words as bytes and back. -/
theorem words_bytes (xs : List Int) (wx : Wds xs) : wordsD (bytesD xs) xs.length = xs := by
  apply List.ext_getElem
  · simp [wordsD, partW]
  · intro i h1 h2
    have e : xs[i] = xs.getD i 0 := by simp [List.getD_eq_getElem?_getD, h2]
    simp only [wordsD, partW, List.getElem_map, List.getElem_range]
    rw [e]
    obtain ⟨x0, x1⟩ := wx i
    simp (disch := omega) only [wordAt, if_pos]
    rw [bytesD_at xs i 0 h2 (by decide), bytesD_at xs i 1 h2 (by decide), bytesD_at xs i 2 h2 (by decide), bytesD_at xs i 3 h2 (by decide)]
    simp only [M.Fld]
    omega
theorem bytesD_bts (xs : List Int) : Bts (bytesD xs) := by
  intro t
  by_cases h : t < 4 * xs.length
  · have := bytesD_at xs (t / 4) (t % 4) (by omega) (by omega)
    rw [show 4 * (t / 4) + t % 4 = t by omega] at this
    rw [this]
    have := M.fld_bounds (xs.getD (t / 4) 0) (24 - 8 * (t % 4)) 8 (by decide)
    rw [show (2 : Int) ^ 8 = 256 from rfl] at this
    omega
  · have := bytesD_length xs
    simp [List.getD_eq_getElem?_getD, List.getElem?_eq_none (show (bytesD xs).length ≤ t by omega)]
end Go.Proofs.YtbpdmkohihgnjaaDoor.V
