import Derived.Test.YtbpdmkohihgnjaaDoorP16
import Derived.Laws.StructEq
namespace Go.Proofs.YtbpdmkohihgnjaaDoor
open Go.RowKit

def w4 (a b c d : Int) : Int := (((0 * 256 + a) * 256 + b) * 256 + c) * 256 + d
theorem wordAt_full (bs : List Int) (t i : Nat) (h : 4 * i + 3 < t) : wordAt bs t i = w4 (bs.getD (4 * i) 0) (bs.getD (4 * i + 1) 0) (bs.getD (4 * i + 2) 0) (bs.getD (4 * i + 3) 0) := by
  simp (disch := omega) only [wordAt, if_pos, w4, Nat.add_zero]
theorem wordsD_getD (bs : List Int) (n i : Nat) (hi : i < n) : (wordsD bs n).getD i 0 = w4 (bs.getD (4 * i) 0) (bs.getD (4 * i + 1) 0) (bs.getD (4 * i + 2) 0) (bs.getD (4 * i + 3) 0) := by
  unfold wordsD
  rw [partW_getD _ _ _ _ hi, wordAt_full _ _ _ (by omega)]
theorem wordsD_length (bs : List Int) (n : Nat) : (wordsD bs n).length = n := partW_length _ _ _
theorem list_ext_getD {xs ys : List Int} (hl : xs.length = ys.length) (h : ∀ i, i < xs.length → xs.getD i 0 = ys.getD i 0) : xs = ys := by
  apply List.ext_getElem hl
  intro i h1 h2
  have := h i h1
  simpa [List.getD_eq_getElem?_getD, h1, h2] using this
def byteW (x : Int) : List Int := [x / 16777216 % 256, x / 65536 % 256, x / 256 % 256, x % 256]
def bytesD (xs : List Int) : List Int := (xs.map byteW).flatten
theorem bytesD_length (xs : List Int) : (bytesD xs).length = 4 * xs.length := by
  induction xs with
  | nil => rfl
  | cons x xs ih => simp only [bytesD, List.map_cons, List.flatten_cons, List.length_append] at ih ⊢; rw [ih]; simp [byteW]; omega
def sumB (bs : List Int) : List Int := S.fin (S.run S.First (wordsD (bs.take (4 * (bs.length / 4))) (bs.length / 4)) (bs.length / 4 / 16)) ((wordsD (bs.take (4 * (bs.length / 4))) (bs.length / 4)).drop (16 * (bs.length / 4 / 16)) ++ endW bs (bs.length / 4)) (8 * (bs.length : Int))
def sumW (xs : List Int) : List Int := S.fin (S.run S.First xs (xs.length / 16)) (xs.drop (16 * (xs.length / 16)) ++ [2147483648]) (32 * (xs.length : Int))
theorem bytesD_getD (xs : List Int) (i : Nat) (hi : i < xs.length) (j : Nat) (hj : j < 4) : (bytesD xs).getD (4 * i + j) 0 = (byteW (xs.getD i 0)).getD j 0 := by
  induction xs generalizing i with
  | nil => simp at hi
  | cons x xs ih =>
    have e : bytesD (x :: xs) = byteW x ++ bytesD xs := by simp [bytesD]
    rw [e]
    cases i with
    | zero =>
      rw [Nat.mul_zero, Nat.zero_add]
      simp [List.getD_eq_getElem?_getD, List.getElem?_append_left (show j < (byteW x).length from hj)]
    | succ i =>
      have := ih i (by simpa using hi)
      simp only [List.getD_eq_getElem?_getD, List.getElem?_cons_succ] at this ⊢
      rw [List.getElem?_append_right (by show 4 ≤ _; omega), show 4 * (i + 1) + j - (byteW x).length = 4 * i + j by show _ - 4 = _; omega, this]
theorem words_bytes (xs : List Int) (wx : Wds xs) : wordsD (bytesD xs) xs.length = xs := by
  apply list_ext_getD
  · rw [wordsD_length]
  · intro i hi
    rw [wordsD_length] at hi
    obtain ⟨x0, x1⟩ := wx i
    have e0 := bytesD_getD xs i hi 0 (by decide)
    rw [Nat.add_zero] at e0
    rw [wordsD_getD _ _ _ hi, e0, bytesD_getD xs i hi 1 (by decide), bytesD_getD xs i hi 2 (by decide), bytesD_getD xs i hi 3 (by decide)]
    generalize xs.getD i 0 = x at *
    simp only [byteW, List.getD_cons_zero, List.getD_cons_succ, w4]
    omega
theorem bytesD_bts (xs : List Int) : Bts (bytesD xs) := by
  intro t
  by_cases h : t < 4 * xs.length
  · have := bytesD_getD xs (t / 4) (by omega) (t % 4) (by omega)
    rw [show 4 * (t / 4) + t % 4 = t by omega] at this
    rw [this]
    generalize xs.getD (t / 4) 0 = x
    match t % 4, show t % 4 < 4 by omega with
    | 0, _ | 1, _ | 2, _ | 3, _ => simp only [byteW, List.getD_cons_zero, List.getD_cons_succ]; omega
  · have := bytesD_length xs
    simp [List.getD_eq_getElem?_getD, List.getElem?_eq_none (show (bytesD xs).length ≤ t by omega)]
theorem all_range_eq' : ∀ (xs ys : List Int), xs.length = ys.length → ((List.range xs.length).all fun i => xs.getD i 0 == ys.getD i 0) = decide (xs = ys)
  | [], [], _ => rfl
  | x :: xs, y :: ys, h => by
    have ih := all_range_eq' xs ys (by simpa using h)
    rw [List.length_cons, List.range_succ_eq_map, List.all_cons, List.all_map]
    simp only [List.getD_cons_zero, Function.comp_def, List.getD_cons_succ, ih]
    rw [Bool.eq_iff_iff]
    simp
  | [], _ :: _, h => by simp at h
  | _ :: _, [], h => by simp at h
theorem run_equalIn_words {P : Program} (w : World) (d : Nat) (t e : TypeId) (n : Nat) (ht : P.underlying t = some (.array n e)) (he : P.underlying e = some (.int .u32)) (hsz : ∀ w, (sizeOf e).run P w = .ok 1 w)
    (xs ys : List Int) (hx : xs.length = n) (hy : ys.length = n) :
    (Op.equalIn (d + 2) t (.agg (xs.map (Value.int .u32)).toArray) (.agg (ys.map (Value.int .u32)).toArray)).run P w = .ok (decide (xs = ys)) w := by
  rw [← all_range_eq' xs ys (hx.trans hy.symm), hx, List.range_eq_range', Op.equalIn]
  simp only [Sem.run_bind, run_underlying ht, Result.andThen_ok, hsz, Std.Legacy.Range.forIn_eq_forIn_range', Std.Legacy.Range.size, Nat.sub_zero, Nat.add_sub_cancel, Nat.div_one]
  have hl : ∀ i ∈ List.range' 0 n 1, i < n := fun i hi => by simpa using (List.mem_range'_1.1 hi).2
  generalize List.range' 0 n 1 = l at hl ⊢
  induction l with
  | nil => simp
  | cons i l ih =>
    have hi : i < n := hl i (by simp)
    have px : (part e (xs.map (Value.int .u32)).toArray (i * 1)).run P w = .ok (.int .u32 (xs.getD i 0)) w := by
      simp [part, isAgg, run_underlying he, List.getD, List.getElem?_eq_getElem (show i < xs.length by omega)]
    have py : (part e (ys.map (Value.int .u32)).toArray (i * 1)).run P w = .ok (.int .u32 (ys.getD i 0)) w := by
      simp [part, isAgg, run_underlying he, List.getD, List.getElem?_eq_getElem (show i < ys.length by omega)]
    have pe : (Op.equalIn (d + 1) e (.int .u32 (xs.getD i 0)) (.int .u32 (ys.getD i 0))).run P w = .ok (xs.getD i 0 == ys.getD i 0) w := by
      rw [run_equalIn_int w d e .u32 .u32 _ _ he]
    simp only [List.forIn_cons, Sem.run_bind, px, py, pe, Result.andThen_ok, List.all_cons]
    cases hb : (xs.getD i 0 == ys.getD i 0)
    · simp
    · simp only [Bool.not_true, Bool.false_eq_true, if_false, Sem.run_pure, Result.andThen_ok, Bool.true_and]
      exact ih fun j hj => hl j (by simp [hj])
end Go.Proofs.YtbpdmkohihgnjaaDoor
namespace Go.Proofs.YtbpdmkohihgnjaaDoor
open Go.RowKit

namespace M
theorem two_pos (n : Nat) : (0 : Int) < 2 ^ n := Int.pow_pos (by decide)
theorem two_nat (n : Nat) : ((2 ^ n : Nat) : Int) = 2 ^ n := by push_cast; rfl
theorem two_le {a b : Nat} (h : a ≤ b) : (2 : Int) ^ a ≤ 2 ^ b := by
  have := Nat.pow_le_pow_right (n := 2) (by decide) h
  have h1 := two_nat a; have h2 := two_nat b
  omega
theorem two_32 : (2 : Int) ^ 32 = 4294967296 := by decide
theorem and_low (x : Int) (n : Nat) (h0 : 0 ≤ x) (h1 : x < 4294967296) (hn : n ≤ 32) : bits .and .u32 x (2 ^ n - 1) = x % 2 ^ n := by
  have hp := two_pos n
  have hq := two_le hn
  have h32 := two_32
  rw [u32_and x _ h0 h1 (by omega) (by omega)]
  obtain ⟨a, rfl⟩ := Int.eq_ofNat_of_zero_le h0
  have e : ((2 : Int) ^ n - 1).toNat = 2 ^ n - 1 := by have := two_nat n; omega
  rw [e, Int.toNat_natCast, Nat.and_two_pow_sub_one_eq_mod]
  push_cast; rfl
def Fld (w : Int) (lo n : Nat) : Int := w / 2 ^ lo % 2 ^ n
theorem fld_bounds (w : Int) (lo n : Nat) (hn : n ≤ 32) : 0 ≤ Fld w lo n ∧ Fld w lo n < 2 ^ n ∧ Fld w lo n < 4294967296 := by
  have hp := two_pos n
  have hq := two_le hn
  have h32 := two_32
  have a := Int.emod_nonneg (w / 2 ^ lo) (show (2 : Int) ^ n ≠ 0 by omega)
  have b := Int.emod_lt_of_pos (w / 2 ^ lo) hp
  unfold Fld; omega
theorem div_bounds (w : Int) (lo : Nat) (h0 : 0 ≤ w) (h1 : w < 4294967296) : 0 ≤ w / 2 ^ lo ∧ w / 2 ^ lo < 4294967296 := by
  have hp := two_pos lo
  refine ⟨Int.ediv_nonneg h0 (by omega), ?_⟩
  have := Int.ediv_le_self (2 ^ lo) h0
  omega
theorem cut_eq (w : Int) (lo n : Nat) (h0 : 0 ≤ w) (h1 : w < 4294967296) (hn : n ≤ 32) : bits .and .u32 (w / 2 ^ lo) (2 ^ n - 1) = Fld w lo n := by
  have := div_bounds w lo h0 h1
  exact and_low _ n this.1 this.2 hn
end M
def TabW (W : World) : Prop := ∀ i : Nat, i ≤ 32 → W.cell? ⟨0, i, none⟩ = some (.int .u32 (2 ^ i - 1))
theorem TabW.below {W w : World} {B : Nat} (h : TabW W) (hb : Below B W w) (hB : 0 < B) : TabW w := fun i hi => (hb.cell (p := ⟨0, i, none⟩) hB).trans (h i hi)
theorem cut_any (W : World) (hT : TabW W) (w lo n : Int) (w0 : 0 ≤ w) (w1 : w < 4294967296) (l0 : 0 ≤ lo) (n0 : 0 ≤ n) (hn : n ≤ 32) (l1 : lo ≤ 31) :
    Calls Tryd.prog 41 #[.int .u32 w, .int .i64 lo, .int .i64 n] W fun e W' => e = .returned (.int .u32 (M.Fld w lo.toNat n.toNat)) ∧ ∃ k, W' = W.drewN k := by
  obtain ⟨l, rfl⟩ := Int.eq_ofNat_of_zero_le l0
  obtain ⟨m, rfl⟩ := Int.eq_ofNat_of_zero_le n0
  have h := hT m (by omega)
  have H : Hid (bits .and .u32 (w / 2 ^ l) (2 ^ m - 1) = M.Fld w l m) := M.cut_eq w l m w0 w1 (by omega)
  clear hT
  go_enter Tryd.func41, Tryd.ntmps41
  go_wp2
  go_quiet (fail)
  go_wp2
  go_ret
  exact ⟨ret_int (by rw [Int.toNat_natCast, Int.toNat_natCast]; exact H.out), _, rfl⟩
def fill (D : List Int) (t : Nat) : List Int := D.take t ++ List.replicate (D.length - t) 0
theorem fill_length (D : List Int) (t : Nat) (h : t ≤ D.length) : (fill D t).length = D.length := by simp [fill]; omega
theorem fill_zero (D : List Int) : fill D 0 = List.replicate D.length 0 := by simp [fill]
theorem fill_all (D : List Int) : fill D D.length = D := by simp [fill]
theorem fill_set (D : List Int) (t : Nat) (h : t < D.length) : (fill D t).set t (D.getD t 0) = fill D (t + 1) := by
  unfold fill
  rw [List.set_append_right _ _ (by simp; omega)]
  rw [List.take_succ_eq_append_getElem h, List.append_assoc]
  congr 1
  obtain ⟨m, hm⟩ : ∃ m, D.length - t = m + 1 := ⟨D.length - t - 1, by omega⟩
  rw [hm, List.replicate_succ, show t - (D.take t).length = 0 by simp; omega, List.set_cons_zero, show D.length - (t + 1) = m by omega]
  simp [List.getD_eq_getElem?_getD, h]
structure Filled (W wr : World) (k : IntKind) (e : TypeId) (N : Nat) (D : List Int) (t : Nat) : Prop where
  len : D.length = N
  le : t ≤ N
  own : wr.ownsRow W.heap.size e 1 (.slice (some ⟨W.heap.size, 0, none⟩) N N) N ((fill D t).map (Value.int k))
  below : Below W.heap.size W wr
theorem Filled.cell {W wr : World} {k : IntKind} {e : TypeId} {N : Nat} {D : List Int} {t : Nat} (h : Filled W wr k e N D t) (j : Nat) (hj : j < N) : wr.cell? ⟨W.heap.size, j, none⟩ = some (.int k ((fill D t).getD j 0)) := by
  rw [h.own.cellAt j (by omega)]
  have := fill_length D t (by rw [h.len]; exact h.le)
  have := h.len
  simp [List.getD_eq_getElem?_getD, show j < (fill D t).length by omega]
theorem Filled.free {W wr : World} {k : IntKind} {e : TypeId} {N : Nat} {D : List Int} {t : Nat} (h : Filled W wr k e N D t) (j : Nat) : wr.frozen? ⟨W.heap.size, j, none⟩ = false := h.own.frozenAt j
theorem Filled.drewN {W wr : World} {k : IntKind} {e : TypeId} {N : Nat} {D : List Int} {t : Nat} (h : Filled W wr k e N D t) (d : Nat) : Filled W (wr.drewN d) k e N D t :=
  ⟨h.len, h.le, h.own, below_drewN h.below d⟩
theorem Filled.step {W wr : World} {k : IntKind} {e : TypeId} {N : Nat} {D : List Int} {t : Nat} (h : Filled W wr k e N D t) (ht : t < N) {u : Int} (hu : u = D.getD t 0) : Filled W (wr.setCell ⟨W.heap.size, t, none⟩ (.int k u)) k e N D (t + 1) := by
  subst hu
  refine ⟨h.len, ht, ?_, h.below.setCell (Nat.le_refl _) _⟩
  have := (h.own.stored t (.int k (D.getD t 0))).1
  rwa [← List.map_set, fill_set D t (by rw [h.len]; exact ht)] at this
theorem Filled.start {W w : World} {k : IntKind} {e : TypeId} {N : Nat} {D : List Int} (hN : D.length = N) (h : w.ownsRow W.heap.size e 1 (.slice (some ⟨W.heap.size, 0, none⟩) N N) N (madeCells #[Value.int k 0] N).toList) (hg : W.grownBy w none) : Filled W w k e N D 0 := by
  refine ⟨hN, Nat.zero_le _, ?_, (Below.refl _ W).grown hg (Nat.le_refl _) (fun _ h => by cases h)⟩
  rw [toList_madeCells_one] at h
  rw [fill_zero, hN, List.map_replicate]
  exact h
theorem flat_getD (f : Int → List Int) (c : Nat) (hf : ∀ x, (f x).length = c) : ∀ (xs : List Int) (i j : Nat), i < xs.length → j < c → ((xs.map f).flatten).getD (c * i + j) 0 = (f (xs.getD i 0)).getD j 0
  | [], i, j, hi, _ => by simp at hi
  | x :: xs, 0, j, _, hj => by
    rw [List.map_cons, List.flatten_cons, Nat.mul_zero, Nat.zero_add]
    simp [List.getD_eq_getElem?_getD, List.getElem?_append_left (show j < (f x).length by rw [hf]; exact hj)]
  | x :: xs, i + 1, j, hi, hj => by
    have ih := flat_getD f c hf xs i j (by simpa using hi) hj
    rw [List.map_cons, List.flatten_cons]
    rw [List.getD_eq_getElem?_getD, List.getElem?_append_right (by rw [hf, Nat.mul_add]; omega), hf, show c * (i + 1) + j - c = c * i + j by rw [Nat.mul_add]; omega, ← List.getD_eq_getElem?_getD, ih]
    simp
theorem bytesD_at (xs : List Int) (i j : Nat) (hi : i < xs.length) (hj : j < 4) : (bytesD xs).getD (4 * i + j) 0 = M.Fld (xs.getD i 0) (24 - 8 * j) 8 := by
  rw [bytesD_getD xs i hi j hj]
  generalize xs.getD i 0 = x
  match j, hj with
  | 0, _ | 1, _ | 2, _ => rfl
  | 3, _ => show x % 256 = x / 2 ^ 0 % 2 ^ 8; simp
theorem Filled.row {W wr : World} {k : IntKind} {e : TypeId} {N : Nat} {D : List Int} (h : Filled W wr k e N D N) : Row wr k W.heap.size 0 D := by
  intro i hi
  have := h.cell i (by rw [← h.len]; exact hi)
  rw [← h.len, fill_all] at this
  rw [Nat.zero_add]
  exact this
theorem Filled.lt {W wr : World} {k : IntKind} {e : TypeId} {N : Nat} {D : List Int} {t : Nat} (h : Filled W wr k e N D t) : W.heap.size < wr.heap.size := (h.own.lt W.heap.size rfl).2
set_option maxHeartbeats 400000 in
theorem bytes_any (W : World) (hT : TabW W) (b off n cap : Nat) (xs : List Int) (hx : xs.length = n) (wx : Wds xs) (h1 : Row W .u32 b off xs) (hn : 4 * n ≤ 140737488351232) (hb : b < W.heap.size) (h0 : 0 < W.heap.size) :
    Calls Tryd.prog 13 #[.slice (some ⟨b, off, none⟩) n cap] W fun e W' => e = .returned (.slice (some ⟨W.heap.size, 0, none⟩) (4 * n) (4 * n)) ∧ Filled W W' .u8 5 (4 * n) (bytesD xs) (4 * n) := by
  obtain ⟨i0, hi, hz0, hz1, hz2⟩ := info_parts Tryd.info5
  have hL := bytesD_length xs
  rw [hx] at hL
  go_enter Tryd.func13, Tryd.ntmps13
  go_wp2_with (first | (at_make; refine wpList_make_full _ rfl _ _ 30 rfl W.heap.size 5 i0 (.int .u8 0) 1 Tryd.underlying30 hi hz0 hz1 .i64 .i64 _ _ (4 * n) rfl rfl (by push_cast; rfl) (by push_cast; rfl) ?c1 ?c2 (Nat.le_refl _) ?_))
  case c1 => rw [hz2]; omega
  case c2 => unfold maxLen; omega
  intro w' hown hg
  have F0 := Filled.start hL hown hg
  clear hown hg hi hz0 hz1 hz2
  go_wp2
  go_loopw [12] (fun i wr => ∃ k : Nat, k ≤ n ∧ i = .int .i64 k ∧ Filled W wr .u8 5 (4 * n) (bytesD xs) (4 * k)) (fun i _ => n - (intOf i).toNat)
  case atStart => exact ⟨0, Nat.zero_le _, rfl, F0⟩
  case round =>
    obtain ⟨i, hin, rfl, F⟩ := hrel
    by_cases hlt : i < n
    · go_wp2
      go_loopw [15] (fun j wr => ∃ k : Nat, k ≤ 4 ∧ j = .int .i64 k ∧ Filled W wr .u8 5 (4 * n) (bytesD xs) (4 * i + k)) (fun j _ => 4 - (intOf j).toNat)
      case atStart => exact ⟨0, Nat.zero_le _, rfl, F⟩
      case round =>
        clear F
        obtain ⟨j, hj8, rfl, F⟩ := hrel
        by_cases hjlt : j < 4
        · have hc := h1.below F.below hb i (by omega)
          have hT' := hT.below F.below h0
          obtain ⟨q0, q1⟩ := wx i
          have hcell := F.cell (4 * i + j) (by omega)
          have hfree := F.free (4 * i + j)
          have HD := bytesD_at xs i j (by omega) hjlt
          generalize xs.getD i 0 = x at *
          obtain ⟨f0, f1, _⟩ := M.fld_bounds x (24 - 8 * j) 8 (by decide)
          rw [show (2 : Int) ^ 8 = 256 from rfl] at f1
          have HS : Hid (∀ (d : Nat), Filled W ((wr.drewN d).setCell ⟨W.heap.size, 4 * i + j, none⟩ (.int .u8 (M.Fld x (24 - 8 * j) 8))) .u8 5 (4 * n) (bytesD xs) (4 * i + (j + 1))) :=
            fun d => (F.drewN d).step (by omega) HD.symm
          clear HD F
          go_wp2_with (first | (go_at_call 41; refine (cut_any _ hT' _ _ _ q0 q1 (by omega) (by omega) (by omega) (by omega)).mono ?_; rintro e w' ⟨rfl, d, rfl⟩))
          go_roundw
          case rel => exact ⟨j + 1, by omega, by go_num, HS.out d⟩
          case measure => simp [intOf]; omega
        · obtain rfl : j = 4 := by omega
          go_wp2
          go_roundw
          case rel => exact ⟨i + 1, by omega, by go_num, F⟩
          case measure => simp [intOf]; omega
    · obtain rfl : i = n := by omega
      have HB : Hid (Filled W wr .u8 5 (4 * i) (bytesD xs) (4 * i)) := F
      clear F
      go_wp2
      go_ret
      exact ⟨rfl, HB⟩
theorem bytes_nil (W : World) (ao : Option Addr) (cap : Nat) :
    Calls Tryd.prog 13 #[.slice ao 0 cap] W fun e W' => e = .returned (.slice (some ⟨W.heap.size, 0, none⟩) 0 0) ∧ Filled W W' .u8 5 0 (bytesD []) 0 := by
  obtain ⟨i0, hi, hz0, hz1, hz2⟩ := info_parts Tryd.info5
  go_enter Tryd.func13, Tryd.ntmps13
  go_wp2_with (first | (at_make; refine wpList_make_full _ rfl _ _ 30 rfl W.heap.size 5 i0 (.int .u8 0) 1 Tryd.underlying30 hi hz0 hz1 .i64 .i64 _ _ 0 rfl rfl rfl rfl ?c1 ?c2 (Nat.le_refl _) ?_))
  case c1 => omega
  case c2 => unfold maxLen; omega
  intro w' hown hg
  have F0 := Filled.start (D := bytesD []) rfl hown hg
  clear hown hg hi hz0 hz1 hz2
  go_wp2
  refine wp_loop_rounds 1 ?_
  rw [rounds_succ]
  have HB : Hid (Filled W w' .u8 5 0 (bytesD []) 0) := F0
  clear F0
  go_wp2
  go_ret
  exact ⟨rfl, HB⟩
theorem Owned.drewN {W wr : World} {k : IntKind} {e : TypeId} {N : Nat} {L : List Int} (h : Owned W wr k e N L) (d : Nat) : Owned W (wr.drewN d) k e N L := ⟨h.len, h.own, below_drewN h.below d⟩
theorem Filled.owned {W wr : World} {k : IntKind} {e : TypeId} {N : Nat} {D : List Int} (h : Filled W wr k e N D N) : Owned W wr k e N D := by
  refine ⟨h.len, ?_, h.below⟩
  have := h.own
  rwa [← h.len, fill_all, h.len] at this
set_option maxRecDepth 20000 in
set_option maxHeartbeats 400000 in
theorem words_any (W : World) (b off n cap : Nat) (bs : List Int) (hl : bs.length = 4 * n) (hbs : Bts bs) (h1 : Row W .u8 b off bs) (hn : 4 * n ≤ 1048576) (hb : b < W.heap.size) :
    Calls Tryd.prog 65 #[.slice (some ⟨b, off, none⟩) (4 * n) cap] W fun e W' => e = .returned (.tuple #[.slice (some ⟨W.heap.size, 0, none⟩) n n, .int .i64 0]) ∧ Owned W W' .u32 22 n (wordsD bs n) := by
  obtain ⟨i0, hi, hz0, hz1, hz2⟩ := info_parts Tryd.info22
  have h4 : (((4 * n : Nat) : Int) % 4 != 0) = false := by simp
  have h5 : ((4 * n : Nat) : Int) / 4 = (n : Int) := by omega
  go_enter Tryd.func65, Tryd.ntmps65
  go_wp2_with (first | (at_make; refine wpList_make_full _ rfl _ _ 25 rfl W.heap.size 22 i0 (.int .u32 0) 1 Tryd.underlying25 hi hz0 hz1 .i64 .i64 _ _ n rfl rfl (by omega) (by omega) ?c1 ?c2 (Nat.le_refl _) ?_))
  case c1 => rw [hz2]; omega
  case c2 => unfold maxLen; omega
  intro w' hown hg
  have F0 := Owned.start hown hg
  rw [← partW_zero bs n] at F0
  clear hown hg hi hz0 hz1 hz2
  go_wp2
  go_loopw [19] (fun i wr => ∃ t : Nat, t ≤ 4 * n ∧ i = .int .i64 t ∧ Owned W wr .u32 22 n (partW bs n t)) (fun i _ => 4 * n - (intOf i).toNat)
  case atStart => exact ⟨0, Nat.zero_le _, rfl, F0⟩
  case round =>
    obtain ⟨t, ht, rfl, F⟩ := hrel
    by_cases hlt : t < 4 * n
    · have hc := h1.below F.below hb t (by omega)
      obtain ⟨q0, q1⟩ := hbs t
      obtain ⟨x0, x1⟩ := wordAt_bound bs hbs (t / 4) (t % 4) (by omega)
      have hps := partW_step bs n (t / 4) (t % 4) (by omega) (by omega)
      rw [show 4 * (t / 4) + t % 4 = t by omega] at x0 x1 hps
      have hcell := F.cell (t / 4) (by omega)
      rw [partW_getD bs n _ (t / 4) (by omega)] at hcell
      have hfree := F.free (t / 4)
      have hor : Hid _ := or_byte _ _ x0 x1 q0 q1
      have HS : Hid (∀ u, u = wordAt bs t (t / 4) * 256 + bs.getD t 0 → Owned W (wr.drew.setCell ⟨W.heap.size, t / 4, none⟩ (.int .u32 u)) .u32 22 n (partW bs n (t + 1))) :=
        fun u hu => F.drew.step (t / 4) u (hps u hu)
      clear F hps
      generalize wordAt bs t (t / 4) = x at *
      generalize bs.getD t 0 = y at *
      go_wp2
      go_region
      go_wp2
      go_roundw
      case rel => exact ⟨t + 1, by omega, by go_num, HS.out _ hor.out⟩
      case measure => simp [intOf]; omega
    · obtain rfl : t = 4 * n := by omega
      have HB : Hid (Owned W wr .u32 22 n (wordsD bs n)) := F
      clear F
      go_wp2
      go_ret2
      exact ⟨rfl, HB⟩
end Go.Proofs.YtbpdmkohihgnjaaDoor
namespace Go.Proofs.YtbpdmkohihgnjaaDoor
open Go.RowKit

def DigL (W : World) (g : Nat) (L : List Int) : Prop := Dig W g (S.run S.First L (L.length / 16)) L.length (L.drop (16 * (L.length / 16)))
theorem DigL.lt {W : World} {g : Nat} {L : List Int} (h : DigL W g L) : g < W.heap.size := Dig.lt h
theorem DigL.below {W w : World} {g : Nat} {L : List Int} (h : DigL W g L) (hb : Below W.heap.size W w) : DigL w g L := Dig.below h hb (Dig.lt h)
theorem DigL.but {W w : World} {g i : Nat} {L : List Int} (h : DigL W i L) (hb : But g W w) (hi : i ≠ g) : DigL w i L := Dig.but h hb hi
theorem At.head {W : World} {k : IntKind} {ao : Option Addr} {xs : List Int} (h : At W k ao xs) (a : Nat) : At W k ao (xs.take a) := by
  rcases h with h0 | ⟨b, off, h1, hb, hr⟩
  · left; rw [h0]; simp
  · exact .inr ⟨b, off, h1, hb, hr.take a⟩
end Go.Proofs.YtbpdmkohihgnjaaDoor
namespace Go.Proofs.YtbpdmkohihgnjaaDoor
open Go.RowKit

structure Tabs (W : World) : Prop where
  sha : Tab W
  lows : TabW W
  sz : 12 < W.heap.size
theorem Tabs.below {W w : World} {B : Nat} (h : Tabs W) (hb : Below B W w) (hB : 12 < B) : Tabs w := ⟨h.sha.below hb hB, h.lows.below hb (by omega), by have := hb.size; have := h.sz; omega⟩
theorem Tabs.on {W w : World} (h : Tabs W) (hb : Below W.heap.size W w) : Tabs w := h.below hb h.sz
theorem Tabs.but {W w : World} {g : Nat} (h : Tabs W) (hb : But g W w) (hg : 13 ≤ g) : Tabs w := h.below (hb.below (B := 13) hg (by have := h.sz; omega)) (by decide)

def keyB (k : List Int) : List Int := if 64 < k.length then bytesD (sumB k) else k
def key64 (k : List Int) : List Int := keyB k ++ List.replicate (64 - (keyB k).length) 0
def keyW (k : List Int) : List Int := wordsD (key64 k) 16
def xorL (p : Int) (xs : List Int) : List Int := xs.map fun x => bits .xor .u32 x p
def xorB (p : Int) (bs : List Int) : List Int := bs.map fun x => bits .xor .u8 x p
def hmac (k m : List Int) : List Int := sumB (xorB 92 (key64 k) ++ bytesD (sumB (xorB 54 (key64 k) ++ m)))
end Go.Proofs.YtbpdmkohihgnjaaDoor
