/- Words, bytes and sums as lists; arrays compared: no function of the program. Package word: Bytes, Words. A digest that holds a list of words. Keys and pads as lists: no function of the program. -/
import Derived.Test.YtbpdmkohihgnjaaDoorPackSumB
import Derived.Laws.StructEq
namespace Go.Proofs.YtbpdmkohihgnjaaDoor
open Go.RowKit

def w4 (a b c d : Int) : Int := (((0 * 256 + a) * 256 + b) * 256 + c) * 256 + d
theorem wordAt_full (bs : List Int) (t i : Nat) (h : 4 * i + 3 < t) : wordAt bs t i = w4 (bs.getD (4 * i) 0) (bs.getD (4 * i + 1) 0) (bs.getD (4 * i + 2) 0) (bs.getD (4 * i + 3) 0) := by
  simp (disch := omega) only [wordAt, if_pos, w4, Nat.add_zero]
theorem wordsD_getD (bs : List Int) (n i : Nat) (hi : i < n) : (wordsD bs n).getD i 0 = w4 (bs.getD (4 * i) 0) (bs.getD (4 * i + 1) 0) (bs.getD (4 * i + 2) 0) (bs.getD (4 * i + 3) 0) := by
  unfold wordsD
  rw [partW_getD _ _ _ _ hi, wordAt_full _ _ _ (by omega)]
theorem wordsD_length (bs : List Int) (n : Nat) : (wordsD bs n).length = n := partW_length _ _ _
theorem list_ext_getD {xs ys : List Int} (hl : xs.length = ys.length) (h : ∀ i, i < xs.length → xs.getD i 0 = ys.getD i 0) : xs = ys := by
  apply List.ext_getElem hl
  intro i h1 h2
  have := h i h1
  simpa [List.getD_eq_getElem?_getD, h1, h2] using this
theorem getD_take {xs : List Int} {n i : Nat} (h : i < n) : (xs.take n).getD i 0 = xs.getD i 0 := by
  simp [List.getD_eq_getElem?_getD, h]
theorem getD_drop {xs : List Int} {n i : Nat} : (xs.drop n).getD i 0 = xs.getD (n + i) 0 := by
  simp [List.getD_eq_getElem?_getD]
theorem wordsD_cut (bs : List Int) (n a k : Nat) (h : a + k ≤ n) : ((wordsD bs n).drop a).take k = wordsD ((bs.drop (4 * a)).take (4 * k)) k := by
  apply list_ext_getD
  · simp only [List.length_take, List.length_drop, wordsD_length]; omega
  · intro i hi
    simp only [List.length_take, List.length_drop, wordsD_length] at hi
    rw [getD_take (by omega), getD_drop, wordsD_getD _ _ _ (by omega), wordsD_getD _ _ _ (by omega)]
    rw [getD_take (by omega), getD_take (by omega), getD_take (by omega), getD_take (by omega), getD_drop, getD_drop, getD_drop, getD_drop]
    rw [show 4 * (a + i) = 4 * a + 4 * i by omega]
    rfl

def byteW (x : Int) : List Int := [x / 16777216 % 256, x / 65536 % 256, x / 256 % 256, x % 256]
def bytesD (xs : List Int) : List Int := (xs.map byteW).flatten
theorem bytesD_length (xs : List Int) : (bytesD xs).length = 4 * xs.length := by
  induction xs with
  | nil => rfl
  | cons x xs ih => simp only [bytesD, List.map_cons, List.flatten_cons, List.length_append] at ih ⊢; rw [ih]; simp [byteW]; omega
theorem bytesD_take (xs : List Int) (k : Nat) (h : k < xs.length) : bytesD (xs.take (k + 1)) = bytesD (xs.take k) ++ byteW (xs.getD k 0) := by
  unfold bytesD
  rw [List.take_succ_eq_append_getElem h, List.map_append, List.flatten_append]
  simp [List.getD_eq_getElem?_getD, h]
def sumB (bs : List Int) : List Int := S.fin (S.run S.First (wordsD (bs.take (4 * (bs.length / 4))) (bs.length / 4)) (bs.length / 4 / 16)) ((wordsD (bs.take (4 * (bs.length / 4))) (bs.length / 4)).drop (16 * (bs.length / 4 / 16)) ++ endW bs (bs.length / 4)) (8 * (bs.length : Int))
def sumW (xs : List Int) : List Int := S.fin (S.run S.First xs (xs.length / 16)) (xs.drop (16 * (xs.length / 16)) ++ [2147483648]) (32 * (xs.length : Int))
theorem run_more (A xs : List Int) (k : Nat) : ∀ j, S.run A xs (k + j) = S.run (S.run A xs k) (xs.drop (16 * k)) j
  | 0 => rfl
  | j + 1 => by
    show S.block (S.run A xs (k + j)) ((xs.drop (16 * (k + j))).take 16) = S.block (S.run (S.run A xs k) (xs.drop (16 * k)) j) (((xs.drop (16 * k)).drop (16 * j)).take 16)
    rw [run_more A xs k j, List.drop_drop, show 16 * k + 16 * j = 16 * (k + j) by omega]
theorem run_head (A xs ys : List Int) : ∀ k, 16 * k ≤ xs.length → S.run A (xs ++ ys) k = S.run A xs k
  | 0, _ => rfl
  | k + 1, h => by
    show S.block (S.run A (xs ++ ys) k) (((xs ++ ys).drop (16 * k)).take 16) = S.block (S.run A xs k) ((xs.drop (16 * k)).take 16)
    rw [run_head A xs ys k (by omega), List.drop_append_of_le_length (by omega), List.take_append_of_le_length (by simp; omega)]
theorem pad_length (L : List Int) (b : Int) : (S.pad L b).length = L.length + S.pz L.length + 2 := by simp [S.pad]; omega
theorem fin_all (A ws e : List Int) (b : Int) (k : Nat) (hk : k = ws.length / 16) : S.fin (S.run A ws k) (ws.drop (16 * k) ++ e) b = S.fin A (ws ++ e) b := by
  have h1 : 16 * k ≤ ws.length := by omega
  have hz : S.pz (ws.drop (16 * k) ++ e).length = S.pz (ws ++ e).length := by
    unfold S.pz
    simp only [List.length_append, List.length_drop]
    rw [show (ws.length - 16 * k + e.length) % 16 = (ws.length + e.length) % 16 by omega]
  have hp : S.pad (ws ++ e) b = ws.take (16 * k) ++ S.pad (ws.drop (16 * k) ++ e) b := by
    unfold S.pad
    rw [hz, ← List.append_assoc, ← List.append_assoc, ← List.append_assoc, List.take_append_drop]
  have hl : (S.pad (ws ++ e) b).length / 16 = k + (S.pad (ws.drop (16 * k) ++ e) b).length / 16 := by
    rw [hp, List.length_append, List.length_take]
    omega
  unfold S.fin
  rw [hl, run_more, hp]
  congr 1
  · rw [run_head _ _ _ _ (by rw [List.length_take]; omega)]
    have := run_head A (ws.take (16 * k)) (ws.drop (16 * k)) k (by rw [List.length_take]; omega)
    rw [List.take_append_drop] at this
    exact this
  · have e1 : (ws.take (16 * k)).drop (16 * k) = [] := List.drop_eq_nil_of_le (by rw [List.length_take]; omega)
    rw [List.drop_append_of_le_length (by rw [List.length_take]; omega), e1, List.nil_append]
theorem wordsD_append (xs ys : List Int) (a c : Nat) (hx : xs.length = 4 * a) : wordsD (xs ++ ys) (a + c) = wordsD xs a ++ wordsD ys c := by
  apply list_ext_getD
  · simp only [List.length_append, wordsD_length]
  · intro i hi
    rw [wordsD_length] at hi
    have gl : ∀ j, j < 4 * a → (xs ++ ys).getD j 0 = xs.getD j 0 := fun j hj => by
      simp only [List.getD_eq_getElem?_getD, List.getElem?_append_left (show j < xs.length by omega)]
    have gr : ∀ j, (xs ++ ys).getD (4 * a + j) 0 = ys.getD j 0 := fun j => by
      simp only [List.getD_eq_getElem?_getD]
      rw [List.getElem?_append_right (by omega), hx, show 4 * a + j - 4 * a = j by omega]
    rw [wordsD_getD _ _ _ hi]
    by_cases h : i < a
    · rw [gl _ (by omega), gl _ (by omega), gl _ (by omega), gl _ (by omega)]
      have : (wordsD xs a ++ wordsD ys c).getD i 0 = (wordsD xs a).getD i 0 := by
        simp only [List.getD_eq_getElem?_getD, List.getElem?_append_left (show i < (wordsD xs a).length by rw [wordsD_length]; exact h)]
      rw [this, wordsD_getD _ _ _ h]
    · obtain ⟨j, rfl⟩ : ∃ j, i = a + j := ⟨i - a, by omega⟩
      rw [show 4 * (a + j) = 4 * a + 4 * j by omega, Nat.add_assoc, Nat.add_assoc, Nat.add_assoc, gr, gr, gr, gr]
      have : (wordsD xs a ++ wordsD ys c).getD (a + j) 0 = (wordsD ys c).getD j 0 := by
        simp only [List.getD_eq_getElem?_getD]
        rw [List.getElem?_append_right (by rw [wordsD_length]; omega), wordsD_length, show a + j - a = j by omega]
      rw [this, wordsD_getD _ _ _ (by omega)]
theorem wordsD_zeros (z : Nat) : wordsD (List.replicate (4 * z) 0) z = List.replicate z 0 := by
  apply list_ext_getD
  · simp [wordsD_length]
  · intro i hi
    rw [wordsD_length] at hi
    rw [wordsD_getD _ _ _ hi]
    have z0 : ∀ j, (List.replicate (4 * z) (0 : Int)).getD j 0 = 0 := fun j => by
      simp only [List.getD_eq_getElem?_getD, List.getElem?_replicate]
      split <;> rfl
    rw [z0, z0, z0, z0]
    simp [List.getD_eq_getElem?_getD, w4, hi]
theorem bytesD_getD (xs : List Int) (i : Nat) (hi : i < xs.length) (j : Nat) (hj : j < 4) : (bytesD xs).getD (4 * i + j) 0 = (byteW (xs.getD i 0)).getD j 0 := by
  induction xs generalizing i with
  | nil => simp at hi
  | cons x xs ih =>
    have e : bytesD (x :: xs) = byteW x ++ bytesD xs := by simp [bytesD]
    rw [e]
    cases i with
    | zero =>
      rw [Nat.mul_zero, Nat.zero_add]
      simp [List.getD_eq_getElem?_getD, List.getElem?_append_left (show j < (byteW x).length from hj)]
    | succ i =>
      have := ih i (by simpa using hi)
      simp only [List.getD_eq_getElem?_getD, List.getElem?_cons_succ] at this ⊢
      rw [List.getElem?_append_right (by show 4 ≤ _; omega), show 4 * (i + 1) + j - (byteW x).length = 4 * i + j by show _ - 4 = _; omega, this]
theorem words_bytes (xs : List Int) (wx : Wds xs) : wordsD (bytesD xs) xs.length = xs := by
  apply list_ext_getD
  · rw [wordsD_length]
  · intro i hi
    rw [wordsD_length] at hi
    obtain ⟨x0, x1⟩ := wx i
    have e0 := bytesD_getD xs i hi 0 (by decide)
    rw [Nat.add_zero] at e0
    rw [wordsD_getD _ _ _ hi, e0, bytesD_getD xs i hi 1 (by decide), bytesD_getD xs i hi 2 (by decide), bytesD_getD xs i hi 3 (by decide)]
    generalize xs.getD i 0 = x at *
    simp only [byteW, List.getD_cons_zero, List.getD_cons_succ, w4]
    omega
theorem bytesD_bts (xs : List Int) : Bts (bytesD xs) := by
  intro t
  by_cases h : t < 4 * xs.length
  · have := bytesD_getD xs (t / 4) (by omega) (t % 4) (by omega)
    rw [show 4 * (t / 4) + t % 4 = t by omega] at this
    rw [this]
    generalize xs.getD (t / 4) 0 = x
    match t % 4, show t % 4 < 4 by omega with
    | 0, _ | 1, _ | 2, _ | 3, _ => simp only [byteW, List.getD_cons_zero, List.getD_cons_succ]; omega
  · have := bytesD_length xs
    simp [List.getD_eq_getElem?_getD, List.getElem?_eq_none (show (bytesD xs).length ≤ t by omega)]
theorem sumW_eq (xs : List Int) (wx : Wds xs) : sumW xs = sumB (bytesD xs) := by
  unfold sumW sumB
  rw [bytesD_length, show 4 * xs.length / 4 = xs.length by omega, List.take_of_length_le (by rw [bytesD_length]; omega), words_bytes xs wx]
  have hE : endW (bytesD xs) xs.length = [2147483648] := by
    unfold endW endB
    rw [List.drop_eq_nil_of_le (by rw [bytesD_length]; omega)]
    rfl
  rw [hE]
  congr 1
  push_cast
  omega
theorem all_range_eq' : ∀ (xs ys : List Int), xs.length = ys.length → ((List.range xs.length).all fun i => xs.getD i 0 == ys.getD i 0) = decide (xs = ys)
  | [], [], _ => rfl
  | x :: xs, y :: ys, h => by
    have ih := all_range_eq' xs ys (by simpa using h)
    rw [List.length_cons, List.range_succ_eq_map, List.all_cons, List.all_map]
    simp only [List.getD_cons_zero, Function.comp_def, List.getD_cons_succ, ih]
    rw [Bool.eq_iff_iff]
    simp
  | [], _ :: _, h => by simp at h
  | _ :: _, [], h => by simp at h
theorem run_equalIn_words {P : Program} (w : World) (d : Nat) (t e : TypeId) (n : Nat) (ht : P.underlying t = some (.array n e)) (he : P.underlying e = some (.int .u32)) (hsz : ∀ w, (sizeOf e).run P w = .ok 1 w)
    (xs ys : List Int) (hx : xs.length = n) (hy : ys.length = n) :
    (Op.equalIn (d + 2) t (.agg (xs.map (Value.int .u32)).toArray) (.agg (ys.map (Value.int .u32)).toArray)).run P w = .ok (decide (xs = ys)) w := by
  rw [← all_range_eq' xs ys (hx.trans hy.symm), hx, List.range_eq_range', Op.equalIn]
  simp only [Sem.run_bind, run_underlying ht, Result.andThen_ok, hsz, Std.Legacy.Range.forIn_eq_forIn_range', Std.Legacy.Range.size, Nat.sub_zero, Nat.add_sub_cancel, Nat.div_one]
  have hl : ∀ i ∈ List.range' 0 n 1, i < n := fun i hi => by simpa using (List.mem_range'_1.1 hi).2
  generalize List.range' 0 n 1 = l at hl ⊢
  induction l with
  | nil => simp
  | cons i l ih =>
    have hi : i < n := hl i (by simp)
    have px : (part e (xs.map (Value.int .u32)).toArray (i * 1)).run P w = .ok (.int .u32 (xs.getD i 0)) w := by
      simp [part, isAgg, run_underlying he, List.getD, List.getElem?_eq_getElem (show i < xs.length by omega)]
    have py : (part e (ys.map (Value.int .u32)).toArray (i * 1)).run P w = .ok (.int .u32 (ys.getD i 0)) w := by
      simp [part, isAgg, run_underlying he, List.getD, List.getElem?_eq_getElem (show i < ys.length by omega)]
    have pe : (Op.equalIn (d + 1) e (.int .u32 (xs.getD i 0)) (.int .u32 (ys.getD i 0))).run P w = .ok (xs.getD i 0 == ys.getD i 0) w := by
      rw [run_equalIn_int w d e .u32 .u32 _ _ he]
    simp only [List.forIn_cons, Sem.run_bind, px, py, pe, Result.andThen_ok, List.all_cons]
    cases hb : (xs.getD i 0 == ys.getD i 0)
    · simp
    · simp only [Bool.not_true, Bool.false_eq_true, if_false, Sem.run_pure, Result.andThen_ok, Bool.true_and]
      exact ih fun j hj => hl j (by simp [hj])
theorem eq26 (xs ys : List Int) (hx : xs.length = 8) (hy : ys.length = 8) (w : World) : (Op.equalIn 10000 23 (.agg (xs.map (Value.int .u32)).toArray) (.agg (ys.map (Value.int .u32)).toArray)).run Tryd.prog w = .ok (decide (xs = ys)) w :=
  run_equalIn_words w 9998 23 22 8 Tryd.underlying23 Tryd.underlying22 Tryd.sizeOf22 xs ys hx hy
theorem sumW_length (xs : List Int) : (sumW xs).length = 8 := run_length _ _ (run_length _ _ rfl _) _
theorem sumB_length (bs : List Int) : (sumB bs).length = 8 := run_length _ _ (run_length _ _ rfl _) _
end Go.Proofs.YtbpdmkohihgnjaaDoor
namespace Go.Proofs.YtbpdmkohihgnjaaDoor
open Go.RowKit

namespace M
theorem two_pos (n : Nat) : (0 : Int) < 2 ^ n := Int.pow_pos (by decide)
theorem two_nat (n : Nat) : ((2 ^ n : Nat) : Int) = 2 ^ n := by push_cast; rfl
theorem two_le {a b : Nat} (h : a ≤ b) : (2 : Int) ^ a ≤ 2 ^ b := by
  have := Nat.pow_le_pow_right (n := 2) (by decide) h
  have h1 := two_nat a; have h2 := two_nat b
  omega
theorem two_32 : (2 : Int) ^ 32 = 4294967296 := by decide
theorem and_low (x : Int) (n : Nat) (h0 : 0 ≤ x) (h1 : x < 4294967296) (hn : n ≤ 32) : bits .and .u32 x (2 ^ n - 1) = x % 2 ^ n := by
  have hp := two_pos n
  have hq := two_le hn
  have h32 := two_32
  rw [u32_and x _ h0 h1 (by omega) (by omega)]
  obtain ⟨a, rfl⟩ := Int.eq_ofNat_of_zero_le h0
  have e : ((2 : Int) ^ n - 1).toNat = 2 ^ n - 1 := by have := two_nat n; omega
  rw [e, Int.toNat_natCast, Nat.and_two_pow_sub_one_eq_mod]
  push_cast; rfl
def Fld (w : Int) (lo n : Nat) : Int := w / 2 ^ lo % 2 ^ n
theorem fld_bounds (w : Int) (lo n : Nat) (hn : n ≤ 32) : 0 ≤ Fld w lo n ∧ Fld w lo n < 2 ^ n ∧ Fld w lo n < 4294967296 := by
  have hp := two_pos n
  have hq := two_le hn
  have h32 := two_32
  have a := Int.emod_nonneg (w / 2 ^ lo) (show (2 : Int) ^ n ≠ 0 by omega)
  have b := Int.emod_lt_of_pos (w / 2 ^ lo) hp
  unfold Fld; omega
theorem div_bounds (w : Int) (lo : Nat) (h0 : 0 ≤ w) (h1 : w < 4294967296) : 0 ≤ w / 2 ^ lo ∧ w / 2 ^ lo < 4294967296 := by
  have hp := two_pos lo
  refine ⟨Int.ediv_nonneg h0 (by omega), ?_⟩
  have := Int.ediv_le_self (2 ^ lo) h0
  omega
theorem cut_eq (w : Int) (lo n : Nat) (h0 : 0 ≤ w) (h1 : w < 4294967296) (hn : n ≤ 32) : bits .and .u32 (w / 2 ^ lo) (2 ^ n - 1) = Fld w lo n := by
  have := div_bounds w lo h0 h1
  exact and_low _ n this.1 this.2 hn
end M
/-- The table of masks lies where its initialiser laid it. -/
def TabW (W : World) : Prop := ∀ i : Nat, i ≤ 32 → W.cell? ⟨0, i, none⟩ = some (.int .u32 (2 ^ i - 1))
theorem TabW.below {W w : World} {B : Nat} (h : TabW W) (hb : Below B W w) (hB : 0 < B) : TabW w := fun i hi => (hb.cell (p := ⟨0, i, none⟩) hB).trans (h i hi)
theorem cut_any (W : World) (hT : TabW W) (w lo n : Int) (w0 : 0 ≤ w) (w1 : w < 4294967296) (l0 : 0 ≤ lo) (n0 : 0 ≤ n) (hn : n ≤ 32) (l1 : lo ≤ 31) :
    Calls Tryd.prog 41 #[.int .u32 w, .int .i64 lo, .int .i64 n] W fun e W' => e = .returned (.int .u32 (M.Fld w lo.toNat n.toNat)) ∧ ∃ k, W' = W.drewN k := by
  obtain ⟨l, rfl⟩ := Int.eq_ofNat_of_zero_le l0
  obtain ⟨m, rfl⟩ := Int.eq_ofNat_of_zero_le n0
  have h := hT m (by omega)
  have H : Hid (bits .and .u32 (w / 2 ^ l) (2 ^ m - 1) = M.Fld w l m) := M.cut_eq w l m w0 w1 (by omega)
  clear hT
  go_enter Tryd.func41, Tryd.ntmps41
  go_wp2
  go_quiet (fail)
  go_wp2
  go_ret
  exact ⟨ret_int (by rw [Int.toNat_natCast, Int.toNat_natCast]; exact H.out), _, rfl⟩
/-- The first t numbers of D, zeros behind them. -/
def fill (D : List Int) (t : Nat) : List Int := D.take t ++ List.replicate (D.length - t) 0
theorem fill_length (D : List Int) (t : Nat) (h : t ≤ D.length) : (fill D t).length = D.length := by simp [fill]; omega
theorem fill_zero (D : List Int) : fill D 0 = List.replicate D.length 0 := by simp [fill]
theorem fill_all (D : List Int) : fill D D.length = D := by simp [fill]
theorem fill_set (D : List Int) (t : Nat) (h : t < D.length) : (fill D t).set t (D.getD t 0) = fill D (t + 1) := by
  unfold fill
  rw [List.set_append_right _ _ (by simp; omega)]
  rw [List.take_succ_eq_append_getElem h, List.append_assoc]
  congr 1
  obtain ⟨m, hm⟩ : ∃ m, D.length - t = m + 1 := ⟨D.length - t - 1, by omega⟩
  rw [hm, List.replicate_succ, show t - (D.take t).length = 0 by simp; omega, List.set_cons_zero, show D.length - (t + 1) = m by omega]
  simp [List.getD_eq_getElem?_getD, h]
/-- A row of the call's own, filled as far as t. -/
structure Filled (W wr : World) (k : IntKind) (e : TypeId) (N : Nat) (D : List Int) (t : Nat) : Prop where
  len : D.length = N
  le : t ≤ N
  own : wr.ownsRow W.heap.size e 1 (.slice (some ⟨W.heap.size, 0, none⟩) N N) N ((fill D t).map (Value.int k))
  below : Below W.heap.size W wr
theorem Filled.cell {W wr : World} {k : IntKind} {e : TypeId} {N : Nat} {D : List Int} {t : Nat} (h : Filled W wr k e N D t) (j : Nat) (hj : j < N) : wr.cell? ⟨W.heap.size, j, none⟩ = some (.int k ((fill D t).getD j 0)) := by
  rw [h.own.cellAt j (by omega)]
  have := fill_length D t (by rw [h.len]; exact h.le)
  have := h.len
  simp [List.getD_eq_getElem?_getD, show j < (fill D t).length by omega]
theorem Filled.free {W wr : World} {k : IntKind} {e : TypeId} {N : Nat} {D : List Int} {t : Nat} (h : Filled W wr k e N D t) (j : Nat) : wr.frozen? ⟨W.heap.size, j, none⟩ = false := h.own.frozenAt j
theorem Filled.drewN {W wr : World} {k : IntKind} {e : TypeId} {N : Nat} {D : List Int} {t : Nat} (h : Filled W wr k e N D t) (d : Nat) : Filled W (wr.drewN d) k e N D t :=
  ⟨h.len, h.le, h.own, below_drewN h.below d⟩
theorem Filled.step {W wr : World} {k : IntKind} {e : TypeId} {N : Nat} {D : List Int} {t : Nat} (h : Filled W wr k e N D t) (ht : t < N) {u : Int} (hu : u = D.getD t 0) : Filled W (wr.setCell ⟨W.heap.size, t, none⟩ (.int k u)) k e N D (t + 1) := by
  subst hu
  refine ⟨h.len, ht, ?_, h.below.setCell (Nat.le_refl _) _⟩
  have := (h.own.stored t (.int k (D.getD t 0))).1
  rwa [← List.map_set, fill_set D t (by rw [h.len]; exact ht)] at this
theorem Filled.start {W w : World} {k : IntKind} {e : TypeId} {N : Nat} {D : List Int} (hN : D.length = N) (h : w.ownsRow W.heap.size e 1 (.slice (some ⟨W.heap.size, 0, none⟩) N N) N (madeCells #[Value.int k 0] N).toList) (hg : W.grownBy w none) : Filled W w k e N D 0 := by
  refine ⟨hN, Nat.zero_le _, ?_, (Below.refl _ W).grown hg (Nat.le_refl _) (fun _ h => by cases h)⟩
  rw [toList_madeCells_one] at h
  rw [fill_zero, hN, List.map_replicate]
  exact h
theorem flat_getD (f : Int → List Int) (c : Nat) (hf : ∀ x, (f x).length = c) : ∀ (xs : List Int) (i j : Nat), i < xs.length → j < c → ((xs.map f).flatten).getD (c * i + j) 0 = (f (xs.getD i 0)).getD j 0
  | [], i, j, hi, _ => by simp at hi
  | x :: xs, 0, j, _, hj => by
    rw [List.map_cons, List.flatten_cons, Nat.mul_zero, Nat.zero_add]
    simp [List.getD_eq_getElem?_getD, List.getElem?_append_left (show j < (f x).length by rw [hf]; exact hj)]
  | x :: xs, i + 1, j, hi, hj => by
    have ih := flat_getD f c hf xs i j (by simpa using hi) hj
    rw [List.map_cons, List.flatten_cons]
    rw [List.getD_eq_getElem?_getD, List.getElem?_append_right (by rw [hf, Nat.mul_add]; omega), hf, show c * (i + 1) + j - c = c * i + j by rw [Nat.mul_add]; omega, ← List.getD_eq_getElem?_getD, ih]
    simp
theorem bytesD_at (xs : List Int) (i j : Nat) (hi : i < xs.length) (hj : j < 4) : (bytesD xs).getD (4 * i + j) 0 = M.Fld (xs.getD i 0) (24 - 8 * j) 8 := by
  rw [bytesD_getD xs i hi j hj]
  generalize xs.getD i 0 = x
  match j, hj with
  | 0, _ | 1, _ | 2, _ => rfl
  | 3, _ => show x % 256 = x / 2 ^ 0 % 2 ^ 8; simp
theorem Filled.row {W wr : World} {k : IntKind} {e : TypeId} {N : Nat} {D : List Int} (h : Filled W wr k e N D N) : Row wr k W.heap.size 0 D := by
  intro i hi
  have := h.cell i (by rw [← h.len]; exact hi)
  rw [← h.len, fill_all] at this
  rw [Nat.zero_add]
  exact this
theorem Filled.lt {W wr : World} {k : IntKind} {e : TypeId} {N : Nat} {D : List Int} {t : Nat} (h : Filled W wr k e N D t) : W.heap.size < wr.heap.size := (h.own.lt W.heap.size rfl).2
set_option maxHeartbeats 400000 in
theorem bytes_any (W : World) (hT : TabW W) (b off n cap : Nat) (xs : List Int) (hx : xs.length = n) (wx : Wds xs) (h1 : Row W .u32 b off xs) (hn : 4 * n ≤ 140737488351232) (hb : b < W.heap.size) (h0 : 0 < W.heap.size) :
    Calls Tryd.prog 13 #[.slice (some ⟨b, off, none⟩) n cap] W fun e W' => e = .returned (.slice (some ⟨W.heap.size, 0, none⟩) (4 * n) (4 * n)) ∧ Filled W W' .u8 5 (4 * n) (bytesD xs) (4 * n) := by
  obtain ⟨i0, hi, hz0, hz1, hz2⟩ := info_parts Tryd.info5
  have hL := bytesD_length xs
  rw [hx] at hL
  go_enter Tryd.func13, Tryd.ntmps13
  go_wp2_with (first | (at_make; refine wpList_make_full _ rfl _ _ 30 rfl W.heap.size 5 i0 (.int .u8 0) 1 Tryd.underlying30 hi hz0 hz1 .i64 .i64 _ _ (4 * n) rfl rfl (by push_cast; rfl) (by push_cast; rfl) ?c1 ?c2 (Nat.le_refl _) ?_))
  case c1 => rw [hz2]; omega
  case c2 => unfold maxLen; omega
  intro w' hown hg
  have F0 := Filled.start hL hown hg
  clear hown hg hi hz0 hz1 hz2
  go_wp2
  go_loopw [12] (fun i wr => ∃ k : Nat, k ≤ n ∧ i = .int .i64 k ∧ Filled W wr .u8 5 (4 * n) (bytesD xs) (4 * k)) (fun i _ => n - (intOf i).toNat)
  case atStart => exact ⟨0, Nat.zero_le _, rfl, F0⟩
  case round =>
    obtain ⟨i, hin, rfl, F⟩ := hrel
    by_cases hlt : i < n
    · go_wp2
      go_loopw [15] (fun j wr => ∃ k : Nat, k ≤ 4 ∧ j = .int .i64 k ∧ Filled W wr .u8 5 (4 * n) (bytesD xs) (4 * i + k)) (fun j _ => 4 - (intOf j).toNat)
      case atStart => exact ⟨0, Nat.zero_le _, rfl, F⟩
      case round =>
        clear F
        obtain ⟨j, hj8, rfl, F⟩ := hrel
        by_cases hjlt : j < 4
        · have hc := h1.below F.below hb i (by omega)
          have hT' := hT.below F.below h0
          obtain ⟨q0, q1⟩ := wx i
          have hcell := F.cell (4 * i + j) (by omega)
          have hfree := F.free (4 * i + j)
          have HD := bytesD_at xs i j (by omega) hjlt
          generalize xs.getD i 0 = x at *
          obtain ⟨f0, f1, _⟩ := M.fld_bounds x (24 - 8 * j) 8 (by decide)
          rw [show (2 : Int) ^ 8 = 256 from rfl] at f1
          have HS : Hid (∀ (d : Nat), Filled W ((wr.drewN d).setCell ⟨W.heap.size, 4 * i + j, none⟩ (.int .u8 (M.Fld x (24 - 8 * j) 8))) .u8 5 (4 * n) (bytesD xs) (4 * i + (j + 1))) :=
            fun d => (F.drewN d).step (by omega) HD.symm
          clear HD F
          go_wp2_with (first | (go_at_call 41; refine (cut_any _ hT' _ _ _ q0 q1 (by omega) (by omega) (by omega) (by omega)).mono ?_; rintro e w' ⟨rfl, d, rfl⟩))
          go_roundw
          case rel => exact ⟨j + 1, by omega, by go_num, HS.out d⟩
          case measure => simp [intOf]; omega
        · obtain rfl : j = 4 := by omega
          go_wp2
          go_roundw
          case rel => exact ⟨i + 1, by omega, by go_num, F⟩
          case measure => simp [intOf]; omega
    · obtain rfl : i = n := by omega
      have HB : Hid (Filled W wr .u8 5 (4 * i) (bytesD xs) (4 * i)) := F
      clear F
      go_wp2
      go_ret
      exact ⟨rfl, HB⟩
theorem bytes_nil (W : World) (ao : Option Addr) (cap : Nat) :
    Calls Tryd.prog 13 #[.slice ao 0 cap] W fun e W' => e = .returned (.slice (some ⟨W.heap.size, 0, none⟩) 0 0) ∧ Filled W W' .u8 5 0 (bytesD []) 0 := by
  obtain ⟨i0, hi, hz0, hz1, hz2⟩ := info_parts Tryd.info5
  go_enter Tryd.func13, Tryd.ntmps13
  go_wp2_with (first | (at_make; refine wpList_make_full _ rfl _ _ 30 rfl W.heap.size 5 i0 (.int .u8 0) 1 Tryd.underlying30 hi hz0 hz1 .i64 .i64 _ _ 0 rfl rfl rfl rfl ?c1 ?c2 (Nat.le_refl _) ?_))
  case c1 => omega
  case c2 => unfold maxLen; omega
  intro w' hown hg
  have F0 := Filled.start (D := bytesD []) rfl hown hg
  clear hown hg hi hz0 hz1 hz2
  go_wp2
  refine wp_loop_rounds 1 ?_
  rw [rounds_succ]
  have HB : Hid (Filled W w' .u8 5 0 (bytesD []) 0) := F0
  clear F0
  go_wp2
  go_ret
  exact ⟨rfl, HB⟩
theorem Owned.drewN {W wr : World} {k : IntKind} {e : TypeId} {N : Nat} {L : List Int} (h : Owned W wr k e N L) (d : Nat) : Owned W (wr.drewN d) k e N L := ⟨h.len, h.own, below_drewN h.below d⟩
theorem Filled.owned {W wr : World} {k : IntKind} {e : TypeId} {N : Nat} {D : List Int} (h : Filled W wr k e N D N) : Owned W wr k e N D := by
  refine ⟨h.len, ?_, h.below⟩
  have := h.own
  rwa [← h.len, fill_all, h.len] at this
set_option maxRecDepth 20000 in
set_option maxHeartbeats 400000 in
theorem words_any (W : World) (b off n cap : Nat) (bs : List Int) (hl : bs.length = 4 * n) (hbs : Bts bs) (h1 : Row W .u8 b off bs) (hn : 4 * n ≤ 1048576) (hb : b < W.heap.size) :
    Calls Tryd.prog 65 #[.slice (some ⟨b, off, none⟩) (4 * n) cap] W fun e W' => e = .returned (.tuple #[.slice (some ⟨W.heap.size, 0, none⟩) n n, .int .i64 0]) ∧ Owned W W' .u32 22 n (wordsD bs n) := by
  obtain ⟨i0, hi, hz0, hz1, hz2⟩ := info_parts Tryd.info22
  have h4 : (((4 * n : Nat) : Int) % 4 != 0) = false := by simp
  have h5 : ((4 * n : Nat) : Int) / 4 = (n : Int) := by omega
  go_enter Tryd.func65, Tryd.ntmps65
  go_wp2_with (first | (at_make; refine wpList_make_full _ rfl _ _ 25 rfl W.heap.size 22 i0 (.int .u32 0) 1 Tryd.underlying25 hi hz0 hz1 .i64 .i64 _ _ n rfl rfl (by omega) (by omega) ?c1 ?c2 (Nat.le_refl _) ?_))
  case c1 => rw [hz2]; omega
  case c2 => unfold maxLen; omega
  intro w' hown hg
  have F0 := Owned.start hown hg
  rw [← partW_zero bs n] at F0
  clear hown hg hi hz0 hz1 hz2
  go_wp2
  go_loopw [19] (fun i wr => ∃ t : Nat, t ≤ 4 * n ∧ i = .int .i64 t ∧ Owned W wr .u32 22 n (partW bs n t)) (fun i _ => 4 * n - (intOf i).toNat)
  case atStart => exact ⟨0, Nat.zero_le _, rfl, F0⟩
  case round =>
    obtain ⟨t, ht, rfl, F⟩ := hrel
    by_cases hlt : t < 4 * n
    · have hc := h1.below F.below hb t (by omega)
      obtain ⟨q0, q1⟩ := hbs t
      obtain ⟨x0, x1⟩ := wordAt_bound bs hbs (t / 4) (t % 4) (by omega)
      have hps := partW_step bs n (t / 4) (t % 4) (by omega) (by omega)
      rw [show 4 * (t / 4) + t % 4 = t by omega] at x0 x1 hps
      have hcell := F.cell (t / 4) (by omega)
      rw [partW_getD bs n _ (t / 4) (by omega)] at hcell
      have hfree := F.free (t / 4)
      have hor : Hid _ := or_byte _ _ x0 x1 q0 q1
      have HS : Hid (∀ u, u = wordAt bs t (t / 4) * 256 + bs.getD t 0 → Owned W (wr.drew.setCell ⟨W.heap.size, t / 4, none⟩ (.int .u32 u)) .u32 22 n (partW bs n (t + 1))) :=
        fun u hu => F.drew.step (t / 4) u (hps u hu)
      clear F hps
      generalize wordAt bs t (t / 4) = x at *
      generalize bs.getD t 0 = y at *
      go_wp2
      go_region
      go_wp2
      go_roundw
      case rel => exact ⟨t + 1, by omega, by go_num, HS.out _ hor.out⟩
      case measure => simp [intOf]; omega
    · obtain rfl : t = 4 * n := by omega
      have HB : Hid (Owned W wr .u32 22 n (wordsD bs n)) := F
      clear F
      go_wp2
      go_ret2
      exact ⟨rfl, HB⟩
theorem bytes_at (W : World) (hT : TabW W) (ao : Option Addr) (n cap : Nat) (xs : List Int) (hx : xs.length = n) (wx : Wds xs) (h1 : At W .u32 ao xs) (hn : 4 * n ≤ 140737488351232) (h0 : 0 < W.heap.size) :
    Calls Tryd.prog 13 #[.slice ao n cap] W fun e W' => e = .returned (.slice (some ⟨W.heap.size, 0, none⟩) (4 * n) (4 * n)) ∧ Owned W W' .u8 5 (4 * n) (bytesD xs) := by
  rcases h1 with rfl | ⟨b, off, rfl, hb, h1⟩
  · simp at hx
    subst hx
    exact (bytes_nil W ao cap).mono fun e w' h => ⟨h.1, h.2.owned⟩
  · exact (bytes_any W hT b off n cap xs hx wx h1 hn hb h0).mono fun e w' h => ⟨h.1, h.2.owned⟩
end Go.Proofs.YtbpdmkohihgnjaaDoor
namespace Go.Proofs.YtbpdmkohihgnjaaDoor
open Go.RowKit

def DigL (W : World) (g : Nat) (L : List Int) : Prop := Dig W g (S.run S.First L (L.length / 16)) L.length (L.drop (16 * (L.length / 16)))
theorem DigL.lt {W : World} {g : Nat} {L : List Int} (h : DigL W g L) : g < W.heap.size := Dig.lt h
theorem DigL.below {W w : World} {g : Nat} {L : List Int} (h : DigL W g L) (hb : Below W.heap.size W w) : DigL w g L := Dig.below h hb (Dig.lt h)
theorem DigL.but {W w : World} {g i : Nat} {L : List Int} (h : DigL W i L) (hb : But g W w) (hi : i ≠ g) : DigL w i L := Dig.but h hb hi
theorem newL_any (W : World) :
    Calls Tryd.prog 66 #[] W fun e W' => ∃ g, W.heap.size ≤ g ∧ e = .returned (.pointer (some ⟨g, 0, none⟩)) ∧ DigL W' g [] ∧ Below W.heap.size W W' := new_any W
theorem copyL_any (W : World) (g : Nat) (L : List Int) (D : DigL W g L) :
    Calls Tryd.prog 61 #[.pointer (some ⟨g, 0, none⟩)] W fun e W' => ∃ g', W.heap.size ≤ g' ∧ e = .returned (.pointer (some ⟨g', 0, none⟩)) ∧ DigL W' g' L ∧ Below W.heap.size W W' := copy_any W g _ _ _ D
theorem sumL_any (W : World) (hT : Tab W) (h2 : 12 < W.heap.size) (g : Nat) (L : List Int) (D : DigL W g L) :
    Calls Tryd.prog 62 #[.pointer (some ⟨g, 0, none⟩)] W fun e W' => e = .returned (.agg ((sumW L).map (Value.int .u32)).toArray) ∧ Below W.heap.size W W' := dsum_any W hT h2 g _ _ _ D
theorem addL_any (W : World) (hT : Tab W) (h2 : 12 < W.heap.size) (g : Nat) (L : List Int) (D : DigL W g L) (ao : Option Addr) (m c : Nat) (xs : List Int) (hx : xs.length = m) (hat : At W .u32 ao xs) (hm : m ≤ 35184372088800) (h : L.length + m ≤ 36028797018963968) :
    Calls Tryd.prog 31 #[.pointer (some ⟨g, 0, none⟩), .slice ao m c] W fun e W' => e = .returned (.tuple #[]) ∧ DigL W' g (L ++ xs) ∧ But g W W' := by
  refine (add_fits W hT h2 g _ _ _ D ao m c xs hx hat hm h).mono ?_
  rintro e W' ⟨rfl, D', hb⟩
  refine ⟨rfl, ?_, hb⟩
  have e1 : L.drop (16 * (L.length / 16)) ++ xs = (L ++ xs).drop (16 * (L.length / 16)) := by
    rw [List.drop_append_of_le_length (by omega)]
  have e2 : (L ++ xs).length / 16 = L.length / 16 + (L.length % 16 + m) / 16 := by rw [List.length_append, hx]; omega
  unfold DigL
  rw [e2, run_more, run_head _ _ _ _ (by omega), ← e1, List.length_append, hx, show 16 * (L.length / 16 + (L.length % 16 + m) / 16) = 16 * (L.length / 16) + 16 * ((L.length % 16 + m) / 16) by omega, ← List.drop_drop, ← e1]
  exact D'
theorem At.cut {W : World} {k : IntKind} {ao : Option Addr} {xs : List Int} (h : At W k ao xs) (n cap a m : Nat) (hx : xs.length = n) (hc : n ≤ cap) (ha : a + m ≤ n) : At W k (if cap = a then ao else Option.map (fun x => x.add a) ao) ((xs.drop a).take m) := by
  rcases Nat.eq_zero_or_pos m with rfl | hm
  · left; simp
  · rcases h with h0 | ⟨b, off, rfl, hb, hr⟩
    · rw [h0] at hx; simp at hx; omega
    · rw [if_neg (by omega)]
      exact .inr ⟨b, off + a, by simp [Addr.add_mid], hb, (hr.drop a).take m⟩
theorem At.head {W : World} {k : IntKind} {ao : Option Addr} {xs : List Int} (h : At W k ao xs) (a : Nat) : At W k ao (xs.take a) := by
  rcases h with h0 | ⟨b, off, h1, hb, hr⟩
  · left; rw [h0]; simp
  · exact .inr ⟨b, off, h1, hb, hr.take a⟩
end Go.Proofs.YtbpdmkohihgnjaaDoor
namespace Go.Proofs.YtbpdmkohihgnjaaDoor
open Go.RowKit

/-- The tables lie where their initialisers laid them. -/
structure Tabs (W : World) : Prop where
  sha : Tab W
  lows : TabW W
  sz : 12 < W.heap.size
theorem Tabs.below {W w : World} {B : Nat} (h : Tabs W) (hb : Below B W w) (hB : 12 < B) : Tabs w := ⟨h.sha.below hb hB, h.lows.below hb (by omega), by have := hb.size; have := h.sz; omega⟩
theorem Tabs.on {W w : World} (h : Tabs W) (hb : Below W.heap.size W w) : Tabs w := h.below hb h.sz
theorem Tabs.but {W w : World} {g : Nat} (h : Tabs W) (hb : But g W w) (hg : 13 ≤ g) : Tabs w := h.below (hb.below (B := 13) hg (by have := h.sz; omega)) (by decide)

/-- The key as 64 bytes. -/
def keyB (k : List Int) : List Int := if 64 < k.length then bytesD (sumB k) else k
def key64 (k : List Int) : List Int := keyB k ++ List.replicate (64 - (keyB k).length) 0
def keyW (k : List Int) : List Int := wordsD (key64 k) 16
def xorL (p : Int) (xs : List Int) : List Int := xs.map fun x => bits .xor .u32 x p
def xorB (p : Int) (bs : List Int) : List Int := bs.map fun x => bits .xor .u8 x p
def hmac (k m : List Int) : List Int := sumB (xorB 92 (key64 k) ++ bytesD (sumB (xorB 54 (key64 k) ++ m)))
theorem hmac_length (k m : List Int) : (hmac k m).length = 8 := sumB_length _
theorem xorL_length (p : Int) (xs : List Int) : (xorL p xs).length = xs.length := by simp [xorL]
theorem xorB_length (p : Int) (xs : List Int) : (xorB p xs).length = xs.length := by simp [xorB]
theorem keyB_length (k : List Int) : (keyB k).length ≤ 64 := by
  unfold keyB
  split
  · rw [bytesD_length, sumB_length]; decide
  · omega
theorem key64_length (k : List Int) : (key64 k).length = 64 := by
  have := keyB_length k
  simp [key64]; omega
theorem keyW_length (k : List Int) : (keyW k).length = 16 := wordsD_length _ _
theorem bts_zeros (n : Nat) : Bts (List.replicate n 0) := fun i => by
  simp only [List.getD_eq_getElem?_getD, List.getElem?_replicate]
  split <;> simp
theorem key64_bts {k : List Int} (h : Bts k) : Bts (key64 k) := by
  unfold key64
  refine bts_append ?_ (bts_zeros _)
  unfold keyB
  split
  · exact bytesD_bts _
  · exact h
theorem w4_wd {a b c d : Int} (a0 : 0 ≤ a) (a1 : a < 256) (b0 : 0 ≤ b) (b1 : b < 256) (c0 : 0 ≤ c) (c1 : c < 256) (d0 : 0 ≤ d) (d1 : d < 256) : 0 ≤ w4 a b c d ∧ w4 a b c d < 4294967296 := by
  unfold w4; omega
theorem wordsD_wds {bs : List Int} (h : Bts bs) (n : Nat) : Wds (wordsD bs n) := fun i => by
  by_cases hi : i < n
  · rw [wordsD_getD _ _ _ hi]
    have q := fun j => h j
    exact w4_wd (h _).1 (h _).2 (h _).1 (h _).2 (h _).1 (h _).2 (h _).1 (h _).2
  · have := wordsD_length bs n
    simp [List.getD_eq_getElem?_getD, List.getElem?_eq_none (show (wordsD bs n).length ≤ i by omega)]
theorem xor_u32 (x p : Int) (x0 : 0 ≤ x) (x1 : x < 4294967296) (p0 : 0 ≤ p) (p1 : p < 4294967296) : 0 ≤ bits .xor .u32 x p ∧ bits .xor .u32 x p < 4294967296 := by
  obtain ⟨x, rfl⟩ := Int.eq_ofNat_of_zero_le x0
  obtain ⟨p, rfl⟩ := Int.eq_ofNat_of_zero_le p0
  have hx : x ^^^ p < 4294967296 := Nat.xor_lt_two_pow (n := 32) (by omega) (by omega)
  rw [u32_xor_nat _ _ (by omega) (by omega)]
  omega
theorem xorL_wds {xs : List Int} (p : Int) (p0 : 0 ≤ p) (p1 : p < 4294967296) (h : Wds xs) : Wds (xorL p xs) := fun i => by
  by_cases hi : i < xs.length
  · have e : (xorL p xs).getD i 0 = bits .xor .u32 (xs.getD i 0) p := by simp [xorL, List.getD_eq_getElem?_getD, hi]
    rw [e]
    exact xor_u32 _ _ (h i).1 (h i).2 p0 p1
  · simp [xorL, List.getD_eq_getElem?_getD, List.getElem?_eq_none (show xs.length ≤ i by omega)]
theorem xor_u8 (x p : Int) (x0 : 0 ≤ x) (x1 : x < 256) (p0 : 0 ≤ p) (p1 : p < 256) : bits .xor .u8 x p = ((x.toNat ^^^ p.toNat : Nat) : Int) ∧ x.toNat ^^^ p.toNat < 256 := by
  obtain ⟨x, rfl⟩ := Int.eq_ofNat_of_zero_le x0
  obtain ⟨p, rfl⟩ := Int.eq_ofNat_of_zero_le p0
  have hx : x ^^^ p < 256 := Nat.xor_lt_two_pow (n := 8) (by omega) (by omega)
  refine ⟨?_, by simpa using hx⟩
  rw [u8_xor_nat _ _ (by omega) (by omega)]
  simp
/-- A pad laid over a word is laid over each of its bytes. -/
theorem xor_w4 (a b c d p q : Nat) (hb : b < 256) (hc : c < 256) (hd : d < 256) (hp : p < 256) (hq : q = ((p * 256 + p) * 256 + p) * 256 + p) :
    (((a * 256 + b) * 256 + c) * 256 + d) ^^^ q = (((a ^^^ p) * 256 + (b ^^^ p)) * 256 + (c ^^^ p)) * 256 + (d ^^^ p) := by
  have step : ∀ x y u v : Nat, u < 256 → v < 256 → (x * 256 + u) ^^^ (y * 256 + v) = (x ^^^ y) * 256 + (u ^^^ v) := by
    intro x y u v hu hv
    have hl : u ^^^ v < 256 := Nat.xor_lt_two_pow (n := 8) hu hv
    have h1 : ((x * 256 + u) ^^^ (y * 256 + v)) / 2 ^ 8 = x ^^^ y := by
      rw [Nat.xor_div_two_pow]
      rw [show (x * 256 + u) / 2 ^ 8 = x by omega, show (y * 256 + v) / 2 ^ 8 = y by omega]
    have h2 : ((x * 256 + u) ^^^ (y * 256 + v)) % 2 ^ 8 = u ^^^ v := by
      rw [Nat.xor_mod_two_pow]
      rw [show (x * 256 + u) % 2 ^ 8 = u by omega, show (y * 256 + v) % 2 ^ 8 = v by omega]
    omega
  subst hq
  rw [step _ _ _ _ hd hp, step _ _ _ _ hc hp, step _ _ _ _ hb hp]
theorem bytes_xor (bs : List Int) (h : Bts bs) (n : Nat) (hl : bs.length = 4 * n) (p q : Nat) (hp : p < 256) (hq : q = ((p * 256 + p) * 256 + p) * 256 + p) : bytesD (xorL (q : Int) (wordsD bs n)) = xorB (p : Int) bs := by
  have hL : (xorL (q : Int) (wordsD bs n)).length = n := by rw [xorL_length, wordsD_length]
  apply list_ext_getD
  · rw [bytesD_length, hL, xorB_length, hl]
  · intro t ht
    rw [bytesD_length, hL] at ht
    have e0 := bytesD_getD (xorL (q : Int) (wordsD bs n)) (t / 4) (by omega) (t % 4) (by omega)
    rw [show 4 * (t / 4) + t % 4 = t by omega] at e0
    rw [e0]
    have e1 : (xorL (q : Int) (wordsD bs n)).getD (t / 4) 0 = bits .xor .u32 ((wordsD bs n).getD (t / 4) 0) q := by
      simp [xorL, List.getD_eq_getElem?_getD, List.getElem?_eq_getElem (show t / 4 < (wordsD bs n).length by rw [wordsD_length]; omega)]
    have e2 : (xorB (p : Int) bs).getD t 0 = bits .xor .u8 (bs.getD t 0) p := by
      simp [xorB, List.getD_eq_getElem?_getD, List.getElem?_eq_getElem (show t < bs.length by omega)]
    rw [e1, e2, wordsD_getD _ _ _ (by omega)]
    obtain ⟨a0, a1⟩ := h (4 * (t / 4))
    obtain ⟨b0, b1⟩ := h (4 * (t / 4) + 1)
    obtain ⟨c0, c1⟩ := h (4 * (t / 4) + 2)
    obtain ⟨d0, d1⟩ := h (4 * (t / 4) + 3)
    have et : bs.getD t 0 = bs.getD (4 * (t / 4) + t % 4) 0 := by rw [show 4 * (t / 4) + t % 4 = t by omega]
    rw [et]
    have hr : t % 4 < 4 := by omega
    generalize t % 4 = r at hr ⊢
    generalize 4 * (t / 4) = i at *
    obtain ⟨a, ha⟩ := Int.eq_ofNat_of_zero_le a0
    obtain ⟨b, hb⟩ := Int.eq_ofNat_of_zero_le b0
    obtain ⟨c, hc⟩ := Int.eq_ofNat_of_zero_le c0
    obtain ⟨d, hd⟩ := Int.eq_ofNat_of_zero_le d0
    rw [ha, hb, hc, hd]
    have ew : w4 (a : Int) b c d = (((((a * 256 + b) * 256 + c) * 256 + d : Nat)) : Int) := by unfold w4; omega
    have hqn : q < 4294967296 := by omega
    rw [ew, u32_xor_nat _ _ (by omega) hqn, xor_w4 a b c d p q (by omega) (by omega) (by omega) hp hq]
    have la : a ^^^ p < 256 := Nat.xor_lt_two_pow (n := 8) (by omega) (by omega)
    have lb : b ^^^ p < 256 := Nat.xor_lt_two_pow (n := 8) (by omega) (by omega)
    have lc : c ^^^ p < 256 := Nat.xor_lt_two_pow (n := 8) (by omega) (by omega)
    have ld : d ^^^ p < 256 := Nat.xor_lt_two_pow (n := 8) (by omega) (by omega)
    match r, hr with
    | 0, _ => rw [Nat.add_zero, ha, u8_xor_nat _ _ (by omega) (by omega)]; simp only [byteW, List.getD_cons_zero]; generalize a ^^^ p = a' at *; generalize b ^^^ p = b' at *; generalize c ^^^ p = c' at *; generalize d ^^^ p = d' at *; omega
    | 1, _ => rw [hb, u8_xor_nat _ _ (by omega) (by omega)]; simp only [byteW, List.getD_cons_zero, List.getD_cons_succ]; generalize a ^^^ p = a' at *; generalize b ^^^ p = b' at *; generalize c ^^^ p = c' at *; generalize d ^^^ p = d' at *; omega
    | 2, _ => rw [hc, u8_xor_nat _ _ (by omega) (by omega)]; simp only [byteW, List.getD_cons_zero, List.getD_cons_succ]; generalize a ^^^ p = a' at *; generalize b ^^^ p = b' at *; generalize c ^^^ p = c' at *; generalize d ^^^ p = d' at *; omega
    | 3, _ => rw [hd, u8_xor_nat _ _ (by omega) (by omega)]; simp only [byteW, List.getD_cons_zero, List.getD_cons_succ]; generalize a ^^^ p = a' at *; generalize b ^^^ p = b' at *; generalize c ^^^ p = c' at *; generalize d ^^^ p = d' at *; omega
theorem bytes_inner {k : List Int} (h : Bts k) : bytesD (xorL 909522486 (keyW k)) = xorB 54 (key64 k) := bytes_xor _ (key64_bts h) 16 (key64_length k) 54 909522486 (by decide) (by decide)
theorem bytes_outer {k : List Int} (h : Bts k) : bytesD (xorL 1549556828 (keyW k)) = xorB 92 (key64 k) := bytes_xor _ (key64_bts h) 16 (key64_length k) 92 1549556828 (by decide) (by decide)
theorem bytesD_append (xs ys : List Int) : bytesD (xs ++ ys) = bytesD xs ++ bytesD ys := by simp [bytesD]
theorem wds_append {xs ys : List Int} (h : Wds xs) (h' : Wds ys) : Wds (xs ++ ys) := fun i => by
  by_cases hi : i < xs.length
  · simpa [List.getD_eq_getElem?_getD, List.getElem?_append_left hi] using h i
  · simpa [List.getD_eq_getElem?_getD, List.getElem?_append_right (show xs.length ≤ i by omega)] using h' (i - xs.length)
theorem keyW_wds {k : List Int} (h : Bts k) : Wds (keyW k) := wordsD_wds (key64_bts h) 16
end Go.Proofs.YtbpdmkohihgnjaaDoor
