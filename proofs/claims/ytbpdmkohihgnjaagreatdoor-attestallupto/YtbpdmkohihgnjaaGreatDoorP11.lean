import Derived.Test.YtbpdmkohihgnjaaGreatDoorP10
import Derived.Laws.StructEq
import Derived.Deep.DeepCutAuto
namespace Go.Proofs.YtbpdmkohihgnjaaGreatDoor
open Go.RowKit

def w4 (a b c d : Int) : Int := (((0 * 256 + a) * 256 + b) * 256 + c) * 256 + d
theorem wordAt_full (bs : List Int) (t i : Nat) (h : 4 * i + 3 < t) : wordAt bs t i = w4 (bs.getD (4 * i) 0) (bs.getD (4 * i + 1) 0) (bs.getD (4 * i + 2) 0) (bs.getD (4 * i + 3) 0) := by
  simp (disch := omega) only [wordAt, if_pos, w4, Nat.add_zero]
theorem wordsD_getD (bs : List Int) (n i : Nat) (hi : i < n) : (wordsD bs n).getD i 0 = w4 (bs.getD (4 * i) 0) (bs.getD (4 * i + 1) 0) (bs.getD (4 * i + 2) 0) (bs.getD (4 * i + 3) 0) := by
  unfold wordsD
  rw [partW_getD _ _ _ _ hi, wordAt_full _ _ _ (by omega)]
theorem wordsD_length (bs : List Int) (n : Nat) : (wordsD bs n).length = n := partW_length _ _ _
theorem list_ext_getD {xs ys : List Int} (hl : xs.length = ys.length) (h : ∀ i, i < xs.length → xs.getD i 0 = ys.getD i 0) : xs = ys := by
  apply List.ext_getElem hl
  intro i h1 h2
  have := h i h1
  simpa [List.getD_eq_getElem?_getD, h1, h2] using this
theorem getD_take {xs : List Int} {n i : Nat} (h : i < n) : (xs.take n).getD i 0 = xs.getD i 0 := by
  simp [List.getD_eq_getElem?_getD, h]
theorem getD_drop {xs : List Int} {n i : Nat} : (xs.drop n).getD i 0 = xs.getD (n + i) 0 := by
  simp [List.getD_eq_getElem?_getD]
theorem wordsD_cut (bs : List Int) (n a k : Nat) (h : a + k ≤ n) : ((wordsD bs n).drop a).take k = wordsD ((bs.drop (4 * a)).take (4 * k)) k := by
  apply list_ext_getD
  · simp only [List.length_take, List.length_drop, wordsD_length]; omega
  · intro i hi
    simp only [List.length_take, List.length_drop, wordsD_length] at hi
    rw [getD_take (by omega), getD_drop, wordsD_getD _ _ _ (by omega), wordsD_getD _ _ _ (by omega)]
    rw [getD_take (by omega), getD_take (by omega), getD_take (by omega), getD_take (by omega), getD_drop, getD_drop, getD_drop, getD_drop]
    rw [show 4 * (a + i) = 4 * a + 4 * i by omega]
    rfl

def byteW (x : Int) : List Int := [x / 16777216 % 256, x / 65536 % 256, x / 256 % 256, x % 256]
def bytesD (xs : List Int) : List Int := (xs.map byteW).flatten
theorem bytesD_length (xs : List Int) : (bytesD xs).length = 4 * xs.length := by
  induction xs with
  | nil => rfl
  | cons x xs ih => simp only [bytesD, List.map_cons, List.flatten_cons, List.length_append] at ih ⊢; rw [ih]; simp [byteW]; omega
theorem bytesD_take (xs : List Int) (k : Nat) (h : k < xs.length) : bytesD (xs.take (k + 1)) = bytesD (xs.take k) ++ byteW (xs.getD k 0) := by
  unfold bytesD
  rw [List.take_succ_eq_append_getElem h, List.map_append, List.flatten_append]
  simp [List.getD_eq_getElem?_getD, h]
def sumB (bs : List Int) : List Int := S.fin (S.run S.First (wordsD (bs.take (4 * (bs.length / 4))) (bs.length / 4)) (bs.length / 4 / 16)) ((wordsD (bs.take (4 * (bs.length / 4))) (bs.length / 4)).drop (16 * (bs.length / 4 / 16)) ++ endW bs (bs.length / 4)) (8 * (bs.length : Int))
def sumW (xs : List Int) : List Int := S.fin (S.run S.First xs (xs.length / 16)) (xs.drop (16 * (xs.length / 16)) ++ [2147483648]) (32 * (xs.length : Int))
theorem run_more (A xs : List Int) (k : Nat) : ∀ j, S.run A xs (k + j) = S.run (S.run A xs k) (xs.drop (16 * k)) j
  | 0 => rfl
  | j + 1 => by
    show S.block (S.run A xs (k + j)) ((xs.drop (16 * (k + j))).take 16) = S.block (S.run (S.run A xs k) (xs.drop (16 * k)) j) (((xs.drop (16 * k)).drop (16 * j)).take 16)
    rw [run_more A xs k j, List.drop_drop, show 16 * k + 16 * j = 16 * (k + j) by omega]
theorem run_head (A xs ys : List Int) : ∀ k, 16 * k ≤ xs.length → S.run A (xs ++ ys) k = S.run A xs k
  | 0, _ => rfl
  | k + 1, h => by
    show S.block (S.run A (xs ++ ys) k) (((xs ++ ys).drop (16 * k)).take 16) = S.block (S.run A xs k) ((xs.drop (16 * k)).take 16)
    rw [run_head A xs ys k (by omega), List.drop_append_of_le_length (by omega), List.take_append_of_le_length (by simp; omega)]
theorem pad_length (L : List Int) (b : Int) : (S.pad L b).length = L.length + S.pz L.length + 2 := by simp [S.pad]; omega
theorem fin_all (A ws e : List Int) (b : Int) (k : Nat) (hk : k = ws.length / 16) : S.fin (S.run A ws k) (ws.drop (16 * k) ++ e) b = S.fin A (ws ++ e) b := by
  have h1 : 16 * k ≤ ws.length := by omega
  have hz : S.pz (ws.drop (16 * k) ++ e).length = S.pz (ws ++ e).length := by
    unfold S.pz
    simp only [List.length_append, List.length_drop]
    rw [show (ws.length - 16 * k + e.length) % 16 = (ws.length + e.length) % 16 by omega]
  have hp : S.pad (ws ++ e) b = ws.take (16 * k) ++ S.pad (ws.drop (16 * k) ++ e) b := by
    unfold S.pad
    rw [hz, ← List.append_assoc, ← List.append_assoc, ← List.append_assoc, List.take_append_drop]
  have hl : (S.pad (ws ++ e) b).length / 16 = k + (S.pad (ws.drop (16 * k) ++ e) b).length / 16 := by
    rw [hp, List.length_append, List.length_take]
    omega
  unfold S.fin
  rw [hl, run_more, hp]
  congr 1
  · rw [run_head _ _ _ _ (by rw [List.length_take]; omega)]
    have := run_head A (ws.take (16 * k)) (ws.drop (16 * k)) k (by rw [List.length_take]; omega)
    rw [List.take_append_drop] at this
    exact this
  · have e1 : (ws.take (16 * k)).drop (16 * k) = [] := List.drop_eq_nil_of_le (by rw [List.length_take]; omega)
    rw [List.drop_append_of_le_length (by rw [List.length_take]; omega), e1, List.nil_append]
theorem wordsD_append (xs ys : List Int) (a c : Nat) (hx : xs.length = 4 * a) : wordsD (xs ++ ys) (a + c) = wordsD xs a ++ wordsD ys c := by
  apply list_ext_getD
  · simp only [List.length_append, wordsD_length]
  · intro i hi
    rw [wordsD_length] at hi
    have gl : ∀ j, j < 4 * a → (xs ++ ys).getD j 0 = xs.getD j 0 := fun j hj => by
      simp only [List.getD_eq_getElem?_getD, List.getElem?_append_left (show j < xs.length by omega)]
    have gr : ∀ j, (xs ++ ys).getD (4 * a + j) 0 = ys.getD j 0 := fun j => by
      simp only [List.getD_eq_getElem?_getD]
      rw [List.getElem?_append_right (by omega), hx, show 4 * a + j - 4 * a = j by omega]
    rw [wordsD_getD _ _ _ hi]
    by_cases h : i < a
    · rw [gl _ (by omega), gl _ (by omega), gl _ (by omega), gl _ (by omega)]
      have : (wordsD xs a ++ wordsD ys c).getD i 0 = (wordsD xs a).getD i 0 := by
        simp only [List.getD_eq_getElem?_getD, List.getElem?_append_left (show i < (wordsD xs a).length by rw [wordsD_length]; exact h)]
      rw [this, wordsD_getD _ _ _ h]
    · obtain ⟨j, rfl⟩ : ∃ j, i = a + j := ⟨i - a, by omega⟩
      rw [show 4 * (a + j) = 4 * a + 4 * j by omega, Nat.add_assoc, Nat.add_assoc, Nat.add_assoc, gr, gr, gr, gr]
      have : (wordsD xs a ++ wordsD ys c).getD (a + j) 0 = (wordsD ys c).getD j 0 := by
        simp only [List.getD_eq_getElem?_getD]
        rw [List.getElem?_append_right (by rw [wordsD_length]; omega), wordsD_length, show a + j - a = j by omega]
      rw [this, wordsD_getD _ _ _ (by omega)]
theorem wordsD_zeros (z : Nat) : wordsD (List.replicate (4 * z) 0) z = List.replicate z 0 := by
  apply list_ext_getD
  · simp [wordsD_length]
  · intro i hi
    rw [wordsD_length] at hi
    rw [wordsD_getD _ _ _ hi]
    have z0 : ∀ j, (List.replicate (4 * z) (0 : Int)).getD j 0 = 0 := fun j => by
      simp only [List.getD_eq_getElem?_getD, List.getElem?_replicate]
      split <;> rfl
    rw [z0, z0, z0, z0]
    simp [List.getD_eq_getElem?_getD, w4, hi]
theorem bytesD_getD (xs : List Int) (i : Nat) (hi : i < xs.length) (j : Nat) (hj : j < 4) : (bytesD xs).getD (4 * i + j) 0 = (byteW (xs.getD i 0)).getD j 0 := by
  induction xs generalizing i with
  | nil => simp at hi
  | cons x xs ih =>
    have e : bytesD (x :: xs) = byteW x ++ bytesD xs := by simp [bytesD]
    rw [e]
    cases i with
    | zero =>
      rw [Nat.mul_zero, Nat.zero_add]
      simp [List.getD_eq_getElem?_getD, List.getElem?_append_left (show j < (byteW x).length from hj)]
    | succ i =>
      have := ih i (by simpa using hi)
      simp only [List.getD_eq_getElem?_getD, List.getElem?_cons_succ] at this ⊢
      rw [List.getElem?_append_right (by show 4 ≤ _; omega), show 4 * (i + 1) + j - (byteW x).length = 4 * i + j by show _ - 4 = _; omega, this]
theorem words_bytes (xs : List Int) (wx : Wds xs) : wordsD (bytesD xs) xs.length = xs := by
  apply list_ext_getD
  · rw [wordsD_length]
  · intro i hi
    rw [wordsD_length] at hi
    obtain ⟨x0, x1⟩ := wx i
    have e0 := bytesD_getD xs i hi 0 (by decide)
    rw [Nat.add_zero] at e0
    rw [wordsD_getD _ _ _ hi, e0, bytesD_getD xs i hi 1 (by decide), bytesD_getD xs i hi 2 (by decide), bytesD_getD xs i hi 3 (by decide)]
    generalize xs.getD i 0 = x at *
    simp only [byteW, List.getD_cons_zero, List.getD_cons_succ, w4]
    omega
theorem bytesD_bts (xs : List Int) : Bts (bytesD xs) := by
  intro t
  by_cases h : t < 4 * xs.length
  · have := bytesD_getD xs (t / 4) (by omega) (t % 4) (by omega)
    rw [show 4 * (t / 4) + t % 4 = t by omega] at this
    rw [this]
    generalize xs.getD (t / 4) 0 = x
    match t % 4, show t % 4 < 4 by omega with
    | 0, _ | 1, _ | 2, _ | 3, _ => simp only [byteW, List.getD_cons_zero, List.getD_cons_succ]; omega
  · have := bytesD_length xs
    simp [List.getD_eq_getElem?_getD, List.getElem?_eq_none (show (bytesD xs).length ≤ t by omega)]
theorem sumW_eq (xs : List Int) (wx : Wds xs) : sumW xs = sumB (bytesD xs) := by
  unfold sumW sumB
  rw [bytesD_length, show 4 * xs.length / 4 = xs.length by omega, List.take_of_length_le (by rw [bytesD_length]; omega), words_bytes xs wx]
  have hE : endW (bytesD xs) xs.length = [2147483648] := by
    unfold endW endB
    rw [List.drop_eq_nil_of_le (by rw [bytesD_length]; omega)]
    rfl
  rw [hE]
  congr 1
  push_cast
  omega
theorem all_range_eq' : ∀ (xs ys : List Int), xs.length = ys.length → ((List.range xs.length).all fun i => xs.getD i 0 == ys.getD i 0) = decide (xs = ys)
  | [], [], _ => rfl
  | x :: xs, y :: ys, h => by
    have ih := all_range_eq' xs ys (by simpa using h)
    rw [List.length_cons, List.range_succ_eq_map, List.all_cons, List.all_map]
    simp only [List.getD_cons_zero, Function.comp_def, List.getD_cons_succ, ih]
    rw [Bool.eq_iff_iff]
    simp
  | [], _ :: _, h => by simp at h
  | _ :: _, [], h => by simp at h
theorem run_equalIn_words {P : Program} (w : World) (d : Nat) (t e : TypeId) (n : Nat) (ht : P.underlying t = some (.array n e)) (he : P.underlying e = some (.int .u32)) (hsz : ∀ w, (sizeOf e).run P w = .ok 1 w)
    (xs ys : List Int) (hx : xs.length = n) (hy : ys.length = n) :
    (Op.equalIn (d + 2) t (.agg (xs.map (Value.int .u32)).toArray) (.agg (ys.map (Value.int .u32)).toArray)).run P w = .ok (decide (xs = ys)) w := by
  rw [← all_range_eq' xs ys (hx.trans hy.symm), hx, List.range_eq_range', Op.equalIn]
  simp only [Sem.run_bind, run_underlying ht, Result.andThen_ok, hsz, Std.Legacy.Range.forIn_eq_forIn_range', Std.Legacy.Range.size, Nat.sub_zero, Nat.add_sub_cancel, Nat.div_one]
  have hl : ∀ i ∈ List.range' 0 n 1, i < n := fun i hi => by simpa using (List.mem_range'_1.1 hi).2
  generalize List.range' 0 n 1 = l at hl ⊢
  induction l with
  | nil => simp
  | cons i l ih =>
    have hi : i < n := hl i (by simp)
    have px : (part e (xs.map (Value.int .u32)).toArray (i * 1)).run P w = .ok (.int .u32 (xs.getD i 0)) w := by
      simp [part, isAgg, run_underlying he, List.getD, List.getElem?_eq_getElem (show i < xs.length by omega)]
    have py : (part e (ys.map (Value.int .u32)).toArray (i * 1)).run P w = .ok (.int .u32 (ys.getD i 0)) w := by
      simp [part, isAgg, run_underlying he, List.getD, List.getElem?_eq_getElem (show i < ys.length by omega)]
    have pe : (Op.equalIn (d + 1) e (.int .u32 (xs.getD i 0)) (.int .u32 (ys.getD i 0))).run P w = .ok (xs.getD i 0 == ys.getD i 0) w := by
      rw [run_equalIn_int w d e .u32 .u32 _ _ he]
    simp only [List.forIn_cons, Sem.run_bind, px, py, pe, Result.andThen_ok, List.all_cons]
    cases hb : (xs.getD i 0 == ys.getD i 0)
    · simp
    · simp only [Bool.not_true, Bool.false_eq_true, if_false, Sem.run_pure, Result.andThen_ok, Bool.true_and]
      exact ih fun j hj => hl j (by simp [hj])
theorem eq26 (xs ys : List Int) (hx : xs.length = 8) (hy : ys.length = 8) (w : World) : (Op.equalIn 10000 26 (.agg (xs.map (Value.int .u32)).toArray) (.agg (ys.map (Value.int .u32)).toArray)).run Tryz.prog w = .ok (decide (xs = ys)) w :=
  run_equalIn_words w 9998 26 25 8 Tryz.underlying26 Tryz.underlying25 Tryz.sizeOf25 xs ys hx hy
theorem sumW_length (xs : List Int) : (sumW xs).length = 8 := run_length _ _ (run_length _ _ rfl _) _
theorem sumB_length (bs : List Int) : (sumB bs).length = 8 := run_length _ _ (run_length _ _ rfl _) _
end Go.Proofs.YtbpdmkohihgnjaaGreatDoor
namespace Go.Proofs.YtbpdmkohihgnjaaGreatDoor
open Go.RowKit

namespace M
theorem two_pos (n : Nat) : (0 : Int) < 2 ^ n := Int.pow_pos (by decide)
theorem two_nat (n : Nat) : ((2 ^ n : Nat) : Int) = 2 ^ n := by push_cast; rfl
theorem two_le {a b : Nat} (h : a ≤ b) : (2 : Int) ^ a ≤ 2 ^ b := by
  have := Nat.pow_le_pow_right (n := 2) (by decide) h
  have h1 := two_nat a; have h2 := two_nat b
  omega
theorem two_32 : (2 : Int) ^ 32 = 4294967296 := by decide
theorem and_low (x : Int) (n : Nat) (h0 : 0 ≤ x) (h1 : x < 4294967296) (hn : n ≤ 32) : bits .and .u32 x (2 ^ n - 1) = x % 2 ^ n := by
  have hp := two_pos n
  have hq := two_le hn
  have h32 := two_32
  rw [u32_and x _ h0 h1 (by omega) (by omega)]
  obtain ⟨a, rfl⟩ := Int.eq_ofNat_of_zero_le h0
  have e : ((2 : Int) ^ n - 1).toNat = 2 ^ n - 1 := by have := two_nat n; omega
  rw [e, Int.toNat_natCast, Nat.and_two_pow_sub_one_eq_mod]
  push_cast; rfl
def Fld (w : Int) (lo n : Nat) : Int := w / 2 ^ lo % 2 ^ n
theorem fld_bounds (w : Int) (lo n : Nat) (hn : n ≤ 32) : 0 ≤ Fld w lo n ∧ Fld w lo n < 2 ^ n ∧ Fld w lo n < 4294967296 := by
  have hp := two_pos n
  have hq := two_le hn
  have h32 := two_32
  have a := Int.emod_nonneg (w / 2 ^ lo) (show (2 : Int) ^ n ≠ 0 by omega)
  have b := Int.emod_lt_of_pos (w / 2 ^ lo) hp
  unfold Fld; omega
theorem div_bounds (w : Int) (lo : Nat) (h0 : 0 ≤ w) (h1 : w < 4294967296) : 0 ≤ w / 2 ^ lo ∧ w / 2 ^ lo < 4294967296 := by
  have hp := two_pos lo
  refine ⟨Int.ediv_nonneg h0 (by omega), ?_⟩
  have := Int.ediv_le_self (2 ^ lo) h0
  omega
theorem cut_eq (w : Int) (lo n : Nat) (h0 : 0 ≤ w) (h1 : w < 4294967296) (hn : n ≤ 32) : bits .and .u32 (w / 2 ^ lo) (2 ^ n - 1) = Fld w lo n := by
  have := div_bounds w lo h0 h1
  exact and_low _ n this.1 this.2 hn
end M
def TabW (W : World) : Prop := ∀ i : Nat, i ≤ 32 → W.cell? ⟨7, i, none⟩ = some (.int .u32 (2 ^ i - 1))
theorem TabW.below {W w : World} {B : Nat} (h : TabW W) (hb : Below B W w) (hB : 7 < B) : TabW w := fun i hi => (hb.cell (p := ⟨7, i, none⟩) hB).trans (h i hi)
theorem cut_any (W : World) (hT : TabW W) (w lo n : Int) (w0 : 0 ≤ w) (w1 : w < 4294967296) (l0 : 0 ≤ lo) (n0 : 0 ≤ n) (hn : n ≤ 32) (l1 : lo ≤ 31) :
    Calls Tryz.prog 83 #[.int .u32 w, .int .i64 lo, .int .i64 n] W fun e W' => e = .returned (.int .u32 (M.Fld w lo.toNat n.toNat)) ∧ ∃ k, W' = W.drewN k := by
  obtain ⟨l, rfl⟩ := Int.eq_ofNat_of_zero_le l0
  obtain ⟨m, rfl⟩ := Int.eq_ofNat_of_zero_le n0
  have h := hT m (by omega)
  have H : Hid (bits .and .u32 (w / 2 ^ l) (2 ^ m - 1) = M.Fld w l m) := M.cut_eq w l m w0 w1 (by omega)
  clear hT
  go_enter Tryz.func83, Tryz.ntmps83
  go_wp2
  go_quiet (fail)
  go_wp2
  go_ret
  exact ⟨ret_int (by rw [Int.toNat_natCast, Int.toNat_natCast]; exact H.out), _, rfl⟩
def fill (D : List Int) (t : Nat) : List Int := D.take t ++ List.replicate (D.length - t) 0
theorem fill_length (D : List Int) (t : Nat) (h : t ≤ D.length) : (fill D t).length = D.length := by simp [fill]; omega
theorem fill_zero (D : List Int) : fill D 0 = List.replicate D.length 0 := by simp [fill]
theorem fill_all (D : List Int) : fill D D.length = D := by simp [fill]
theorem fill_set (D : List Int) (t : Nat) (h : t < D.length) : (fill D t).set t (D.getD t 0) = fill D (t + 1) := by
  unfold fill
  rw [List.set_append_right _ _ (by simp; omega)]
  rw [List.take_succ_eq_append_getElem h, List.append_assoc]
  congr 1
  obtain ⟨m, hm⟩ : ∃ m, D.length - t = m + 1 := ⟨D.length - t - 1, by omega⟩
  rw [hm, List.replicate_succ, show t - (D.take t).length = 0 by simp; omega, List.set_cons_zero, show D.length - (t + 1) = m by omega]
  simp [List.getD_eq_getElem?_getD, h]
structure Filled (W wr : World) (k : IntKind) (e : TypeId) (N : Nat) (D : List Int) (t : Nat) : Prop where
  len : D.length = N
  le : t ≤ N
  own : wr.ownsRow W.heap.size e 1 (.slice (some ⟨W.heap.size, 0, none⟩) N N) N ((fill D t).map (Value.int k))
  below : Below W.heap.size W wr
theorem Filled.cell {W wr : World} {k : IntKind} {e : TypeId} {N : Nat} {D : List Int} {t : Nat} (h : Filled W wr k e N D t) (j : Nat) (hj : j < N) : wr.cell? ⟨W.heap.size, j, none⟩ = some (.int k ((fill D t).getD j 0)) := by
  rw [h.own.cellAt j (by omega)]
  have := fill_length D t (by rw [h.len]; exact h.le)
  have := h.len
  simp [List.getD_eq_getElem?_getD, show j < (fill D t).length by omega]
theorem Filled.free {W wr : World} {k : IntKind} {e : TypeId} {N : Nat} {D : List Int} {t : Nat} (h : Filled W wr k e N D t) (j : Nat) : wr.frozen? ⟨W.heap.size, j, none⟩ = false := h.own.frozenAt j
theorem Filled.drewN {W wr : World} {k : IntKind} {e : TypeId} {N : Nat} {D : List Int} {t : Nat} (h : Filled W wr k e N D t) (d : Nat) : Filled W (wr.drewN d) k e N D t :=
  ⟨h.len, h.le, h.own, below_drewN h.below d⟩
theorem Filled.step {W wr : World} {k : IntKind} {e : TypeId} {N : Nat} {D : List Int} {t : Nat} (h : Filled W wr k e N D t) (ht : t < N) {u : Int} (hu : u = D.getD t 0) : Filled W (wr.setCell ⟨W.heap.size, t, none⟩ (.int k u)) k e N D (t + 1) := by
  subst hu
  refine ⟨h.len, ht, ?_, h.below.setCell (Nat.le_refl _) _⟩
  have := (h.own.stored t (.int k (D.getD t 0))).1
  rwa [← List.map_set, fill_set D t (by rw [h.len]; exact ht)] at this
theorem Filled.start {W w : World} {k : IntKind} {e : TypeId} {N : Nat} {D : List Int} (hN : D.length = N) (h : w.ownsRow W.heap.size e 1 (.slice (some ⟨W.heap.size, 0, none⟩) N N) N (madeCells #[Value.int k 0] N).toList) (hg : W.grownBy w none) : Filled W w k e N D 0 := by
  refine ⟨hN, Nat.zero_le _, ?_, (Below.refl _ W).grown hg (Nat.le_refl _) (fun _ h => by cases h)⟩
  rw [toList_madeCells_one] at h
  rw [fill_zero, hN, List.map_replicate]
  exact h
theorem flat_getD (f : Int → List Int) (c : Nat) (hf : ∀ x, (f x).length = c) : ∀ (xs : List Int) (i j : Nat), i < xs.length → j < c → ((xs.map f).flatten).getD (c * i + j) 0 = (f (xs.getD i 0)).getD j 0
  | [], i, j, hi, _ => by simp at hi
  | x :: xs, 0, j, _, hj => by
    rw [List.map_cons, List.flatten_cons, Nat.mul_zero, Nat.zero_add]
    simp [List.getD_eq_getElem?_getD, List.getElem?_append_left (show j < (f x).length by rw [hf]; exact hj)]
  | x :: xs, i + 1, j, hi, hj => by
    have ih := flat_getD f c hf xs i j (by simpa using hi) hj
    rw [List.map_cons, List.flatten_cons]
    rw [List.getD_eq_getElem?_getD, List.getElem?_append_right (by rw [hf, Nat.mul_add]; omega), hf, show c * (i + 1) + j - c = c * i + j by rw [Nat.mul_add]; omega, ← List.getD_eq_getElem?_getD, ih]
    simp
theorem bytesD_at (xs : List Int) (i j : Nat) (hi : i < xs.length) (hj : j < 4) : (bytesD xs).getD (4 * i + j) 0 = M.Fld (xs.getD i 0) (24 - 8 * j) 8 := by
  rw [bytesD_getD xs i hi j hj]
  generalize xs.getD i 0 = x
  match j, hj with
  | 0, _ | 1, _ | 2, _ => rfl
  | 3, _ => show x % 256 = x / 2 ^ 0 % 2 ^ 8; simp
theorem Filled.row {W wr : World} {k : IntKind} {e : TypeId} {N : Nat} {D : List Int} (h : Filled W wr k e N D N) : Row wr k W.heap.size 0 D := by
  intro i hi
  have := h.cell i (by rw [← h.len]; exact hi)
  rw [← h.len, fill_all] at this
  rw [Nat.zero_add]
  exact this
theorem Filled.lt {W wr : World} {k : IntKind} {e : TypeId} {N : Nat} {D : List Int} {t : Nat} (h : Filled W wr k e N D t) : W.heap.size < wr.heap.size := (h.own.lt W.heap.size rfl).2
set_option maxHeartbeats 400000 in
theorem bytes_any (W : World) (hT : TabW W) (b off n cap : Nat) (xs : List Int) (hx : xs.length = n) (wx : Wds xs) (h1 : Row W .u32 b off xs) (hn : 4 * n ≤ 140737488351232) (hb : b < W.heap.size) (h0 : 7 < W.heap.size) :
    Calls Tryz.prog 137 #[.slice (some ⟨b, off, none⟩) n cap] W fun e W' => e = .returned (.slice (some ⟨W.heap.size, 0, none⟩) (4 * n) (4 * n)) ∧ Filled W W' .u8 5 (4 * n) (bytesD xs) (4 * n) := by
  obtain ⟨i0, hi, hz0, hz1, hz2⟩ := info_parts Tryz.info5
  have hL := bytesD_length xs
  rw [hx] at hL
  go_enter Tryz.func137, Tryz.ntmps137
  go_wp2_with (first | (at_make; refine wpList_make_full _ rfl _ _ 124 rfl W.heap.size 5 i0 (.int .u8 0) 1 Tryz.underlying124 hi hz0 hz1 .i64 .i64 _ _ (4 * n) rfl rfl (by push_cast; rfl) (by push_cast; rfl) ?c1 ?c2 (Nat.le_refl _) ?_))
  case c1 => rw [hz2]; omega
  case c2 => unfold maxLen; omega
  intro w' hown hg
  have F0 := Filled.start hL hown hg
  clear hown hg hi hz0 hz1 hz2
  go_wp2
  go_loopw [12] (fun i wr => ∃ k : Nat, k ≤ n ∧ i = .int .i64 k ∧ Filled W wr .u8 5 (4 * n) (bytesD xs) (4 * k)) (fun i _ => n - (intOf i).toNat)
  case atStart => exact ⟨0, Nat.zero_le _, rfl, F0⟩
  case round =>
    obtain ⟨i, hin, rfl, F⟩ := hrel
    by_cases hlt : i < n
    · go_wp2
      go_loopw [15] (fun j wr => ∃ k : Nat, k ≤ 4 ∧ j = .int .i64 k ∧ Filled W wr .u8 5 (4 * n) (bytesD xs) (4 * i + k)) (fun j _ => 4 - (intOf j).toNat)
      case atStart => exact ⟨0, Nat.zero_le _, rfl, F⟩
      case round =>
        clear F
        obtain ⟨j, hj8, rfl, F⟩ := hrel
        by_cases hjlt : j < 4
        · have hc := h1.below F.below hb i (by omega)
          have hT' := hT.below F.below h0
          obtain ⟨q0, q1⟩ := wx i
          have hcell := F.cell (4 * i + j) (by omega)
          have hfree := F.free (4 * i + j)
          have HD := bytesD_at xs i j (by omega) hjlt
          generalize xs.getD i 0 = x at *
          obtain ⟨f0, f1, _⟩ := M.fld_bounds x (24 - 8 * j) 8 (by decide)
          rw [show (2 : Int) ^ 8 = 256 from rfl] at f1
          have HS : Hid (∀ (d : Nat), Filled W ((wr.drewN d).setCell ⟨W.heap.size, 4 * i + j, none⟩ (.int .u8 (M.Fld x (24 - 8 * j) 8))) .u8 5 (4 * n) (bytesD xs) (4 * i + (j + 1))) :=
            fun d => (F.drewN d).step (by omega) HD.symm
          clear HD F
          go_wp2_with (first | (go_at_call 83; refine (cut_any _ hT' _ _ _ q0 q1 (by omega) (by omega) (by omega) (by omega)).mono ?_; rintro e w' ⟨rfl, d, rfl⟩))
          go_roundw
          case rel => exact ⟨j + 1, by omega, by go_num, HS.out d⟩
          case measure => simp [intOf]; omega
        · obtain rfl : j = 4 := by omega
          go_wp2
          go_roundw
          case rel => exact ⟨i + 1, by omega, by go_num, F⟩
          case measure => simp [intOf]; omega
    · obtain rfl : i = n := by omega
      have HB : Hid (Filled W wr .u8 5 (4 * i) (bytesD xs) (4 * i)) := F
      clear F
      go_wp2
      go_ret
      exact ⟨rfl, HB⟩
theorem bytes_nil (W : World) (ao : Option Addr) (cap : Nat) :
    Calls Tryz.prog 137 #[.slice ao 0 cap] W fun e W' => e = .returned (.slice (some ⟨W.heap.size, 0, none⟩) 0 0) ∧ Filled W W' .u8 5 0 (bytesD []) 0 := by
  obtain ⟨i0, hi, hz0, hz1, hz2⟩ := info_parts Tryz.info5
  go_enter Tryz.func137, Tryz.ntmps137
  go_wp2_with (first | (at_make; refine wpList_make_full _ rfl _ _ 124 rfl W.heap.size 5 i0 (.int .u8 0) 1 Tryz.underlying124 hi hz0 hz1 .i64 .i64 _ _ 0 rfl rfl rfl rfl ?c1 ?c2 (Nat.le_refl _) ?_))
  case c1 => omega
  case c2 => unfold maxLen; omega
  intro w' hown hg
  have F0 := Filled.start (D := bytesD []) rfl hown hg
  clear hown hg hi hz0 hz1 hz2
  go_wp2
  refine wp_loop_rounds 1 ?_
  rw [rounds_succ]
  have HB : Hid (Filled W w' .u8 5 0 (bytesD []) 0) := F0
  clear F0
  go_wp2
  go_ret
  exact ⟨rfl, HB⟩
theorem Owned.drewN {W wr : World} {k : IntKind} {e : TypeId} {N : Nat} {L : List Int} (h : Owned W wr k e N L) (d : Nat) : Owned W (wr.drewN d) k e N L := ⟨h.len, h.own, below_drewN h.below d⟩
theorem Filled.owned {W wr : World} {k : IntKind} {e : TypeId} {N : Nat} {D : List Int} (h : Filled W wr k e N D N) : Owned W wr k e N D := by
  refine ⟨h.len, ?_, h.below⟩
  have := h.own
  rwa [← h.len, fill_all, h.len] at this
set_option maxRecDepth 20000 in
set_option maxHeartbeats 400000 in
theorem words_any (W : World) (b off n cap : Nat) (bs : List Int) (hl : bs.length = 4 * n) (hbs : Bts bs) (h1 : Row W .u8 b off bs) (hn : 4 * n ≤ 1048576) (hb : b < W.heap.size) :
    Calls Tryz.prog 145 #[.slice (some ⟨b, off, none⟩) (4 * n) cap] W fun e W' => e = .returned (.tuple #[.slice (some ⟨W.heap.size, 0, none⟩) n n, .int .i64 0]) ∧ Owned W W' .u32 25 n (wordsD bs n) := by
  obtain ⟨i0, hi, hz0, hz1, hz2⟩ := info_parts Tryz.info25
  have h4 : (((4 * n : Nat) : Int) % 4 != 0) = false := by simp
  have h5 : ((4 * n : Nat) : Int) / 4 = (n : Int) := by omega
  go_enter Tryz.func145, Tryz.ntmps145
  go_wp2_with (first | (at_make; refine wpList_make_full _ rfl _ _ 127 rfl W.heap.size 25 i0 (.int .u32 0) 1 Tryz.underlying127 hi hz0 hz1 .i64 .i64 _ _ n rfl rfl (by omega) (by omega) ?c1 ?c2 (Nat.le_refl _) ?_))
  case c1 => rw [hz2]; omega
  case c2 => unfold maxLen; omega
  intro w' hown hg
  have F0 := Owned.start hown hg
  rw [← partW_zero bs n] at F0
  clear hown hg hi hz0 hz1 hz2
  go_wp2
  go_loopw [19] (fun i wr => ∃ t : Nat, t ≤ 4 * n ∧ i = .int .i64 t ∧ Owned W wr .u32 25 n (partW bs n t)) (fun i _ => 4 * n - (intOf i).toNat)
  case atStart => exact ⟨0, Nat.zero_le _, rfl, F0⟩
  case round =>
    obtain ⟨t, ht, rfl, F⟩ := hrel
    by_cases hlt : t < 4 * n
    · have hc := h1.below F.below hb t (by omega)
      obtain ⟨q0, q1⟩ := hbs t
      obtain ⟨x0, x1⟩ := wordAt_bound bs hbs (t / 4) (t % 4) (by omega)
      have hps := partW_step bs n (t / 4) (t % 4) (by omega) (by omega)
      rw [show 4 * (t / 4) + t % 4 = t by omega] at x0 x1 hps
      have hcell := F.cell (t / 4) (by omega)
      rw [partW_getD bs n _ (t / 4) (by omega)] at hcell
      have hfree := F.free (t / 4)
      have hor : Hid _ := or_byte _ _ x0 x1 q0 q1
      have HS : Hid (∀ u, u = wordAt bs t (t / 4) * 256 + bs.getD t 0 → Owned W (wr.drew.setCell ⟨W.heap.size, t / 4, none⟩ (.int .u32 u)) .u32 25 n (partW bs n (t + 1))) :=
        fun u hu => F.drew.step (t / 4) u (hps u hu)
      clear F hps
      generalize wordAt bs t (t / 4) = x at *
      generalize bs.getD t 0 = y at *
      go_wp2
      go_region
      go_wp2
      go_roundw
      case rel => exact ⟨t + 1, by omega, by go_num, HS.out _ hor.out⟩
      case measure => simp [intOf]; omega
    · obtain rfl : t = 4 * n := by omega
      have HB : Hid (Owned W wr .u32 25 n (wordsD bs n)) := F
      clear F
      go_wp2
      go_ret2
      exact ⟨rfl, HB⟩
theorem bytes_at (W : World) (hT : TabW W) (ao : Option Addr) (n cap : Nat) (xs : List Int) (hx : xs.length = n) (wx : Wds xs) (h1 : At W .u32 ao xs) (hn : 4 * n ≤ 140737488351232) (h0 : 7 < W.heap.size) :
    Calls Tryz.prog 137 #[.slice ao n cap] W fun e W' => e = .returned (.slice (some ⟨W.heap.size, 0, none⟩) (4 * n) (4 * n)) ∧ Owned W W' .u8 5 (4 * n) (bytesD xs) := by
  rcases h1 with rfl | ⟨b, off, rfl, hb, h1⟩
  · simp at hx
    subst hx
    exact (bytes_nil W ao cap).mono fun e w' h => ⟨h.1, h.2.owned⟩
  · exact (bytes_any W hT b off n cap xs hx wx h1 hn hb h0).mono fun e w' h => ⟨h.1, h.2.owned⟩
end Go.Proofs.YtbpdmkohihgnjaaGreatDoor
namespace Go.Proofs.YtbpdmkohihgnjaaGreatDoor
open Go.RowKit

def DigL (W : World) (g : Nat) (L : List Int) : Prop := Dig W g (S.run S.First L (L.length / 16)) L.length (L.drop (16 * (L.length / 16)))
theorem DigL.lt {W : World} {g : Nat} {L : List Int} (h : DigL W g L) : g < W.heap.size := Dig.lt h
theorem DigL.below {W w : World} {g : Nat} {L : List Int} (h : DigL W g L) (hb : Below W.heap.size W w) : DigL w g L := Dig.below h hb (Dig.lt h)
theorem DigL.but {W w : World} {g i : Nat} {L : List Int} (h : DigL W i L) (hb : But g W w) (hi : i ≠ g) : DigL w i L := Dig.but h hb hi
theorem newL_any (W : World) :
    Calls Tryz.prog 147 #[] W fun e W' => ∃ g, W.heap.size ≤ g ∧ e = .returned (.pointer (some ⟨g, 0, none⟩)) ∧ DigL W' g [] ∧ Below W.heap.size W W' := new_any W
theorem copyL_any (W : World) (g : Nat) (L : List Int) (D : DigL W g L) :
    Calls Tryz.prog 142 #[.pointer (some ⟨g, 0, none⟩)] W fun e W' => ∃ g', W.heap.size ≤ g' ∧ e = .returned (.pointer (some ⟨g', 0, none⟩)) ∧ DigL W' g' L ∧ Below W.heap.size W W' := copy_any W g _ _ _ D
theorem sumL_any (W : World) (hT : Tab W) (h2 : 12 < W.heap.size) (g : Nat) (L : List Int) (D : DigL W g L) :
    Calls Tryz.prog 143 #[.pointer (some ⟨g, 0, none⟩)] W fun e W' => e = .returned (.agg ((sumW L).map (Value.int .u32)).toArray) ∧ Below W.heap.size W W' := dsum_any W hT h2 g _ _ _ D
theorem addL_any (W : World) (hT : Tab W) (h2 : 12 < W.heap.size) (g : Nat) (L : List Int) (D : DigL W g L) (ao : Option Addr) (m c : Nat) (xs : List Int) (hx : xs.length = m) (hat : At W .u32 ao xs) (hm : m ≤ 35184372088800) (h : L.length + m ≤ 36028797018963968) :
    Calls Tryz.prog 130 #[.pointer (some ⟨g, 0, none⟩), .slice ao m c] W fun e W' => e = .returned (.tuple #[]) ∧ DigL W' g (L ++ xs) ∧ But g W W' := by
  refine (add_fits W hT h2 g _ _ _ D ao m c xs hx hat hm h).mono ?_
  rintro e W' ⟨rfl, D', hb⟩
  refine ⟨rfl, ?_, hb⟩
  have e1 : L.drop (16 * (L.length / 16)) ++ xs = (L ++ xs).drop (16 * (L.length / 16)) := by
    rw [List.drop_append_of_le_length (by omega)]
  have e2 : (L ++ xs).length / 16 = L.length / 16 + (L.length % 16 + m) / 16 := by rw [List.length_append, hx]; omega
  unfold DigL
  rw [e2, run_more, run_head _ _ _ _ (by omega), ← e1, List.length_append, hx, show 16 * (L.length / 16 + (L.length % 16 + m) / 16) = 16 * (L.length / 16) + 16 * ((L.length % 16 + m) / 16) by omega, ← List.drop_drop, ← e1]
  exact D'
theorem At.cut {W : World} {k : IntKind} {ao : Option Addr} {xs : List Int} (h : At W k ao xs) (n cap a m : Nat) (hx : xs.length = n) (hc : n ≤ cap) (ha : a + m ≤ n) : At W k (if cap = a then ao else Option.map (fun x => x.add a) ao) ((xs.drop a).take m) := by
  rcases Nat.eq_zero_or_pos m with rfl | hm
  · left; simp
  · rcases h with h0 | ⟨b, off, rfl, hb, hr⟩
    · rw [h0] at hx; simp at hx; omega
    · rw [if_neg (by omega)]
      exact .inr ⟨b, off + a, by simp [Addr.add_mid], hb, (hr.drop a).take m⟩
theorem At.head {W : World} {k : IntKind} {ao : Option Addr} {xs : List Int} (h : At W k ao xs) (a : Nat) : At W k ao (xs.take a) := by
  rcases h with h0 | ⟨b, off, h1, hb, hr⟩
  · left; rw [h0]; simp
  · exact .inr ⟨b, off, h1, hb, hr.take a⟩
end Go.Proofs.YtbpdmkohihgnjaaGreatDoor
namespace Go.Proofs.YtbpdmkohihgnjaaGreatDoor
open Go.RowKit

structure Tabs (W : World) : Prop where
  sha : Tab W
  lows : TabW W
  sz : 12 < W.heap.size
theorem Tabs.below {W w : World} {B : Nat} (h : Tabs W) (hb : Below B W w) (hB : 12 < B) : Tabs w := ⟨h.sha.below hb hB, h.lows.below hb (by omega), by have := hb.size; have := h.sz; omega⟩
theorem Tabs.on {W w : World} (h : Tabs W) (hb : Below W.heap.size W w) : Tabs w := h.below hb h.sz
theorem Tabs.but {W w : World} {g : Nat} (h : Tabs W) (hb : But g W w) (hg : 13 ≤ g) : Tabs w := h.below (hb.below (B := 13) hg (by have := h.sz; omega)) (by decide)

def keyB (k : List Int) : List Int := if 64 < k.length then bytesD (sumB k) else k
def key64 (k : List Int) : List Int := keyB k ++ List.replicate (64 - (keyB k).length) 0
def keyW (k : List Int) : List Int := wordsD (key64 k) 16
def xorL (p : Int) (xs : List Int) : List Int := xs.map fun x => bits .xor .u32 x p
def xorB (p : Int) (bs : List Int) : List Int := bs.map fun x => bits .xor .u8 x p
def hmac (k m : List Int) : List Int := sumB (xorB 92 (key64 k) ++ bytesD (sumB (xorB 54 (key64 k) ++ m)))
theorem hmac_length (k m : List Int) : (hmac k m).length = 8 := sumB_length _
theorem xorL_length (p : Int) (xs : List Int) : (xorL p xs).length = xs.length := by simp [xorL]
theorem xorB_length (p : Int) (xs : List Int) : (xorB p xs).length = xs.length := by simp [xorB]
theorem keyB_length (k : List Int) : (keyB k).length ≤ 64 := by
  unfold keyB
  split
  · rw [bytesD_length, sumB_length]; decide
  · omega
theorem key64_length (k : List Int) : (key64 k).length = 64 := by
  have := keyB_length k
  simp [key64]; omega
theorem keyW_length (k : List Int) : (keyW k).length = 16 := wordsD_length _ _
theorem bts_zeros (n : Nat) : Bts (List.replicate n 0) := fun i => by
  simp only [List.getD_eq_getElem?_getD, List.getElem?_replicate]
  split <;> simp
theorem key64_bts {k : List Int} (h : Bts k) : Bts (key64 k) := by
  unfold key64
  refine bts_append ?_ (bts_zeros _)
  unfold keyB
  split
  · exact bytesD_bts _
  · exact h
theorem w4_wd {a b c d : Int} (a0 : 0 ≤ a) (a1 : a < 256) (b0 : 0 ≤ b) (b1 : b < 256) (c0 : 0 ≤ c) (c1 : c < 256) (d0 : 0 ≤ d) (d1 : d < 256) : 0 ≤ w4 a b c d ∧ w4 a b c d < 4294967296 := by
  unfold w4; omega
theorem wordsD_wds {bs : List Int} (h : Bts bs) (n : Nat) : Wds (wordsD bs n) := fun i => by
  by_cases hi : i < n
  · rw [wordsD_getD _ _ _ hi]
    have q := fun j => h j
    exact w4_wd (h _).1 (h _).2 (h _).1 (h _).2 (h _).1 (h _).2 (h _).1 (h _).2
  · have := wordsD_length bs n
    simp [List.getD_eq_getElem?_getD, List.getElem?_eq_none (show (wordsD bs n).length ≤ i by omega)]
theorem xor_u32 (x p : Int) (x0 : 0 ≤ x) (x1 : x < 4294967296) (p0 : 0 ≤ p) (p1 : p < 4294967296) : 0 ≤ bits .xor .u32 x p ∧ bits .xor .u32 x p < 4294967296 := by
  obtain ⟨x, rfl⟩ := Int.eq_ofNat_of_zero_le x0
  obtain ⟨p, rfl⟩ := Int.eq_ofNat_of_zero_le p0
  have hx : x ^^^ p < 4294967296 := Nat.xor_lt_two_pow (n := 32) (by omega) (by omega)
  rw [u32_xor_nat _ _ (by omega) (by omega)]
  omega
theorem xorL_wds {xs : List Int} (p : Int) (p0 : 0 ≤ p) (p1 : p < 4294967296) (h : Wds xs) : Wds (xorL p xs) := fun i => by
  by_cases hi : i < xs.length
  · have e : (xorL p xs).getD i 0 = bits .xor .u32 (xs.getD i 0) p := by simp [xorL, List.getD_eq_getElem?_getD, hi]
    rw [e]
    exact xor_u32 _ _ (h i).1 (h i).2 p0 p1
  · simp [xorL, List.getD_eq_getElem?_getD, List.getElem?_eq_none (show xs.length ≤ i by omega)]
theorem xor_u8 (x p : Int) (x0 : 0 ≤ x) (x1 : x < 256) (p0 : 0 ≤ p) (p1 : p < 256) : bits .xor .u8 x p = ((x.toNat ^^^ p.toNat : Nat) : Int) ∧ x.toNat ^^^ p.toNat < 256 := by
  obtain ⟨x, rfl⟩ := Int.eq_ofNat_of_zero_le x0
  obtain ⟨p, rfl⟩ := Int.eq_ofNat_of_zero_le p0
  have hx : x ^^^ p < 256 := Nat.xor_lt_two_pow (n := 8) (by omega) (by omega)
  refine ⟨?_, by simpa using hx⟩
  rw [u8_xor_nat _ _ (by omega) (by omega)]
  simp
theorem xor_w4 (a b c d p q : Nat) (hb : b < 256) (hc : c < 256) (hd : d < 256) (hp : p < 256) (hq : q = ((p * 256 + p) * 256 + p) * 256 + p) :
    (((a * 256 + b) * 256 + c) * 256 + d) ^^^ q = (((a ^^^ p) * 256 + (b ^^^ p)) * 256 + (c ^^^ p)) * 256 + (d ^^^ p) := by
  have step : ∀ x y u v : Nat, u < 256 → v < 256 → (x * 256 + u) ^^^ (y * 256 + v) = (x ^^^ y) * 256 + (u ^^^ v) := by
    intro x y u v hu hv
    have hl : u ^^^ v < 256 := Nat.xor_lt_two_pow (n := 8) hu hv
    have h1 : ((x * 256 + u) ^^^ (y * 256 + v)) / 2 ^ 8 = x ^^^ y := by
      rw [Nat.xor_div_two_pow]
      rw [show (x * 256 + u) / 2 ^ 8 = x by omega, show (y * 256 + v) / 2 ^ 8 = y by omega]
    have h2 : ((x * 256 + u) ^^^ (y * 256 + v)) % 2 ^ 8 = u ^^^ v := by
      rw [Nat.xor_mod_two_pow]
      rw [show (x * 256 + u) % 2 ^ 8 = u by omega, show (y * 256 + v) % 2 ^ 8 = v by omega]
    omega
  subst hq
  rw [step _ _ _ _ hd hp, step _ _ _ _ hc hp, step _ _ _ _ hb hp]
theorem bytes_xor (bs : List Int) (h : Bts bs) (n : Nat) (hl : bs.length = 4 * n) (p q : Nat) (hp : p < 256) (hq : q = ((p * 256 + p) * 256 + p) * 256 + p) : bytesD (xorL (q : Int) (wordsD bs n)) = xorB (p : Int) bs := by
  have hL : (xorL (q : Int) (wordsD bs n)).length = n := by rw [xorL_length, wordsD_length]
  apply list_ext_getD
  · rw [bytesD_length, hL, xorB_length, hl]
  · intro t ht
    rw [bytesD_length, hL] at ht
    have e0 := bytesD_getD (xorL (q : Int) (wordsD bs n)) (t / 4) (by omega) (t % 4) (by omega)
    rw [show 4 * (t / 4) + t % 4 = t by omega] at e0
    rw [e0]
    have e1 : (xorL (q : Int) (wordsD bs n)).getD (t / 4) 0 = bits .xor .u32 ((wordsD bs n).getD (t / 4) 0) q := by
      simp [xorL, List.getD_eq_getElem?_getD, List.getElem?_eq_getElem (show t / 4 < (wordsD bs n).length by rw [wordsD_length]; omega)]
    have e2 : (xorB (p : Int) bs).getD t 0 = bits .xor .u8 (bs.getD t 0) p := by
      simp [xorB, List.getD_eq_getElem?_getD, List.getElem?_eq_getElem (show t < bs.length by omega)]
    rw [e1, e2, wordsD_getD _ _ _ (by omega)]
    obtain ⟨a0, a1⟩ := h (4 * (t / 4))
    obtain ⟨b0, b1⟩ := h (4 * (t / 4) + 1)
    obtain ⟨c0, c1⟩ := h (4 * (t / 4) + 2)
    obtain ⟨d0, d1⟩ := h (4 * (t / 4) + 3)
    have et : bs.getD t 0 = bs.getD (4 * (t / 4) + t % 4) 0 := by rw [show 4 * (t / 4) + t % 4 = t by omega]
    rw [et]
    have hr : t % 4 < 4 := by omega
    generalize t % 4 = r at hr ⊢
    generalize 4 * (t / 4) = i at *
    obtain ⟨a, ha⟩ := Int.eq_ofNat_of_zero_le a0
    obtain ⟨b, hb⟩ := Int.eq_ofNat_of_zero_le b0
    obtain ⟨c, hc⟩ := Int.eq_ofNat_of_zero_le c0
    obtain ⟨d, hd⟩ := Int.eq_ofNat_of_zero_le d0
    rw [ha, hb, hc, hd]
    have ew : w4 (a : Int) b c d = (((((a * 256 + b) * 256 + c) * 256 + d : Nat)) : Int) := by unfold w4; omega
    have hqn : q < 4294967296 := by omega
    rw [ew, u32_xor_nat _ _ (by omega) hqn, xor_w4 a b c d p q (by omega) (by omega) (by omega) hp hq]
    have la : a ^^^ p < 256 := Nat.xor_lt_two_pow (n := 8) (by omega) (by omega)
    have lb : b ^^^ p < 256 := Nat.xor_lt_two_pow (n := 8) (by omega) (by omega)
    have lc : c ^^^ p < 256 := Nat.xor_lt_two_pow (n := 8) (by omega) (by omega)
    have ld : d ^^^ p < 256 := Nat.xor_lt_two_pow (n := 8) (by omega) (by omega)
    match r, hr with
    | 0, _ => rw [Nat.add_zero, ha, u8_xor_nat _ _ (by omega) (by omega)]; simp only [byteW, List.getD_cons_zero]; generalize a ^^^ p = a' at *; generalize b ^^^ p = b' at *; generalize c ^^^ p = c' at *; generalize d ^^^ p = d' at *; omega
    | 1, _ => rw [hb, u8_xor_nat _ _ (by omega) (by omega)]; simp only [byteW, List.getD_cons_zero, List.getD_cons_succ]; generalize a ^^^ p = a' at *; generalize b ^^^ p = b' at *; generalize c ^^^ p = c' at *; generalize d ^^^ p = d' at *; omega
    | 2, _ => rw [hc, u8_xor_nat _ _ (by omega) (by omega)]; simp only [byteW, List.getD_cons_zero, List.getD_cons_succ]; generalize a ^^^ p = a' at *; generalize b ^^^ p = b' at *; generalize c ^^^ p = c' at *; generalize d ^^^ p = d' at *; omega
    | 3, _ => rw [hd, u8_xor_nat _ _ (by omega) (by omega)]; simp only [byteW, List.getD_cons_zero, List.getD_cons_succ]; generalize a ^^^ p = a' at *; generalize b ^^^ p = b' at *; generalize c ^^^ p = c' at *; generalize d ^^^ p = d' at *; omega
theorem bytes_inner {k : List Int} (h : Bts k) : bytesD (xorL 909522486 (keyW k)) = xorB 54 (key64 k) := bytes_xor _ (key64_bts h) 16 (key64_length k) 54 909522486 (by decide) (by decide)
theorem bytes_outer {k : List Int} (h : Bts k) : bytesD (xorL 1549556828 (keyW k)) = xorB 92 (key64 k) := bytes_xor _ (key64_bts h) 16 (key64_length k) 92 1549556828 (by decide) (by decide)
theorem bytesD_append (xs ys : List Int) : bytesD (xs ++ ys) = bytesD xs ++ bytesD ys := by simp [bytesD]
theorem wds_append {xs ys : List Int} (h : Wds xs) (h' : Wds ys) : Wds (xs ++ ys) := fun i => by
  by_cases hi : i < xs.length
  · simpa [List.getD_eq_getElem?_getD, List.getElem?_append_left hi] using h i
  · simpa [List.getD_eq_getElem?_getD, List.getElem?_append_right (show xs.length ≤ i by omega)] using h' (i - xs.length)
theorem keyW_wds {k : List Int} (h : Bts k) : Wds (keyW k) := wordsD_wds (key64_bts h) 16
end Go.Proofs.YtbpdmkohihgnjaaGreatDoor
namespace Go.Proofs.YtbpdmkohihgnjaaGreatDoor
open Go.RowKit

def xorT (p : Int) (K : List Int) (t : Nat) : List Int := xorL p (K.take t) ++ K.drop t
theorem xorT_length (p : Int) (K : List Int) (t : Nat) : (xorT p K t).length = K.length := by simp [xorT, xorL]; omega
theorem xorT_zero (p : Int) (K : List Int) : xorT p K 0 = K := by simp [xorT, xorL]
theorem xorT_all (p : Int) (K : List Int) : xorT p K K.length = xorL p K := by simp [xorT]
theorem xorT_getD (p : Int) (K : List Int) (t : Nat) (h : t < K.length) : (xorT p K t).getD t 0 = K.getD t 0 := by
  have hl : (xorL p (K.take t)).length = t := by rw [xorL_length, List.length_take]; omega
  simp only [xorT, List.getD_eq_getElem?_getD]
  rw [List.getElem?_append_right (by omega), hl, Nat.sub_self, List.getElem?_drop, Nat.add_zero]
theorem xorT_set (p : Int) (K : List Int) (t : Nat) (h : t < K.length) : (xorT p K t).set t (bits .xor .u32 (K.getD t 0) p) = xorT p K (t + 1) := by
  have hl : (xorL p (K.take t)).length = t := by rw [xorL_length, List.length_take]; omega
  have e : K.getD t 0 = K[t] := by simp [List.getD_eq_getElem?_getD, h]
  unfold xorT
  rw [List.set_append_right _ _ (by omega), hl, Nat.sub_self, List.drop_eq_getElem_cons h, List.set_cons_zero, List.take_succ_eq_append_getElem h, e]
  unfold xorL
  rw [List.map_append, List.map_cons, List.map_nil, List.append_assoc]
  rfl

attribute [-simp] Tryz.isAgg26 Tryz.sizeOf26 Tryz.zeroValue26 Tryz.isAgg197 Tryz.sizeOf197 Tryz.zeroValue197
set_option maxRecDepth 20000 in
set_option maxHeartbeats 1000000 in
theorem padded_any (W : World) (K : List Int) (hK : K.length = 16) (p : Int) :
    Calls Tryz.prog 146 #[Ag K, .int .u32 p] W fun e W' => e = .returned (Ag (xorL p K)) ∧ Below W.heap.size W W' := by
  obtain ⟨Z, hZ⟩ : ∃ Z : List Int, Z = List.replicate 16 0 := ⟨_, rfl⟩
  have hZl : Z.length = 16 := by rw [hZ]; simp
  have hz : ∀ w, (zeroValue 197).run Tryz.prog w = .ok (.agg (Z.map (Value.int .u32)).toArray) w := fun w => by rw [Tryz.zeroValue197, hZ]; rfl
  clear hZ
  have B1 : Hid (Blk ((W.alloc (Obj.cells (List.map (Value.int IntKind.u32) K).toArray 197)).alloc (Obj.cells (List.map (Value.int IntKind.u32) Z).toArray 197)) W.heap.size .u32 197 K) := (Blk.new W .u32 197 K).alloc _
  have B2 : Hid (Blk ((W.alloc (Obj.cells (List.map (Value.int IntKind.u32) K).toArray 197)).alloc (Obj.cells (List.map (Value.int IntKind.u32) Z).toArray 197)) (W.heap.size + 1) .u32 197 Z) := Blk.newAt (by simp) .u32 197 Z
  have HB : Hid (Below W.heap.size W ((W.alloc (Obj.cells (List.map (Value.int IntKind.u32) K).toArray 197)).alloc (Obj.cells (List.map (Value.int IntKind.u32) Z).toArray 197))) := (below_one W _).alloc (by simp) _
  unfold Ag
  go_enter Tryz.func146, Tryz.ntmps146
  go_wp2
  go_loopw [6] (fun i wr => ∃ t : Nat, t ≤ 16 ∧ i = .int .i64 t ∧ Blk wr W.heap.size .u32 197 (xorT p K t) ∧ Blk wr (W.heap.size + 1) .u32 197 Z ∧ Below W.heap.size W wr) (fun i _ => 16 - (intOf i).toNat)
  case atStart => exact ⟨0, Nat.zero_le _, rfl, by rw [xorT_zero]; exact B1.out, B2.out, HB.out⟩
  case round =>
    clear B1 B2 HB
    obtain ⟨t, ht, rfl, b1, b2, hb⟩ := hrel
    by_cases hlt : t < 16
    · have hc := b1.cell t (by rw [xorT_length]; omega)
      rw [xorT_getD p K t (by omega)] at hc
      have hf := b1.free t
      have HN : Hid (Blk (wr.setCell ⟨W.heap.size, t, none⟩ (.int .u32 (bits .xor .u32 (K.getD t 0) p))) W.heap.size .u32 197 (xorT p K (t + 1))) := by
        rw [← xorT_set p K t (by omega)]
        exact b1.set t _
      have HZ : Hid (Blk (wr.setCell ⟨W.heap.size, t, none⟩ (.int .u32 (bits .xor .u32 (K.getD t 0) p))) (W.heap.size + 1) .u32 197 Z) := b2.other _ (by omega)
      have HH : Hid (Below W.heap.size W (wr.setCell ⟨W.heap.size, t, none⟩ (.int .u32 (bits .xor .u32 (K.getD t 0) p)))) := hb.setCell (Nat.le_refl _) _
      have i1 : (t : Int) < 16 := by omega
      clear b1 b2 hb ht hlt
      generalize K.getD t 0 = x at *
      go_wp2
      go_roundw
      case rel => exact ⟨t + 1, by omega, by go_num, HN.out, HZ.out, HH.out⟩
      case measure => simp [intOf]; omega
    · obtain rfl : t = 16 := by omega
      have BB : Hid (Blk wr W.heap.size .u32 197 (xorL p K)) := by
        have := xorT_all p K
        rw [hK] at this
        rw [← this]; exact b1
      have hl : (xorL p K).length = 16 := by rw [xorL_length, hK]
      have hs : (Tryz.prog.info? 197).map (·.size) = some (xorL p K).length := by rw [hl]; exact size64
      clear b1
      go_wp2_with (first | (refine wpList_load_blk rfl 197 _ rfl W.heap.size (xorL p K) rfl BB.out Tryz.underlying197 hs ?_) | (refine wpList_store_blk rfl 197 _ _ rfl (W.heap.size + 1) (xorL p K) rfl rfl b2 hs (hZl.trans hl.symm) ?_))
      refine ret_cell rfl rfl (W.heap.size + 1) (xorL p K) rfl (b2.setRow _) Tryz.underlying197 hs ⟨rfl, ?_⟩
      exact below_setRow hb (by omega) _
end Go.Proofs.YtbpdmkohihgnjaaGreatDoor
namespace Go.Proofs.YtbpdmkohihgnjaaGreatDoor
open Go.RowKit

attribute [-simp] Tryz.isAgg26 Tryz.sizeOf26 Tryz.zeroValue26 Tryz.isAgg197 Tryz.sizeOf197 Tryz.zeroValue197
set_option maxRecDepth 20000 in
set_option maxHeartbeats 1000000 in
theorem started_any (W : World) (hT : Tabs W) (K : List Int) (hK : K.length = 16) (p : Int) :
    Calls Tryz.prog 138 #[Ag K, .int .u32 p] W fun e W' => ∃ g, W.heap.size ≤ g ∧ e = .returned (.pointer (some ⟨g, 0, none⟩)) ∧ DigL W' g (xorL p K) ∧ Below W.heap.size W W' := by
  obtain ⟨Z, hZ⟩ : ∃ Z : List Int, Z = List.replicate 16 0 := ⟨_, rfl⟩
  have hZl : Z.length = 16 := by rw [hZ]; simp
  have hz : ∀ w, (zeroValue 197).run Tryz.prog w = .ok (.agg (Z.map (Value.int .u32)).toArray) w := fun w => by rw [Tryz.zeroValue197, hZ]; rfl
  clear hZ
  have B1 : Hid (Blk (W.alloc (Obj.cells (List.map (Value.int IntKind.u32) K).toArray 197)) W.heap.size .u32 197 K) := Blk.new W .u32 197 K
  have HB : Hid (Below W.heap.size W (W.alloc (Obj.cells (List.map (Value.int IntKind.u32) K).toArray 197))) := below_one W _
  have T1 : Hid (Tabs (W.alloc (Obj.cells (List.map (Value.int IntKind.u32) K).toArray 197))) := hT.on (below_one W _)
  have hsK : (Tryz.prog.info? 197).map (·.size) = some K.length := by rw [hK]; exact size64
  have hl : (xorL p K).length = 16 := by rw [xorL_length, hK]
  have hs : (Tryz.prog.info? 197).map (·.size) = some (xorL p K).length := by rw [hl]; exact size64
  unfold Ag
  go_enter Tryz.func138, Tryz.ntmps138
  go_wp2_with (first | (refine wpList_load_blk rfl 197 _ rfl W.heap.size K rfl B1.out Tryz.underlying197 hsK ?_))
  refine (padded_any _ K hK p).mono ?_
  rintro e w1 ⟨rfl, hb1⟩
  have h1s := hb1.size
  simp at h1s
  replace HB : Hid (Below W.heap.size W w1) := HB.out.trans (hb1.mono (by simp))
  replace T1 : Hid (Tabs w1) := T1.out.on hb1
  clear hb1 B1
  obtain ⟨M, hM⟩ : ∃ M, xorL p K = M := ⟨_, rfl⟩
  rw [hM] at hl hs ⊢
  go_wp2_with (first | (refine wpList_store_but rfl 197 _ _ rfl w1.heap.size M rfl rfl (Blk.new w1 .u32 197 Z) hs (hZl.trans hl.symm) ?_; intro w2 b2 hw2 hs2))
  replace HB : Hid (Below W.heap.size W w2) := (HB.out.alloc (by omega) _).trans (hw2.below (by omega) (by simp; omega))
  replace T1 : Hid (Tabs w2) := (T1.out.on (below_one w1 _)).but hw2 (by have := T1.out.sz; omega)
  have B2 : Hid (Blk w2 w1.heap.size .u32 197 M) := b2
  have z2 : W.heap.size < w2.heap.size := by simp at hs2; omega
  clear hw2 b2 hs2 h1s
  generalize w1.heap.size = ga at *
  refine (newL_any _).mono ?_
  rintro e w3 ⟨g, hg, rfl, D, hb3⟩
  have B3 : Hid (Blk w3 ga .u32 197 M) := B2.out.on hb3
  replace HB : Hid (Below W.heap.size W w3) := HB.out.trans (hb3.mono (by omega))
  replace T1 : Hid (Tabs w3) := T1.out.on hb3
  have hgW : W.heap.size < g := by omega
  clear hb3 B2 hg z2
  have DD : Hid (DigL w3 g []) := D
  clear D
  go_wp2_with fail
  refine (addL_any _ T1.out.sha T1.out.sz g [] DD.out _ 16 16 M hl B3.out.at (by decide) (by simp)).mono ?_
  rintro e w4 ⟨rfl, D4, bt4⟩
  have HD : Hid (DigL w4 g (xorL p K)) := by rw [hM]; exact D4
  have H4 : Hid (Below W.heap.size W w4) := HB.out.trans (bt4.below (by omega) (by have := DD.out.lt; omega))
  clear D4 bt4
  go_wp2_with fail
  go_ret
  exact ⟨g, by omega, rfl, HD.out, H4.out⟩
set_option maxRecDepth 20000 in
set_option maxHeartbeats 1000000 in
theorem outerSum_any (W : World) (hT : Tabs W) (g : Nat) (L : List Int) (D : DigL W g L) (hL : L.length ≤ 1000) (hg : 13 ≤ g) (I : List Int) (hI : I.length = 8) :
    Calls Tryz.prog 141 #[.pointer (some ⟨g, 0, none⟩), Ag I] W fun e W' => e = .returned (Ag (sumW (L ++ I))) ∧ But g W W' := by
  obtain ⟨Z, hZ⟩ : ∃ Z : List Int, Z = List.replicate 8 0 := ⟨_, rfl⟩
  have hZl : Z.length = 8 := by rw [hZ]; simp
  have hz : ∀ w, (zeroValue 26).run Tryz.prog w = .ok (.agg (Z.map (Value.int .u32)).toArray) w := fun w => by rw [Tryz.zeroValue26, hZ]; rfl
  clear hZ
  have HB0 := (below_one W (Obj.cells (List.map (Value.int IntKind.u32) I).toArray 26)).trans ((below_one (W.alloc (Obj.cells (List.map (Value.int IntKind.u32) I).toArray 26)) (Obj.cells (List.map (Value.int IntKind.u32) Z).toArray 26)).mono (by simp))
  have B1 : Hid (Blk ((W.alloc (Obj.cells (List.map (Value.int IntKind.u32) I).toArray 26)).alloc (Obj.cells (List.map (Value.int IntKind.u32) Z).toArray 26)) W.heap.size .u32 26 I) := (Blk.new W .u32 26 I).alloc _
  have B2 : Hid (Blk ((W.alloc (Obj.cells (List.map (Value.int IntKind.u32) I).toArray 26)).alloc (Obj.cells (List.map (Value.int IntKind.u32) Z).toArray 26)) (W.heap.size + 1) .u32 26 Z) := Blk.newAt (by simp) .u32 26 Z
  have T1 : Hid (Tabs ((W.alloc (Obj.cells (List.map (Value.int IntKind.u32) I).toArray 26)).alloc (Obj.cells (List.map (Value.int IntKind.u32) Z).toArray 26))) := hT.on HB0
  have D1 : Hid (DigL ((W.alloc (Obj.cells (List.map (Value.int IntKind.u32) I).toArray 26)).alloc (Obj.cells (List.map (Value.int IntKind.u32) Z).toArray 26)) g L) := D.below HB0
  have HB : Hid (But g W ((W.alloc (Obj.cells (List.map (Value.int IntKind.u32) I).toArray 26)).alloc (Obj.cells (List.map (Value.int IntKind.u32) Z).toArray 26))) := Below.but HB0
  have hgs := D.lt
  clear HB0 D
  have hML : (sumW (L ++ I)).length = 8 := sumW_length _
  have hs : (Tryz.prog.info? 26).map (·.size) = some (sumW (L ++ I)).length := by rw [hML]; exact size26
  unfold Ag
  go_enter Tryz.func141, Tryz.ntmps141
  go_wp2_with fail
  generalize ((W.alloc (Obj.cells (List.map (Value.int IntKind.u32) I).toArray 26)).alloc (Obj.cells (List.map (Value.int IntKind.u32) Z).toArray 26)) = X at *
  refine (addL_any _ T1.out.sha T1.out.sz g L D1.out _ 8 8 I hI B1.out.at (by decide) (by omega)).mono ?_
  rintro e w1 ⟨rfl, D2, bt1⟩
  replace B2 : Hid (Blk w1 (W.heap.size + 1) .u32 26 Z) := bt1.blk B2.out (by omega)
  replace T1 : Hid (Tabs w1) := T1.out.but bt1 hg
  replace HB : Hid (But g W w1) := HB.out.trans bt1
  replace D1 : Hid (DigL w1 g (L ++ I)) := D2
  clear D2 bt1 B1
  go_wp2_with fail
  refine (sumL_any _ T1.out.sha T1.out.sz g (L ++ I) D1.out).mono ?_
  rintro e w2 ⟨rfl, hb2⟩
  replace HB : Hid (But g W w2) := HB.out.trans (Below.but hb2)
  replace B2 : Hid (Blk w2 (W.heap.size + 1) .u32 26 Z) := B2.out.on hb2
  clear hb2 T1 D1
  go_wp2_with (first | (refine wpList_store_blk rfl 26 _ _ rfl (W.heap.size + 1) (sumW (L ++ I)) rfl rfl B2.out hs (hZl.trans hML.symm) ?_))
  refine ret_cell rfl rfl (W.heap.size + 1) (sumW (L ++ I)) rfl (B2.out.setRow _) Tryz.underlying26 hs ⟨rfl, ?_⟩
  have := HB.out
  refine ⟨this.os, this.tape, this.output, by simpa using this.size, fun k hk hkg => ?_⟩
  rw [Go.setRow_other _ _ _ _ (by omega)]
  exact this.block k hk hkg
end Go.Proofs.YtbpdmkohihgnjaaGreatDoor
namespace Go.Proofs.YtbpdmkohihgnjaaGreatDoor
open Go.RowKit

theorem Owned.blk {W wr : World} {k : IntKind} {e : TypeId} {N : Nat} {L : List Int} (h : Owned W wr k e N L) : Blk wr W.heap.size k e L := by
  rcases h.own.2 with ⟨h0, _⟩ | ⟨g, cap, cur, hv, _, hg, _, _, hs, ht⟩
  · cases h0
  · simp only [Value.slice.injEq, Option.some.injEq, Addr.mk.injEq, and_true] at hv
    obtain ⟨rfl, _, rfl⟩ := hv
    unfold Blk
    rw [hg, ← ht, List.take_of_length_le (by simp; omega)]
theorem sumBytes_sum (W : World) (hT : Tabs W) (ao : Option Addr) (m c : Nat) (bs : List Int) (hx : bs.length = m) (hbs : Bts bs) (hat : At W .u8 ao bs) (hc : m ≤ c) (hm : m ≤ 140737488355200) :
    Calls Tryz.prog 144 #[.slice ao m c] W fun e W' => e = .returned (Ag (sumB bs)) ∧ Below W.heap.size W W' := by
  subst hx
  exact sumBytes_any W hT.sha hT.sz ao _ c bs rfl hbs hat hc hm
theorem plus_wds (a b : List Int) : Wds (S.plus a b 8) := fun i => by
  by_cases hi : i < 8
  · have : (S.plus a b 8).getD i 0 = S.ad (a.getD i 0) (b.getD i 0) := by simp [S.plus, List.getD_eq_getElem?_getD, hi]
    rw [this]
    unfold S.ad
    omega
  · have : (S.plus a b 8).getD i 0 = 0 := by simp [S.plus, List.getD_eq_getElem?_getD, List.getElem?_eq_none (show (List.range 8).length ≤ i by simp; omega)]
    rw [this]
    decide
theorem run_wds (A xs : List Int) (hA : Wds A) : ∀ k, Wds (S.run A xs k)
  | 0 => hA
  | _ + 1 => plus_wds _ _
theorem first_wds : Wds S.First := fun i => by
  match i with
  | 0 | 1 | 2 | 3 | 4 | 5 | 6 | 7 => decide
  | i + 8 => simp [S.First]
theorem sumB_wds (bs : List Int) : Wds (sumB bs) := run_wds _ _ (run_wds _ _ first_wds _) _
theorem sumW_wds (xs : List Int) : Wds (sumW xs) := run_wds _ _ (run_wds _ _ first_wds _) _
theorem splice_key (ks : List Int) (Y : List Int) (hY : Y = List.replicate 64 0) : splice (Y.map (Value.int .u8)) 0 (ks.map (Value.int .u8)) = (ks ++ List.replicate (64 - ks.length) 0).map (Value.int .u8) := by
  subst hY
  unfold splice
  rw [List.take_zero, List.nil_append, Nat.zero_add, List.length_map, List.map_append, ← List.map_drop, List.drop_replicate]

attribute [-simp] Tryz.isAgg26 Tryz.sizeOf26 Tryz.zeroValue26 Tryz.isAgg197 Tryz.sizeOf197 Tryz.zeroValue197 Tryz.isAgg235 Tryz.sizeOf235 Tryz.zeroValue235
set_option maxRecDepth 20000 in
set_option maxHeartbeats 1000000 in
theorem keyBlock_any (W : World) (hT : Tabs W) (ao : Option Addr) (n c : Nat) (bs : List Int) (hx : bs.length = n) (hbs : Bts bs) (hat : At W .u8 ao bs) (hc : n ≤ c) (hn : n ≤ 140737488355200) :
    Calls Tryz.prog 136 #[.slice ao n c] W fun e W' => e = .returned (Ag (keyW bs)) ∧ Below W.heap.size W W' := by
  obtain ⟨Z, hZ⟩ : ∃ Z : List Int, Z = List.replicate 16 0 := ⟨_, rfl⟩
  have hZl : Z.length = 16 := by rw [hZ]; simp
  have hz : ∀ w, (zeroValue 197).run Tryz.prog w = .ok (.agg (Z.map (Value.int .u32)).toArray) w := fun w => by rw [Tryz.zeroValue197, hZ]; rfl
  obtain ⟨V, hV⟩ : ∃ V : List Int, V = List.replicate 8 0 := ⟨_, rfl⟩
  have hVl : V.length = 8 := by rw [hV]; simp
  have hv : ∀ w, (zeroValue 26).run Tryz.prog w = .ok (.agg (V.map (Value.int .u32)).toArray) w := fun w => by rw [Tryz.zeroValue26, hV]; rfl
  obtain ⟨Y, hY⟩ : ∃ Y : List Int, Y = List.replicate 64 0 := ⟨_, rfl⟩
  have hYl : Y.length = 64 := by rw [hY]; simp
  have hy : ∀ w, (zeroValue 235).run Tryz.prog w = .ok (.agg (Y.map (Value.int .u8)).toArray) w := fun w => by rw [Tryz.zeroValue235, hY]; rfl
  have HY : Hid (Y = List.replicate 64 0) := hY
  clear hZ hV hY
  have B0 : Hid (Blk (W.alloc (Obj.cells (List.map (Value.int IntKind.u32) Z).toArray 197)) W.heap.size .u32 197 Z) := Blk.new W .u32 197 Z
  have H0 : Hid (Below W.heap.size W (W.alloc (Obj.cells (List.map (Value.int IntKind.u32) Z).toArray 197))) := below_one W _
  have i1 : (n : Int) ≤ 140737488355200 := by omega
  go_enter Tryz.func136, Tryz.ntmps136
  go_upto_if 9 with fail
  go_cut [0] (fun v w => (∃ ao' c', v = .slice ao' (keyB bs).length c' ∧ At w .u8 ao' (keyB bs)) ∧ Below W.heap.size W w ∧ Blk w W.heap.size .u32 197 Z)
  case first =>
    generalize (W.alloc (Obj.cells (List.map (Value.int IntKind.u32) Z).toArray 197)) = X at *
    have hzX := B0.out.lt
    by_cases hbig : 64 < n
    · have i2 : (64 : Int) < (n : Int) := by omega
      have hkb : keyB bs = bytesD (sumB bs) := by unfold keyB; rw [if_pos (by omega)]
      have SB : Hid (Calls Tryz.prog 144 #[.slice ao n c] X fun e W' => e = .returned (Ag (sumB bs)) ∧ Below X.heap.size X W') := by
        have hat' : At X .u8 ao bs := hat.below H0.out
        exact sumBytes_sum X (hT.on H0.out) ao n c bs hx hbs hat' hc hn
      have hsl : (sumB bs).length = 8 := sumB_length _
      have hs : (Tryz.prog.info? 26).map (·.size) = some (sumB bs).length := by rw [hsl]; exact size26
      have HW : Wds (sumB bs) := sumB_wds bs
      obtain ⟨M, hM⟩ : ∃ M, sumB bs = M := ⟨_, rfl⟩
      rw [hM] at SB hsl hs hkb HW
      have HT : Hid (Tabs X) := hT.on H0.out
      clear hM hat hbs hx hc hn hbig hT
      go_wp2_with (first | (go_at_call 144; refine SB.out.mono ?_; rintro e w1 ⟨rfl, hb1⟩) | (refine wpList_store_but rfl 26 _ _ rfl w1.heap.size M rfl rfl (Blk.new w1 .u32 26 V) hs (hVl.trans hsl.symm) ?_; intro w2 b2 hw2 hs2))
      have hs1 := hb1.size
      have HB2 : Hid (Below X.heap.size X w2) := (hb1.alloc hs1 _).trans (hw2.below hs1 (by simp; omega))
      have B2 : Hid (Blk w2 w1.heap.size .u32 26 M) := b2
      clear hb1 hw2 hs2 b2
      have T2 : Hid (Tabs w2) := HT.out.on HB2.out
      refine (bytes_at w2 T2.out.lows _ 8 8 M hsl HW B2.out.at (by decide) (by have := T2.out.sz; omega)).mono ?_
      rintro e w3 ⟨rfl, O3⟩
      have HB3 : Hid (Below X.heap.size X w3) := HB2.out.trans (O3.below.mono HB2.out.size)
      have A3 : Hid (At w3 .u8 (some ⟨w2.heap.size, 0, none⟩) (keyB bs)) := by rw [hkb]; exact O3.at
      have hkl : (keyB bs).length = 32 := by rw [hkb, bytesD_length, hsl]
      clear O3 hkb
      go_wp2_with fail
      go_meet
      rw [hkl]
      exact ⟨⟨_, _, rfl, A3.out⟩, H0.out.trans (HB3.out.mono (Nat.le_of_lt hzX)), B0.out.below HB3.out hzX⟩
    · have i2 : (n : Int) ≤ 64 := by omega
      have hkb : keyB bs = bs := by unfold keyB; rw [if_neg (by omega)]
      have A3 : Hid (At X .u8 ao bs) := hat.below H0.out
      have hxx : Hid (bs.length = n) := hx
      clear hat hbs hx hc hn hbig hT
      go_wp2_with fail
      go_meet
      rw [hkb, hxx.out]
      exact ⟨⟨_, _, rfl, A3.out⟩, H0.out, B0.out⟩
  case rest =>
    clear B0 H0 hat i1 hn hc hx
    obtain ⟨⟨ao', c', rfl, hk⟩, hb, bz⟩ := hcut
    have hkl := keyB_length bs
    have KB : Bts (key64 bs) := key64_bts hbs
    have KL : (key64 bs).length = 4 * 16 := key64_length bs
    have C1 : Hid (Cel (wc.alloc (Obj.cells (List.map (Value.int IntKind.u8) Y).toArray 235)) wc.heap.size 235 (Y.map (Value.int .u8))) := heap_alloc_new _ _
    have A1 : Hid (At (wc.alloc (Obj.cells (List.map (Value.int IntKind.u8) Y).toArray 235)) .u8 ao' (keyB bs)) := hk.below (below_one wc _)
    have HS : Hid (∀ w, Cel w wc.heap.size 235 (splice (Y.map (Value.int .u8)) 0 ((keyB bs).map (Value.int .u8))) → Blk w wc.heap.size .u8 235 (key64 bs)) := fun w h => by
      rw [splice_key _ _ HY.out] at h
      exact h
    have BZ : Hid (Blk wc W.heap.size .u32 197 Z) := bz
    have HB : Hid (Below W.heap.size W wc) := hb
    have hfit : 0 + (keyB bs).length ≤ (Y.map (Value.int .u8)).length := by rw [List.length_map, hYl]; omega
    have hlt := bz.lt
    have hkl' : ((keyB bs).length : Int) ≤ 64 := by omega
    obtain ⟨M, hM⟩ : ∃ M, wordsD (key64 bs) 16 = M := ⟨_, rfl⟩
    have hMl : M.length = 16 := by rw [← hM]; exact wordsD_length _ _
    have hs : (Tryz.prog.info? 197).map (·.size) = some M.length := by rw [hMl]; exact size64
    have KM : Hid (keyW bs = M) := hM
    clear hk bz hb hbs HY hT
    generalize key64 bs = KK at *
    generalize keyB bs = k at *
    obtain ⟨m, hm⟩ : ∃ m, k.length = m := ⟨_, rfl⟩
    have HM : Hid (k.length = m) := hm
    rw [hm] at hkl hkl' ⊢
    clear hm
    go_wp2_with (first | (refine wpList_copy_but rfl _ _ 124 124 rfl 5 Tryz.underlying124 size5 wc.heap.size 0 ao' 64 64 m c' rfl rfl C1.out k HM.out A1.out hkl hfit ?_; intro w2 c2 bt2 hs2; have B2 : Hid (Blk w2 wc.heap.size .u8 235 KK) := HS.out _ c2))
    have z2 : W.heap.size < w2.heap.size := by simp at hs2; omega
    have BZ2 : Hid (Blk w2 W.heap.size .u32 197 Z) := bt2.blk (BZ.out.alloc _) (by omega)
    have HB2 : Hid (Below W.heap.size W w2) := (HB.out.alloc (by omega) _).trans (bt2.below (by omega) (by simp; omega))
    clear c2 bt2 hs2 HS C1 A1 BZ HB hfit
    refine (words_any w2 wc.heap.size 0 16 64 KK KL KB B2.out.row (by decide) B2.out.lt).mono ?_
    rintro e w3 ⟨rfl, O3⟩
    rw [hM] at O3
    have B3 : Hid (Blk w3 w2.heap.size .u32 25 M) := O3.blk
    have BZ3 : Hid (Blk w3 W.heap.size .u32 197 Z) := BZ2.out.on O3.below
    have HB3 : Hid (Below W.heap.size W w3) := HB2.out.trans (O3.below.mono (by omega))
    clear O3 hM BZ2 HB2 B2
    have hat : ∀ w, (Instr.arrayAt 197 (.slice (some ⟨w2.heap.size, 0, none⟩) 16 16)).run Tryz.prog w = .ok (.pointer (some ⟨w2.heap.size, 0, none⟩)) w := fun w => run_arrayAt w 197 _ 16 _ 16 16 Tryz.underlying197 (Nat.le_refl _)
    go_wp2_with (first | (refine wpList_load_blk rfl 197 _ rfl w2.heap.size M rfl B3.out Tryz.underlying197 hs ?_) | (refine wpList_store_blk rfl 197 _ _ rfl W.heap.size M rfl rfl BZ3.out hs (hZl.trans hMl.symm) ?_))
    refine ret_cell rfl rfl W.heap.size M rfl (BZ3.out.setRow _) Tryz.underlying197 hs ?_
    rw [KM.out]
    exact ⟨rfl, below_setRow HB3.out (Nat.le_refl _) _⟩
end Go.Proofs.YtbpdmkohihgnjaaGreatDoor
