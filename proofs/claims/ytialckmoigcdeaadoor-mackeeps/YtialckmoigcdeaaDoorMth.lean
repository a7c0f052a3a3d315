/- Words, bytes and sums as lists; arrays compared: no function of the program. -/
import Derived.Test.YtialckmoigcdeaaDoorSumB
import Derived.Laws.StructEq
namespace Go.Proofs.YtialckmoigcdeaaDoor
open Go.RowKit

def w4 (a b c d : Int) : Int := (((0 * 256 + a) * 256 + b) * 256 + c) * 256 + d
theorem wordAt_full (bs : List Int) (t i : Nat) (h : 4 * i + 3 < t) : wordAt bs t i = w4 (bs.getD (4 * i) 0) (bs.getD (4 * i + 1) 0) (bs.getD (4 * i + 2) 0) (bs.getD (4 * i + 3) 0) := by
  simp (disch := omega) only [wordAt, if_pos, w4, Nat.add_zero]
theorem wordsD_getD (bs : List Int) (n i : Nat) (hi : i < n) : (wordsD bs n).getD i 0 = w4 (bs.getD (4 * i) 0) (bs.getD (4 * i + 1) 0) (bs.getD (4 * i + 2) 0) (bs.getD (4 * i + 3) 0) := by
  unfold wordsD
  rw [partW_getD _ _ _ _ hi, wordAt_full _ _ _ (by omega)]
theorem wordsD_length (bs : List Int) (n : Nat) : (wordsD bs n).length = n := partW_length _ _ _
theorem list_ext_getD {xs ys : List Int} (hl : xs.length = ys.length) (h : ∀ i, i < xs.length → xs.getD i 0 = ys.getD i 0) : xs = ys := by
  apply List.ext_getElem hl
  intro i h1 h2
  have := h i h1
  simpa [List.getD_eq_getElem?_getD, h1, h2] using this
theorem getD_take {xs : List Int} {n i : Nat} (h : i < n) : (xs.take n).getD i 0 = xs.getD i 0 := by
  simp [List.getD_eq_getElem?_getD, h]
theorem getD_drop {xs : List Int} {n i : Nat} : (xs.drop n).getD i 0 = xs.getD (n + i) 0 := by
  simp [List.getD_eq_getElem?_getD]
theorem wordsD_cut (bs : List Int) (n a k : Nat) (h : a + k ≤ n) : ((wordsD bs n).drop a).take k = wordsD ((bs.drop (4 * a)).take (4 * k)) k := by
  apply list_ext_getD
  · simp only [List.length_take, List.length_drop, wordsD_length]; omega
  · intro i hi
    simp only [List.length_take, List.length_drop, wordsD_length] at hi
    rw [getD_take (by omega), getD_drop, wordsD_getD _ _ _ (by omega), wordsD_getD _ _ _ (by omega)]
    rw [getD_take (by omega), getD_take (by omega), getD_take (by omega), getD_take (by omega), getD_drop, getD_drop, getD_drop, getD_drop]
    rw [show 4 * (a + i) = 4 * a + 4 * i by omega]
    rfl

def byteW (x : Int) : List Int := [x / 16777216 % 256, x / 65536 % 256, x / 256 % 256, x % 256]
def bytesD (xs : List Int) : List Int := (xs.map byteW).flatten
theorem bytesD_length (xs : List Int) : (bytesD xs).length = 4 * xs.length := by
  induction xs with
  | nil => rfl
  | cons x xs ih => simp only [bytesD, List.map_cons, List.flatten_cons, List.length_append] at ih ⊢; rw [ih]; simp [byteW]; omega
theorem bytesD_take (xs : List Int) (k : Nat) (h : k < xs.length) : bytesD (xs.take (k + 1)) = bytesD (xs.take k) ++ byteW (xs.getD k 0) := by
  unfold bytesD
  rw [List.take_succ_eq_append_getElem h, List.map_append, List.flatten_append]
  simp [List.getD_eq_getElem?_getD, h]
def sumB (bs : List Int) : List Int := S.fin (S.run S.First (wordsD (bs.take (4 * (bs.length / 4))) (bs.length / 4)) (bs.length / 4 / 16)) ((wordsD (bs.take (4 * (bs.length / 4))) (bs.length / 4)).drop (16 * (bs.length / 4 / 16)) ++ endW bs (bs.length / 4)) (8 * (bs.length : Int))
def sumW (xs : List Int) : List Int := S.fin (S.run S.First xs (xs.length / 16)) (xs.drop (16 * (xs.length / 16)) ++ [2147483648]) (32 * (xs.length : Int))
theorem run_more (A xs : List Int) (k : Nat) : ∀ j, S.run A xs (k + j) = S.run (S.run A xs k) (xs.drop (16 * k)) j
  | 0 => rfl
  | j + 1 => by
    show S.block (S.run A xs (k + j)) ((xs.drop (16 * (k + j))).take 16) = S.block (S.run (S.run A xs k) (xs.drop (16 * k)) j) (((xs.drop (16 * k)).drop (16 * j)).take 16)
    rw [run_more A xs k j, List.drop_drop, show 16 * k + 16 * j = 16 * (k + j) by omega]
theorem run_head (A xs ys : List Int) : ∀ k, 16 * k ≤ xs.length → S.run A (xs ++ ys) k = S.run A xs k
  | 0, _ => rfl
  | k + 1, h => by
    show S.block (S.run A (xs ++ ys) k) (((xs ++ ys).drop (16 * k)).take 16) = S.block (S.run A xs k) ((xs.drop (16 * k)).take 16)
    rw [run_head A xs ys k (by omega), List.drop_append_of_le_length (by omega), List.take_append_of_le_length (by simp; omega)]
theorem pad_length (L : List Int) (b : Int) : (S.pad L b).length = L.length + S.pz L.length + 2 := by simp [S.pad]; omega
theorem fin_all (A ws e : List Int) (b : Int) (k : Nat) (hk : k = ws.length / 16) : S.fin (S.run A ws k) (ws.drop (16 * k) ++ e) b = S.fin A (ws ++ e) b := by
  have h1 : 16 * k ≤ ws.length := by omega
  have hz : S.pz (ws.drop (16 * k) ++ e).length = S.pz (ws ++ e).length := by
    unfold S.pz
    simp only [List.length_append, List.length_drop]
    rw [show (ws.length - 16 * k + e.length) % 16 = (ws.length + e.length) % 16 by omega]
  have hp : S.pad (ws ++ e) b = ws.take (16 * k) ++ S.pad (ws.drop (16 * k) ++ e) b := by
    unfold S.pad
    rw [hz, ← List.append_assoc, ← List.append_assoc, ← List.append_assoc, List.take_append_drop]
  have hl : (S.pad (ws ++ e) b).length / 16 = k + (S.pad (ws.drop (16 * k) ++ e) b).length / 16 := by
    rw [hp, List.length_append, List.length_take]
    omega
  unfold S.fin
  rw [hl, run_more, hp]
  congr 1
  · rw [run_head _ _ _ _ (by rw [List.length_take]; omega)]
    have := run_head A (ws.take (16 * k)) (ws.drop (16 * k)) k (by rw [List.length_take]; omega)
    rw [List.take_append_drop] at this
    exact this
  · have e1 : (ws.take (16 * k)).drop (16 * k) = [] := List.drop_eq_nil_of_le (by rw [List.length_take]; omega)
    rw [List.drop_append_of_le_length (by rw [List.length_take]; omega), e1, List.nil_append]
theorem wordsD_append (xs ys : List Int) (a c : Nat) (hx : xs.length = 4 * a) : wordsD (xs ++ ys) (a + c) = wordsD xs a ++ wordsD ys c := by
  apply list_ext_getD
  · simp only [List.length_append, wordsD_length]
  · intro i hi
    rw [wordsD_length] at hi
    have gl : ∀ j, j < 4 * a → (xs ++ ys).getD j 0 = xs.getD j 0 := fun j hj => by
      simp only [List.getD_eq_getElem?_getD, List.getElem?_append_left (show j < xs.length by omega)]
    have gr : ∀ j, (xs ++ ys).getD (4 * a + j) 0 = ys.getD j 0 := fun j => by
      simp only [List.getD_eq_getElem?_getD]
      rw [List.getElem?_append_right (by omega), hx, show 4 * a + j - 4 * a = j by omega]
    rw [wordsD_getD _ _ _ hi]
    by_cases h : i < a
    · rw [gl _ (by omega), gl _ (by omega), gl _ (by omega), gl _ (by omega)]
      have : (wordsD xs a ++ wordsD ys c).getD i 0 = (wordsD xs a).getD i 0 := by
        simp only [List.getD_eq_getElem?_getD, List.getElem?_append_left (show i < (wordsD xs a).length by rw [wordsD_length]; exact h)]
      rw [this, wordsD_getD _ _ _ h]
    · obtain ⟨j, rfl⟩ : ∃ j, i = a + j := ⟨i - a, by omega⟩
      rw [show 4 * (a + j) = 4 * a + 4 * j by omega, Nat.add_assoc, Nat.add_assoc, Nat.add_assoc, gr, gr, gr, gr]
      have : (wordsD xs a ++ wordsD ys c).getD (a + j) 0 = (wordsD ys c).getD j 0 := by
        simp only [List.getD_eq_getElem?_getD]
        rw [List.getElem?_append_right (by rw [wordsD_length]; omega), wordsD_length, show a + j - a = j by omega]
      rw [this, wordsD_getD _ _ _ (by omega)]
theorem wordsD_zeros (z : Nat) : wordsD (List.replicate (4 * z) 0) z = List.replicate z 0 := by
  apply list_ext_getD
  · simp [wordsD_length]
  · intro i hi
    rw [wordsD_length] at hi
    rw [wordsD_getD _ _ _ hi]
    have z0 : ∀ j, (List.replicate (4 * z) (0 : Int)).getD j 0 = 0 := fun j => by
      simp only [List.getD_eq_getElem?_getD, List.getElem?_replicate]
      split <;> rfl
    rw [z0, z0, z0, z0]
    simp [List.getD_eq_getElem?_getD, w4, hi]
theorem bytesD_getD (xs : List Int) (i : Nat) (hi : i < xs.length) (j : Nat) (hj : j < 4) : (bytesD xs).getD (4 * i + j) 0 = (byteW (xs.getD i 0)).getD j 0 := by
  induction xs generalizing i with
  | nil => simp at hi
  | cons x xs ih =>
    have e : bytesD (x :: xs) = byteW x ++ bytesD xs := by simp [bytesD]
    rw [e]
    cases i with
    | zero =>
      rw [Nat.mul_zero, Nat.zero_add]
      simp [List.getD_eq_getElem?_getD, List.getElem?_append_left (show j < (byteW x).length from hj)]
    | succ i =>
      have := ih i (by simpa using hi)
      simp only [List.getD_eq_getElem?_getD, List.getElem?_cons_succ] at this ⊢
      rw [List.getElem?_append_right (by show 4 ≤ _; omega), show 4 * (i + 1) + j - (byteW x).length = 4 * i + j by show _ - 4 = _; omega, this]
theorem words_bytes (xs : List Int) (wx : Wds xs) : wordsD (bytesD xs) xs.length = xs := by
  apply list_ext_getD
  · rw [wordsD_length]
  · intro i hi
    rw [wordsD_length] at hi
    obtain ⟨x0, x1⟩ := wx i
    have e0 := bytesD_getD xs i hi 0 (by decide)
    rw [Nat.add_zero] at e0
    rw [wordsD_getD _ _ _ hi, e0, bytesD_getD xs i hi 1 (by decide), bytesD_getD xs i hi 2 (by decide), bytesD_getD xs i hi 3 (by decide)]
    generalize xs.getD i 0 = x at *
    simp only [byteW, List.getD_cons_zero, List.getD_cons_succ, w4]
    omega
theorem bytesD_bts (xs : List Int) : Bts (bytesD xs) := by
  intro t
  by_cases h : t < 4 * xs.length
  · have := bytesD_getD xs (t / 4) (by omega) (t % 4) (by omega)
    rw [show 4 * (t / 4) + t % 4 = t by omega] at this
    rw [this]
    generalize xs.getD (t / 4) 0 = x
    match t % 4, show t % 4 < 4 by omega with
    | 0, _ | 1, _ | 2, _ | 3, _ => simp only [byteW, List.getD_cons_zero, List.getD_cons_succ]; omega
  · have := bytesD_length xs
    simp [List.getD_eq_getElem?_getD, List.getElem?_eq_none (show (bytesD xs).length ≤ t by omega)]
theorem sumW_eq (xs : List Int) (wx : Wds xs) : sumW xs = sumB (bytesD xs) := by
  unfold sumW sumB
  rw [bytesD_length, show 4 * xs.length / 4 = xs.length by omega, List.take_of_length_le (by rw [bytesD_length]; omega), words_bytes xs wx]
  have hE : endW (bytesD xs) xs.length = [2147483648] := by
    unfold endW endB
    rw [List.drop_eq_nil_of_le (by rw [bytesD_length]; omega)]
    rfl
  rw [hE]
  congr 1
  push_cast
  omega
theorem all_range_eq' : ∀ (xs ys : List Int), xs.length = ys.length → ((List.range xs.length).all fun i => xs.getD i 0 == ys.getD i 0) = decide (xs = ys)
  | [], [], _ => rfl
  | x :: xs, y :: ys, h => by
    have ih := all_range_eq' xs ys (by simpa using h)
    rw [List.length_cons, List.range_succ_eq_map, List.all_cons, List.all_map]
    simp only [List.getD_cons_zero, Function.comp_def, List.getD_cons_succ, ih]
    rw [Bool.eq_iff_iff]
    simp
  | [], _ :: _, h => by simp at h
  | _ :: _, [], h => by simp at h
theorem run_equalIn_words {P : Program} (w : World) (d : Nat) (t e : TypeId) (n : Nat) (ht : P.underlying t = some (.array n e)) (he : P.underlying e = some (.int .u32)) (hsz : ∀ w, (sizeOf e).run P w = .ok 1 w)
    (xs ys : List Int) (hx : xs.length = n) (hy : ys.length = n) :
    (Op.equalIn (d + 2) t (.agg (xs.map (Value.int .u32)).toArray) (.agg (ys.map (Value.int .u32)).toArray)).run P w = .ok (decide (xs = ys)) w := by
  rw [← all_range_eq' xs ys (hx.trans hy.symm), hx, List.range_eq_range', Op.equalIn]
  simp only [Sem.run_bind, run_underlying ht, Result.andThen_ok, hsz, Std.Legacy.Range.forIn_eq_forIn_range', Std.Legacy.Range.size, Nat.sub_zero, Nat.add_sub_cancel, Nat.div_one]
  have hl : ∀ i ∈ List.range' 0 n 1, i < n := fun i hi => by simpa using (List.mem_range'_1.1 hi).2
  generalize List.range' 0 n 1 = l at hl ⊢
  induction l with
  | nil => simp
  | cons i l ih =>
    have hi : i < n := hl i (by simp)
    have px : (part e (xs.map (Value.int .u32)).toArray (i * 1)).run P w = .ok (.int .u32 (xs.getD i 0)) w := by
      simp [part, isAgg, run_underlying he, List.getD, List.getElem?_eq_getElem (show i < xs.length by omega)]
    have py : (part e (ys.map (Value.int .u32)).toArray (i * 1)).run P w = .ok (.int .u32 (ys.getD i 0)) w := by
      simp [part, isAgg, run_underlying he, List.getD, List.getElem?_eq_getElem (show i < ys.length by omega)]
    have pe : (Op.equalIn (d + 1) e (.int .u32 (xs.getD i 0)) (.int .u32 (ys.getD i 0))).run P w = .ok (xs.getD i 0 == ys.getD i 0) w := by
      rw [run_equalIn_int w d e .u32 .u32 _ _ he]
    simp only [List.forIn_cons, Sem.run_bind, px, py, pe, Result.andThen_ok, List.all_cons]
    cases hb : (xs.getD i 0 == ys.getD i 0)
    · simp
    · simp only [Bool.not_true, Bool.false_eq_true, if_false, Sem.run_pure, Result.andThen_ok, Bool.true_and]
      exact ih fun j hj => hl j (by simp [hj])
theorem eq26 (xs ys : List Int) (hx : xs.length = 8) (hy : ys.length = 8) (w : World) : (Op.equalIn 10000 26 (.agg (xs.map (Value.int .u32)).toArray) (.agg (ys.map (Value.int .u32)).toArray)).run Tryd.prog w = .ok (decide (xs = ys)) w :=
  run_equalIn_words w 9998 26 25 8 Tryd.underlying26 Tryd.underlying25 Tryd.sizeOf25 xs ys hx hy
theorem sumW_length (xs : List Int) : (sumW xs).length = 8 := run_length _ _ (run_length _ _ rfl _) _
theorem sumB_length (bs : List Int) : (sumB bs).length = 8 := run_length _ _ (run_length _ _ rfl _) _
end Go.Proofs.YtialckmoigcdeaaDoor
