/- A message padded, as words and as bytes: no program. A digest that holds a list of words. -/
import Derived.Test.YtmomidkodjihjaaDoorHPaddedHChained
namespace Go.Proofs.YtmomidkodjihjaaDoor.H
open Go.RowKit

def sumB (bs : List Int) : List Int := S.fin (S.run S.First (wordsD (bs.take (4 * (bs.length / 4))) (bs.length / 4)) (bs.length / 4 / 16)) ((wordsD (bs.take (4 * (bs.length / 4))) (bs.length / 4)).drop (16 * (bs.length / 4 / 16)) ++ endW bs (bs.length / 4)) (8 * (bs.length : Int))
def sumW (xs : List Int) : List Int := S.fin (S.run S.First xs (xs.length / 16)) (xs.drop (16 * (xs.length / 16)) ++ [2147483648]) (32 * (xs.length : Int))

theorem run_more (A xs : List Int) (k : Nat) : ∀ j, S.run A xs (k + j) = S.run (S.run A xs k) (xs.drop (16 * k)) j
  | 0 => rfl
  | j + 1 => by
    show S.block (S.run A xs (k + j)) ((xs.drop (16 * (k + j))).take 16) = S.block (S.run (S.run A xs k) (xs.drop (16 * k)) j) (((xs.drop (16 * k)).drop (16 * j)).take 16)
    rw [run_more A xs k j, List.drop_drop, show 16 * k + 16 * j = 16 * (k + j) by omega]
theorem run_head (A xs ys : List Int) : ∀ k, 16 * k ≤ xs.length → S.run A (xs ++ ys) k = S.run A xs k
  | 0, _ => rfl
  | k + 1, h => by
    show S.block (S.run A (xs ++ ys) k) (((xs ++ ys).drop (16 * k)).take 16) = S.block (S.run A xs k) ((xs.drop (16 * k)).take 16)
    rw [run_head A xs ys k (by omega), List.drop_append_of_le_length (by omega), List.take_append_of_le_length (by simp; omega)]
theorem pad_length (L : List Int) (b : Int) : (S.pad L b).length = L.length + S.pz L.length + 2 := by simp [S.pad]; omega
/-- Whole blocks first, the rest and the padding behind them: or all at once. -/
theorem fin_all (A ws e : List Int) (b : Int) (k : Nat) (hk : k = ws.length / 16) : S.fin (S.run A ws k) (ws.drop (16 * k) ++ e) b = S.fin A (ws ++ e) b := by
  have h1 : 16 * k ≤ ws.length := by omega
  have hz : S.pz (ws.drop (16 * k) ++ e).length = S.pz (ws ++ e).length := by
    unfold S.pz
    simp only [List.length_append, List.length_drop]
    rw [show (ws.length - 16 * k + e.length) % 16 = (ws.length + e.length) % 16 by omega]
  have hp : S.pad (ws ++ e) b = ws.take (16 * k) ++ S.pad (ws.drop (16 * k) ++ e) b := by
    unfold S.pad
    rw [hz, ← List.append_assoc, ← List.append_assoc, ← List.append_assoc, List.take_append_drop]
  have hl : (S.pad (ws ++ e) b).length / 16 = k + (S.pad (ws.drop (16 * k) ++ e) b).length / 16 := by
    rw [hp, List.length_append, List.length_take]
    omega
  unfold S.fin
  rw [hl, run_more, hp]
  congr 1
  · rw [run_head _ _ _ _ (by rw [List.length_take]; omega)]
    have := run_head A (ws.take (16 * k)) (ws.drop (16 * k)) k (by rw [List.length_take]; omega)
    rw [List.take_append_drop] at this
    exact this
  · have e1 : (ws.take (16 * k)).drop (16 * k) = [] := List.drop_eq_nil_of_le (by rw [List.length_take]; omega)
    rw [List.drop_append_of_le_length (by rw [List.length_take]; omega), e1, List.nil_append]
theorem wordsD_append (xs ys : List Int) (a c : Nat) (hx : xs.length = 4 * a) : wordsD (xs ++ ys) (a + c) = wordsD xs a ++ wordsD ys c := by
  apply list_ext_getD
  · simp only [List.length_append, wordsD_length]
  · intro i hi
    rw [wordsD_length] at hi
    have gl : ∀ j, j < 4 * a → (xs ++ ys).getD j 0 = xs.getD j 0 := fun j hj => by
      simp only [List.getD_eq_getElem?_getD, List.getElem?_append_left (show j < xs.length by omega)]
    have gr : ∀ j, (xs ++ ys).getD (4 * a + j) 0 = ys.getD j 0 := fun j => by
      simp only [List.getD_eq_getElem?_getD]
      rw [List.getElem?_append_right (by omega), hx, show 4 * a + j - 4 * a = j by omega]
    rw [wordsD_getD _ _ _ hi]
    by_cases h : i < a
    · rw [gl _ (by omega), gl _ (by omega), gl _ (by omega), gl _ (by omega)]
      have : (wordsD xs a ++ wordsD ys c).getD i 0 = (wordsD xs a).getD i 0 := by
        simp only [List.getD_eq_getElem?_getD, List.getElem?_append_left (show i < (wordsD xs a).length by rw [wordsD_length]; exact h)]
      rw [this, wordsD_getD _ _ _ h]
    · obtain ⟨j, rfl⟩ : ∃ j, i = a + j := ⟨i - a, by omega⟩
      rw [show 4 * (a + j) = 4 * a + 4 * j by omega, Nat.add_assoc, Nat.add_assoc, Nat.add_assoc, gr, gr, gr, gr]
      have : (wordsD xs a ++ wordsD ys c).getD (a + j) 0 = (wordsD ys c).getD j 0 := by
        simp only [List.getD_eq_getElem?_getD]
        rw [List.getElem?_append_right (by rw [wordsD_length]; omega), wordsD_length, show a + j - a = j by omega]
      rw [this, wordsD_getD _ _ _ (by omega)]
theorem wordsD_zeros (z : Nat) : wordsD (List.replicate (4 * z) 0) z = List.replicate z 0 := by
  apply list_ext_getD
  · simp [wordsD_length]
  · intro i hi
    rw [wordsD_length] at hi
    rw [wordsD_getD _ _ _ hi]
    have z0 : ∀ j, (List.replicate (4 * z) (0 : Int)).getD j 0 = 0 := fun j => by
      simp only [List.getD_eq_getElem?_getD, List.getElem?_replicate]
      split <;> rfl
    rw [z0, z0, z0, z0]
    simp [List.getD_eq_getElem?_getD, w4, hi]
theorem wordsD_len (b : Int) (h0 : 0 ≤ b) (h1 : b < 18446744073709551616) : wordsD (lenB b 8) 2 = [b / 4294967296, b % 4294967296] := by
  have e : wordsD (lenB b 8) 2 = [w4 (b / 2 ^ 56 % 256) (b / 2 ^ 48 % 256) (b / 2 ^ 40 % 256) (b / 2 ^ 32 % 256), w4 (b / 2 ^ 24 % 256) (b / 2 ^ 16 % 256) (b / 2 ^ 8 % 256) (b / 2 ^ 0 % 256)] := by
    apply list_ext_getD
    · rfl
    · intro i hi
      rw [wordsD_length] at hi
      rw [wordsD_getD _ _ _ hi]
      match i, hi with
      | 0, _ => rfl
      | 1, _ => rfl
  rw [e]
  simp only [w4]
  congr 1
  · omega
  · congr 1; omega
theorem padB_form (bs : List Int) : padB bs = ((bs.take (4 * (bs.length / 4)) ++ endB bs (bs.length / 4)) ++ List.replicate (4 * S.pz (bs.length / 4 + 1)) 0) ++ lenB (8 * (bs.length : Int)) 8 := by
  obtain ⟨m, hm⟩ : ∃ m, m = bs.length := ⟨_, rfl⟩
  obtain ⟨n, hn⟩ : ∃ n, n = m / 4 := ⟨_, rfl⟩
  obtain ⟨r, hr⟩ : ∃ r, r = m % 4 := ⟨_, rfl⟩
  have hbz : bz m = (3 - r) + 4 * S.pz (n + 1) := by unfold bz S.pz; omega
  unfold padB
  rw [← hm, ← hn]
  congr 1
  rw [hbz, ← List.replicate_append_replicate, ← List.append_assoc]
  congr 1
  have hd : (bs.drop (4 * n)).length = r := by rw [List.length_drop]; omega
  unfold endB
  have e4 : (bs.drop (4 * n)).take 4 = bs.drop (4 * n) := List.take_of_length_le (by omega)
  rw [List.take_append, hd, e4, ← List.append_assoc, List.take_append_drop, List.append_assoc]
  congr 1
  match r, show r < 4 by omega with
  | 0, _ => rfl
  | 1, _ => rfl
  | 2, _ => rfl
  | 3, _ => rfl
theorem padB_words (bs : List Int) (hm : bs.length ≤ 140737488355328) : ∃ q, (padB bs).length = 64 * q ∧ wordsD (padB bs) (16 * q) = S.pad (wordsD (bs.take (4 * (bs.length / 4))) (bs.length / 4) ++ endW bs (bs.length / 4)) (8 * (bs.length : Int)) ∧ q = (S.pad (wordsD (bs.take (4 * (bs.length / 4))) (bs.length / 4) ++ endW bs (bs.length / 4)) (8 * (bs.length : Int))).length / 16 := by
  obtain ⟨n, hn⟩ : ∃ n, n = bs.length / 4 := ⟨_, rfl⟩
  rw [padB_form, ← hn]
  have hl1 : (bs.take (4 * n)).length = 4 * n := by rw [List.length_take]; omega
  have hl : (((bs.take (4 * n) ++ endB bs n) ++ List.replicate (4 * S.pz (n + 1)) 0) ++ lenB (8 * (bs.length : Int)) 8).length = 4 * (n + 1 + S.pz (n + 1) + 2) := by
    simp only [List.length_append, hl1, endB_length, List.length_replicate, lenB_length]; omega
  have hq : (n + 1 + S.pz (n + 1) + 2) % 16 = 0 := by unfold S.pz; omega
  have hE : (endW bs n).length = 1 := wordsD_length _ _
  have hW : (wordsD (bs.take (4 * n)) n ++ endW bs n).length = n + 1 := by rw [List.length_append, wordsD_length, hE]
  refine ⟨(n + 1 + S.pz (n + 1) + 2) / 16, by rw [hl]; omega, ?_, by rw [pad_length, hW]⟩
  rw [show 16 * ((n + 1 + S.pz (n + 1) + 2) / 16) = n + 1 + S.pz (n + 1) + 2 by omega]
  rw [wordsD_append _ _ _ 2 (by simp only [List.length_append, hl1, endB_length, List.length_replicate]; omega), wordsD_append _ _ _ (S.pz (n + 1)) (by simp only [List.length_append, hl1, endB_length]; omega), wordsD_append _ _ _ 1 hl1, wordsD_zeros, wordsD_len _ (by omega) (by omega)]
  unfold S.pad
  rw [hW]
  rfl
/-- SumBytes is the chain over the padded message. -/
theorem sumB_chain (bs : List Int) (hm : bs.length ≤ 140737488355328) : ∃ q, (padB bs).length = 64 * q ∧ sumB bs = S.run S.First (wordsD (padB bs) (16 * q)) q := by
  obtain ⟨q, h1, h2, h3⟩ := padB_words bs hm
  refine ⟨q, h1, ?_⟩
  unfold sumB
  rw [fin_all _ _ _ _ _ (by rw [wordsD_length]), h2]
  unfold S.fin
  rw [← h3]
theorem bytesD_getD (xs : List Int) (i : Nat) (hi : i < xs.length) (j : Nat) (hj : j < 4) : (bytesD xs).getD (4 * i + j) 0 = (byteW (xs.getD i 0)).getD j 0 := by
  induction xs generalizing i with
  | nil => simp at hi
  | cons x xs ih =>
    have e : bytesD (x :: xs) = byteW x ++ bytesD xs := by simp [bytesD]
    rw [e]
    cases i with
    | zero =>
      rw [Nat.mul_zero, Nat.zero_add]
      simp [List.getD_eq_getElem?_getD, List.getElem?_append_left (show j < (byteW x).length from hj)]
    | succ i =>
      have := ih i (by simpa using hi)
      simp only [List.getD_eq_getElem?_getD, List.getElem?_cons_succ] at this ⊢
      rw [List.getElem?_append_right (by show 4 ≤ _; omega), show 4 * (i + 1) + j - (byteW x).length = 4 * i + j by show _ - 4 = _; omega, this]
theorem words_bytes (xs : List Int) (wx : Wds xs) : wordsD (bytesD xs) xs.length = xs := by
  apply list_ext_getD
  · rw [wordsD_length]
  · intro i hi
    rw [wordsD_length] at hi
    obtain ⟨x0, x1⟩ := wx i
    have e0 := bytesD_getD xs i hi 0 (by decide)
    rw [Nat.add_zero] at e0
    rw [wordsD_getD _ _ _ hi, e0, bytesD_getD xs i hi 1 (by decide), bytesD_getD xs i hi 2 (by decide), bytesD_getD xs i hi 3 (by decide)]
    generalize xs.getD i 0 = x at *
    simp only [byteW, List.getD_cons_zero, List.getD_cons_succ, w4]
    omega
theorem bytesD_bts (xs : List Int) : Bts (bytesD xs) := by
  intro t
  by_cases h : t < 4 * xs.length
  · have := bytesD_getD xs (t / 4) (by omega) (t % 4) (by omega)
    rw [show 4 * (t / 4) + t % 4 = t by omega] at this
    rw [this]
    generalize xs.getD (t / 4) 0 = x
    match t % 4, show t % 4 < 4 by omega with
    | 0, _ | 1, _ | 2, _ | 3, _ => simp only [byteW, List.getD_cons_zero, List.getD_cons_succ]; omega
  · have := bytesD_length xs
    simp [List.getD_eq_getElem?_getD, List.getElem?_eq_none (show (bytesD xs).length ≤ t by omega)]
theorem sumW_eq (xs : List Int) (wx : Wds xs) : sumW xs = sumB (bytesD xs) := by
  unfold sumW sumB
  rw [bytesD_length, show 4 * xs.length / 4 = xs.length by omega, List.take_of_length_le (by rw [bytesD_length]; omega), words_bytes xs wx]
  have hE : endW (bytesD xs) xs.length = [2147483648] := by
    unfold endW endB
    rw [List.drop_eq_nil_of_le (by rw [bytesD_length]; omega)]
    rfl
  rw [hE]
  congr 1
  push_cast
  omega
theorem padB_bts {bs : List Int} (h : Bts bs) : Bts (padB bs) := by
  refine bts_append (bts_append (bts_append h fun i => ?_) fun i => ?_) fun i => ?_
  · match i with
    | 0 => decide
    | i + 1 => simp
  · simp only [List.getD_eq_getElem?_getD, List.getElem?_replicate]
    split <;> simp
  · by_cases hi : i < 8
    · simp only [lenB, List.getD_eq_getElem?_getD, List.getElem?_map, List.getElem?_range hi, Option.map_some, Option.getD_some]
      omega
    · simp [List.getD_eq_getElem?_getD, List.getElem?_eq_none (show (lenB (8 * (bs.length : Int)) 8).length ≤ i by rw [lenB_length]; omega)]
end Go.Proofs.YtmomidkodjihjaaDoor.H
namespace Go.Proofs.YtmomidkodjihjaaDoor.H
open Go.RowKit

def DigL (W : World) (g : Nat) (L : List Int) : Prop := Dig W g (S.run S.First L (L.length / 16)) L.length (L.drop (16 * (L.length / 16)))
theorem DigL.lt {W : World} {g : Nat} {L : List Int} (h : DigL W g L) : g < W.heap.size := Dig.lt h
theorem DigL.below {W w : World} {g : Nat} {L : List Int} (h : DigL W g L) (hb : Below W.heap.size W w) : DigL w g L := Dig.below h hb (Dig.lt h)
theorem DigL.but {W w : World} {g i : Nat} {L : List Int} (h : DigL W i L) (hb : But g W w) (hi : i ≠ g) : DigL w i L := Dig.but h hb hi
theorem sumW_length (xs : List Int) : (sumW xs).length = 8 := run_length _ _ (run_length _ _ rfl _) _
theorem newL_any (W : World) :
    Calls Tryd.prog 41 #[] W fun e W' => ∃ g, W.heap.size ≤ g ∧ e = .returned (.pointer (some ⟨g, 0, none⟩)) ∧ DigL W' g [] ∧ Below W.heap.size W W' := new_any W
theorem addL_any (W : World) (hT : Tab W) (h2 : 1 < W.heap.size) (g : Nat) (L : List Int) (D : DigL W g L) (ao : Option Addr) (m c : Nat) (xs : List Int) (hx : xs.length = m) (hat : At W .u32 ao xs) (hm : m ≤ 35184372087808) (h : L.length + m ≤ 36028797018963968) :
    Calls Tryd.prog 44 #[.pointer (some ⟨g, 0, none⟩), .slice ao m c] W fun e W' => e = .returned (.tuple #[]) ∧ DigL W' g (L ++ xs) ∧ But g W W' := by
  refine (add_fits W hT h2 g _ _ _ D ao m c xs hx hat hm h).mono ?_
  rintro e W' ⟨rfl, D', hb⟩
  refine ⟨rfl, ?_, hb⟩
  have e1 : L.drop (16 * (L.length / 16)) ++ xs = (L ++ xs).drop (16 * (L.length / 16)) := by
    rw [List.drop_append_of_le_length (by omega)]
  have e2 : (L ++ xs).length / 16 = L.length / 16 + (L.length % 16 + m) / 16 := by rw [List.length_append, hx]; omega
  unfold DigL
  rw [e2, run_more, run_head _ _ _ _ (by omega), ← e1, List.length_append, hx, show 16 * (L.length / 16 + (L.length % 16 + m) / 16) = 16 * (L.length / 16) + 16 * ((L.length % 16 + m) / 16) by omega, ← List.drop_drop, ← e1]
  exact D'
theorem At.cut {W : World} {k : IntKind} {ao : Option Addr} {xs : List Int} (h : At W k ao xs) (n cap a m : Nat) (hx : xs.length = n) (hc : n ≤ cap) (ha : a + m ≤ n) : At W k (if cap = a then ao else Option.map (fun x => x.add a) ao) ((xs.drop a).take m) := by
  rcases Nat.eq_zero_or_pos m with rfl | hm
  · left; simp
  · rcases h with h0 | ⟨b, off, rfl, hb, hr⟩
    · rw [h0] at hx; simp at hx; omega
    · rw [if_neg (by omega)]
      exact .inr ⟨b, off + a, by simp [Addr.add_mid], hb, (hr.drop a).take m⟩
theorem At.head {W : World} {k : IntKind} {ao : Option Addr} {xs : List Int} (h : At W k ao xs) (a : Nat) : At W k ao (xs.take a) := by
  rcases h with h0 | ⟨b, off, h1, hb, hr⟩
  · left; rw [h0]; simp
  · exact .inr ⟨b, off, h1, hb, hr.take a⟩
end Go.Proofs.YtmomidkodjihjaaDoor.H
