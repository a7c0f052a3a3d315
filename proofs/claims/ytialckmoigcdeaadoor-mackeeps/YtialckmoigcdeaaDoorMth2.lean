/- A message padded, as bytes. -/
import Derived.Test.YtialckmoigcdeaaDoorMKey
import Derived.Test.YtialckmoigcdeaaDoorCat
namespace Go.Proofs.YtialckmoigcdeaaDoor
open Go.RowKit

theorem wpList_append_new {P : Program} {w : World} {ops : Array Oper} {rest : List Oper} {o : Oper} {a : Act} {Q : Exit → Act → World → Prop} (hgd : o.guard = none) (s x : Operand) (t : TypeId)
    (ho : o.op = .call { callee := .builtin .append, args := #[s, x], argTypes := #[t, t] }) (k : IntKind) (e : TypeId) (i : TypeInfo) (z : Value) (bytes : Nat) (ht : P.underlying t = some (.slice e)) (hi : P.info? e = some i) (hz : i.zero = some z) (hsize : i.size = 1) (hby : i.bytes = bytes) (hzs : z.cells.size = 1)
    (hs : a.eval s = .slice none 0 0) (ao : Option Addr) (m c : Nat) (xs : List Int) (hx : a.eval x = .slice ao m c) (hl : xs.length = m) (hat : At w k ao xs) (h63 : m ≤ maxLen) (hbytes : m * bytes ≤ 140737488355328)
    (h : ∀ v' w', Holds w w' k e v' xs → wpList P ops Q rest (a.put o.dst v') w') : wpList P ops Q (o :: rest) a w := by
  have key : ∃ v' w', (Builtin.append_ #[t, t] o.type #[.slice none 0 0, .slice ao m c]).run P w = .ok v' w' ∧ Holds w w' k e v' xs := by
    cases ao with
    | none =>
      have hx0 : xs = [] := by
        rcases hat with h0 | ⟨b, off, h1, _⟩
        · exact h0
        · cases h1
      subst hx0
      simp at hl
      subst hl
      refine ⟨.slice none 0 0, w, ?_, Holds.start _ _ _⟩
      simp [Builtin.append_, run_underlying ht, sizeOf, typeInfo, hi, Builtin.lenOf, Builtin.firstCells]
    | some ad =>
      obtain ⟨v', w', hr, h1, h2, _⟩ := run_append_own (P := P) w w.heap.size t o.type e i z 1 bytes ht hi hz hsize hby hzs (by decide) (.slice none 0 0) 0 [] (World.ownsRow_nil w _ e 1) ad m c (xs.map (Value.int k)) (by simp [hl]) hat.cells (ints_oneCell k xs) (by omega) (by rw [Nat.zero_add]; exact hbytes) (Nat.le_refl _)
      exact ⟨v', w', hr, Holds.grow (Below.refl _ _) (fun g hg => by cases hg) h1 h2 (by simp [hl]) (by simp)⟩
  obtain ⟨v', w', hr, hH⟩ := key
  refine wpList_plain hgd fun K hK => ?_
  unfold Oper.wp execOp
  simp only [ho, resolve, invoke, builtin, Sem.run_bind, Sem.run_pure, Result.andThen_ok, List.map_toArray, List.map_cons, List.map_nil, hs, hx, hr]
  exact hK _ _ (h _ _ hH)
theorem wpList_append_more {P : Program} {W w : World} {ops : Array Oper} {rest : List Oper} {o : Oper} {a : Act} {Q : Exit → Act → World → Prop} (hgd : o.guard = none) (s x : Operand) (t : TypeId)
    (ho : o.op = .call { callee := .builtin .append, args := #[s, x], argTypes := #[t, t] }) (k : IntKind) (e : TypeId) (i : TypeInfo) (z : Value) (bytes : Nat) (ht : P.underlying t = some (.slice e)) (hi : P.info? e = some i) (hz : i.zero = some z) (hsize : i.size = 1) (hby : i.bytes = bytes) (hzs : z.cells.size = 1)
    (v : Value) (L : List Int) (hs : a.eval s = v) (H : Holds W w k e v L) (gs m c : Nat) (xs : List Int) (hx : a.eval x = .slice (some ⟨gs, 0, none⟩) m c) (hl : xs.length = m) (hgs : Row w k gs 0 xs) (h63 : L.length + m ≤ maxLen) (hbytes : (L.length + m) * bytes ≤ 140737488355328)
    (h : ∀ v' w', Holds W w' k e v' (L ++ xs) → wpList P ops Q rest (a.put o.dst v') w') : wpList P ops Q (o :: rest) a w := by
  obtain ⟨v', w', hr, h1, h2, _⟩ := run_append_own (P := P) w W.heap.size t o.type e i z 1 bytes ht hi hz hsize hby hzs (by decide) v L.length _ H.own ⟨gs, 0, none⟩ m c (xs.map (Value.int k)) (by simp [hl]) (fun j v hv => by rw [Addr.add_mid]; exact hgs.range j v hv) (ints_oneCell k xs) h63 hbytes H.below.size
  have hH : Holds W w' k e v' (L ++ xs) := Holds.grow H.below (fun g hg => (H.own.lt g hg).1) h1 h2 (by simp [hl]) (by simp)
  refine wpList_plain hgd fun K hK => ?_
  unfold Oper.wp execOp
  simp only [ho, resolve, invoke, builtin, Sem.run_bind, Sem.run_pure, Result.andThen_ok, List.map_toArray, List.map_cons, List.map_nil, hs, hx, hr]
  exact hK _ _ (h _ _ hH)
theorem row_new (W : World) (k : IntKind) (e : TypeId) (L : List Int) (C : Array Value) (hC : C = (L.map (Value.int k)).toArray) : Row (W.alloc (.cells C e)) k W.heap.size 0 L := by
  subst hC
  exact (Blk.new W k e L).row
def bz (m : Nat) : Nat := (119 - m % 64) % 64
def lenB (b : Int) (t : Nat) : List Int := (List.range t).map fun k => b / 2 ^ (56 - 8 * k) % 256
def padB (bs : List Int) : List Int := ((bs ++ [128]) ++ List.replicate (bz bs.length) 0) ++ lenB (8 * (bs.length : Int)) 8
theorem lenB_succ (b : Int) (t : Nat) : lenB b (t + 1) = lenB b t ++ [b / 2 ^ (56 - 8 * t) % 256] := by simp [lenB, List.range_succ]
theorem lenB_length (b : Int) (t : Nat) : (lenB b t).length = t := by simp [lenB]
theorem wordsD_len (b : Int) (h0 : 0 ≤ b) (h1 : b < 18446744073709551616) : wordsD (lenB b 8) 2 = [b / 4294967296, b % 4294967296] := by
  have e : wordsD (lenB b 8) 2 = [w4 (b / 2 ^ 56 % 256) (b / 2 ^ 48 % 256) (b / 2 ^ 40 % 256) (b / 2 ^ 32 % 256), w4 (b / 2 ^ 24 % 256) (b / 2 ^ 16 % 256) (b / 2 ^ 8 % 256) (b / 2 ^ 0 % 256)] := by
    apply list_ext_getD
    · rfl
    · intro i hi
      rw [wordsD_length] at hi
      rw [wordsD_getD _ _ _ hi]
      match i, hi with
      | 0, _ => rfl
      | 1, _ => rfl
  rw [e]
  simp only [w4]
  congr 1
  · omega
  · congr 1; omega
theorem padB_form (bs : List Int) : padB bs = ((bs.take (4 * (bs.length / 4)) ++ endB bs (bs.length / 4)) ++ List.replicate (4 * S.pz (bs.length / 4 + 1)) 0) ++ lenB (8 * (bs.length : Int)) 8 := by
  obtain ⟨m, hm⟩ : ∃ m, m = bs.length := ⟨_, rfl⟩
  obtain ⟨n, hn⟩ : ∃ n, n = m / 4 := ⟨_, rfl⟩
  obtain ⟨r, hr⟩ : ∃ r, r = m % 4 := ⟨_, rfl⟩
  have hbz : bz m = (3 - r) + 4 * S.pz (n + 1) := by unfold bz S.pz; omega
  unfold padB
  rw [← hm, ← hn]
  congr 1
  rw [hbz, ← List.replicate_append_replicate, ← List.append_assoc]
  congr 1
  have hd : (bs.drop (4 * n)).length = r := by rw [List.length_drop]; omega
  unfold endB
  have e4 : (bs.drop (4 * n)).take 4 = bs.drop (4 * n) := List.take_of_length_le (by omega)
  rw [List.take_append, hd, e4, ← List.append_assoc, List.take_append_drop, List.append_assoc]
  congr 1
  match r, show r < 4 by omega with
  | 0, _ => rfl
  | 1, _ => rfl
  | 2, _ => rfl
  | 3, _ => rfl
theorem padB_words (bs : List Int) (hm : bs.length ≤ 140737488355328) : ∃ q, (padB bs).length = 64 * q ∧ wordsD (padB bs) (16 * q) = S.pad (wordsD (bs.take (4 * (bs.length / 4))) (bs.length / 4) ++ endW bs (bs.length / 4)) (8 * (bs.length : Int)) ∧ q = (S.pad (wordsD (bs.take (4 * (bs.length / 4))) (bs.length / 4) ++ endW bs (bs.length / 4)) (8 * (bs.length : Int))).length / 16 := by
  obtain ⟨n, hn⟩ : ∃ n, n = bs.length / 4 := ⟨_, rfl⟩
  rw [padB_form, ← hn]
  have hl1 : (bs.take (4 * n)).length = 4 * n := by rw [List.length_take]; omega
  have hl : (((bs.take (4 * n) ++ endB bs n) ++ List.replicate (4 * S.pz (n + 1)) 0) ++ lenB (8 * (bs.length : Int)) 8).length = 4 * (n + 1 + S.pz (n + 1) + 2) := by
    simp only [List.length_append, hl1, endB_length, List.length_replicate, lenB_length]; omega
  have hq : (n + 1 + S.pz (n + 1) + 2) % 16 = 0 := by unfold S.pz; omega
  have hE : (endW bs n).length = 1 := wordsD_length _ _
  have hW : (wordsD (bs.take (4 * n)) n ++ endW bs n).length = n + 1 := by rw [List.length_append, wordsD_length, hE]
  refine ⟨(n + 1 + S.pz (n + 1) + 2) / 16, by rw [hl]; omega, ?_, by rw [pad_length, hW]⟩
  rw [show 16 * ((n + 1 + S.pz (n + 1) + 2) / 16) = n + 1 + S.pz (n + 1) + 2 by omega]
  rw [wordsD_append _ _ _ 2 (by simp only [List.length_append, hl1, endB_length, List.length_replicate]; omega), wordsD_append _ _ _ (S.pz (n + 1)) (by simp only [List.length_append, hl1, endB_length]; omega), wordsD_append _ _ _ 1 hl1, wordsD_zeros, wordsD_len _ (by omega) (by omega)]
  unfold S.pad
  rw [hW]
  rfl
theorem sumB_chain (bs : List Int) (hm : bs.length ≤ 140737488355328) : ∃ q, (padB bs).length = 64 * q ∧ sumB bs = S.run S.First (wordsD (padB bs) (16 * q)) q := by
  obtain ⟨q, h1, h2, h3⟩ := padB_words bs hm
  refine ⟨q, h1, ?_⟩
  unfold sumB
  rw [fin_all _ _ _ _ _ (by rw [wordsD_length]), h2]
  unfold S.fin
  rw [← h3]
theorem padB_bts {bs : List Int} (h : Bts bs) : Bts (padB bs) := by
  refine bts_append (bts_append (bts_append h fun i => ?_) fun i => ?_) fun i => ?_
  · match i with
    | 0 => decide
    | i + 1 => simp
  · simp only [List.getD_eq_getElem?_getD, List.getElem?_replicate]
    split <;> simp
  · by_cases hi : i < 8
    · simp only [lenB, List.getD_eq_getElem?_getD, List.getElem?_map, List.getElem?_range hi, Option.map_some, Option.getD_some]
      omega
    · simp [List.getD_eq_getElem?_getD, List.getElem?_eq_none (show (lenB (8 * (bs.length : Int)) 8).length ≤ i by rw [lenB_length]; omega)]
end Go.Proofs.YtialckmoigcdeaaDoor
