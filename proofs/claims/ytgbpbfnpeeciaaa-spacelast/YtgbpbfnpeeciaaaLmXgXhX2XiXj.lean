/- Moves that came in, opened. A book of what was put where: sorted, and as the tables have it. The book's moves; the list is what of the book can be read. head 7, SpaceWords 3. find 15; lists of Laid. moved 11: what its leaves stand on. -/
import Derived.Test.YtgbpbfnpeeciaaaLw
import Derived.Test.YtgbpbfnpeeciaaaXf
import Derived.Test.YtgbpbfnpeeciaaaX1
namespace Go.Proofs.Ytgbpbfnpeeciaaa
open Go.ChangeShapes Go.WideShapes Go.ChangeAt Go.RowKit
theorem under33 : Try.prog.underlying 33 = some (.slice 42) := by kernel_rfl
theorem cel42 : Try.prog.cellsOf 42 = 6 := by kernel_rfl
theorem cel40 : Try.prog.cellsOf 40 = 4 := by kernel_rfl
theorem pickA {α : Type} [Inhabited α] {Q : Nat → α → Prop} (n : Nat) (h : ∀ k, k < n → ∃ x, Q k x) : ∃ f : Nat → α, ∀ k, k < n → Q k (f k) :=
  ⟨fun k => if hk : k < n then (h k hk).choose else default, fun k hk => by simp only [hk, dif_pos]; exact (h k hk).choose_spec⟩
set_option maxRecDepth 100000 in
theorem open_map {H : Type} {enc : TypeId × Value → H} {W : World} {b0 fuel : Nat} {sp : Nat → Bool} {held : Bool} {cs : List Value} {y : DataW H × List MemPlace}
    (h : DataW.trod enc Try.prog W b0 sp held fuel 40 cs = some y) : ∃ m : Mp, cs = [.bool m.s, .int .i64 m.p, .bool m.wr, .bool m.ex] := by
  obtain ⟨xs, m, rfl, hy, hlen, hn, hel⟩ := DataW.trod_struct under40 h
  rw [cel40] at hlen
  have hsz : xs.length = 4 := hn
  match xs, hsz with
  | [x0, x1, x2, x3], _ =>
    have e0 : DataW.trod enc Try.prog W b0 sp held m 4 ((cs.drop 0).take (Try.prog.cellsOf 4)) = some x0 := hel 0 _ rfl
    have e1 : DataW.trod enc Try.prog W b0 sp held m 3 ((cs.drop 1).take (Try.prog.cellsOf 3)) = some x1 := hel 1 _ rfl
    have e2 : DataW.trod enc Try.prog W b0 sp held m 4 ((cs.drop 2).take (Try.prog.cellsOf 4)) = some x2 := hel 2 _ rfl
    have e3 : DataW.trod enc Try.prog W b0 sp held m 4 ((cs.drop 3).take (Try.prog.cellsOf 4)) = some x3 := hel 3 _ rfl
    rw [celI] at e1
    rw [celB] at e0 e2 e3
    obtain ⟨q0, g0, _⟩ := DataW.trod_bool under4 (show _ = some x0 from e0)
    obtain ⟨q1, g1, _, _⟩ := DataW.trod_int under3 (show _ = some x1 from e1)
    obtain ⟨q2, g2, _⟩ := DataW.trod_bool under4 (show _ = some x2 from e2)
    obtain ⟨q3, g3, _⟩ := DataW.trod_bool under4 (show _ = some x3 from e3)
    refine ⟨⟨q0, q1, q2, q3⟩, ?_⟩
    match cs, hlen with
    | [c0, c1, c2, c3], _ =>
      simp at g0 g1 g2 g3
      rw [g0, g1, g2, g3]
set_option maxRecDepth 100000 in
theorem open_mv {H : Type} {enc : TypeId × Value → H} {W : World} {b0 fuel : Nat} {sp : Nat → Bool} {held : Bool} {cs : List Value} {y : DataW H × List MemPlace}
    (h : DataW.trod enc Try.prog W b0 sp held fuel 42 cs = some y) : ∃ x : Mv, cs = x.cs ∧ 0 ≤ x.va ∧ x.va < 4294967296 := by
  obtain ⟨xs, m, rfl, hy, hlen, hn, hel⟩ := DataW.trod_struct under42 h
  rw [cel42] at hlen
  have hsz : xs.length = 3 := hn
  match xs, hsz with
  | [x0, x1, x2], _ =>
    have e0 : DataW.trod enc Try.prog W b0 sp held m 4 ((cs.drop 0).take (Try.prog.cellsOf 4)) = some x0 := hel 0 _ rfl
    have e1 : DataW.trod enc Try.prog W b0 sp held m 22 ((cs.drop 1).take (Try.prog.cellsOf 22)) = some x1 := hel 1 _ rfl
    have e2 : DataW.trod enc Try.prog W b0 sp held m 40 ((cs.drop 2).take (Try.prog.cellsOf 40)) = some x2 := hel 2 _ rfl
    rw [celB] at e0
    rw [celW] at e1
    rw [cel40] at e2
    obtain ⟨q0, g0, _⟩ := DataW.trod_bool under4 (show _ = some x0 from e0)
    obtain ⟨q1, g1, _, k1⟩ := DataW.trod_int under32 (show _ = some x1 from e1)
    obtain ⟨q2, g2⟩ := open_map (show _ = some x2 from e2)
    refine ⟨⟨q0, q1, q2⟩, ?_, lit_u32 k1⟩
    match cs, hlen with
    | [c0, c1, c2, c3, c4, c5], _ =>
      simp at g0 g1 g2
      obtain ⟨a, b, c, e⟩ := g2
      rw [g0, g1, a, b, c, e]
      rfl
instance : Inhabited Mv := ⟨⟨false, 0, Mp.z⟩⟩
set_option maxRecDepth 100000 in
theorem open_mvs {H : Type} {enc : TypeId × Value → H} {W : World} {base : Nat} {held : Bool} {v : Value} {d : DataW H} {p : List MemPlace}
    (hv : Value.okWide Try.prog W .any base 33 v) (h : DataW.Trod enc Try.prog W 0 (fun _ => true) held 33 v d p) :
    ∃ (ao : Option Addr) (n cp : Nat) (q : Nat → Mv), v = .slice ao n cp ∧ MvAt W ao n q ∧ (n = 0 ∨ ∃ elems spare, d = .slice elems spare ∧ elems.length = n) := by
  obtain ⟨ao, n, cp, rfl⟩ := okWide_slice under33 hv
  obtain ⟨fuel, hf⟩ := h
  obtain ⟨ao', n', cp', b, off, hcs, _, hao, hk, hd⟩ := open_slice under33 cel42 (by decide) hf
  simp only [Value.cells, List.cons.injEq, Value.slice.injEq, and_true] at hcs
  obtain ⟨rfl, rfl, rfl⟩ := hcs
  obtain ⟨F, hF⟩ := pickA (α := Mv) (Q := fun k x => W.rangeAt b (off + k * 6) x.cs ∧ 0 ≤ x.va ∧ x.va < 4294967296) n fun k hkn => by
    obtain ⟨cs, m, y, h1, h2⟩ := hk k hkn
    obtain ⟨x, rfl, hx⟩ := open_mv h2
    exact ⟨x, h1, hx⟩
  exact ⟨ao, n, cp, F, rfl, ⟨fun hn => ⟨b, off, (hao hn).1, (hao hn).2, fun j hj => (hF j hj).1⟩, fun j hj => (hF j hj).2⟩, hd⟩
end Go.Proofs.Ytgbpbfnpeeciaaa
namespace Go.Proofs.Ytgbpbfnpeeciaaa
open Go.RowKit
theorem fldM_code (m : Mp) (h : Pg m.p) : fldM m.code = m := by
  obtain ⟨s, p, wr, ex⟩ := m
  obtain ⟨h0, h1⟩ := h
  simp only at h0 h1
  unfold fldM Mp.code
  cases s <;> cases wr <;> cases ex <;> simp [b2] <;> omega
theorem ps_enc (m : Mp) (h : m.err = 0) : ps m.enc = m ∧ psE m.enc = 0 ∧ m.enc ≠ 0 := by
  have hp : Pg m.p := by
    unfold Mp.err at h
    by_cases hp : Pg m.p
    · exact hp
    · rw [if_neg hp] at h; exact absurd h (by decide)
  have he : m.enc = m.code := by unfold Mp.enc; rw [if_pos h]
  have hc : m.code ≠ 0 := by
    obtain ⟨h0, _⟩ := hp
    unfold Mp.code
    have h1 : 0 ≤ b2 m.s 2 := by unfold b2; split <;> omega
    have h2 : 0 ≤ b2 m.wr 4 := by unfold b2; split <;> omega
    have h3 : 0 ≤ b2 m.ex 8 := by unfold b2; split <;> omega
    omega
  have hk : PsOk m.code := by unfold PsOk; rw [fldM_code m hp]; exact ⟨h, rfl⟩
  rw [he]
  refine ⟨?_, ?_, hc⟩
  · unfold ps; rw [if_pos hk, fldM_code m hp]
  · unfold psE; rw [if_neg hc, if_pos hk]
theorem MF.rdb {m : MS} (h : MF m) (x : Mp) : (m.at x.s x.p).isSome = x.rdb := by
  unfold MS.at Mp.rdb
  rw [h.ns, h.len]
  by_cases h0 : 0 ≤ x.p
  · rw [if_pos h0]
    cases x.s with
    | true =>
      simp only [if_true]
      by_cases h8 : x.p < 8
      · rw [if_pos (by omega)]; simp [h0, h8]
      · rw [if_neg (by omega)]; simp [h8]
    | false =>
      simp only [Bool.false_eq_true, if_false]
      by_cases h4 : x.p < 4
      · rw [if_pos (by omega)]; simp [h0, h4]
      · rw [if_neg (by omega)]; simp [h4]
  · rw [if_neg h0]; simp [h0]
theorem MF.mEnc {m : MS} (h : MF m) (x : Mp) (hx : x.err = 0) : m.mE x.enc = (if x.rdb = true then 0 else 90) ∧ m.mM x.enc = (if x.rdb = true then x else Mp.z) := by
  obtain ⟨a, b, _⟩ := ps_enc x hx
  have e : m.mE x.enc = (if x.rdb = true then 0 else 90) := by
    unfold MS.mE
    rw [if_pos b, a, h.rdb]
  refine ⟨e, ?_⟩
  unfold MS.mM
  rw [e, a]
  cases x.rdb <;> simp
theorem MF.mZero (m : MS) : m.mE 0 = 92 := by
  unfold MS.mE
  rw [if_neg (by decide)]
  decide
/-- Addresses of pages under the two tables. -/
def Key (va : Int) : Prop := 0 ≤ va ∧ va % 4096 = 0 ∧ (va / 4194304 = 0 ∨ va / 4194304 = 5)
instance (va : Int) : Decidable (Key va) := by unfold Key; exact inferInstance
def pgv (va : Int) : Int := va - va % 4096
theorem pgv_key {va : Int} (v0 : 0 ≤ va) (hs : spE va = 0) (ht : HasT va) : Key (pgv va) ∧ tbl (pgv va) = tbl va ∧ spJ (pgv va) = spJ va := by
  have hv : VaOk va := by
    unfold spE at hs
    by_cases hv : VaOk va
    · exact hv
    · rw [if_neg hv] at hs; exact absurd hs (by decide)
  have hv2 : VaOk (pgv va) := by unfold VaOk pgv at *; omega
  unfold HasT spI at ht
  rw [if_pos hv] at ht
  unfold tbl spI spJ
  rw [if_pos hv, if_pos hv2, if_pos hv, if_pos hv2]
  unfold VaOk at hv
  refine ⟨⟨by unfold pgv; omega, by unfold pgv; omega, by unfold pgv; omega⟩, ?_, by unfold pgv; omega⟩
  rw [show pgv va / 4194304 = va / 4194304 by unfold pgv; omega]
theorem Key.sp {va : Int} (h : Key va) : spE va = 0 ∧ HasT va ∧ va < 1073741824 := by
  obtain ⟨a, b, c⟩ := h
  have hv : VaOk va := by unfold VaOk; omega
  unfold spE HasT spI
  rw [if_pos hv, if_pos hv]
  exact ⟨rfl, c, hv.1⟩
theorem key_pgv {va : Int} (v0 : 0 ≤ va) : Key (pgv va) ∧ spE va = 0 ↔ spE va = 0 ∧ HasT va := by
  constructor
  · rintro ⟨hk, hs⟩
    refine ⟨hs, ?_⟩
    have hv : VaOk va := by
      unfold spE at hs
      by_cases hv : VaOk va
      · exact hv
      · rw [if_neg hv] at hs; exact absurd hs (by decide)
    unfold HasT spI
    rw [if_pos hv]
    have := hk.2.2
    unfold pgv at this
    omega
  · rintro ⟨hs, ht⟩
    exact ⟨(pgv_key v0 hs ht).1, hs⟩
def lk (B : List (Int × Mp)) (va : Int) : Int := match B.find? (fun x => x.1 == va) with
  | some x => x.2.enc
  | none => 0
def Srt (B : List (Int × Mp)) : Prop := B.Pairwise (fun a b => a.1 < b.1)
theorem srt_uniq {B : List (Int × Mp)} (h : Srt B) {x y : Int × Mp} (hx : x ∈ B) (hy : y ∈ B) (he : x.1 = y.1) : x = y := by
  induction B with
  | nil => cases hx
  | cons z B ih =>
    obtain ⟨h1, h2⟩ := List.pairwise_cons.1 h
    rcases List.mem_cons.1 hx with rfl | hx' <;> rcases List.mem_cons.1 hy with rfl | hy'
    · rfl
    · have := h1 _ hy'; omega
    · have := h1 _ hx'; omega
    · exact ih h2 hx' hy'
theorem lk_mem {B : List (Int × Mp)} (h : Srt B) {x : Int × Mp} (hx : x ∈ B) : lk B x.1 = x.2.enc := by
  unfold lk
  cases hf : B.find? (fun y => y.1 == x.1) with
  | none =>
    have := List.find?_eq_none.1 hf x hx
    simp at this
  | some y =>
    have h1 := List.mem_of_find?_eq_some hf
    have h2 := List.find?_some hf
    have : y = x := srt_uniq h h1 hx (by simpa using h2)
    rw [this]
theorem lk_none {B : List (Int × Mp)} {va : Int} (h : ∀ x ∈ B, x.1 ≠ va) : lk B va = 0 := by
  unfold lk
  cases hf : B.find? (fun y => y.1 == va) with
  | none => rfl
  | some y =>
    have h2 := List.find?_some hf
    exact absurd (by simpa using h2) (h y (List.mem_of_find?_eq_some hf))
theorem srt_eq {A B : List (Int × Mp)} (hA : Srt A) (hB : Srt B) (h : ∀ x, x ∈ A ↔ x ∈ B) : A = B := by
  induction A generalizing B with
  | nil =>
    cases B with
    | nil => rfl
    | cons y B => exact absurd ((h y).2 (List.mem_cons_self)) (by simp)
  | cons x A ih =>
    cases B with
    | nil => exact absurd ((h x).1 (List.mem_cons_self)) (by simp)
    | cons y B =>
      obtain ⟨a1, a2⟩ := List.pairwise_cons.1 hA
      obtain ⟨b1, b2⟩ := List.pairwise_cons.1 hB
      have hxy : x = y := by
        rcases List.mem_cons.1 ((h x).1 (List.mem_cons_self)) with e | hx
        · exact e
        · rcases List.mem_cons.1 ((h y).2 (List.mem_cons_self)) with e | hy
          · exact e.symm
          · have := a1 _ hy; have := b1 _ hx; omega
      subst hxy
      congr 1
      refine ih a2 b2 fun z => ⟨fun hz => ?_, fun hz => ?_⟩
      · rcases List.mem_cons.1 ((h z).1 (List.mem_cons_of_mem _ hz)) with rfl | hz'
        · have := a1 _ hz; omega
        · exact hz'
      · rcases List.mem_cons.1 ((h z).2 (List.mem_cons_of_mem _ hz)) with rfl | hz'
        · have := b1 _ hz; omega
        · exact hz'
structure Bk (B : List (Int × Mp)) (G : Int → Int → Int) : Prop where
  srt : Srt B
  key : ∀ x ∈ B, Key x.1 ∧ x.2.err = 0
  G : ∀ va, Key va → G (tbl va) (spJ va) = lk B va
theorem key_inj {a b : Int} (ha : Key a) (hb : Key b) (h : tbl a = tbl b ∧ spJ a = spJ b) : a = b := by
  obtain ⟨h1, h2⟩ := h
  have va : VaOk a := by obtain ⟨_, _, _⟩ := ha; unfold VaOk; omega
  have vb : VaOk b := by obtain ⟨_, _, _⟩ := hb; unfold VaOk; omega
  unfold tbl spI at h1
  unfold spJ at h2
  rw [if_pos va, if_pos vb] at h1 h2
  obtain ⟨a0, a1, a2⟩ := ha
  obtain ⟨b0, b1, b2⟩ := hb
  rcases a2 with a2 | a2 <;> rcases b2 with b2 | b2 <;> rw [a2, b2] at h1 <;> simp at h1 <;> omega
/-- Where an address stands, or would stand. -/
def pos (B : List (Int × Mp)) (va : Int) : Nat := (B.takeWhile (fun x => decide (x.1 < va))).length
def isIn (B : List (Int × Mp)) (va : Int) : Bool := (B[pos B va]?).any (fun x => x.1 == va)
theorem split_pos (B : List (Int × Mp)) (va : Int) : (∀ x ∈ B.take (pos B va), x.1 < va) ∧ (∀ x, B[pos B va]? = some x → va ≤ x.1) := by
  induction B with
  | nil => exact ⟨by simp, by simp⟩
  | cons y B ih =>
    unfold pos
    by_cases hy : y.1 < va
    · rw [List.takeWhile_cons_of_pos (by simpa using hy)]
      refine ⟨fun x hx => ?_, fun x hx => ?_⟩
      · simp only [List.length_cons, List.take_succ_cons, List.mem_cons] at hx
        rcases hx with rfl | hx
        · exact hy
        · exact ih.1 x hx
      · exact ih.2 x (by simpa [pos] using hx)
    · rw [List.takeWhile_cons_of_neg (by simpa using hy)]
      refine ⟨by simp, fun x hx => ?_⟩
      simp at hx
      subst hx
      omega
theorem pos_le (B : List (Int × Mp)) (va : Int) : pos B va ≤ B.length := (List.takeWhile_prefix _).length_le
theorem drop_ge {B : List (Int × Mp)} (h : Srt B) (va : Int) : ∀ x ∈ B.drop (pos B va), va ≤ x.1 := by
  intro x hx
  cases hd : B.drop (pos B va) with
  | nil => rw [hd] at hx; cases hx
  | cons y L =>
    have h0 : B[pos B va]? = some y := by
      have := congrArg List.head? hd
      rwa [List.head?_drop] at this
    have hy := (split_pos B va).2 y h0
    rw [hd] at hx
    rcases List.mem_cons.1 hx with rfl | hx
    · exact hy
    · have hs : Srt (y :: L) := by rw [← hd]; exact h.sublist (List.drop_sublist _ _)
      have := (List.pairwise_cons.1 hs).1 x hx
      omega
theorem isIn_iff {B : List (Int × Mp)} (h : Srt B) (va : Int) : isIn B va = true ↔ ∃ x ∈ B, x.1 = va := by
  unfold isIn
  constructor
  · intro hi
    cases hp : B[pos B va]? with
    | none => rw [hp] at hi; simp at hi
    | some x => rw [hp] at hi; exact ⟨x, List.mem_of_getElem? hp, by simpa using hi⟩
  · rintro ⟨x, hx, he⟩
    rw [← List.take_append_drop (pos B va) B] at hx
    rcases List.mem_append.1 hx with hx | hx
    · have := (split_pos B va).1 x hx; omega
    · cases hd : B.drop (pos B va) with
      | nil => rw [hd] at hx; cases hx
      | cons y L =>
        have h0 : B[pos B va]? = some y := by
          have := congrArg List.head? hd
          rwa [List.head?_drop] at this
        rw [h0]
        have hy := (split_pos B va).2 y h0
        rw [hd] at hx
        rcases List.mem_cons.1 hx with rfl | hx'
        · simp [he]
        · have hs : Srt (y :: L) := by rw [← hd]; exact h.sublist (List.drop_sublist _ _)
          have := (List.pairwise_cons.1 hs).1 x hx'
          omega
end Go.Proofs.Ytgbpbfnpeeciaaa
namespace Go.Proofs.Ytgbpbfnpeeciaaa
open Go.RowKit
theorem at_pos {B : List (Int × Mp)} {va : Int} (hi : isIn B va = true) : ∃ x, B[pos B va]? = some x ∧ x.1 = va ∧ pos B va < B.length ∧ B.drop (pos B va) = x :: B.drop (pos B va + 1) := by
  unfold isIn at hi
  cases hp : B[pos B va]? with
  | none => rw [hp] at hi; simp at hi
  | some x =>
    rw [hp] at hi
    obtain ⟨hl, he⟩ := List.getElem?_eq_some_iff.1 hp
    refine ⟨x, rfl, by simpa using hi, hl, ?_⟩
    rw [List.drop_eq_getElem_cons hl, he]
def cutB (B : List (Int × Mp)) (va : Int) : List (Int × Mp) := B.take (pos B va) ++ B.drop (pos B va + 1)
def putB (B : List (Int × Mp)) (va : Int) (m : Mp) : List (Int × Mp) := B.take (pos B va) ++ (va, m) :: B.drop (pos B va)
theorem lk_same {B B' : List (Int × Mp)} (h : Srt B) (h' : Srt B') {va : Int} (hm : ∀ x, x.1 = va → (x ∈ B' ↔ x ∈ B)) : lk B' va = lk B va := by
  by_cases he : ∃ x ∈ B, x.1 = va
  · obtain ⟨x, hx, rfl⟩ := he
    rw [lk_mem h hx, lk_mem h' ((hm x rfl).2 hx)]
  · rw [lk_none (fun x hx e => he ⟨x, hx, e⟩), lk_none (fun x hx e => he ⟨x, (hm x e).1 hx, e⟩)]
theorem cutB_mem {B : List (Int × Mp)} (h : Srt B) {va : Int} (hi : isIn B va = true) (y : Int × Mp) : y ∈ cutB B va ↔ y ∈ B ∧ y.1 ≠ va := by
  obtain ⟨x, hx, hxv, hl, hd⟩ := at_pos hi
  have hB : B.take (pos B va) ++ x :: B.drop (pos B va + 1) = B := by rw [← hd]; exact List.take_append_drop _ _
  have hs : Srt (x :: B.drop (pos B va + 1)) := by rw [← hd]; exact h.sublist (List.drop_sublist _ _)
  unfold cutB
  constructor
  · intro hy
    rcases List.mem_append.1 hy with hy | hy
    · exact ⟨List.mem_of_mem_take hy, by have := (split_pos B va).1 y hy; omega⟩
    · exact ⟨List.mem_of_mem_drop hy, by have := (List.pairwise_cons.1 hs).1 y hy; omega⟩
  · rintro ⟨hy, hne⟩
    rw [← hB] at hy
    rcases List.mem_append.1 hy with hy | hy
    · exact List.mem_append.2 (.inl hy)
    · rcases List.mem_cons.1 hy with rfl | hy
      · exact absurd hxv hne
      · exact List.mem_append.2 (.inr hy)
theorem cutB_srt {B : List (Int × Mp)} (h : Srt B) (va : Int) : Srt (cutB B va) := by
  refine h.sublist ?_
  unfold cutB
  conv => rhs; rw [← List.take_append_drop (pos B va) B]
  refine List.Sublist.append (List.Sublist.refl _) ?_
  rw [← List.drop_drop]
  exact List.drop_sublist _ _
theorem Bk.cut {B : List (Int × Mp)} {G : Int → Int → Int} (h : Bk B G) {va : Int} (hk : Key va) (hi : isIn B va = true) : Bk (cutB B va) (upd G (tbl va) (spJ va) 0) := by
  refine ⟨cutB_srt h.srt va, fun y hy => h.key y ((cutB_mem h.srt hi y).1 hy).1, fun v hv => ?_⟩
  unfold upd
  by_cases hc : tbl v = tbl va ∧ spJ v = spJ va
  · rw [if_pos hc, key_inj hv hk hc, lk_none (fun y hy => ((cutB_mem h.srt hi y).1 hy).2)]
  · rw [if_neg hc, h.G v hv]
    refine (lk_same h.srt (cutB_srt h.srt va) fun y hy => ?_).symm
    rw [cutB_mem h.srt hi]
    refine ⟨fun h => h.1, fun h' => ⟨h', fun e => hc ?_⟩⟩
    rw [← hy, e]
    exact ⟨rfl, rfl⟩
theorem putB_mem {B : List (Int × Mp)} {va : Int} {m : Mp} (y : Int × Mp) : y ∈ putB B va m ↔ y ∈ B ∨ y = (va, m) := by
  unfold putB
  rw [List.mem_append, List.mem_cons]
  constructor
  · rintro (h | h | h)
    · exact .inl (List.mem_of_mem_take h)
    · exact .inr h
    · exact .inl (List.mem_of_mem_drop h)
  · rintro (h | h)
    · rw [← List.take_append_drop (pos B va) B] at h
      rcases List.mem_append.1 h with h | h
      · exact .inl h
      · exact .inr (.inr h)
    · exact .inr (.inl h)
theorem putB_srt {B : List (Int × Mp)} (h : Srt B) {va : Int} (m : Mp) (hi : isIn B va = false) : Srt (putB B va m) := by
  have hne : ∀ x ∈ B, x.1 ≠ va := fun x hx e => by
    have := (isIn_iff h va).2 ⟨x, hx, e⟩
    rw [hi] at this
    cases this
  have hgt : ∀ x ∈ B.drop (pos B va), va < x.1 := fun x hx => by
    have := drop_ge h va x hx
    have := hne x (List.mem_of_mem_drop hx)
    omega
  have hlt := (split_pos B va).1
  refine List.pairwise_append.2 ⟨h.sublist (List.take_sublist _ _), List.pairwise_cons.2 ⟨fun x hx => hgt x hx, h.sublist (List.drop_sublist _ _)⟩, fun a ha b hb => ?_⟩
  rcases List.mem_cons.1 hb with rfl | hb
  · exact hlt a ha
  · have := hlt a ha; have := hgt b hb; omega
theorem Bk.put {B : List (Int × Mp)} {G : Int → Int → Int} (h : Bk B G) {va : Int} (hk : Key va) {m : Mp} (hm : m.err = 0) (hi : isIn B va = false) : Bk (putB B va m) (upd G (tbl va) (spJ va) m.enc) := by
  have hs := putB_srt h.srt m hi
  refine ⟨hs, fun y hy => ?_, fun v hv => ?_⟩
  · rcases (putB_mem y).1 hy with hy | rfl
    · exact h.key y hy
    · exact ⟨hk, hm⟩
  · unfold upd
    by_cases hc : tbl v = tbl va ∧ spJ v = spJ va
    · rw [if_pos hc, key_inj hv hk hc]
      exact (lk_mem hs ((putB_mem (va, m)).2 (.inr rfl))).symm
    · rw [if_neg hc, h.G v hv]
      refine (lk_same h.srt hs fun y hy => ?_).symm
      rw [putB_mem]
      refine ⟨fun h => h.resolve_right fun e => hc ?_, .inl⟩
      rw [← hy, e]
      exact ⟨rfl, rfl⟩
theorem Bk.nil : Bk [] (fun _ _ => 0) := ⟨List.Pairwise.nil, by simp, fun _ _ => rfl⟩
theorem srt_len {B : List (Int × Mp)} (h : Srt B) (hk : ∀ x ∈ B, Key x.1) : ∀ lo : Int, lo % 4096 = 0 → (∀ x ∈ B, lo ≤ x.1) → lo ≤ 25165824 → (B.length : Int) * 4096 ≤ 25165824 - lo := by
  induction B with
  | nil => intro lo _ _ h; simp; omega
  | cons x B ih =>
    intro lo h1 h2 h3
    obtain ⟨a, b⟩ := List.pairwise_cons.1 h
    have hx := h2 x (List.mem_cons_self)
    obtain ⟨k0, k1, k2⟩ := hk x (List.mem_cons_self)
    have := ih b (fun y hy => hk y (List.mem_cons_of_mem _ hy)) (x.1 + 4096) (by omega) (fun y hy => by
      have := a y hy
      obtain ⟨_, c1, _⟩ := hk y (List.mem_cons_of_mem _ hy)
      omega) (by omega)
    rw [List.length_cons]
    push_cast
    omega
theorem Bk.len {B : List (Int × Mp)} {G : Int → Int → Int} (h : Bk B G) : B.length ≤ 6144 := by
  have := srt_len h.srt (fun x hx => (h.key x hx).1) 0 (by decide) (fun x hx => (h.key x hx).1.1) (by decide)
  omega
/-- What lies at a page. -/
theorem Bk.read {B : List (Int × Mp)} {G : Int → Int → Int} {m : MS} (h : Bk B G) (hm : MF m) {va : Int} (hk : Key va) : (m.mE (G (tbl va) (spJ va)) = 0 ↔ ∃ x ∈ B, x.1 = va ∧ x.2.rdb = true) ∧ ∀ x ∈ B, x.1 = va → m.mE (G (tbl va) (spJ va)) = (if x.2.rdb = true then 0 else 90) ∧ m.mM (G (tbl va) (spJ va)) = (if x.2.rdb = true then x.2 else Mp.z) := by
  rw [h.G va hk]
  have key : ∀ x ∈ B, x.1 = va → m.mE (lk B va) = (if x.2.rdb = true then 0 else 90) ∧ m.mM (lk B va) = (if x.2.rdb = true then x.2 else Mp.z) := fun x hx e => by
    rw [← e, lk_mem h.srt hx]
    exact hm.mEnc x.2 (h.key x hx).2
  refine ⟨⟨fun he => ?_, ?_⟩, key⟩
  · by_cases hx : ∃ x ∈ B, x.1 = va
    · obtain ⟨x, hx, e⟩ := hx
      refine ⟨x, hx, e, ?_⟩
      have := (key x hx e).1
      rw [he] at this
      by_cases hr : x.2.rdb = true
      · exact hr
      · rw [if_neg hr] at this; exact absurd this (by decide)
    · rw [lk_none (fun x hx' e => hx ⟨x, hx', e⟩), MF.mZero] at he
      exact absurd he (by decide)
  · rintro ⟨x, hx, e, hr⟩
    rw [(key x hx e).1, if_pos hr]
theorem jW_key (i : Int) (hi : i = 0 ∨ i = 5) (j : Nat) (hj : j < 1024) : jW i (j : Int) 0 = i * 4194304 + (j : Int) * 4096 ∧ Key (jW i (j : Int) 0) ∧ tbl (jW i (j : Int) 0) = (if i = 0 then 2 else 3) ∧ spJ (jW i (j : Int) 0) = (j : Int) := by
  have hJ : JoinOk i (j : Int) 0 := by unfold JoinOk; omega
  have e : jW i (j : Int) 0 = i * 4194304 + (j : Int) * 4096 := by unfold jW; rw [if_pos hJ]; omega
  rw [e]
  have hv : VaOk (i * 4194304 + (j : Int) * 4096) := by unfold VaOk; omega
  refine ⟨rfl, ⟨by omega, by omega, by omega⟩, ?_, ?_⟩
  · unfold tbl spI
    rw [if_pos hv]
    rcases hi with rfl | rfl
    · rw [if_pos (by omega)]; rfl
    · rw [if_neg (by omega)]; rfl
  · unfold spJ
    rw [if_pos hv]
    omega
variable {d : DS} {G : Int → Int → Int} {B : List (Int × Mp)}
theorem und_mem (hI : Inv d G) (hB : Bk B G) (i : Int) (hi : i = 0 ∨ i = 5) (y : Int × Mp) : ∀ j, j ≤ 1024 → (y ∈ d.m.und i (if i = 0 then 2 else 3) j ↔ y ∈ B ∧ y.2.rdb = true ∧ i * 4194304 ≤ y.1 ∧ y.1 < i * 4194304 + (j : Int) * 4096)
  | 0, _ => by simp [MS.und]; try (intro _ _ h; omega)
  | j + 1, hj => by
    obtain ⟨e, hk, ht, hs⟩ := jW_key i hi j (by omega)
    have hw : d.m.word true (if i = 0 then 2 else 3) (j : Int) = G (tbl (jW i (j : Int) 0)) (spJ (jW i (j : Int) 0)) := by
      rw [ht, hs]
      exact hI.t _ _ (by split <;> simp) (by omega) (by omega)
    obtain ⟨r1, r2⟩ := hB.read hI.mf hk
    rw [MS.und, List.mem_append, und_mem hI hB i hi y j (by omega), hw]
    constructor
    · rintro (⟨a, b, c, f⟩ | hy)
      · exact ⟨a, b, c, by push_cast; omega⟩
      · split at hy
        · rename_i hz
          obtain ⟨x, hx, ex, hr⟩ := r1.1 hz
          rw [List.mem_singleton, (r2 x hx ex).2, if_pos hr] at hy
          have : y = x := by rw [hy, ← ex]
          subst this
          exact ⟨hx, hr, by rw [ex, e]; omega, by rw [ex, e]; push_cast; omega⟩
        · cases hy
    · rintro ⟨a, b, c, f⟩
      by_cases hlt : y.1 < i * 4194304 + (j : Int) * 4096
      · exact .inl ⟨a, b, c, hlt⟩
      · right
        have hy1 : y.1 = jW i (j : Int) 0 := by
          rw [e]
          obtain ⟨_, c1, _⟩ := (hB.key y a).1
          push_cast at f
          rcases hi with rfl | rfl <;> omega
        rw [if_pos (r1.2 ⟨y, a, hy1, b⟩), List.mem_singleton, (r2 y a hy1).2, if_pos b, ← hy1]
theorem und_srt (m : MS) (i tb : Int) (hi : i = 0 ∨ i = 5) : ∀ j, j ≤ 1024 → Srt (m.und i tb j) ∧ ∀ y ∈ m.und i tb j, i * 4194304 ≤ y.1 ∧ y.1 < i * 4194304 + (j : Int) * 4096
  | 0, _ => ⟨List.Pairwise.nil, by simp [MS.und]⟩
  | j + 1, hj => by
    obtain ⟨h1, h2⟩ := und_srt m i tb hi j (by omega)
    obtain ⟨e, _⟩ := jW_key i hi j (by omega)
    rw [MS.und]
    split
    · refine ⟨List.pairwise_append.2 ⟨h1, List.pairwise_singleton _ _, fun a ha b hb => ?_⟩, fun y hy => ?_⟩
      · rw [List.mem_singleton] at hb
        have := h2 a ha
        rw [hb]
        show a.1 < jW i (j : Int) 0
        omega
      · rcases List.mem_append.1 hy with hy | hy
        · have := h2 y hy; push_cast; omega
        · rw [List.mem_singleton] at hy
          have hy1 : y.1 = jW i (j : Int) 0 := by rw [hy]
          push_cast
          omega
    · rw [List.append_nil]
      exact ⟨h1, fun y hy => by have := h2 y hy; push_cast; omega⟩
theorem lsn_mem (hI : Inv d G) (hB : Bk B G) (y : Int × Mp) : ∀ k, k ≤ 256 → (y ∈ d.lsn 0 k ↔ y ∈ B ∧ y.2.rdb = true ∧ y.1 < (k : Int) * 4194304)
  | 0, _ => by
    simp only [DS.lsn, List.not_mem_nil, false_iff]
    rintro ⟨a, _, b⟩
    have := (hB.key y a).1.1
    simp at b
    omega
  | k + 1, hk => by
    obtain ⟨a', b'⟩ := hI.isI (k : Int) (by omega) (by omega)
    rw [DS.lsn, List.mem_append, lsn_mem hI hB y k (by omega), hI.fst, a']
    by_cases hc : (k : Int) = 0 ∨ (k : Int) = 5
    · rw [if_pos (decide_eq_true hc), b' hc, und_mem hI hB (k : Int) hc y 1024 (by decide)]
      constructor
      · rintro (⟨a, b, c⟩ | ⟨a, b, c, e⟩)
        · exact ⟨a, b, by push_cast; omega⟩
        · exact ⟨a, b, by push_cast; omega⟩
      · rintro ⟨a, b, c⟩
        by_cases hl : y.1 < (k : Int) * 4194304
        · exact .inl ⟨a, b, hl⟩
        · exact .inr ⟨a, b, by omega, by push_cast at c; omega⟩
    · rw [if_neg (by simpa using hc)]
      simp only [List.not_mem_nil, or_false]
      refine ⟨fun ⟨a, b, c⟩ => ⟨a, b, by push_cast; omega⟩, fun ⟨a, b, c⟩ => ⟨a, b, ?_⟩⟩
      obtain ⟨_, _, c2⟩ := (hB.key y a).1
      push_cast at c
      omega
theorem lsn_srt (hI : Inv d G) : ∀ k, k ≤ 256 → Srt (d.lsn 0 k) ∧ ∀ y ∈ d.lsn 0 k, y.1 < (k : Int) * 4194304
  | 0, _ => ⟨List.Pairwise.nil, by simp [DS.lsn]⟩
  | k + 1, hk => by
    obtain ⟨h1, h2⟩ := lsn_srt hI k (by omega)
    obtain ⟨a', _⟩ := hI.isI (k : Int) (by omega) (by omega)
    rw [DS.lsn, hI.fst, a']
    by_cases hc : (k : Int) = 0 ∨ (k : Int) = 5
    · rw [if_pos (decide_eq_true hc)]
      obtain ⟨u1, u2⟩ := und_srt d.m (k : Int) (pf (d.m.word true 1 (k : Int))) hc 1024 (by decide)
      refine ⟨List.pairwise_append.2 ⟨h1, u1, fun a ha b hb => ?_⟩, fun y hy => ?_⟩
      · have := h2 a ha; have := u2 b hb; omega
      · rcases List.mem_append.1 hy with hy | hy
        · have := h2 y hy; push_cast; omega
        · have := u2 y hy; push_cast; omega
    · rw [if_neg (by simpa using hc), List.append_nil]
      exact ⟨h1, fun y hy => by have := h2 y hy; push_cast; omega⟩
/-- The list is what of the book can be read, in its order. -/
theorem lsn_eq (hI : Inv d G) (hB : Bk B G) : d.lsn 0 256 = B.filter (fun x => x.2.rdb) := by
  refine srt_eq (lsn_srt hI 256 (by decide)).1 (hB.srt.sublist (List.filter_sublist)) fun y => ?_
  rw [lsn_mem hI hB y 256 (by decide), List.mem_filter]
  refine ⟨fun ⟨a, b, _⟩ => ⟨a, b⟩, fun ⟨a, b⟩ => ⟨a, b, ?_⟩⟩
  obtain ⟨_, _, c⟩ := (hB.key y a).1
  omega
theorem filter_at {α : Type} (p : α → Bool) (B : List α) (i : Nat) (x : α) (hx : B[i]? = some x) (hp : p x = true) : (B.filter p)[((B.take i).filter p).length]? = some x ∧ ((B.take (i + 1)).filter p).length = ((B.take i).filter p).length + 1 := by
  obtain ⟨hl, he⟩ := List.getElem?_eq_some_iff.1 hx
  have hB : B.take i ++ x :: B.drop (i + 1) = B := by rw [← he, ← List.drop_eq_getElem_cons hl]; exact List.take_append_drop _ _
  refine ⟨?_, ?_⟩
  · conv => lhs; arg 1; rw [← hB, List.filter_append, List.filter_cons_of_pos hp]
    rw [List.getElem?_append_right (Nat.le_refl _)]
    simp
  · rw [List.take_add_one, hx]
    simp [List.filter_append, hp]
theorem filter_no {α : Type} (p : α → Bool) (B : List α) (i : Nat) (x : α) (hx : B[i]? = some x) (hp : p x = false) : ((B.take (i + 1)).filter p).length = ((B.take i).filter p).length := by
  rw [List.take_add_one, hx]
  simp [List.filter_append, hp]
end Go.Proofs.Ytgbpbfnpeeciaaa
namespace Go.Proofs.Ytgbpbfnpeeciaaa
open Go.RowKit
set_option maxRecDepth 100000
set_option maxHeartbeats 4000000
theorem built_h26 : Try.prog.built 26 [(0, .int .u32 20480), (1, .bool true)] = some #[.int .u32 20480, .bool true, .bool false] := by kernel_rfl
theorem head_any (W : World) : Calls Try.prog 7 #[] W fun x W' => x = .returned (.bool true) ∧ Below W.heap.size W W' := by
  have HW := hid (fun W => word_any W ⟨20480, true, false⟩ (by decide) (by decide))
  have HP := hid (fun W => parse_any W 20482 (by decide) (by decide))
  rw [show (Gm.mk 20480 true false).w = 20483 by decide, show (Gm.mk 20480 true false).e = 0 by decide] at HW
  rw [gP_neg (w := 20482) (by decide), show gPE 20482 = 142 by decide] at HP
  simp only [Gm.v, Gm.z] at HW HP
  go_enter Try.func7, Try.ntmps7
  go_upto_region 2 with (first | (go_at_call 8; refine (HW.out _).mono ?_; rintro x w2 ⟨rfl, hb⟩; have HB1 := hid hb; clear hb))
  go_upto_region 3 with (first | (go_at_call 9; refine (HP.out _).mono ?_; rintro x w3 ⟨rfl, hb⟩; have HB2 := hid (below_on HB1.out hb); clear hb))
  have HB3 := hid (below_on HB2.out (below_one w3 (.cells #[.int .u32 0, .bool false, .bool false] 26)))
  go_wp2_with fail
  go_returns
  exact ⟨rfl, HB3.out⟩
theorem and_low12 (v : Int) (h0 : 0 ≤ v) (h1 : v < 4294967296) : bits .and .u32 v 4095 = v % 4096 := by
  rw [u32_and _ _ h0 h1 (by decide) (by decide)]
  obtain ⟨x, rfl⟩ := Int.eq_ofNat_of_zero_le h0
  have : ((x : Int).toNat &&& Int.toNat 4095) = x % 4096 := by
    rw [Int.toNat_natCast]
    exact Nat.and_two_pow_sub_one_eq_mod x 12
  rw [this]
  omega
theorem and_high (v : Int) (h0 : 0 ≤ v) (h1 : v < 4294967296) : bits .and .u32 v 4294963200 = v - v % 4096 := by
  rw [u32_and _ _ h0 h1 (by decide) (by decide)]
  obtain ⟨x, rfl⟩ := Int.eq_ofNat_of_zero_le h0
  rw [Int.toNat_natCast, show Int.toNat 4294963200 = 4294963200 from rfl]
  have a1 : (x &&& 4294963200) >>> 12 = (x >>> 12) &&& (4294963200 >>> 12) := Nat.shiftRight_and_distrib
  have a2 : (x &&& 4294963200) % 2 ^ 12 = (x % 2 ^ 12) &&& (4294963200 % 2 ^ 12) := Nat.and_mod_two_pow
  rw [show (4294963200 : Nat) >>> 12 = 2 ^ 20 - 1 from rfl, Nat.and_two_pow_sub_one_eq_mod, Nat.shiftRight_eq_div_pow, Nat.shiftRight_eq_div_pow] at a1
  rw [show (4294963200 : Nat) % 2 ^ 12 = 0 from rfl, Nat.and_zero] at a2
  omega
theorem and_mid (v : Int) (h0 : 0 ≤ v) (h1 : v < 4294967296) (h : 8 ≤ v % 4096) : bits .and .u32 v 4088 ≠ 0 := by
  rw [u32_and _ _ h0 h1 (by decide) (by decide)]
  obtain ⟨x, rfl⟩ := Int.eq_ofNat_of_zero_le h0
  rw [Int.toNat_natCast, show Int.toNat 4088 = 4088 from rfl]
  have a1 : (x &&& 4088) >>> 3 = (x >>> 3) &&& (4088 >>> 3) := Nat.shiftRight_and_distrib
  rw [show (4088 : Nat) >>> 3 = 2 ^ 9 - 1 from rfl, Nat.and_two_pow_sub_one_eq_mod, Nat.shiftRight_eq_div_pow, Nat.shiftRight_eq_div_pow] at a1
  omega
theorem Gm.back {m : Gm} (h : m.Ok) (h0 : 0 ≤ m.va) : Gw m.w ∧ gG m.w = m ∧ m.w - m.w % 4096 = m.va ∧ m.w % 2 = 1 ∧ 0 ≤ m.w ∧ m.w < 4294967296 ∧ decide (m.w / 2 % 2 = 1) = m.wr ∧ decide (m.w / 4 % 2 = 1) = m.ex := by
  rw [Gm.w, if_pos h]
  obtain ⟨a, b⟩ := h
  obtain ⟨va, wr, ex⟩ := m
  simp only at *
  unfold gG Gw
  cases wr <;> cases ex <;> simp only [b2, if_true, Bool.false_eq_true, if_false, Int.add_zero, Gm.mk.injEq, decide_eq_true_eq, decide_eq_false_iff_not] <;> omega
end Go.Proofs.Ytgbpbfnpeeciaaa
namespace Go.Proofs.Ytgbpbfnpeeciaaa
open Go.RowKit
set_option maxRecDepth 100000
set_option maxHeartbeats 8000000
theorem and_not12 (v : Int) (h0 : 0 ≤ v) (h1 : v < 4294967296) : bits .andNot .u32 v 4095 = pgv v := by
  have : bits .andNot .u32 v 4095 = bits .and .u32 v 4294963200 := by
    unfold bits
    simp only [show ~~~(BitVec.ofInt IntKind.u32.bits 4095) = BitVec.ofInt IntKind.u32.bits 4294963200 from by decide]
  rw [this, and_high v h0 h1]
  rfl
theorem and_low2 (v : Int) (h0 : 0 ≤ v) (h1 : v < 4294967296) : bits .and .u32 v 3 = v % 4 := by
  rw [u32_and _ _ h0 h1 (by decide) (by decide)]
  obtain ⟨x, rfl⟩ := Int.eq_ofNat_of_zero_le h0
  have : ((x : Int).toNat &&& Int.toNat 3) = x % 4 := by
    rw [Int.toNat_natCast]
    exact Nat.and_two_pow_sub_one_eq_mod x 2
  rw [this]
  omega
theorem under36 : Try.prog.underlying 36 = some (.slice 53) := by kernel_rfl
theorem info53 : (Try.prog.info? 53).map (fun i => (i.zero, i.size, i.bytes)) = some (some (.agg #[.int .u32 0, .bool false, .int .i64 0, .bool false, .bool false]), 5, 32) := by kernel_rfl
theorem under53 : Try.prog.underlying 53 = some (.struct (Try.prog.fieldsOf 53)) := by kernel_rfl
theorem size53 : (Try.prog.info? 53).map (·.size) = some 5 := by kernel_rfl
theorem own_rowE {W : World} {b : Nat} {e : TypeId} {g c n : Nat} {A : List (Int × Mp)} (h : W.ownsRow b e 5 (.slice (some ⟨g, 0, none⟩) n c) A.length (flat A)) (k : Nat) (x : Int × Mp) (hx : A[k]? = some x) : W.rangeAt g (k * 5) (atC x) := by
  have hk := (List.getElem?_eq_some_iff.1 hx).1
  rcases h.2 with ⟨hv, hn⟩ | ⟨g', cap, cur, hv, hb, hg, _, _, _, htk⟩
  · cases hv
  · injection hv with hv
    injection hv with hv
    injection hv with hv
    subst hv
    intro j v hj
    have hj5 : j < 5 := by have := (List.getElem?_eq_some_iff.1 hj).1; simpa [atC] using this
    have hfl := flat_get A k x hx j v hj
    rw [← htk, List.getElem?_take, if_pos (by omega)] at hfl
    rw [cell_of_row W g (k * 5 + j) _ e (0, 0) hg]
    simpa using hfl
theorem own_sm {W : World} {b : Nat} {e : TypeId} {v : Value} {A : List (Int × Mp)} (h : W.ownsRow b e 5 v A.length (flat A)) : (v = .slice none 0 0 ∧ A = []) ∨ ∃ g cap, v = .slice (some ⟨g, 0, none⟩) A.length cap ∧ A.length ≤ cap ∧ b ≤ g ∧ g < W.heap.size ∧ ∃ cur, W.heap[g]? = some (.cells cur e (0, 0)) := by
  rcases h.2 with ⟨hv, hn⟩ | ⟨g, cap, cur, hv, hb, hg, hc, _⟩
  · exact .inl ⟨hv, List.length_eq_zero_iff.1 hn⟩
  · exact .inr ⟨g, cap, hv, hc, hb, (Array.getElem?_eq_some_iff.1 hg).1, cur, hg⟩
theorem isIn_at {B : List (Int × Mp)} {va : Int} {x : Int × Mp} (h : B[pos B va]? = some x) : isIn B va = (x.1 == va) := by unfold isIn; rw [h]; rfl
theorem isIn_end {B : List (Int × Mp)} {va : Int} (h : B[pos B va]? = none) : isIn B va = false := by unfold isIn; rw [h]; rfl
theorem find_l (W : World) (ao : Option Addr) (cc base : Nat) (B : List (Int × Mp)) (hB : W.ownsRow base 53 5 (.slice ao B.length cc) B.length (flat B)) (hl : B.length ≤ 6144) (va : Int) :
    Calls Try.prog 15 #[.slice ao B.length cc, .int .u32 va] W fun x W' => x = .returned (.tuple #[.int .i64 (pos B va : Int), .bool (isIn B va)]) ∧ Below W.heap.size W W' := by
  have HB := hid hB
  have hl' : (B.length : Int) ≤ 6144 := by omega
  have HP := hid (split_pos B va)
  have hpl := pos_le B va
  have HI1 : Hid (∀ x, B[pos B va]? = some x → isIn B va = (x.1 == va)) := hid (fun x h => isIn_at h)
  have HI2 : Hid (B[pos B va]? = none → isIn B va = false) := hid (fun h => isIn_end h)
  clear hB hl
  generalize isIn B va = T at *
  generalize pos B va = K at *
  go_enter Try.func15, Try.ntmps15
  go_wp2_with fail
  go_loopw [6] (fun i wr => ∃ k : Nat, k ≤ K ∧ i = .int .i64 (k : Int) ∧ Hid (wr = W)) (fun i _ => K - (intOf i).toNat)
  case atStart => exact ⟨0, Nat.zero_le _, rfl, hid rfl⟩
  case round =>
    obtain ⟨k, hk, rfl, hw⟩ := hrel
    obtain rfl : wr = W := hw
    by_cases hlt : k < K
    · have hkl : k < B.length := by omega
      obtain ⟨x, hx⟩ : ∃ x, B[k]? = some x := ⟨_, List.getElem?_eq_getElem hkl⟩
      have hxv : x.1 < va := HP.out.1 x (by
        have : (B.take (K))[k]? = some x := by rw [List.getElem?_take, if_pos hlt, hx]
        exact List.mem_of_getElem? this)
      rcases own_sm HB.out with ⟨hv, hn⟩ | ⟨g, cap, hv, _⟩
      · rw [hn] at hkl; simp at hkl
      · injection hv with hv hv2 hv3
        subst hv hv3
        have hr := own_rowE HB.out k x hx 0 _ rfl
        have q1 : (k : Int) < (B.length : Int) := by omega
        have HK : Hid (k < K) := hid hlt
        simp only [Nat.add_zero] at hr
        clear hx hlt hkl hk
        go_wp2_with fail
        go_roundw
        case measure => have := HK.out; simp [intOf] <;> omega
        case rel => exact ⟨k + 1, HK.out, by simp, hid trivial⟩
    · have hke : K = k := by omega
      subst hke
      clear hlt hk
      by_cases hkl : K < B.length
      · obtain ⟨x, hx⟩ : ∃ x, B[K]? = some x := ⟨_, List.getElem?_eq_getElem hkl⟩
        have hxv : va ≤ x.1 := HP.out.2 x hx
        obtain rfl := HI1.out x hx
        rcases own_sm HB.out with ⟨hv, hn⟩ | ⟨g, cap, hv, _⟩
        · rw [hn] at hkl; simp at hkl
        · injection hv with hv hv2 hv3
          subst hv hv3
          have HR := hid (own_rowE HB.out (K) x hx)
          have hr := HR.out 0 _ rfl
          have q1 : ((K : Nat) : Int) < (B.length : Int) := by omega
          simp only [Nat.add_zero] at hr
          clear hx HB HP
          clear HI1 HI2
          have HS : Hid (wr.drew.cell? ⟨g, K * 5, none⟩ = some (.int .u32 x.1)) := hid hr
          go_upto_region 4 with fail
          clear hr
          refine wp_region_held_drew (S := fun w => w.cell? ⟨g, K * 5, none⟩ = some (.int .u32 x.1)) (by kernel_rfl) HS.out (fun hHeld => ?_)
          generalize hw1 : World.drew _ = w1 at *
          refine wpAnyH_take (i := 0) (oi := { dst := some 22, op := Op.move (Operand.tmp 6), type := 3, pos := "outright.go:76", after := #[], guard := none }) (v := .int .i64 (K : Int)) rfl (by kernel_rfl) (by kernel_rfl) (by kernel_rfl) (fun _ _ _ h => h) (Or.inl ⟨by rfl, by intro w hSw; go_simp⟩) (by assumption) ?_
          simp only [Act.put, List.setIfInBounds_toArray, List.set_cons_zero, List.set_cons_succ]
          refine wpAnyH_take (i := 1) (oi := { dst := some 23, op := Op.move (Operand.tmp 6), type := 3, pos := "outright.go:76", after := #[], guard := none }) (v := .int .i64 (K : Int)) rfl (by kernel_rfl) (by kernel_rfl) (by kernel_rfl) (fun _ _ _ h => h) (Or.inl ⟨by rfl, by intro w hSw; go_simp⟩) (by assumption) ?_
          simp only [Act.put, List.setIfInBounds_toArray, List.set_cons_zero, List.set_cons_succ]
          refine wpAnyH_take (i := 2) (oi := { dst := some 24, op := Op.move (Operand.tmp 0), type := 36, pos := "outright.go:76", after := #[], guard := none }) (v := .slice (some ⟨g, 0, none⟩) B.length cc) rfl (by kernel_rfl) (by kernel_rfl) (by kernel_rfl) (fun _ _ _ h => h) (Or.inl ⟨by rfl, by intro w hSw; go_simp⟩) (by assumption) ?_
          simp only [Act.put, List.setIfInBounds_toArray, List.set_cons_zero, List.set_cons_succ]
          refine wpAnyH_take (i := 3) (oi := { dst := some 25, op := Op.call { callee := Callee.builtin Builtin.len, args := #[Operand.tmp 24], argTypes := #[36] }, type := 3, pos := "outright.go:76", after := #[{ on := 2, ground := Ground.data }], guard := none }) (v := .int .i64 (B.length : Int)) rfl (by kernel_rfl) (by kernel_rfl) (by kernel_rfl) (fun _ _ _ h => h) (Or.inl ⟨by rfl, by intro w hSw; go_simp⟩) (by assumption) ?_
          simp only [Act.put, List.setIfInBounds_toArray, List.set_cons_zero, List.set_cons_succ]
          refine wpAnyH_take (i := 4) (oi := { dst := some 26, op := Op.binOp BinOp.lss 3 (Operand.tmp 23) (Operand.tmp 25) 3, type := 4, pos := "outright.go:76", after := #[{ on := 1, ground := Ground.data }, { on := 3, ground := Ground.data }], guard := none }) (v := .bool true) rfl (by kernel_rfl) (by kernel_rfl) (by kernel_rfl) (fun _ _ _ h => h) (Or.inl ⟨by rfl, by intro w hSw; go_simp⟩) (by assumption) ?_
          simp only [Act.put, List.setIfInBounds_toArray, List.set_cons_zero, List.set_cons_succ]
          refine wpAnyH_take (i := 5) (oi := { dst := some 27, op := Op.move (Operand.tmp 26), type := 4, pos := "outright.go:76", after := #[{ on := 4, ground := Ground.data }], guard := none }) (v := .bool true) rfl (by kernel_rfl) (by kernel_rfl) (by kernel_rfl) (fun _ _ _ h => h) (Or.inl ⟨by rfl, by intro w hSw; go_simp⟩) (by assumption) ?_
          simp only [Act.put, List.setIfInBounds_toArray, List.set_cons_zero, List.set_cons_succ]
          refine wpAnyH_take (i := 6) (oi := { dst := some 28, op := Op.move (Operand.tmp 0), type := 36, pos := "outright.go:76", after := #[{ on := 5, ground := Ground.guard }, { on := 14, ground := Ground.gcOnly Departure.lateStores }], guard := some (5, true) }) (v := .slice (some ⟨g, 0, none⟩) B.length cc) rfl (by kernel_rfl) (by kernel_rfl) (by kernel_rfl) (fun _ _ _ h => h) (Or.inl ⟨by rfl, by intro w hSw; go_simp⟩) (by assumption) ?_
          simp only [Act.put, List.setIfInBounds_toArray, List.set_cons_zero, List.set_cons_succ]
          refine wpAnyH_take (i := 7) (oi := { dst := some 29, op := Op.move (Operand.tmp 6), type := 3, pos := "outright.go:76", after := #[{ on := 5, ground := Ground.guard }, { on := 14, ground := Ground.gcOnly Departure.lateStores }], guard := some (5, true) }) (v := .int .i64 (K : Int)) rfl (by kernel_rfl) (by kernel_rfl) (by kernel_rfl) (fun _ _ _ h => h) (Or.inl ⟨by rfl, by intro w hSw; go_simp⟩) (by assumption) ?_
          simp only [Act.put, List.setIfInBounds_toArray, List.set_cons_zero, List.set_cons_succ]
          refine wpAnyH_take (i := 8) (oi := { dst := some 30, op := Op.indexAddr 36 (Operand.tmp 28) (Operand.tmp 29), type := 0, pos := "outright.go:76", after := #[{ on := 6, ground := Ground.data }, { on := 7, ground := Ground.data }, { on := 5, ground := Ground.guard }, { on := 14, ground := Ground.gcOnly Departure.lateStores }], guard := some (5, true) }) (v := .pointer (some ⟨g, K * 5, none⟩)) rfl (by kernel_rfl) (by kernel_rfl) (by kernel_rfl) (fun _ _ _ h => h) (Or.inl ⟨by rfl, by intro w hSw; go_simp⟩) (by assumption) ?_
          simp only [Act.put, List.setIfInBounds_toArray, List.set_cons_zero, List.set_cons_succ]
          refine wpAnyH_take (i := 9) (oi := { dst := some 31, op := Op.fieldAddr 53 (Operand.tmp 30) 0, type := 0, pos := "outright.go:76", after := #[{ on := 8, ground := Ground.data }, { on := 5, ground := Ground.guard }, { on := 14, ground := Ground.gcOnly Departure.lateStores }], guard := some (5, true) }) (v := .pointer (some ⟨g, K * 5, none⟩)) rfl (by kernel_rfl) (by kernel_rfl) (by kernel_rfl) (fun _ _ _ h => h) (Or.inl ⟨by rfl, by intro w hSw; go_simp⟩) (by assumption) ?_
          simp only [Act.put, List.setIfInBounds_toArray, List.set_cons_zero, List.set_cons_succ]
          refine wpAnyH_take (i := 10) (oi := { dst := some 32, op := Op.load 22 (Operand.tmp 31), type := 22, pos := "outright.go:76", after := #[{ on := 9, ground := Ground.data }, { on := 5, ground := Ground.guard }, { on := 14, ground := Ground.gcOnly Departure.lateStores }], guard := some (5, true) }) (v := .int .u32 x.1) rfl (by kernel_rfl) (by kernel_rfl) (by kernel_rfl) (fun _ _ _ h => h) (Or.inl ⟨by rfl, by intro w hSw; have hc := hSw; go_simp⟩) (by assumption) ?_
          simp only [Act.put, List.setIfInBounds_toArray, List.set_cons_zero, List.set_cons_succ]
          refine wpAnyH_take (i := 11) (oi := { dst := some 33, op := Op.move (Operand.tmp 1), type := 22, pos := "outright.go:76", after := #[{ on := 5, ground := Ground.guard }, { on := 14, ground := Ground.gcOnly Departure.lateStores }], guard := some (5, true) }) (v := .int .u32 va) rfl (by kernel_rfl) (by kernel_rfl) (by kernel_rfl) (fun _ _ _ h => h) (Or.inl ⟨by rfl, by intro w hSw; go_simp⟩) (by assumption) ?_
          simp only [Act.put, List.setIfInBounds_toArray, List.set_cons_zero, List.set_cons_succ]
          refine wpAnyH_take (i := 12) (oi := { dst := some 34, op := Op.binOp BinOp.eql 22 (Operand.tmp 32) (Operand.tmp 33) 22, type := 4, pos := "outright.go:76", after := #[{ on := 10, ground := Ground.data }, { on := 11, ground := Ground.data }, { on := 5, ground := Ground.guard }, { on := 14, ground := Ground.gcOnly Departure.lateStores }], guard := some (5, true) }) (v := .bool (x.1 == va)) rfl (by kernel_rfl) (by kernel_rfl) (by kernel_rfl) (fun _ _ _ h => h) (Or.inl ⟨by rfl, by intro w hSw; go_simp⟩) (by assumption) ?_
          simp only [Act.put, List.setIfInBounds_toArray, List.set_cons_zero, List.set_cons_succ]
          refine wpAnyH_take (i := 13) (oi := { dst := some 35, op := Op.pick (Operand.tmp 27) (Operand.tmp 34) (Operand.const (Value.bool false)), type := 4, pos := "outright.go:76", after := #[{ on := 5, ground := Ground.data }, { on := 12, ground := Ground.data }, { on := 14, ground := Ground.gcOnly Departure.lateStores }], guard := none }) (v := .bool (x.1 == va)) rfl (by kernel_rfl) (by kernel_rfl) (by kernel_rfl) (fun _ _ _ h => h) (Or.inl ⟨by rfl, by intro w hSw; go_simp⟩) (by assumption) ?_
          simp only [Act.put, List.setIfInBounds_toArray, List.set_cons_zero, List.set_cons_succ]
          refine wpAnyH_ready (rs := [14]) (by kernel_rfl) (by simp) (AllReadyH.cons (o := { dst := some 4, op := Op.assign (Operand.tmp 22), type := 3, pos := "outright.go:76", after := #[{ on := 0, ground := Ground.data }, { on := 5, ground := Ground.chain }, { on := 0, ground := Ground.phase }, { on := 1, ground := Ground.textOnly Departure.lateStores }, { on := 2, ground := Ground.textOnly Departure.lateStores }, { on := 3, ground := Ground.textOnly Departure.lateStoresUnsure }, { on := 4, ground := Ground.textOnly Departure.lateStores }, { on := 5, ground := Ground.textOnly Departure.lateStores }, { on := 6, ground := Ground.textOnly Departure.lateStores }, { on := 7, ground := Ground.textOnly Departure.lateStores }, { on := 8, ground := Ground.textOnly Departure.lateStores }, { on := 9, ground := Ground.textOnly Departure.lateStores }, { on := 10, ground := Ground.textOnly Departure.lateStores }, { on := 11, ground := Ground.textOnly Departure.lateStores }, { on := 12, ground := Ground.textOnly Departure.lateStores }, { on := 13, ground := Ground.textOnly Departure.lateStores }], guard := none }) rfl (fun KQ hK => ?_) AllReadyH.nil)
          go_simp
          refine hK.out _ _ HS.out (fun hHeld => ?_)
          clear hK KQ
          try simp only [Act.put, List.setIfInBounds_toArray, List.set_cons_zero, List.set_cons_succ]
          refine wpAnyH_ready (rs := [15]) (by kernel_rfl) (by simp) (AllReadyH.cons (o := { dst := some 5, op := Op.assign (Operand.tmp 35), type := 4, pos := "outright.go:76", after := #[{ on := 13, ground := Ground.data }, { on := 14, ground := Ground.chain }, { on := 0, ground := Ground.phase }, { on := 1, ground := Ground.phase }, { on := 2, ground := Ground.phase }, { on := 3, ground := Ground.phase }, { on := 4, ground := Ground.phase }, { on := 5, ground := Ground.phase }, { on := 6, ground := Ground.phase }, { on := 7, ground := Ground.phase }, { on := 8, ground := Ground.phase }, { on := 9, ground := Ground.phase }, { on := 10, ground := Ground.phase }, { on := 11, ground := Ground.phase }, { on := 12, ground := Ground.phase }, { on := 13, ground := Ground.phase }, { on := 14, ground := Ground.phase }], guard := none }) rfl (fun KQ hK => ?_) AllReadyH.nil)
          go_simp
          refine hK.out _ _ HS.out (fun hHeld => ?_)
          clear hK KQ
          try simp only [Act.put, List.setIfInBounds_toArray, List.set_cons_zero, List.set_cons_succ]
          refine wpAnyH_done (by kernel_rfl) ?_ _
          go_wp2_with fail
          go_returns
          exact ⟨rfl, by rw [← hw1]; exact (Below.refl _ _).drew⟩
      · have hke : B[K]? = none := List.getElem?_eq_none (by omega)
        obtain rfl := HI2.out hke
        have q1 : (B.length : Int) ≤ ((K : Nat) : Int) := by omega
        clear hkl hke HB HP
        go_upto_region 4 with fail
        refine wp_region_held_drew (S := fun _ => True) (by kernel_rfl) trivial (fun hHeld => ?_)
        generalize hw1 : World.drew _ = w1 at *
        refine wpAnyH_take (i := 0) (oi := { dst := some 22, op := Op.move (Operand.tmp 6), type := 3, pos := "outright.go:76", after := #[], guard := none }) (v := .int .i64 (K : Int)) rfl (by kernel_rfl) (by kernel_rfl) (by kernel_rfl) (fun _ _ _ h => h) (Or.inl ⟨by rfl, by intro w hSw; go_simp⟩) (by assumption) ?_
        simp only [Act.put, List.setIfInBounds_toArray, List.set_cons_zero, List.set_cons_succ]
        refine wpAnyH_take (i := 1) (oi := { dst := some 23, op := Op.move (Operand.tmp 6), type := 3, pos := "outright.go:76", after := #[], guard := none }) (v := .int .i64 (K : Int)) rfl (by kernel_rfl) (by kernel_rfl) (by kernel_rfl) (fun _ _ _ h => h) (Or.inl ⟨by rfl, by intro w hSw; go_simp⟩) (by assumption) ?_
        simp only [Act.put, List.setIfInBounds_toArray, List.set_cons_zero, List.set_cons_succ]
        refine wpAnyH_take (i := 2) (oi := { dst := some 24, op := Op.move (Operand.tmp 0), type := 36, pos := "outright.go:76", after := #[], guard := none }) (v := .slice ao B.length cc) rfl (by kernel_rfl) (by kernel_rfl) (by kernel_rfl) (fun _ _ _ h => h) (Or.inl ⟨by rfl, by intro w hSw; go_simp⟩) (by assumption) ?_
        simp only [Act.put, List.setIfInBounds_toArray, List.set_cons_zero, List.set_cons_succ]
        refine wpAnyH_take (i := 3) (oi := { dst := some 25, op := Op.call { callee := Callee.builtin Builtin.len, args := #[Operand.tmp 24], argTypes := #[36] }, type := 3, pos := "outright.go:76", after := #[{ on := 2, ground := Ground.data }], guard := none }) (v := .int .i64 (B.length : Int)) rfl (by kernel_rfl) (by kernel_rfl) (by kernel_rfl) (fun _ _ _ h => h) (Or.inl ⟨by rfl, by intro w hSw; go_simp⟩) (by assumption) ?_
        simp only [Act.put, List.setIfInBounds_toArray, List.set_cons_zero, List.set_cons_succ]
        refine wpAnyH_take (i := 4) (oi := { dst := some 26, op := Op.binOp BinOp.lss 3 (Operand.tmp 23) (Operand.tmp 25) 3, type := 4, pos := "outright.go:76", after := #[{ on := 1, ground := Ground.data }, { on := 3, ground := Ground.data }], guard := none }) (v := .bool false) rfl (by kernel_rfl) (by kernel_rfl) (by kernel_rfl) (fun _ _ _ h => h) (Or.inl ⟨by rfl, by intro w hSw; go_simp⟩) (by assumption) ?_
        simp only [Act.put, List.setIfInBounds_toArray, List.set_cons_zero, List.set_cons_succ]
        refine wpAnyH_take (i := 5) (oi := { dst := some 27, op := Op.move (Operand.tmp 26), type := 4, pos := "outright.go:76", after := #[{ on := 4, ground := Ground.data }], guard := none }) (v := .bool false) rfl (by kernel_rfl) (by kernel_rfl) (by kernel_rfl) (fun _ _ _ h => h) (Or.inl ⟨by rfl, by intro w hSw; go_simp⟩) (by assumption) ?_
        simp only [Act.put, List.setIfInBounds_toArray, List.set_cons_zero, List.set_cons_succ]
        refine wpAnyH_take (i := 6) (oi := { dst := some 28, op := Op.move (Operand.tmp 0), type := 36, pos := "outright.go:76", after := #[{ on := 5, ground := Ground.guard }, { on := 14, ground := Ground.gcOnly Departure.lateStores }], guard := some (5, true) }) (v := undef) rfl (by kernel_rfl) (by kernel_rfl) (by kernel_rfl) (fun _ _ _ h => h) (Or.inr ⟨by rfl, rfl⟩) (by assumption) ?_
        simp only [Act.put, List.setIfInBounds_toArray, List.set_cons_zero, List.set_cons_succ]
        refine wpAnyH_take (i := 7) (oi := { dst := some 29, op := Op.move (Operand.tmp 6), type := 3, pos := "outright.go:76", after := #[{ on := 5, ground := Ground.guard }, { on := 14, ground := Ground.gcOnly Departure.lateStores }], guard := some (5, true) }) (v := undef) rfl (by kernel_rfl) (by kernel_rfl) (by kernel_rfl) (fun _ _ _ h => h) (Or.inr ⟨by rfl, rfl⟩) (by assumption) ?_
        simp only [Act.put, List.setIfInBounds_toArray, List.set_cons_zero, List.set_cons_succ]
        refine wpAnyH_take (i := 8) (oi := { dst := some 30, op := Op.indexAddr 36 (Operand.tmp 28) (Operand.tmp 29), type := 0, pos := "outright.go:76", after := #[{ on := 6, ground := Ground.data }, { on := 7, ground := Ground.data }, { on := 5, ground := Ground.guard }, { on := 14, ground := Ground.gcOnly Departure.lateStores }], guard := some (5, true) }) (v := undef) rfl (by kernel_rfl) (by kernel_rfl) (by kernel_rfl) (fun _ _ _ h => h) (Or.inr ⟨by rfl, rfl⟩) (by assumption) ?_
        simp only [Act.put, List.setIfInBounds_toArray, List.set_cons_zero, List.set_cons_succ]
        refine wpAnyH_take (i := 9) (oi := { dst := some 31, op := Op.fieldAddr 53 (Operand.tmp 30) 0, type := 0, pos := "outright.go:76", after := #[{ on := 8, ground := Ground.data }, { on := 5, ground := Ground.guard }, { on := 14, ground := Ground.gcOnly Departure.lateStores }], guard := some (5, true) }) (v := undef) rfl (by kernel_rfl) (by kernel_rfl) (by kernel_rfl) (fun _ _ _ h => h) (Or.inr ⟨by rfl, rfl⟩) (by assumption) ?_
        simp only [Act.put, List.setIfInBounds_toArray, List.set_cons_zero, List.set_cons_succ]
        refine wpAnyH_take (i := 10) (oi := { dst := some 32, op := Op.load 22 (Operand.tmp 31), type := 22, pos := "outright.go:76", after := #[{ on := 9, ground := Ground.data }, { on := 5, ground := Ground.guard }, { on := 14, ground := Ground.gcOnly Departure.lateStores }], guard := some (5, true) }) (v := undef) rfl (by kernel_rfl) (by kernel_rfl) (by kernel_rfl) (fun _ _ _ h => h) (Or.inr ⟨by rfl, rfl⟩) (by assumption) ?_
        simp only [Act.put, List.setIfInBounds_toArray, List.set_cons_zero, List.set_cons_succ]
        refine wpAnyH_take (i := 11) (oi := { dst := some 33, op := Op.move (Operand.tmp 1), type := 22, pos := "outright.go:76", after := #[{ on := 5, ground := Ground.guard }, { on := 14, ground := Ground.gcOnly Departure.lateStores }], guard := some (5, true) }) (v := undef) rfl (by kernel_rfl) (by kernel_rfl) (by kernel_rfl) (fun _ _ _ h => h) (Or.inr ⟨by rfl, rfl⟩) (by assumption) ?_
        simp only [Act.put, List.setIfInBounds_toArray, List.set_cons_zero, List.set_cons_succ]
        refine wpAnyH_take (i := 12) (oi := { dst := some 34, op := Op.binOp BinOp.eql 22 (Operand.tmp 32) (Operand.tmp 33) 22, type := 4, pos := "outright.go:76", after := #[{ on := 10, ground := Ground.data }, { on := 11, ground := Ground.data }, { on := 5, ground := Ground.guard }, { on := 14, ground := Ground.gcOnly Departure.lateStores }], guard := some (5, true) }) (v := undef) rfl (by kernel_rfl) (by kernel_rfl) (by kernel_rfl) (fun _ _ _ h => h) (Or.inr ⟨by rfl, rfl⟩) (by assumption) ?_
        simp only [Act.put, List.setIfInBounds_toArray, List.set_cons_zero, List.set_cons_succ]
        refine wpAnyH_take (i := 13) (oi := { dst := some 35, op := Op.pick (Operand.tmp 27) (Operand.tmp 34) (Operand.const (Value.bool false)), type := 4, pos := "outright.go:76", after := #[{ on := 5, ground := Ground.data }, { on := 12, ground := Ground.data }, { on := 14, ground := Ground.gcOnly Departure.lateStores }], guard := none }) (v := .bool false) rfl (by kernel_rfl) (by kernel_rfl) (by kernel_rfl) (fun _ _ _ h => h) (Or.inl ⟨by rfl, by intro w hSw; go_simp⟩) (by assumption) ?_
        simp only [Act.put, List.setIfInBounds_toArray, List.set_cons_zero, List.set_cons_succ]
        refine wpAnyH_ready (rs := [14]) (by kernel_rfl) (by simp) (AllReadyH.cons (o := { dst := some 4, op := Op.assign (Operand.tmp 22), type := 3, pos := "outright.go:76", after := #[{ on := 0, ground := Ground.data }, { on := 5, ground := Ground.chain }, { on := 0, ground := Ground.phase }, { on := 1, ground := Ground.textOnly Departure.lateStores }, { on := 2, ground := Ground.textOnly Departure.lateStores }, { on := 3, ground := Ground.textOnly Departure.lateStoresUnsure }, { on := 4, ground := Ground.textOnly Departure.lateStores }, { on := 5, ground := Ground.textOnly Departure.lateStores }, { on := 6, ground := Ground.textOnly Departure.lateStores }, { on := 7, ground := Ground.textOnly Departure.lateStores }, { on := 8, ground := Ground.textOnly Departure.lateStores }, { on := 9, ground := Ground.textOnly Departure.lateStores }, { on := 10, ground := Ground.textOnly Departure.lateStores }, { on := 11, ground := Ground.textOnly Departure.lateStores }, { on := 12, ground := Ground.textOnly Departure.lateStores }, { on := 13, ground := Ground.textOnly Departure.lateStores }], guard := none }) rfl (fun KQ hK => ?_) AllReadyH.nil)
        go_simp
        refine hK.out _ _ trivial (fun hHeld => ?_)
        clear hK KQ
        try simp only [Act.put, List.setIfInBounds_toArray, List.set_cons_zero, List.set_cons_succ]
        refine wpAnyH_ready (rs := [15]) (by kernel_rfl) (by simp) (AllReadyH.cons (o := { dst := some 5, op := Op.assign (Operand.tmp 35), type := 4, pos := "outright.go:76", after := #[{ on := 13, ground := Ground.data }, { on := 14, ground := Ground.chain }, { on := 0, ground := Ground.phase }, { on := 1, ground := Ground.phase }, { on := 2, ground := Ground.phase }, { on := 3, ground := Ground.phase }, { on := 4, ground := Ground.phase }, { on := 5, ground := Ground.phase }, { on := 6, ground := Ground.phase }, { on := 7, ground := Ground.phase }, { on := 8, ground := Ground.phase }, { on := 9, ground := Ground.phase }, { on := 10, ground := Ground.phase }, { on := 11, ground := Ground.phase }, { on := 12, ground := Ground.phase }, { on := 13, ground := Ground.phase }, { on := 14, ground := Ground.phase }], guard := none }) rfl (fun KQ hK => ?_) AllReadyH.nil)
        go_simp
        refine hK.out _ _ trivial (fun hHeld => ?_)
        clear hK KQ
        try simp only [Act.put, List.setIfInBounds_toArray, List.set_cons_zero, List.set_cons_succ]
        refine wpAnyH_done (by kernel_rfl) ?_ _
        go_wp2_with fail
        go_returns
        exact ⟨rfl, by rw [← hw1]; exact (Below.refl _ _).drew⟩
end Go.Proofs.Ytgbpbfnpeeciaaa
namespace Go.Proofs.Ytgbpbfnpeeciaaa
open Go.RowKit
set_option maxRecDepth 100000
set_option maxHeartbeats 8000000
/-- Where a list that is laid behind comes from. -/
def SrcAt (w : World) (x : Value) (M : List (Int × Mp)) : Prop := (x = .slice none 0 0 ∧ M = []) ∨ ∃ ad c, x = .slice (some ad) M.length c ∧ ∀ j u, (flat M)[j]? = some u → w.cell? (ad.add j) = some u
theorem wpList_append53 {ops : Array Oper} {rest : List Oper} {w : World} {o : Oper} {a : Act} {Q : Exit → Act → World → Prop} (hgd : o.guard = none) (s x : Operand)
    (ho : o.op = .call { callee := .builtin .append, args := #[s, x], argTypes := #[36, 36] }) (base : Nat) (v xv : Value) (L M : List (Int × Mp)) (hs : a.eval s = v) (H : w.ownsRow base 53 5 v L.length (flat L)) (hB : base ≤ w.heap.size) (hx : a.eval x = xv) (H2 : SrcAt w xv M) (hlen : L.length + M.length ≤ 1000000) (n : Nat) (hn : (L ++ M).length = n)
    (h : ∀ ao cc w', w'.ownsRow base 53 5 (.slice ao n cc) (L ++ M).length (flat (L ++ M)) → w.grownBy w' v.ownBlock → wpList Try.prog ops Q rest (a.put o.dst (.slice ao n cc)) w') : wpList Try.prog ops Q (o :: rest) a w := by
  refine wpList_plain hgd fun K hK => ?_
  subst hn
  obtain ⟨i, hi, hz, hsize, hby⟩ := info_parts info53
  rcases H2 with ⟨hv2, rfl⟩ | ⟨ad, c, hv2, hc⟩
  · have hr := run_append_owned_none (P := Try.prog) (w := w) base 36 o.type 53 i 5 under36 hi v L.length _ H
    unfold Oper.wp execOp
    simp only [ho, resolve, invoke, builtin, Sem.run_bind, Sem.run_pure, Result.andThen_ok, List.map_toArray, List.map_cons, List.map_nil, hs, hx, hv2, hr]
    obtain ⟨ao, cc, rfl⟩ := own_frm H
    have := h ao cc w (by rw [List.append_nil]; exact H) ⟨rfl, rfl, rfl, Nat.le_refl _, fun _ _ _ => rfl⟩
    rw [List.append_nil] at this
    exact hK _ _ this
  · obtain ⟨v', w', hr, h1, h2, _⟩ := run_append_own (P := Try.prog) w base 36 o.type 53 i (.agg #[.int .u32 0, .bool false, .int .i64 0, .bool false, .bool false]) 5 32 under36 hi hz hsize hby rfl (by decide) v L.length _ H ad M.length c (flat M) (flat_length M) hc (flat_one M) (by unfold maxLen; omega) (by omega) hB
    have hH : w'.ownsRow base 53 5 v' (L ++ M).length (flat (L ++ M)) := by
      rw [List.length_append, flat_app]
      exact h1
    unfold Oper.wp execOp
    simp only [ho, resolve, invoke, builtin, Sem.run_bind, Sem.run_pure, Result.andThen_ok, List.map_toArray, List.map_cons, List.map_nil, hs, hx, hv2, hr]
    obtain ⟨ao, cc, rfl⟩ := own_frm hH
    exact hK _ _ (h ao cc w' hH h2)
theorem own_butE {W W' : World} {p : Dp} {d : DS} {b n : Nat} {v : Value} {L : List Value} (h : W.ownsRow b 53 5 v n L) (hd : DB W p d) (hb : ButL p.f.w W W') : W'.ownsRow b 53 5 v n L := by
  refine ⟨h.1, h.2.imp id ?_⟩
  rintro ⟨g, cap, cur, hv, a1, a2, a3⟩
  refine ⟨g, cap, cur, hv, a1, (hb.block g (Array.getElem?_eq_some_iff.1 a2).1 (fun hk => ?_)).trans a2, a3⟩
  exact hd.mem.off (g := g) (t := 53) (cs := cur.toList) (by unfold Cel; simpa using a2) (by decide) (Fp.w_all hk)
theorem own_weak {W : World} {b b' n : Nat} {v : Value} {L : List Value} (h : W.ownsRow b 53 5 v n L) (hb : b' ≤ b) : W.ownsRow b' 53 5 v n L :=
  ⟨h.1, h.2.imp id fun ⟨g, cap, cur, hv, a1, a2⟩ => ⟨g, cap, cur, hv, Nat.le_trans hb a1, a2⟩⟩
theorem DG.grow {W w w' : World} {p : Dp} {d : DS} {G : List Nat} {Lb : List (Nat × TypeId × List Value)} {v : Value} {A : List (Int × Mp)} (h : DG W w p d G Lb) (ho : w.ownsRow W.heap.size 53 5 v A.length (flat A)) (hg : w.grownBy w' v.ownBlock) (ht : ∀ q ∈ Lb, q.2.1 ≠ 53) : DG W w' p d G Lb := by
  have hk : ∀ k, v.ownBlock = some k → W.heap.size ≤ k ∧ ∃ cur, w.heap[k]? = some (.cells cur 53 (0, 0)) := fun k e => own_at ho e
  have hb : ButL v.ownBlock.toList w w' := ⟨hg.os, hg.tape, hg.output, hg.size, fun k h1 hn => hg.block k h1 (fun e => hn (by rw [← e]; simp))⟩
  refine ⟨h.db.frame hb (fun k hk1 hm => ?_), ⟨hb.os.trans h.but.os, hb.tape.trans h.but.tape, hb.output.trans h.but.output, Nat.le_trans h.but.size hb.size, fun k h1 hn => (hb.block k (by have := h.but.size; omega) (fun hm => ?_)).trans (h.but.block k h1 hn)⟩, fun q hq => (h.bag q hq).but hb (fun hm => ?_), h.off, h.old, h.G⟩
  · have := (hk k (by simpa using hm)).1; have := h.old k hk1; omega
  · have := (hk k (by simpa using hm)).1; omega
  · obtain ⟨_, cur, hc⟩ := hk q.1 (by simpa using hm)
    have h1 := h.bag q hq
    unfold Cel at h1
    rw [hc] at h1
    injection h1 with h1
    injection h1 with _ h2 _
    exact ht q hq h2.symm
theorem src_of {W w : World} {b : Nat} {g cap : Nat} {B : List (Int × Mp)} (_h : W.ownsRow b 53 5 (.slice (some ⟨g, 0, none⟩) B.length cap) B.length (flat B)) (hw : w.ownsRow b 53 5 (.slice (some ⟨g, 0, none⟩) B.length cap) B.length (flat B)) (k n c : Nat) (hn : k + n ≤ B.length) : SrcAt w (.slice (some ⟨g, k * 5, none⟩) n c) ((B.drop k).take n) := by
  have hl : ((B.drop k).take n).length = n := by rw [List.length_take, List.length_drop]; omega
  refine .inr ⟨⟨g, k * 5, none⟩, c, by rw [hl], fun j u hj => ?_⟩
  rcases hw.2 with ⟨hv, _⟩ | ⟨g', cap', cur, hv, _, hg, _, _, _, htk⟩
  · cases hv
  · injection hv with hv
    injection hv with hv
    injection hv with hv
    subst hv
    have hj2 : j < n * 5 := by have := (List.getElem?_eq_some_iff.1 hj).1; rw [flat_length, hl] at this; exact this
    have hf : (flat B)[k * 5 + j]? = some u := by
      have hB : B = B.take k ++ ((B.drop k).take n ++ (B.drop k).drop n) := by rw [List.take_append_drop, List.take_append_drop]
      have hkl : (flat (B.take k)).length = k * 5 := by rw [flat_length, List.length_take]; congr 1; omega
      rw [hB, flat_app, flat_app, List.getElem?_append_right (by omega), hkl, Nat.add_sub_cancel_left, List.getElem?_append_left (by rw [flat_length, hl]; exact hj2)]
      exact hj
    rw [← htk, List.getElem?_take, if_pos (by omega)] at hf
    rw [Addr.add_mid, cell_of_row w g (k * 5 + j) _ 53 (0, 0) hg]
    simpa using hf
variable {d : DS} {G : Int → Int → Int} {B : List (Int × Mp)}
theorem mvBad (hI : Inv d G) {va : Int} (v0 : 0 ≤ va) (h : ¬ VaOk va) : d.cutE 0 va = 91 ∧ Inv (d.cut 0 va) G ∧ ∀ m, d.putE 0 va m = 91 ∧ Inv (d.put 0 va m) G := by
  have hs : ¬ spE va = 0 := by unfold spE; rw [if_neg h]; decide
  have e1 : d.cutE 0 va = 91 := by rw [hI.cutE v0, if_neg hs]
  have h1 := hI.cut v0
  rw [e1, if_neg (by decide)] at h1
  refine ⟨e1, h1, fun m => ?_⟩
  have e2 : d.putE 0 va m = 91 := by rw [hI.putE v0, if_neg hs]
  have h2 := hI.put v0 m
  rw [e2, if_neg (by decide)] at h2
  exact ⟨e2, h2⟩
theorem vaok_sp {va : Int} (h : VaOk va) : spE va = 0 ∧ spI va = va / 4194304 := by unfold spE spI; rw [if_pos h, if_pos h]; exact ⟨rfl, rfl⟩
theorem mvNoT (hI : Inv d G) {va : Int} (v0 : 0 ≤ va) (h : VaOk va) (h0 : ¬ va / 4194304 = 0) (h5 : ¬ va / 4194304 = 5) : d.cutE 0 va = 141 ∧ Inv (d.cut 0 va) G ∧ ∀ m, d.putE 0 va m = 141 ∧ Inv (d.put 0 va m) G := by
  obtain ⟨hs, hi⟩ := vaok_sp h
  have ht : ¬ HasT va := by unfold HasT; rw [hi]; omega
  have e1 : d.cutE 0 va = 141 := by rw [hI.cutE v0, if_pos hs, if_neg ht]
  have h1 := hI.cut v0
  rw [e1, if_neg (by decide)] at h1
  refine ⟨e1, h1, fun m => ?_⟩
  have e2 : d.putE 0 va m = 141 := by rw [hI.putE v0, if_pos hs, if_neg ht]
  have h2 := hI.put v0 m
  rw [e2, if_neg (by decide)] at h2
  exact ⟨e2, h2⟩
theorem mvG (hB : Bk B G) {va : Int} (v0 : 0 ≤ va) (h : VaOk va) (ht : HasT va) : Key (pgv va) ∧ G (tbl va) (spJ va) = lk B (pgv va) ∧ tbl (pgv va) = tbl va ∧ spJ (pgv va) = spJ va := by
  obtain ⟨a, b, c⟩ := pgv_key v0 (vaok_sp h).1 ht
  have := hB.G _ a
  rw [b, c] at this
  exact ⟨a, this, b, c⟩
theorem lk_no (hB : Bk B G) {va : Int} (hi : isIn B va = false) : lk B va = 0 := lk_none fun x hx e => by
  have := (isIn_iff hB.srt va).2 ⟨x, hx, e⟩
  rw [hi] at this
  cases this
theorem lk_yes (hB : Bk B G) {va : Int} (hi : isIn B va = true) : lk B va ≠ 0 := by
  obtain ⟨x, hx, e⟩ := (isIn_iff hB.srt va).1 hi
  rw [← e, lk_mem hB.srt hx]
  exact (ps_enc x.2 (hB.key x hx).2).2.2
theorem mvCutF (hI : Inv d G) (hB : Bk B G) {va : Int} (v0 : 0 ≤ va) (h : VaOk va) (ht : HasT va) (hi : isIn B (pgv va) = false) : d.cutE 0 va = 92 ∧ Inv (d.cut 0 va) G := by
  obtain ⟨_, hg, _⟩ := mvG hB v0 h ht
  have e1 : d.cutE 0 va = 92 := by rw [hI.cutE v0, if_pos (vaok_sp h).1, if_pos ht, hg, lk_no hB hi]; rfl
  have h1 := hI.cut v0
  rw [e1, if_neg (by decide)] at h1
  exact ⟨e1, h1⟩
theorem mvCutT (hI : Inv d G) (hB : Bk B G) {va : Int} (v0 : 0 ≤ va) (h : VaOk va) (ht : HasT va) (hi : isIn B (pgv va) = true) : d.cutE 0 va = 0 ∧ Inv (d.cut 0 va) (upd G (tbl va) (spJ va) 0) ∧ Bk (cutB B (pgv va)) (upd G (tbl va) (spJ va) 0) := by
  obtain ⟨hk, hg, ha, hb⟩ := mvG hB v0 h ht
  have e1 : d.cutE 0 va = 0 := by rw [hI.cutE v0, if_pos (vaok_sp h).1, if_pos ht, hg]; unfold empE; rw [if_neg (lk_yes hB hi)]
  have h1 := hI.cut v0
  rw [e1, if_pos rfl] at h1
  have h2 := hB.cut hk hi
  rw [ha, hb] at h2
  exact ⟨e1, h1, h2⟩
theorem mvPutT (hI : Inv d G) (hB : Bk B G) {va : Int} (v0 : 0 ≤ va) (h : VaOk va) (ht : HasT va) (hi : isIn B (pgv va) = true) (m : Mp) : d.putE 0 va m = 140 ∧ Inv (d.put 0 va m) G := by
  obtain ⟨_, hg, _⟩ := mvG hB v0 h ht
  have e1 : d.putE 0 va m = 140 := by rw [hI.putE v0, if_pos (vaok_sp h).1, if_pos ht, hg]; unfold filE; rw [if_neg (lk_yes hB hi)]
  have h1 := hI.put v0 m
  rw [e1, if_neg (by decide)] at h1
  exact ⟨e1, h1⟩
theorem mvPutF (hI : Inv d G) (hB : Bk B G) {va : Int} (v0 : 0 ≤ va) (h : VaOk va) (ht : HasT va) (hi : isIn B (pgv va) = false) (m : Mp) : d.putE 0 va m = m.err ∧ (m.err ≠ 0 → Inv (d.put 0 va m) G) ∧ (m.err = 0 → Inv (d.put 0 va m) (upd G (tbl va) (spJ va) m.enc) ∧ Bk (putB B (pgv va) m) (upd G (tbl va) (spJ va) m.enc)) := by
  obtain ⟨hk, hg, ha, hb⟩ := mvG hB v0 h ht
  have e1 : d.putE 0 va m = m.err := by rw [hI.putE v0, if_pos (vaok_sp h).1, if_pos ht, hg, lk_no hB hi]; rfl
  have h1 := hI.put v0 m
  rw [e1] at h1
  refine ⟨e1, fun he => ?_, fun he => ?_⟩
  · rw [if_neg he] at h1; exact h1
  · rw [if_pos he] at h1
    have h2 := hB.put hk he hi
    rw [ha, hb] at h2
    exact ⟨h1, h2⟩
end Go.Proofs.Ytgbpbfnpeeciaaa
