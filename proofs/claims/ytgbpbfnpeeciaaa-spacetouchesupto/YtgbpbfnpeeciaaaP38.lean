import Derived.Test.YtgbpbfnpeeciaaaP01
import Derived.Test.YtgbpbfnpeeciaaaP37
import Derived.Laws.BitsAllLaws
import Derived.Test.YtgbpbfnpeeciaaaP35
namespace Go.Proofs.Ytgbpbfnpeeciaaa
open Go.ChangeShapes Go.WideShapes Go.ChangeAt Go.RowKit
theorem under33 : Try.prog.underlying 33 = some (.slice 42) := by kernel_rfl
theorem cel42 : Try.prog.cellsOf 42 = 6 := by kernel_rfl
theorem cel40 : Try.prog.cellsOf 40 = 4 := by kernel_rfl
theorem pickA {α : Type} [Inhabited α] {Q : Nat → α → Prop} (n : Nat) (h : ∀ k, k < n → ∃ x, Q k x) : ∃ f : Nat → α, ∀ k, k < n → Q k (f k) :=
  ⟨fun k => if hk : k < n then (h k hk).choose else default, fun k hk => by simp only [hk, dif_pos]; exact (h k hk).choose_spec⟩
set_option maxRecDepth 100000 in
theorem open_map {H : Type} {enc : TypeId × Value → H} {W : World} {b0 fuel : Nat} {sp : Nat → Bool} {held : Bool} {cs : List Value} {y : DataW H × List MemPlace}
    (h : DataW.trod enc Try.prog W b0 sp held fuel 40 cs = some y) : ∃ m : Mp, cs = [.bool m.s, .int .i64 m.p, .bool m.wr, .bool m.ex] := by
  obtain ⟨xs, m, rfl, hy, hlen, hn, hel⟩ := DataW.trod_struct under40 h
  rw [cel40] at hlen
  have hsz : xs.length = 4 := hn
  match xs, hsz with
  | [x0, x1, x2, x3], _ =>
    have e0 : DataW.trod enc Try.prog W b0 sp held m 4 ((cs.drop 0).take (Try.prog.cellsOf 4)) = some x0 := hel 0 _ rfl
    have e1 : DataW.trod enc Try.prog W b0 sp held m 3 ((cs.drop 1).take (Try.prog.cellsOf 3)) = some x1 := hel 1 _ rfl
    have e2 : DataW.trod enc Try.prog W b0 sp held m 4 ((cs.drop 2).take (Try.prog.cellsOf 4)) = some x2 := hel 2 _ rfl
    have e3 : DataW.trod enc Try.prog W b0 sp held m 4 ((cs.drop 3).take (Try.prog.cellsOf 4)) = some x3 := hel 3 _ rfl
    rw [celI] at e1
    rw [celB] at e0 e2 e3
    obtain ⟨q0, g0, _⟩ := DataW.trod_bool under4 (show _ = some x0 from e0)
    obtain ⟨q1, g1, _, _⟩ := DataW.trod_int under3 (show _ = some x1 from e1)
    obtain ⟨q2, g2, _⟩ := DataW.trod_bool under4 (show _ = some x2 from e2)
    obtain ⟨q3, g3, _⟩ := DataW.trod_bool under4 (show _ = some x3 from e3)
    refine ⟨⟨q0, q1, q2, q3⟩, ?_⟩
    match cs, hlen with
    | [c0, c1, c2, c3], _ =>
      simp at g0 g1 g2 g3
      rw [g0, g1, g2, g3]
set_option maxRecDepth 100000 in
theorem open_mv {H : Type} {enc : TypeId × Value → H} {W : World} {b0 fuel : Nat} {sp : Nat → Bool} {held : Bool} {cs : List Value} {y : DataW H × List MemPlace}
    (h : DataW.trod enc Try.prog W b0 sp held fuel 42 cs = some y) : ∃ x : Mv, cs = x.cs ∧ 0 ≤ x.va ∧ x.va < 4294967296 := by
  obtain ⟨xs, m, rfl, hy, hlen, hn, hel⟩ := DataW.trod_struct under42 h
  rw [cel42] at hlen
  have hsz : xs.length = 3 := hn
  match xs, hsz with
  | [x0, x1, x2], _ =>
    have e0 : DataW.trod enc Try.prog W b0 sp held m 4 ((cs.drop 0).take (Try.prog.cellsOf 4)) = some x0 := hel 0 _ rfl
    have e1 : DataW.trod enc Try.prog W b0 sp held m 22 ((cs.drop 1).take (Try.prog.cellsOf 22)) = some x1 := hel 1 _ rfl
    have e2 : DataW.trod enc Try.prog W b0 sp held m 40 ((cs.drop 2).take (Try.prog.cellsOf 40)) = some x2 := hel 2 _ rfl
    rw [celB] at e0
    rw [celW] at e1
    rw [cel40] at e2
    obtain ⟨q0, g0, _⟩ := DataW.trod_bool under4 (show _ = some x0 from e0)
    obtain ⟨q1, g1, _, k1⟩ := DataW.trod_int under32 (show _ = some x1 from e1)
    obtain ⟨q2, g2⟩ := open_map (show _ = some x2 from e2)
    refine ⟨⟨q0, q1, q2⟩, ?_, lit_u32 k1⟩
    match cs, hlen with
    | [c0, c1, c2, c3, c4, c5], _ =>
      simp at g0 g1 g2
      obtain ⟨a, b, c, e⟩ := g2
      rw [g0, g1, a, b, c, e]
      rfl
instance : Inhabited Mv := ⟨⟨false, 0, Mp.z⟩⟩
set_option maxRecDepth 100000 in
theorem open_mvs {H : Type} {enc : TypeId × Value → H} {W : World} {base : Nat} {held : Bool} {v : Value} {d : DataW H} {p : List MemPlace}
    (hv : Value.okWide Try.prog W .any base 33 v) (h : DataW.Trod enc Try.prog W 0 (fun _ => true) held 33 v d p) :
    ∃ (ao : Option Addr) (n cp : Nat) (q : Nat → Mv), v = .slice ao n cp ∧ MvAt W ao n q ∧ (n = 0 ∨ ∃ elems spare, d = .slice elems spare ∧ elems.length = n) := by
  obtain ⟨ao, n, cp, rfl⟩ := okWide_slice under33 hv
  obtain ⟨fuel, hf⟩ := h
  obtain ⟨ao', n', cp', b, off, hcs, _, hao, hk, hd⟩ := open_slice under33 cel42 (by decide) hf
  simp only [Value.cells, List.cons.injEq, Value.slice.injEq, and_true] at hcs
  obtain ⟨rfl, rfl, rfl⟩ := hcs
  obtain ⟨F, hF⟩ := pickA (α := Mv) (Q := fun k x => W.rangeAt b (off + k * 6) x.cs ∧ 0 ≤ x.va ∧ x.va < 4294967296) n fun k hkn => by
    obtain ⟨cs, m, y, h1, h2⟩ := hk k hkn
    obtain ⟨x, rfl, hx⟩ := open_mv h2
    exact ⟨x, h1, hx⟩
  exact ⟨ao, n, cp, F, rfl, ⟨fun hn => ⟨b, off, (hao hn).1, (hao hn).2, fun j hj => (hF j hj).1⟩, fun j hj => (hF j hj).2⟩, hd⟩
end Go.Proofs.Ytgbpbfnpeeciaaa
namespace Go.Proofs.Ytgbpbfnpeeciaaa
open Go.ChangeShapes Go.WideShapes Go.ChangeAt Go.RowKit
theorem bulk_pos {H : Type} (d : DataW H) : 1 ≤ Rows.uptoBulk d := by
  cases d with
  | lit l => cases l <;> simp [Rows.uptoBulk]
  | nil => simp [Rows.uptoBulk]
  | ptr d => simp [Rows.uptoBulk]
  | slice elems spare => simp [Rows.uptoBulk]
  | agg parts => simp [Rows.uptoBulk]
  | iface t d => simp [Rows.uptoBulk]
  | map entries => simp [Rows.uptoBulk]
  | held h => simp [Rows.uptoBulk]
theorem bulk_len {H : Type} : ∀ (l : List (DataW H)), l.length ≤ Rows.uptoBulkAll l
  | [] => by simp [Rows.uptoBulkAll]
  | x :: l => by
    have := bulk_len l
    have := bulk_pos x
    simp only [Rows.uptoBulkAll, List.length_cons]
    omega
theorem len_bulk {H : Type} {n : Nat} {d : DataW H} (h : n = 0 ∨ ∃ elems spare, d = .slice elems spare ∧ elems.length = n) : n ≤ Rows.uptoBulk d := by
  rcases h with rfl | ⟨e, s, rfl, h⟩
  · exact Nat.zero_le _
  · have := bulk_len e
    simp only [Rows.uptoBulk]
    omega
theorem under69 : Try.prog.underlying 69 = some (.slice 3) := by kernel_rfl
theorem and_turn (y : Int) : ∃ r, 0 ≤ r ∧ r < 65536 ∧ bits .and .i64 y 65535 = r := by
  have hx : (BitVec.ofInt 64 y &&& BitVec.ofInt 64 65535).toNat ≤ 65535 := by
    rw [BitVec.toNat_and]
    exact Nat.le_trans Nat.and_le_right (by decide)
  have h : bits .and .i64 y 65535 = ((BitVec.ofInt 64 y &&& BitVec.ofInt 64 65535).toNat : Int) := by
    show IntKind.i64.wrap ((BitVec.ofInt 64 y &&& BitVec.ofInt 64 65535).toNat : Int) = _
    rw [IntKind.wrap_i64]
    omega
  exact ⟨_, by omega, by omega, h⟩
set_option maxRecDepth 100000 in
theorem open_ints {H : Type} {enc : TypeId × Value → H} {W : World} {base : Nat} {held : Bool} {v : Value} {d : DataW H} {p : List MemPlace}
    (hv : Value.okWide Try.prog W .any base 69 v) (h : DataW.Trod enc Try.prog W 0 (fun _ => true) held 69 v d p) :
    ∃ (ao : Option Addr) (n cp : Nat), v = .slice ao n cp ∧ (∀ k, k < n → ∃ g off y, ao = some ⟨g, off, none⟩ ∧ g < W.heap.size ∧ W.cell? ⟨g, off + k, none⟩ = some (.int .i64 y) ∧ ∃ r, 0 ≤ r ∧ r < 65536 ∧ bits .and .i64 y 65535 = r) ∧ (n = 0 ∨ ∃ elems spare, d = .slice elems spare ∧ elems.length = n) := by
  obtain ⟨ao, n, cp, rfl⟩ := okWide_slice under69 hv
  obtain ⟨fuel, hf⟩ := h
  obtain ⟨ao', n', cp', b, off, hcs, _, hao, hk, hd⟩ := open_slice under69 celI (by decide) hf
  simp only [Value.cells, List.cons.injEq, Value.slice.injEq, and_true] at hcs
  obtain ⟨rfl, rfl, rfl⟩ := hcs
  refine ⟨ao, n, cp, rfl, fun k hkn => ?_, hd⟩
  obtain ⟨h1, h2⟩ := hao (by omega)
  obtain ⟨cs, m, y, h3, h4⟩ := hk k hkn
  obtain ⟨z, g1, _, _⟩ := DataW.trod_int under3 h4
  subst g1
  have h5 := h3 0 _ rfl
  rw [Nat.mul_one, Nat.add_zero] at h5
  exact ⟨b, off, z, h1, h2, h5, and_turn z⟩
end Go.Proofs.Ytgbpbfnpeeciaaa
namespace Go.Proofs.Ytgbpbfnpeeciaaa
open Go.RowKit
def Mtr (m m' : MS) (n : Int) : Prop := ∃ k, 0 ≤ k ∧ k ≤ n ∧ wrap64 (m'.c - m.c) = k
theorem Mtr.refl (m : MS) : Mtr m m 0 := ⟨0, by decide, by decide, by rw [Int.sub_self]; unfold wrap64; omega⟩
theorem Mtr.trans {a b c : MS} {n n' : Int} (h : Mtr a b n) (h' : Mtr b c n') (hn : n ≤ 1000 ∧ n' ≤ 1000) : Mtr a c (n + n') := by
  obtain ⟨k, h0, h1, h2⟩ := h
  obtain ⟨k', h0', h1', h2'⟩ := h'
  refine ⟨k + k', by omega, by omega, ?_⟩
  unfold wrap64 at *
  omega
theorem Mtr.more {a b : MS} {n n' : Int} (h : Mtr a b n) (hn : n ≤ n') : Mtr a b n' := by
  obtain ⟨k, h0, h1, h2⟩ := h
  exact ⟨k, h0, by omega, h2⟩
theorem Mtr.tick (m : MS) : Mtr m (m.tick 1) 1 := ⟨1, by decide, by decide, by
  show wrap64 (wrap64 (m.c + 1) - m.c) = 1
  unfold wrap64
  omega⟩
theorem Mtr.read (m : MS) (s : Bool) (p o : Int) : Mtr m (m.read s p o) 1 := by
  unfold MS.read
  split
  · exact (Mtr.refl m).more (by decide)
  · split
    · exact Mtr.tick m
    · exact (Mtr.refl m).more (by decide)
theorem Mtr.write (m : MS) (s : Bool) (p o v : Int) : Mtr m (m.write s p o v) 1 := by
  unfold MS.write
  split
  · exact (Mtr.refl m).more (by decide)
  · split
    · exact Mtr.tick m
    · exact (Mtr.refl m).more (by decide)
theorem read_word (m : MS) (s : Bool) (p o : Int) (a : Bool) (b c : Int) : (m.read s p o).word a b c = m.word a b c := by
  unfold MS.read
  split
  · rfl
  · split <;> rfl
structure TI (d : DS) : Prop where
  E : d.E = E0
  mf : MF d.m
  w0 : d.m.word true 0 0 = 1
  w1 : ∀ i : Int, 0 ≤ i → i < 256 → d.m.word true 1 i = 0 ∨ d.m.word true 1 i = 513 ∨ d.m.word true 1 i = 769
variable {d : DS}
theorem Inv.ti {G : Int → Int → Int} (h : Inv d G) : TI d := ⟨h.E, h.mf, h.w0, fun i i0 i1 => by
  rw [h.w1 i i0 i1]
  split
  · exact .inr (.inl rfl)
  · split
    · exact .inr (.inr rfl)
    · exact .inl rfl⟩
theorem TI.wc (h : TI d) (c : Int) : TI (d.wc c) := ⟨h.E, h.mf.wc c, h.w0, h.w1⟩
theorem TI.rd (h : TI d) (a b : Int) : TI (d.rd a b) := by rw [DS.rd_wc]; exact h.wc _
theorem TI.ent (h : TI d) (q : Int) (h0 : 0 ≤ q) (h1 : q < 8) : d.ent q = E0.getD q.toNat En.zero ∧ d.entE q = 0 := by
  have ht : d.there q = true := decide_eq_true ⟨h0, by rw [h.mf.ns]; exact h1⟩
  unfold DS.ent DS.entE DS.at
  rw [if_pos ht, if_pos ht, h.E]
  exact ⟨rfl, rfl⟩
theorem TI.own (h : TI d) (s q k : Int) (h0 : 0 ≤ q) (h1 : q < 8) : d.own s q k = ((E0.getD q.toNat En.zero).t == k && (E0.getD q.toNat En.zero).o == s) := by
  unfold DS.own
  rw [(h.ent q h0 h1).1]
theorem TI.fst (h : TI d) : d.fst 0 = 1 := h.w0
theorem TI.preE (h : TI d) : d.preE 0 = 0 := by
  unfold DS.preE
  rw [(h.ent 0 (by decide) (by decide)).1, (h.ent 0 (by decide) (by decide)).2]
  decide
theorem TI.folE (h : TI d) : d.folE 0 = 0 := by
  unfold DS.folE
  rw [h.preE, h.fst, h.own 0 1 3 (by decide) (by decide)]
  decide
theorem TI.folD (h : TI d) : d.folD 0 = d.rd 0 0 := by
  unfold DS.folD
  rw [if_pos h.preE]
theorem TI.isS (h : TI d) : d.isS 0 513 = true ∧ d.isS 0 769 = true ∧ d.isS 0 0 = false := by
  unfold DS.isS
  rw [show pf 513 = 2 by decide, show pf 769 = 3 by decide, show pf 0 = 0 by decide, h.own 0 2 4 (by decide) (by decide), h.own 0 3 4 (by decide) (by decide), h.own 0 0 4 (by decide) (by decide)]
  decide
structure Eff (d d' : DS) (e q o : Int) : Prop where
  ti : TI d'
  b : d'.b = d.b
  c : Mtr d.m d'.m 4
  same : e ≠ 0 → ∀ s p j, d'.m.word s p j = d.m.word s p j
  one : e = 0 → (0 ≤ q ∧ q < 8 ∧ 0 ≤ o ∧ o < 1024) ∧ d'.m.word true q o ≠ d.m.word true q o ∧ ∀ s p j, ¬ (s = true ∧ p = q ∧ j = o) → d'.m.word s p j = d.m.word s p j
theorem DS.rd_word (d : DS) (a b : Int) (s : Bool) (p j : Int) : (d.rd a b).m.word s p j = d.m.word s p j := read_word _ _ _ _ _ _ _
theorem TI.tn (h : TI d) (q j v e : Int) (hq : q = 1 ∨ q = 2 ∨ q = 3) (j0 : 0 ≤ j) (j1 : j < 1024) (v0 : 0 ≤ v) (v1 : v < 4294967296) (hv : e = 0 → v ≠ d.m.word true q j) (h1 : q = 1 → e = 0 → v = 0 ∨ v = 513 ∨ v = 769) :
    TI (d.tn q j v e) ∧ (d.tn q j v e).b = d.b ∧ Mtr d.m (d.tn q j v e).m 2 ∧ (e ≠ 0 → ∀ s p o, (d.tn q j v e).m.word s p o = d.m.word s p o) ∧
      (e = 0 → (d.tn q j v e).m.word true q j ≠ d.m.word true q j ∧ ∀ s p o, ¬ (s = true ∧ p = q ∧ o = j) → (d.tn q j v e).m.word s p o = d.m.word s p o) := by
  unfold DS.tn
  have hr := h.rd q j
  split
  · rename_i he
    have hself : ((d.rd q j).wr q j v).m.word true q j = v := hr.mf.self q j v (by omega) (by omega) j0 j1
    have hoth : ∀ s p o, ¬ (s = true ∧ p = q ∧ o = j) → ((d.rd q j).wr q j v).m.word s p o = d.m.word s p o := fun s p o hn => (hr.mf.other true q j v s p o (fun hh => hn ⟨hh.1.symm, hh.2.1.symm, hh.2.2.symm⟩)).trans (d.rd_word q j s p o)
    refine ⟨⟨h.E, hr.mf.write _ _ _ _ v0 v1, ?_, ?_⟩, rfl, ?_, fun hn => absurd he hn, fun _ => ⟨by rw [hself]; exact hv he, hoth⟩⟩
    · rw [hoth true 0 0 (by omega)]; exact h.w0
    · intro i i0 i1
      by_cases hc : q = 1 ∧ i = j
      · obtain ⟨rfl, rfl⟩ := hc
        rw [hself]
        exact h1 rfl he
      · rw [hoth true 1 i (fun hh => hc ⟨hh.2.1.symm, hh.2.2⟩)]
        exact h.w1 i i0 i1
    · exact (Mtr.read d.m true q j).trans (Mtr.write (d.rd q j).m true q j v) (by decide)
  · rename_i he
    exact ⟨hr, rfl, (Mtr.read d.m true q j).more (by decide), fun _ => d.rd_word q j, fun hn => absurd hn he⟩
theorem TI.fnd (h : TI d) {va : Int} (v0 : 0 ≤ va) : (∀ s p o, (d.fndD 0 va).m.word s p o = d.m.word s p o) ∧ TI (d.fndD 0 va) ∧ (d.fndD 0 va).b = d.b ∧ Mtr d.m (d.fndD 0 va).m 2 ∧
    (d.fndE 0 va = 0 → (pf (d.w1 0 va) = 2 ∨ pf (d.w1 0 va) = 3) ∧ spE va = 0) := by
  have hE : d.fndE 0 va = if spE va ≠ 0 then spE va else if d.isS 0 (d.w1 0 va) = true then 0 else 141 := by unfold DS.fndE; rw [if_neg (by rw [h.folE]; decide)]
  have hD : d.fndD 0 va = if spE va ≠ 0 then d.folD 0 else (d.folD 0).rd (d.fst 0) (spI va) := by unfold DS.fndD; rw [if_neg (by rw [h.folE]; decide)]
  have hf := h.rd 0 0
  rw [hE, hD, h.folD]
  by_cases hs : spE va = 0
  · rw [if_neg (fun hh => hh hs), if_neg (fun hh => hh hs)]
    refine ⟨fun s p o => (DS.rd_word _ _ _ _ _ _).trans (DS.rd_word _ _ _ _ _ _), hf.rd _ _, rfl, (Mtr.read d.m true 0 0).trans (Mtr.read _ _ _ _) (by decide), fun he => ⟨?_, hs⟩⟩
    obtain ⟨a, b, _⟩ := sp_range v0 hs
    have hw : d.w1 0 va = 0 ∨ d.w1 0 va = 513 ∨ d.w1 0 va = 769 := by
      unfold DS.w1
      rw [h.fst]
      exact h.w1 _ a b
    rcases hw with hw | hw | hw
    · rw [hw, h.isS.2.2] at he
      exact absurd he (by decide)
    · rw [hw]; exact .inl (by decide)
    · rw [hw]; exact .inr (by decide)
  · rw [if_pos hs, if_pos hs]
    exact ⟨fun s p o => DS.rd_word _ _ _ _ _ _, hf, rfl, (Mtr.read d.m true 0 0).more (by decide), fun he => absurd he hs⟩
theorem enc_ne {m : Mp} (h : m.err = 0) : m.enc ≠ 0 := by
  unfold Mp.enc
  rw [if_pos h]
  have hp : Pg m.p := by
    unfold Mp.err at h
    split at h
    · assumption
    · exact absurd h (by decide)
  unfold Pg at hp
  unfold Mp.code
  cases m.s <;> cases m.wr <;> cases m.ex <;> simp only [b2] <;> simp <;> omega
theorem TI.put (h : TI d) {va : Int} (v0 : 0 ≤ va) (m : Mp) : Eff d (d.put 0 va m) (d.putE 0 va m) (pf (d.w1 0 va)) (spJ va) := by
  obtain ⟨hw, ht, hb, hc, hz⟩ := h.fnd v0
  unfold DS.put DS.putE
  by_cases he : d.fndE 0 va = 0
  · rw [if_pos he, if_pos he]
    obtain ⟨hq, hs⟩ := hz he
    obtain ⟨_, _, j0, j1⟩ := sp_range v0 hs
    have hr := filW_range (d.w2 0 va) m
    have hv : filE (d.w2 0 va) m.err = 0 → filW (d.w2 0 va) m.enc ≠ (d.fndD 0 va).m.word true (pf (d.w1 0 va)) (spJ va) := fun he2 => by
      rw [hw]
      unfold filE at he2
      split at he2
      · rename_i hx
        unfold filW
        rw [if_pos hx]
        show m.enc ≠ d.w2 0 va
        rw [hx]
        exact enc_ne he2
      · exact absurd he2 (by decide)
    obtain ⟨t1, t2, t3, t4, t5⟩ := ht.tn (pf (d.w1 0 va)) (spJ va) (filW (d.w2 0 va) m.enc) (filE (d.w2 0 va) m.err) (by omega) j0 j1 hr.1 hr.2 hv (by omega)
    refine ⟨t1, t2.trans hb, hc.trans t3 (by decide), fun hn s p j => (t4 hn s p j).trans (hw s p j), fun hn => ⟨⟨by omega, by omega, j0, j1⟩, ?_, fun s p j hh => ((t5 hn).2 s p j hh).trans (hw s p j)⟩⟩
    exact fun e => (t5 hn).1 (e.trans (hw _ _ _).symm)
  · rw [if_neg he, if_neg he]
    exact ⟨ht, hb, hc.more (by decide), fun _ => hw, fun hn => absurd hn he⟩
theorem TI.cut (h : TI d) {va : Int} (v0 : 0 ≤ va) : Eff d (d.cut 0 va) (d.cutE 0 va) (pf (d.w1 0 va)) (spJ va) := by
  obtain ⟨hw, ht, hb, hc, hz⟩ := h.fnd v0
  unfold DS.cut DS.cutE
  by_cases he : d.fndE 0 va = 0
  · rw [if_pos he, if_pos he]
    obtain ⟨hq, hs⟩ := hz he
    obtain ⟨_, _, j0, j1⟩ := sp_range v0 hs
    have hv : empE (d.w2 0 va) = 0 → 0 ≠ (d.fndD 0 va).m.word true (pf (d.w1 0 va)) (spJ va) := fun he2 => by
      rw [hw]
      unfold empE at he2
      split at he2
      · exact absurd he2 (by decide)
      · rename_i hx
        exact fun e => hx e.symm
    obtain ⟨t1, t2, t3, t4, t5⟩ := ht.tn (pf (d.w1 0 va)) (spJ va) 0 (empE (d.w2 0 va)) (by omega) j0 j1 (by decide) (by decide) hv (by omega)
    refine ⟨t1, t2.trans hb, hc.trans t3 (by decide), fun hn s p j => (t4 hn s p j).trans (hw s p j), fun hn => ⟨⟨by omega, by omega, j0, j1⟩, ?_, fun s p j hh => ((t5 hn).2 s p j hh).trans (hw s p j)⟩⟩
    exact fun e => (t5 hn).1 (e.trans (hw _ _ _).symm)
  · rw [if_neg he, if_neg he]
    exact ⟨ht, hb, hc.more (by decide), fun _ => hw, fun hn => absurd hn he⟩
theorem TI.look (h : TI d) {va : Int} (v0 : 0 ≤ va) (e : Int) (he : e ≠ 0) (q o : Int) : Eff d (d.look 0 va) e q o := by
  obtain ⟨hw, ht, hb, hc, hz⟩ := h.fnd v0
  unfold DS.look
  split
  · exact ⟨ht.rd _ _, hb, (hc.trans (Mtr.read _ true _ _) (by decide)).more (by decide), fun _ s p j => (DS.rd_word _ _ _ _ _ _).trans (hw s p j), fun hn => absurd hn he⟩
  · exact ⟨ht, hb, hc.more (by decide), fun _ => hw, fun hn => absurd hn he⟩
theorem TI.tab (h : TI d) (e : Int) (he : e ≠ 0) (q o : Int) : Eff d (d.folD 0) e q o := by
  rw [h.folD]
  exact ⟨h.rd 0 0, rfl, (Mtr.read d.m true 0 0).more (by decide), fun _ => d.rd_word 0 0, fun hn => absurd hn he⟩
theorem TI.add (h : TI d) (i q : Int) : Eff d (d.add 0 i q) (d.addE 0 i q) 1 i := by
  unfold DS.add DS.addE
  rw [if_pos h.folE, h.fst]
  have hfd := h.rd 0 0
  have hw := d.rd_word 0 0
  by_cases hi : 0 ≤ i ∧ i < 256
  · rw [if_pos hi]
    by_cases hq : d.entE q = 0
    · rw [if_pos hq]
      have hq8 : 0 ≤ q ∧ q < 8 := by
        unfold DS.entE at hq
        split at hq
        · rename_i ht
          have := of_decide_eq_true ht
          rw [h.mf.ns] at this
          exact this
        · exact absurd hq (by decide)
      by_cases ho : d.own 0 q 4 = true
      · rw [if_pos ho, if_pos ⟨h.folE, hi, hq, ho⟩]
        have h23 : q = 2 ∨ q = 3 := by
          rw [h.own 0 q 4 hq8.1 hq8.2] at ho
          have : q = 0 ∨ q = 1 ∨ q = 2 ∨ q = 3 ∨ q = 4 ∨ q = 5 ∨ q = 6 ∨ q = 7 := by omega
          rcases this with rfl | rfl | rfl | rfl | rfl | rfl | rfl | rfl <;> first | exact .inl rfl | exact .inr rfl | exact absurd ho (by decide)
        have hf : fE q = 0 ∧ (fW q = 513 ∨ fW q = 769) := by
          rcases h23 with rfl | rfl
          · exact ⟨by decide, .inl (by decide)⟩
          · exact ⟨by decide, .inr (by decide)⟩
        rw [h.folD]
        have hv : filE (d.m.word true 1 i) (fE q) = 0 → filW (d.m.word true 1 i) (fW q) ≠ (d.rd 0 0).m.word true 1 i := fun he2 => by
          rw [hw]
          unfold filE at he2
          split at he2
          · rename_i hx
            unfold filW
            rw [if_pos hx, hx]
            omega
          · exact absurd he2 (by decide)
        have hr : filW (d.m.word true 1 i) (fW q) = 0 ∨ filW (d.m.word true 1 i) (fW q) = 513 ∨ filW (d.m.word true 1 i) (fW q) = 769 := by
          unfold filW
          split
          · exact .inr hf.2
          · exact .inl rfl
        obtain ⟨t1, t2, t3, t4, t5⟩ := hfd.tn 1 i (filW (d.m.word true 1 i) (fW q)) (filE (d.m.word true 1 i) (fE q)) (by omega) hi.1 (by omega) (by omega) (by omega) hv (fun _ _ => hr)
        refine ⟨t1, t2, ((Mtr.read d.m true 0 0).trans t3 (by decide)).more (by decide), fun hn s p j => (t4 hn s p j).trans (hw s p j), fun hn => ⟨⟨by decide, by decide, hi.1, by omega⟩, ?_, fun s p j hh => ((t5 hn).2 s p j hh).trans (hw s p j)⟩⟩
        exact fun e => (t5 hn).1 (e.trans (hw _ _ _).symm)
      · rw [if_neg ho, if_neg (fun hh => ho hh.2.2.2), h.folD]
        exact ⟨hfd, rfl, (Mtr.read d.m true 0 0).more (by decide), fun _ => hw, fun hn => absurd hn (by decide)⟩
    · rw [if_neg hq, if_neg (fun hh => hq hh.2.2.1), h.folD]
      exact ⟨hfd, rfl, (Mtr.read d.m true 0 0).more (by decide), fun _ => hw, fun hn => absurd hn hq⟩
  · rw [if_neg hi, if_neg (fun hh => hi hh.2.1), h.folD]
    exact ⟨hfd, rfl, (Mtr.read d.m true 0 0).more (by decide), fun _ => hw, fun hn => absurd hn (by decide)⟩
end Go.Proofs.Ytgbpbfnpeeciaaa
