/- The script of calls, opened. -/
import Derived.Test.YthpkodkilbcepaaLwB
import Derived.Test.YthpkodkilbcepaaA6
namespace Go.Proofs.Ythpkodkilbcepaa
open Go.ChangeShapes Go.WideShapes Go.ChangeAt Go.RowKit
theorem under52 : Try.prog.underlying 52 = some (.slice 55) := by kernel_rfl
theorem cells55 : Try.prog.cellsOf 55 = 26 := by kernel_rfl
theorem cells45 : Try.prog.cellsOf 45 = 1 := by kernel_rfl
theorem bytes55 : Try.prog.bytesOf 55 = 128 := by kernel_rfl
set_option maxRecDepth 100000 in
theorem open_op {H : Type} {enc : TypeId × Value → H} {W : World} {fuel : Nat} {held : Bool} {cs : List Value} {y : DataW H × List MemPlace}
    (h : DataW.trod enc Try.prog W 0 (fun _ => true) held fuel 55 cs = some y) : ∃ q : Oq, cs = q.cs ∧ OqOk W q := by
  obtain ⟨xs, m, rfl, hy, hlen, hn, hel⟩ := DataW.trod_struct under55 h
  rw [cells55] at hlen
  have hsz : xs.length = 8 := hn
  match xs, hsz with
  | [x0, x1, x2, x3, x4, x5, x6, x7], _ =>
    have e0 : DataW.trod enc Try.prog W 0 (fun _ => true) held m 3 ((cs.drop 0).take (Try.prog.cellsOf 3)) = some x0 := hel 0 _ rfl
    have e1 : DataW.trod enc Try.prog W 0 (fun _ => true) held m 25 ((cs.drop 1).take (Try.prog.cellsOf 25)) = some x1 := hel 1 _ rfl
    have e2 : DataW.trod enc Try.prog W 0 (fun _ => true) held m 3 ((cs.drop 20).take (Try.prog.cellsOf 3)) = some x2 := hel 2 _ rfl
    have e3 : DataW.trod enc Try.prog W 0 (fun _ => true) held m 22 ((cs.drop 21).take (Try.prog.cellsOf 22)) = some x3 := hel 3 _ rfl
    have e4 : DataW.trod enc Try.prog W 0 (fun _ => true) held m 22 ((cs.drop 22).take (Try.prog.cellsOf 22)) = some x4 := hel 4 _ rfl
    have e5 : DataW.trod enc Try.prog W 0 (fun _ => true) held m 22 ((cs.drop 23).take (Try.prog.cellsOf 22)) = some x5 := hel 5 _ rfl
    have e6 : DataW.trod enc Try.prog W 0 (fun _ => true) held m 22 ((cs.drop 24).take (Try.prog.cellsOf 22)) = some x6 := hel 6 _ rfl
    have e7 : DataW.trod enc Try.prog W 0 (fun _ => true) held m 45 ((cs.drop 25).take (Try.prog.cellsOf 45)) = some x7 := hel 7 _ rfl
    rw [cells3] at e0 e2
    rw [cells25] at e1
    rw [cells22] at e3 e4 e5 e6
    rw [cells45] at e7
    obtain ⟨k, g0, _, _⟩ := DataW.trod_int under3 (show _ = some x0 from e0)
    obtain ⟨f, g1⟩ := open_file e1
    obtain ⟨r, g2, _, _⟩ := DataW.trod_int under3 (show _ = some x2 from e2)
    obtain ⟨a, g3, _, ka⟩ := DataW.trod_int under22 (show _ = some x3 from e3)
    obtain ⟨b, g4, _, kb⟩ := DataW.trod_int under22 (show _ = some x4 from e4)
    obtain ⟨c, g5, _, _⟩ := DataW.trod_int under22 (show _ = some x5 from e5)
    obtain ⟨d, g6, _, _⟩ := DataW.trod_int under22 (show _ = some x6 from e6)
    obtain ⟨ao, n, cap, bb, off, X, g7, _, hao, hX, _⟩ := open_words e7
    refine ⟨⟨k, f, r, a, b, c, d, ao, n, cap⟩, ?_, ⟨lit_u32 ka, lit_u32 kb, bb, off, X, hao, hX⟩⟩
    apply List.ext_getElem?
    intro j
    by_cases h0 : j = 0
    · subst h0; exact take_one g0
    by_cases h20 : j < 20
    · obtain ⟨i, rfl⟩ : ∃ i, j = i + 1 := ⟨j - 1, by omega⟩
      rw [Oq.cs, List.getElem?_cons_succ, List.getElem?_append_left (by rw [F.len]; omega), ← g1, List.getElem?_take_of_lt (by omega), List.getElem?_drop, Nat.add_comm]
    by_cases h26 : j < 26
    · obtain ⟨i, rfl⟩ : ∃ i, j = 20 + i := ⟨j - 20, by omega⟩
      rw [Oq.at]
      rcases (show i = 0 ∨ i = 1 ∨ i = 2 ∨ i = 3 ∨ i = 4 ∨ i = 5 by omega) with rfl | rfl | rfl | rfl | rfl | rfl
      · exact take_one g2
      · exact take_one g3
      · exact take_one g4
      · exact take_one g5
      · exact take_one g6
      · exact take_one g7
    · rw [List.getElem?_eq_none (by omega), List.getElem?_eq_none (by rw [Oq.len]; omega)]
theorem pickq {Q : Nat → Oq → Prop} (n : Nat) (q0 : Oq) (h : ∀ k, k < n → ∃ x, Q k x) : ∃ f : Nat → Oq, ∀ k, k < n → Q k (f k) :=
  ⟨fun k => if hk : k < n then (h k hk).choose else q0, fun k hk => by simp only [hk, dif_pos]; exact (h k hk).choose_spec⟩
theorem open_ops {H : Type} {enc : TypeId × Value → H} {W : World} {base : Nat} {held : Bool} {v : Value} {d : DataW H} {p : List MemPlace}
    (hv : Value.okWide Try.prog W .any base 52 v) (h : DataW.Trod enc Try.prog W 0 (fun _ => true) held 52 v d p) :
    ∃ (ao : Option Addr) (n cap b off : Nat) (Q : Nat → Oq), v = .slice ao n cap ∧ (0 < n → ao = some ⟨b, off, none⟩ ∧ b < W.heap.size) ∧
      (∀ k, k < n → OqOk W (Q k) ∧ W.rangeAt b (off + k * 26) (Q k).cs) ∧ (n = 0 ∨ ∃ elems spare, d = .slice elems spare ∧ elems.length = n) := by
  obtain ⟨ao, n, cap, rfl⟩ := okWide_slice under52 hv
  obtain ⟨fuel, hf⟩ := h
  obtain ⟨ao', n', cap', b, off, hcs, _, hao, hk, hd⟩ := open_slice under52 cells55 (by decide) hf
  simp only [Value.cells, List.cons.injEq, Value.slice.injEq, and_true] at hcs
  obtain ⟨rfl, rfl, rfl⟩ := hcs
  obtain ⟨Q, hQ⟩ := pickq (Q := fun k q => OqOk W q ∧ W.rangeAt b (off + k * 26) q.cs) n ⟨0, F.zero, 0, 0, 0, 0, 0, none, 0, 0⟩ fun k hkn => by
    obtain ⟨cs, m, y, h1, h2⟩ := hk k hkn
    obtain ⟨q, rfl, hq⟩ := open_op h2
    exact ⟨q, hq, h1⟩
  exact ⟨ao, n, cap, b, off, Q, rfl, hao, hQ, hd⟩
end Go.Proofs.Ythpkodkilbcepaa
