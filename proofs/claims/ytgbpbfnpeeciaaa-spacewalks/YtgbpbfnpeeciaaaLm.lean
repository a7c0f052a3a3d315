/- Moves that came in, opened. -/
import Derived.Test.YtgbpbfnpeeciaaaLw
import Derived.Test.YtgbpbfnpeeciaaaXf
namespace Go.Proofs.Ytgbpbfnpeeciaaa
open Go.ChangeShapes Go.WideShapes Go.ChangeAt Go.RowKit
theorem under33 : Try.prog.underlying 33 = some (.slice 42) := by kernel_rfl
theorem cel42 : Try.prog.cellsOf 42 = 6 := by kernel_rfl
theorem cel40 : Try.prog.cellsOf 40 = 4 := by kernel_rfl
theorem pickA {α : Type} [Inhabited α] {Q : Nat → α → Prop} (n : Nat) (h : ∀ k, k < n → ∃ x, Q k x) : ∃ f : Nat → α, ∀ k, k < n → Q k (f k) :=
  ⟨fun k => if hk : k < n then (h k hk).choose else default, fun k hk => by simp only [hk, dif_pos]; exact (h k hk).choose_spec⟩
set_option maxRecDepth 100000 in
theorem open_map {H : Type} {enc : TypeId × Value → H} {W : World} {b0 fuel : Nat} {sp : Nat → Bool} {held : Bool} {cs : List Value} {y : DataW H × List MemPlace}
    (h : DataW.trod enc Try.prog W b0 sp held fuel 40 cs = some y) : ∃ m : Mp, cs = [.bool m.s, .int .i64 m.p, .bool m.wr, .bool m.ex] := by
  obtain ⟨xs, m, rfl, hy, hlen, hn, hel⟩ := DataW.trod_struct under40 h
  rw [cel40] at hlen
  have hsz : xs.length = 4 := hn
  match xs, hsz with
  | [x0, x1, x2, x3], _ =>
    have e0 : DataW.trod enc Try.prog W b0 sp held m 4 ((cs.drop 0).take (Try.prog.cellsOf 4)) = some x0 := hel 0 _ rfl
    have e1 : DataW.trod enc Try.prog W b0 sp held m 3 ((cs.drop 1).take (Try.prog.cellsOf 3)) = some x1 := hel 1 _ rfl
    have e2 : DataW.trod enc Try.prog W b0 sp held m 4 ((cs.drop 2).take (Try.prog.cellsOf 4)) = some x2 := hel 2 _ rfl
    have e3 : DataW.trod enc Try.prog W b0 sp held m 4 ((cs.drop 3).take (Try.prog.cellsOf 4)) = some x3 := hel 3 _ rfl
    rw [celI] at e1
    rw [celB] at e0 e2 e3
    obtain ⟨q0, g0, _⟩ := DataW.trod_bool under4 (show _ = some x0 from e0)
    obtain ⟨q1, g1, _, _⟩ := DataW.trod_int under3 (show _ = some x1 from e1)
    obtain ⟨q2, g2, _⟩ := DataW.trod_bool under4 (show _ = some x2 from e2)
    obtain ⟨q3, g3, _⟩ := DataW.trod_bool under4 (show _ = some x3 from e3)
    refine ⟨⟨q0, q1, q2, q3⟩, ?_⟩
    match cs, hlen with
    | [c0, c1, c2, c3], _ =>
      simp at g0 g1 g2 g3
      rw [g0, g1, g2, g3]
set_option maxRecDepth 100000 in
theorem open_mv {H : Type} {enc : TypeId × Value → H} {W : World} {b0 fuel : Nat} {sp : Nat → Bool} {held : Bool} {cs : List Value} {y : DataW H × List MemPlace}
    (h : DataW.trod enc Try.prog W b0 sp held fuel 42 cs = some y) : ∃ x : Mv, cs = x.cs ∧ 0 ≤ x.va ∧ x.va < 4294967296 := by
  obtain ⟨xs, m, rfl, hy, hlen, hn, hel⟩ := DataW.trod_struct under42 h
  rw [cel42] at hlen
  have hsz : xs.length = 3 := hn
  match xs, hsz with
  | [x0, x1, x2], _ =>
    have e0 : DataW.trod enc Try.prog W b0 sp held m 4 ((cs.drop 0).take (Try.prog.cellsOf 4)) = some x0 := hel 0 _ rfl
    have e1 : DataW.trod enc Try.prog W b0 sp held m 22 ((cs.drop 1).take (Try.prog.cellsOf 22)) = some x1 := hel 1 _ rfl
    have e2 : DataW.trod enc Try.prog W b0 sp held m 40 ((cs.drop 2).take (Try.prog.cellsOf 40)) = some x2 := hel 2 _ rfl
    rw [celB] at e0
    rw [celW] at e1
    rw [cel40] at e2
    obtain ⟨q0, g0, _⟩ := DataW.trod_bool under4 (show _ = some x0 from e0)
    obtain ⟨q1, g1, _, k1⟩ := DataW.trod_int under32 (show _ = some x1 from e1)
    obtain ⟨q2, g2⟩ := open_map (show _ = some x2 from e2)
    refine ⟨⟨q0, q1, q2⟩, ?_, lit_u32 k1⟩
    match cs, hlen with
    | [c0, c1, c2, c3, c4, c5], _ =>
      simp at g0 g1 g2
      obtain ⟨a, b, c, e⟩ := g2
      rw [g0, g1, a, b, c, e]
      rfl
instance : Inhabited Mv := ⟨⟨false, 0, Mp.z⟩⟩
set_option maxRecDepth 100000 in
theorem open_mvs {H : Type} {enc : TypeId × Value → H} {W : World} {base : Nat} {held : Bool} {v : Value} {d : DataW H} {p : List MemPlace}
    (hv : Value.okWide Try.prog W .any base 33 v) (h : DataW.Trod enc Try.prog W 0 (fun _ => true) held 33 v d p) :
    ∃ (ao : Option Addr) (n cp : Nat) (q : Nat → Mv), v = .slice ao n cp ∧ MvAt W ao n q ∧ (n = 0 ∨ ∃ elems spare, d = .slice elems spare ∧ elems.length = n) := by
  obtain ⟨ao, n, cp, rfl⟩ := okWide_slice under33 hv
  obtain ⟨fuel, hf⟩ := h
  obtain ⟨ao', n', cp', b, off, hcs, _, hao, hk, hd⟩ := open_slice under33 cel42 (by decide) hf
  simp only [Value.cells, List.cons.injEq, Value.slice.injEq, and_true] at hcs
  obtain ⟨rfl, rfl, rfl⟩ := hcs
  obtain ⟨F, hF⟩ := pickA (α := Mv) (Q := fun k x => W.rangeAt b (off + k * 6) x.cs ∧ 0 ≤ x.va ∧ x.va < 4294967296) n fun k hkn => by
    obtain ⟨cs, m, y, h1, h2⟩ := hk k hkn
    obtain ⟨x, rfl, hx⟩ := open_mv h2
    exact ⟨x, h1, hx⟩
  exact ⟨ao, n, cp, F, rfl, ⟨fun hn => ⟨b, off, (hao hn).1, (hao hn).2, fun j hj => (hF j hj).1⟩, fun j hj => (hF j hj).2⟩, hd⟩
end Go.Proofs.Ytgbpbfnpeeciaaa
