/- A Code that came in, opened. -/
import Derived.Test.YtmmphmdmocfnpaaLw
import Derived.Test.YtmmphmdmocfnpaaP4
namespace Go.Proofs.Ytmmphmdmocfnpaa
open Go.ChangeShapes Go.WideShapes Go.ChangeAt Go.RowKit
theorem under43 : Try.prog.underlying 43 = some (.struct (Try.prog.fieldsOf 43)) := by kernel_rfl
theorem cells43 : Try.prog.cellsOf 43 = 10 := by kernel_rfl
theorem cells41 : Try.prog.cellsOf 41 = 4 := by kernel_rfl
set_option maxRecDepth 100000 in
theorem open_map {H : Type} {enc : TypeId × Value → H} {W : World} {b0 fuel : Nat} {sp : Nat → Bool} {held : Bool} {cs : List Value} {y : DataW H × List MemPlace}
    (h : DataW.trod enc Try.prog W b0 sp held fuel 41 cs = some y) : ∃ m : Mp, cs = [.bool m.s, .int .i64 m.p, .bool m.wr, .bool m.ex] := by
  obtain ⟨xs, m, rfl, hy, hlen, hn, hel⟩ := DataW.trod_struct under41 h
  rw [cells41] at hlen
  have hsz : xs.length = 4 := hn
  match xs, hsz with
  | [x0, x1, x2, x3], _ =>
    have e0 : DataW.trod enc Try.prog W b0 sp held m 4 ((cs.drop 0).take (Try.prog.cellsOf 4)) = some x0 := hel 0 _ rfl
    have e1 : DataW.trod enc Try.prog W b0 sp held m 3 ((cs.drop 1).take (Try.prog.cellsOf 3)) = some x1 := hel 1 _ rfl
    have e2 : DataW.trod enc Try.prog W b0 sp held m 4 ((cs.drop 2).take (Try.prog.cellsOf 4)) = some x2 := hel 2 _ rfl
    have e3 : DataW.trod enc Try.prog W b0 sp held m 4 ((cs.drop 3).take (Try.prog.cellsOf 4)) = some x3 := hel 3 _ rfl
    rw [cells3] at e1
    rw [cells4] at e0 e2 e3
    obtain ⟨q0, g0, _⟩ := DataW.trod_bool under4 (show _ = some x0 from e0)
    obtain ⟨q1, g1, _, _⟩ := DataW.trod_int under3 (show _ = some x1 from e1)
    obtain ⟨q2, g2, _⟩ := DataW.trod_bool under4 (show _ = some x2 from e2)
    obtain ⟨q3, g3, _⟩ := DataW.trod_bool under4 (show _ = some x3 from e3)
    refine ⟨⟨q0, q1, q2, q3⟩, ?_⟩
    match cs, hlen with
    | [c0, c1, c2, c3], _ =>
      simp at g0 g1 g2 g3
      rw [g0, g1, g2, g3]
set_option maxRecDepth 100000 in
theorem open_code {H : Type} {enc : TypeId × Value → H} {W : World} {b0 fuel : Nat} {sp : Nat → Bool} {held : Bool} {cs : List Value} {y : DataW H × List MemPlace}
    (h : DataW.trod enc Try.prog W b0 sp held fuel 43 cs = some y) : ∃ (va i j o pg v : Int) (m : Mp), cs = [.int .u32 va, .int .i64 i, .int .i64 j, .int .i64 o, .int .i64 pg, .int .u32 v, .bool m.s, .int .i64 m.p, .bool m.wr, .bool m.ex] ∧ (0 ≤ va ∧ va < 4294967296) ∧ (0 ≤ v ∧ v < 4294967296) := by
  obtain ⟨xs, m, rfl, hy, hlen, hn, hel⟩ := DataW.trod_struct under43 h
  rw [cells43] at hlen
  have hsz : xs.length = 7 := hn
  match xs, hsz with
  | [x0, x1, x2, x3, x4, x5, x6], _ =>
    have e0 : DataW.trod enc Try.prog W b0 sp held m 22 ((cs.drop 0).take (Try.prog.cellsOf 22)) = some x0 := hel 0 _ rfl
    have e1 : DataW.trod enc Try.prog W b0 sp held m 3 ((cs.drop 1).take (Try.prog.cellsOf 3)) = some x1 := hel 1 _ rfl
    have e2 : DataW.trod enc Try.prog W b0 sp held m 3 ((cs.drop 2).take (Try.prog.cellsOf 3)) = some x2 := hel 2 _ rfl
    have e3 : DataW.trod enc Try.prog W b0 sp held m 3 ((cs.drop 3).take (Try.prog.cellsOf 3)) = some x3 := hel 3 _ rfl
    have e4 : DataW.trod enc Try.prog W b0 sp held m 3 ((cs.drop 4).take (Try.prog.cellsOf 3)) = some x4 := hel 4 _ rfl
    have e5 : DataW.trod enc Try.prog W b0 sp held m 22 ((cs.drop 5).take (Try.prog.cellsOf 22)) = some x5 := hel 5 _ rfl
    have e6 : DataW.trod enc Try.prog W b0 sp held m 41 ((cs.drop 6).take (Try.prog.cellsOf 41)) = some x6 := hel 6 _ rfl
    rw [cells3] at e1 e2 e3 e4
    rw [cells22] at e0 e5
    rw [cells41] at e6
    obtain ⟨q0, g0, _, k0⟩ := DataW.trod_int under22 (show _ = some x0 from e0)
    obtain ⟨q1, g1, _, _⟩ := DataW.trod_int under3 (show _ = some x1 from e1)
    obtain ⟨q2, g2, _, _⟩ := DataW.trod_int under3 (show _ = some x2 from e2)
    obtain ⟨q3, g3, _, _⟩ := DataW.trod_int under3 (show _ = some x3 from e3)
    obtain ⟨q4, g4, _, _⟩ := DataW.trod_int under3 (show _ = some x4 from e4)
    obtain ⟨q5, g5, _, k5⟩ := DataW.trod_int under22 (show _ = some x5 from e5)
    obtain ⟨mp, g6⟩ := open_map e6
    refine ⟨q0, q1, q2, q3, q4, q5, mp, ?_, lit_u32 k0, lit_u32 k5⟩
    match cs, hlen with
    | [c0, c1, c2, c3, c4, c5, c6, c7, c8, c9], _ =>
      simp at g0 g1 g2 g3 g4 g5 g6
      rw [g0, g1, g2, g3, g4, g5, g6.1, g6.2.1, g6.2.2.1, g6.2.2.2]
set_option maxRecDepth 100000 in
theorem open_c {H : Type} {enc : TypeId × Value → H} {W : World} {base b0 : Nat} {held : Bool} {v : Value} {d : DataW H} {p : List MemPlace}
    (hv : Value.okWide Try.prog W .any base 43 v) (h : DataW.Trod enc Try.prog W b0 (fun _ => true) held 43 v d p) : ∃ (va i j o pg w : Int) (m : Mp), v = .agg #[.int .u32 va, .int .i64 i, .int .i64 j, .int .i64 o, .int .i64 pg, .int .u32 w, .bool m.s, .int .i64 m.p, .bool m.wr, .bool m.ex] ∧ (0 ≤ va ∧ va < 4294967296) ∧ (0 ≤ w ∧ w < 4294967296) := by
  obtain ⟨cs, rfl, hsz, _⟩ : ∃ cs, v = .agg cs ∧ cs.size = Try.prog.cellsOf 43 ∧ Row.okWide Try.prog W .any base 43 cs := by
    simpa [Value.okWide, under43] using hv
  obtain ⟨fuel, hf⟩ := h
  obtain ⟨va, i, j, o, pg, w, m, hc, h1, h2⟩ := open_code hf
  refine ⟨va, i, j, o, pg, w, m, ?_, h1, h2⟩
  rw [← hc]
  simp [Value.cells]
end Go.Proofs.Ytmmphmdmocfnpaa
