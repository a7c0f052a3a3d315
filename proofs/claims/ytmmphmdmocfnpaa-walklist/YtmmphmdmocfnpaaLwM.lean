/- Mappings that came in, opened. -/
import Derived.Test.YtmmphmdmocfnpaaLwW
import Derived.Test.YtmmphmdmocfnpaaB3
namespace Go.Proofs.Ytmmphmdmocfnpaa
open Go.ChangeShapes Go.WideShapes Go.ChangeAt Go.RowKit
theorem under56 : Try.prog.underlying 56 = some (.slice 90) := by kernel_rfl
theorem under90 : Try.prog.underlying 90 = some (.struct (Try.prog.fieldsOf 90)) := by kernel_rfl
theorem cells90 : Try.prog.cellsOf 90 = 6 := by kernel_rfl
theorem bytes90 : Try.prog.bytesOf 90 = 40 := by kernel_rfl
set_option maxRecDepth 100000 in
theorem open_mg {H : Type} {enc : TypeId × Value → H} {W : World} {b0 fuel : Nat} {sp : Nat → Bool} {held : Bool} {cs : List Value} {y : DataW H × List MemPlace}
    (h : DataW.trod enc Try.prog W b0 sp held fuel 90 cs = some y) : ∃ x : Mg, cs = [.int .i64 x.i, .int .i64 x.j, .bool x.s, .int .i64 x.p, .bool x.wr, .bool x.ex] ∧ x.Ok := by
  obtain ⟨xs, m, rfl, hy, hlen, hn, hel⟩ := DataW.trod_struct under90 h
  rw [cells90] at hlen
  have hsz : xs.length = 6 := hn
  match xs, hsz with
  | [x0, x1, x2, x3, x4, x5], _ =>
    have e0 : DataW.trod enc Try.prog W b0 sp held m 3 ((cs.drop 0).take (Try.prog.cellsOf 3)) = some x0 := hel 0 _ rfl
    have e1 : DataW.trod enc Try.prog W b0 sp held m 3 ((cs.drop 1).take (Try.prog.cellsOf 3)) = some x1 := hel 1 _ rfl
    have e2 : DataW.trod enc Try.prog W b0 sp held m 4 ((cs.drop 2).take (Try.prog.cellsOf 4)) = some x2 := hel 2 _ rfl
    have e3 : DataW.trod enc Try.prog W b0 sp held m 3 ((cs.drop 3).take (Try.prog.cellsOf 3)) = some x3 := hel 3 _ rfl
    have e4 : DataW.trod enc Try.prog W b0 sp held m 4 ((cs.drop 4).take (Try.prog.cellsOf 4)) = some x4 := hel 4 _ rfl
    have e5 : DataW.trod enc Try.prog W b0 sp held m 4 ((cs.drop 5).take (Try.prog.cellsOf 4)) = some x5 := hel 5 _ rfl
    rw [cells3] at e0 e1 e3
    rw [cells4] at e2 e4 e5
    obtain ⟨q0, g0, _, k0⟩ := DataW.trod_int under3 (show _ = some x0 from e0)
    obtain ⟨q1, g1, _, k1⟩ := DataW.trod_int under3 (show _ = some x1 from e1)
    obtain ⟨q2, g2, _⟩ := DataW.trod_bool under4 (show _ = some x2 from e2)
    obtain ⟨q3, g3, _, k3⟩ := DataW.trod_int under3 (show _ = some x3 from e3)
    obtain ⟨q4, g4, _⟩ := DataW.trod_bool under4 (show _ = some x4 from e4)
    obtain ⟨q5, g5, _⟩ := DataW.trod_bool under4 (show _ = some x5 from e5)
    refine ⟨⟨q0, q1, q2, q3, q4, q5⟩, ?_, lit_i64 k0, lit_i64 k1, lit_i64 k3⟩
    match cs, hlen with
    | [c0, c1, c2, c3, c4, c5], _ =>
      simp at g0 g1 g2 g3 g4 g5
      rw [g0, g1, g2, g3, g4, g5]
instance : Inhabited Mg := ⟨⟨0, 0, false, 0, false, false⟩⟩
set_option maxRecDepth 100000 in
theorem open_mgs {H : Type} {enc : TypeId × Value → H} {W : World} {base : Nat} {held : Bool} {v : Value} {d : DataW H} {p : List MemPlace}
    (hv : Value.okWide Try.prog W .any base 56 v) (h : DataW.Trod enc Try.prog W 0 (fun _ => true) held 56 v d p) :
    ∃ (ao : Option Addr) (n cp b off : Nat) (L : Nat → Mg), v = .slice ao n cp ∧ MgAt W ao n b off L ∧ (n = 0 ∨ ∃ elems spare, d = .slice elems spare ∧ elems.length = n) := by
  obtain ⟨ao, n, cp, rfl⟩ := okWide_slice under56 hv
  obtain ⟨fuel, hf⟩ := h
  obtain ⟨ao', n', cp', b, off, hcs, _, hao, hk, hd⟩ := open_slice under56 cells90 (by decide) hf
  simp only [Value.cells, List.cons.injEq, Value.slice.injEq, and_true] at hcs
  obtain ⟨rfl, rfl, rfl⟩ := hcs
  obtain ⟨F, hF⟩ := pickA (α := Mg) (Q := fun k x => W.rangeAt b (off + k * 6) [.int .i64 x.i, .int .i64 x.j, .bool x.s, .int .i64 x.p, .bool x.wr, .bool x.ex] ∧ x.Ok) n fun k hkn => by
    obtain ⟨cs, m, y, h1, h2⟩ := hk k hkn
    obtain ⟨x, rfl, hx⟩ := open_mg h2
    exact ⟨x, h1, hx⟩
  exact ⟨ao, n, cp, b, off, F, rfl, ⟨hao, fun j hj => (hF j hj).1, fun j hj => (hF j hj).2⟩, hd⟩
end Go.Proofs.Ytmmphmdmocfnpaa
