import Derived.Test.YtgbpbfnpeeciaaaGreatP01
import Derived.Test.YtgbpbfnpeeciaaaGreatP44
namespace Go.Proofs.YtgbpbfnpeeciaaaGreat
open Go.ChangeShapes Go.WideShapes Go.ChangeAt Go.RowKit
theorem u3 : Tryz.prog.underlying 3 = some (.int .i64) := by kernel_rfl
theorem u4 : Tryz.prog.underlying 4 = some .bool := by kernel_rfl
theorem u29 : Tryz.prog.underlying 29 = some (.int .u32) := by kernel_rfl
theorem u24 : Tryz.prog.underlying 24 = some (.slice 33) := by kernel_rfl
theorem u31 : Tryz.prog.underlying 31 = some (.struct (Tryz.prog.fieldsOf 31)) := by kernel_rfl
theorem cel23 : Tryz.prog.cellsOf 23 = 2 := by kernel_rfl
theorem cel33 : Tryz.prog.cellsOf 33 = 10 := by kernel_rfl
theorem cel31m : Tryz.prog.cellsOf 31 = 4 := by kernel_rfl
theorem byt33 : Tryz.prog.bytesOf 33 = 72 := by kernel_rfl
theorem pickA {α : Type} [Inhabited α] {Q : Nat → α → Prop} (n : Nat) (h : ∀ k, k < n → ∃ x, Q k x) : ∃ f : Nat → α, ∀ k, k < n → Q k (f k) :=
  ⟨fun k => if hk : k < n then (h k hk).choose else default, fun k hk => by simp only [hk, dif_pos]; exact (h k hk).choose_spec⟩
set_option maxRecDepth 100000 in
theorem open_map {H : Type} {enc : TypeId × Value → H} {W : World} {b0 fuel : Nat} {sp : Nat → Bool} {held : Bool} {cs : List Value} {y : DataW H × List MemPlace}
    (h : DataW.trod enc Tryz.prog W b0 sp held fuel 31 cs = some y) : ∃ m : Mp, cs = [.bool m.s, .int .i64 m.p, .bool m.wr, .bool m.ex] := by
  obtain ⟨xs, m, rfl, hy, hlen, hn, hel⟩ := DataW.trod_struct u31 h
  rw [cel31m] at hlen
  have hsz : xs.length = 4 := hn
  match xs, hsz with
  | [x0, x1, x2, x3], _ =>
    have e0 : DataW.trod enc Tryz.prog W b0 sp held m 4 ((cs.drop 0).take (Tryz.prog.cellsOf 4)) = some x0 := hel 0 _ rfl
    have e1 : DataW.trod enc Tryz.prog W b0 sp held m 3 ((cs.drop 1).take (Tryz.prog.cellsOf 3)) = some x1 := hel 1 _ rfl
    have e2 : DataW.trod enc Tryz.prog W b0 sp held m 4 ((cs.drop 2).take (Tryz.prog.cellsOf 4)) = some x2 := hel 2 _ rfl
    have e3 : DataW.trod enc Tryz.prog W b0 sp held m 4 ((cs.drop 3).take (Tryz.prog.cellsOf 4)) = some x3 := hel 3 _ rfl
    rw [celI] at e1
    rw [celB] at e0 e2 e3
    obtain ⟨q0, g0, _⟩ := DataW.trod_bool u4 (show _ = some x0 from e0)
    obtain ⟨q1, g1, _, _⟩ := DataW.trod_int u3 (show _ = some x1 from e1)
    obtain ⟨q2, g2, _⟩ := DataW.trod_bool u4 (show _ = some x2 from e2)
    obtain ⟨q3, g3, _⟩ := DataW.trod_bool u4 (show _ = some x3 from e3)
    refine ⟨⟨q0, q1, q2, q3⟩, ?_⟩
    match cs, hlen with
    | [c0, c1, c2, c3], _ =>
      simp at g0 g1 g2 g3
      rw [g0, g1, g2, g3]
set_option maxRecDepth 100000 in
theorem open_op {H : Type} {enc : TypeId × Value → H} {W : World} {b0 fuel : Nat} {sp : Nat → Bool} {held : Bool} {cs : List Value} {y : DataW H × List MemPlace}
    (h : DataW.trod enc Tryz.prog W b0 sp held fuel 33 cs = some y) : ∃ x : Oq, cs = x.cs ∧ 0 ≤ x.v ∧ x.v < 4294967296 := by
  obtain ⟨xs, m, rfl, hy, hlen, hn, hel⟩ := DataW.trod_struct under33 h
  rw [cel33] at hlen
  have hsz : xs.length = 7 := hn
  match xs, hsz with
  | [x0, x1, x2, x3, x4, x5, x6], _ =>
    have e0 : DataW.trod enc Tryz.prog W b0 sp held m 3 ((cs.drop 0).take (Tryz.prog.cellsOf 3)) = some x0 := hel 0 _ rfl
    have e1 : DataW.trod enc Tryz.prog W b0 sp held m 3 ((cs.drop 1).take (Tryz.prog.cellsOf 3)) = some x1 := hel 1 _ rfl
    have e2 : DataW.trod enc Tryz.prog W b0 sp held m 3 ((cs.drop 2).take (Tryz.prog.cellsOf 3)) = some x2 := hel 2 _ rfl
    have e3 : DataW.trod enc Tryz.prog W b0 sp held m 3 ((cs.drop 3).take (Tryz.prog.cellsOf 3)) = some x3 := hel 3 _ rfl
    have e4 : DataW.trod enc Tryz.prog W b0 sp held m 29 ((cs.drop 4).take (Tryz.prog.cellsOf 29)) = some x4 := hel 4 _ rfl
    have e5 : DataW.trod enc Tryz.prog W b0 sp held m 31 ((cs.drop 5).take (Tryz.prog.cellsOf 31)) = some x5 := hel 5 _ rfl
    have e6 : DataW.trod enc Tryz.prog W b0 sp held m 4 ((cs.drop 9).take (Tryz.prog.cellsOf 4)) = some x6 := hel 6 _ rfl
    rw [celI] at e0 e1 e2 e3
    rw [celB] at e6
    rw [celW] at e4
    rw [cel31m] at e5
    obtain ⟨q0, g0, _, _⟩ := DataW.trod_int u3 (show _ = some x0 from e0)
    obtain ⟨q1, g1, _, _⟩ := DataW.trod_int u3 (show _ = some x1 from e1)
    obtain ⟨q2, g2, _, _⟩ := DataW.trod_int u3 (show _ = some x2 from e2)
    obtain ⟨q3, g3, _, _⟩ := DataW.trod_int u3 (show _ = some x3 from e3)
    obtain ⟨q4, g4, _, k4⟩ := DataW.trod_int u29 (show _ = some x4 from e4)
    obtain ⟨q5, g5⟩ := open_map (show _ = some x5 from e5)
    obtain ⟨q6, g6, _⟩ := DataW.trod_bool u4 (show _ = some x6 from e6)
    refine ⟨⟨q0, q1, q2, q3, q4, q5, q6⟩, ?_, lit_u32 k4⟩
    match cs, hlen with
    | [c0, c1, c2, c3, c4, c5, c6, c7, c8, c9], _ =>
      simp at g0 g1 g2 g3 g4 g5 g6
      obtain ⟨a, b, c, e⟩ := g5
      rw [g0, g1, g2, g3, g4, a, b, c, e, g6]
      rfl
instance : Inhabited Oq := ⟨⟨0, 0, 0, 0, 0, Mp.z, false⟩⟩
set_option maxRecDepth 100000 in
theorem open_ops {H : Type} {enc : TypeId × Value → H} {W : World} {base : Nat} {held : Bool} {v : Value} {d : DataW H} {p : List MemPlace}
    (hv : Value.okWide Tryz.prog W .any base 24 v) (h : DataW.Trod enc Tryz.prog W 0 (fun _ => true) held 24 v d p) :
    ∃ (ao : Option Addr) (n cp : Nat) (q : Nat → Oq), v = .slice ao n cp ∧ OpsAt W ao n q ∧ (n = 0 ∨ ∃ elems spare, d = .slice elems spare ∧ elems.length = n) := by
  obtain ⟨ao, n, cp, rfl⟩ := okWide_slice u24 hv
  obtain ⟨fuel, hf⟩ := h
  obtain ⟨ao', n', cp', b, off, hcs, _, hao, hk, hd⟩ := open_slice u24 cel33 (by decide) hf
  simp only [Value.cells, List.cons.injEq, Value.slice.injEq, and_true] at hcs
  obtain ⟨rfl, rfl, rfl⟩ := hcs
  obtain ⟨F, hF⟩ := pickA (α := Oq) (Q := fun k x => W.rangeAt b (off + k * 10) x.cs ∧ 0 ≤ x.v ∧ x.v < 4294967296) n fun k hkn => by
    obtain ⟨cs, m, y, h1, h2⟩ := hk k hkn
    obtain ⟨x, rfl, hx⟩ := open_op h2
    exact ⟨x, h1, hx⟩
  exact ⟨ao, n, cp, F, rfl, ⟨fun hn => ⟨b, off, (hao hn).1, (hao hn).2, fun j hj => (hF j hj).1⟩, fun j hj => (hF j hj).2⟩, hd⟩
set_option maxRecDepth 100000 in
theorem open_mach {H : Type} {enc : TypeId × Value → H} {W : World} {base : Nat} {held : Bool} {v : Value} {d : DataW H} {p : List MemPlace}
    (hv : Value.okWide Tryz.prog W .any base 23 v) (h : DataW.Trod enc Tryz.prog W 0 (fun _ => true) held 23 v d p) :
    ∃ a b : Int, v = .agg #[.int .i64 a, .int .i64 b] := by
  obtain ⟨cs, rfl, hsz, _⟩ : ∃ cs, v = .agg cs ∧ cs.size = Tryz.prog.cellsOf 23 ∧ Row.okWide Tryz.prog W .any base 23 cs := by
    simpa [Value.okWide, under23] using hv
  obtain ⟨fuel, hf⟩ := h
  obtain ⟨xs, m, rfl, hy, hlen, hn, hel⟩ := DataW.trod_struct under23 hf
  obtain ⟨cs⟩ := cs
  have hlen' : cs.length = 2 := by simpa [cel23] using hsz
  have hsz' : xs.length = 2 := hn
  match xs, hsz' with
  | [x0, x1], _ =>
    have e0 : DataW.trod enc Tryz.prog W 0 (fun _ => true) held m 3 ((cs.drop 0).take (Tryz.prog.cellsOf 3)) = some x0 := hel 0 _ rfl
    have e1 : DataW.trod enc Tryz.prog W 0 (fun _ => true) held m 3 ((cs.drop 1).take (Tryz.prog.cellsOf 3)) = some x1 := hel 1 _ rfl
    rw [celI] at e0 e1
    obtain ⟨q0, g0, _, _⟩ := DataW.trod_int u3 (show _ = some x0 from e0)
    obtain ⟨q1, g1, _, _⟩ := DataW.trod_int u3 (show _ = some x1 from e1)
    match cs, hlen' with
    | [c0, c1], _ =>
      simp at g0 g1
      exact ⟨q0, q1, by rw [g0, g1]⟩
end Go.Proofs.YtgbpbfnpeeciaaaGreat
