/- A keying that came in. -/
import Derived.Test.YtialckmoigcdeaaDoorLaw
namespace Go.Proofs.YtialckmoigcdeaaDoor
open Go.ChangeShapes Go.WideShapes Go.ChangeAt Go.RowKit

theorem cells24 : Tryd.prog.cellsOf 24 = 5 := by kernel_rfl
set_option maxRecDepth 20000 in
theorem open_keying {H : Type} {enc : TypeId × Value → H} {W : World} {base : Nat} {v : Value} {d : DataW H} {p : List MemPlace}
    (hv : Value.okWide Tryd.prog W .any base 24 v) (h : DataW.Trod enc Tryd.prog W 0 (fun _ => true) true 24 v d p) (hb : ∀ z ∈ d.weights Tryd.prog 24, z ≤ reachBytes) :
    ∃ sa sn sc ss ea en ec es ia il ic is N M, v = .agg #[.slice sa sn sc, .slice ea en ec, .slice ia il ic, .int .i64 N, .int .i64 M] ∧
      (ss.length = sn ∧ Bts ss ∧ At W .u8 sa ss ∧ sn ≤ sc ∧ Sl sa sc ∧ sn ≤ 140737488351232 ∧ sc ≤ 9223372036854775807) ∧
      (es.length = en ∧ Bts es ∧ At W .u8 ea es ∧ en ≤ ec ∧ Sl ea ec ∧ en ≤ 140737488351232 ∧ ec ≤ 9223372036854775807) ∧
      (is.length = il ∧ Bts is ∧ At W .u8 ia is ∧ il ≤ ic ∧ Sl ia ic ∧ il ≤ 140737488351232 ∧ ic ≤ 9223372036854775807) := by
  obtain ⟨cs, rfl, hsz, _⟩ : ∃ cs, v = .agg cs ∧ cs.size = Tryd.prog.cellsOf 24 ∧ Row.okWide Tryd.prog W .any base 24 cs := by
    simpa [Value.okWide, Tryd.underlying24] using hv
  obtain ⟨fuel, hf⟩ := h
  obtain ⟨xs, m, rfl, hy, hlen, hn, hel⟩ := DataW.trod_struct Tryd.underlying24 hf
  obtain ⟨cs⟩ := cs
  have hlen' : cs.length = 5 := by simpa [cells24] using hsz
  have hsz' : xs.length = 5 := hn
  match cs, hlen' with
  | [v0, v1, v2, v3, v4], _ =>
    match xs, hsz' with
    | [x0, x1, x2, x3, x4], _ =>
      have e0 : DataW.trod enc Tryd.prog W 0 (fun _ => true) true m 22 (([v0, v1, v2, v3, v4].drop 0).take (Tryd.prog.cellsOf 22)) = some x0 := hel 0 _ rfl
      have e1 : DataW.trod enc Tryd.prog W 0 (fun _ => true) true m 22 (([v0, v1, v2, v3, v4].drop 1).take (Tryd.prog.cellsOf 22)) = some x1 := hel 1 _ rfl
      have e2 : DataW.trod enc Tryd.prog W 0 (fun _ => true) true m 22 (([v0, v1, v2, v3, v4].drop 2).take (Tryd.prog.cellsOf 22)) = some x2 := hel 2 _ rfl
      have e3 : DataW.trod enc Tryd.prog W 0 (fun _ => true) true m 3 (([v0, v1, v2, v3, v4].drop 3).take (Tryd.prog.cellsOf 3)) = some x3 := hel 3 _ rfl
      have e4 : DataW.trod enc Tryd.prog W 0 (fun _ => true) true m 3 (([v0, v1, v2, v3, v4].drop 4).take (Tryd.prog.cellsOf 3)) = some x4 := hel 4 _ rfl
      rw [cells22] at e0 e1 e2
      rw [cells3] at e3 e4
      obtain ⟨sa, sn, sc, ss, g0, l0, w0, t0, u0, s0, m0, b0⟩ := open_cells Tryd.underlying22 Tryd.underlying5 cells5 (show _ = some x0 from e0)
      obtain ⟨ea, en, ec, es, g1, l1, w1, t1, u1, s1, m1, b1⟩ := open_cells Tryd.underlying22 Tryd.underlying5 cells5 (show _ = some x1 from e1)
      obtain ⟨ia, il, ic, is, g2, l2, w2, t2, u2, s2, m2, b2⟩ := open_cells Tryd.underlying22 Tryd.underlying5 cells5 (show _ = some x2 from e2)
      obtain ⟨N, g3, _, _⟩ := DataW.trod_int Tryd.underlying3 (show _ = some x3 from e3)
      obtain ⟨M, g4, _, _⟩ := DataW.trod_int Tryd.underlying3 (show _ = some x4 from e4)
      simp at g0 g1 g2 g3 g4
      subst g0 g1 g2 g3 g4
      have q0 : sn ≤ 140737488351232 := by
        rcases b0 with rfl | ⟨elems, spare, he, hl⟩
        · decide
        · have hz := hb ((elems.length + spare.length) * Tryd.prog.bytesOf 5) (by
            rw [show d = _ from congrArg Prod.fst hy]
            simp only [DataW.weights, Tryd.underlying24, List.map_cons, List.map_nil, DataW.weightsEach, he, Tryd.underlying22]
            simp)
          rw [bytes5] at hz
          simp only [reachBytes] at hz
          omega
      have q1 : en ≤ 140737488351232 := by
        rcases b1 with rfl | ⟨elems, spare, he, hl⟩
        · decide
        · have hz := hb ((elems.length + spare.length) * Tryd.prog.bytesOf 5) (by
            rw [show d = _ from congrArg Prod.fst hy]
            simp only [DataW.weights, Tryd.underlying24, List.map_cons, List.map_nil, DataW.weightsEach, he, Tryd.underlying22]
            simp)
          rw [bytes5] at hz
          simp only [reachBytes] at hz
          omega
      have q2 : il ≤ 140737488351232 := by
        rcases b2 with rfl | ⟨elems, spare, he, hl⟩
        · decide
        · have hz := hb ((elems.length + spare.length) * Tryd.prog.bytesOf 5) (by
            rw [show d = _ from congrArg Prod.fst hy]
            simp only [DataW.weights, Tryd.underlying24, List.map_cons, List.map_nil, DataW.weightsEach, he, Tryd.underlying22]
            simp)
          rw [bytes5] at hz
          simp only [reachBytes] at hz
          omega
      exact ⟨sa, sn, sc, ss, ea, en, ec, es, ia, il, ic, is, N, M, rfl, ⟨l0, bts_of w0, t0, u0, s0, q0, by unfold maxLen at m0; omega⟩, ⟨l1, bts_of w1, t1, u1, s1, q1, by unfold maxLen at m1; omega⟩, ⟨l2, bts_of w2, t2, u2, s2, q2, by unfold maxLen at m2; omega⟩⟩
end Go.Proofs.YtialckmoigcdeaaDoor
