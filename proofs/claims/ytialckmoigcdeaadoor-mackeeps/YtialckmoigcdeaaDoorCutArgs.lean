import Derived.Test.YtialckmoigcdeaaDoorLaw
namespace Go.Proofs.YtialckmoigcdeaaDoor
open Go.ChangeShapes Go.WideShapes Go.ChangeAt Go.RowKit

theorem cells39 : Tryd.prog.cellsOf 39 = 3 := by kernel_rfl
set_option maxRecDepth 20000 in
/-- A cut that came in. -/
theorem open_cut {H : Type} {enc : TypeId × Value → H} {W : World} {base : Nat} {v : Value} {d : DataW H} {p : List MemPlace}
    (hv : Value.okWide Tryd.prog W .any base 39 v) (h : DataW.Trod enc Tryd.prog W 0 (fun _ => true) true 39 v d p) (hb : ∀ z ∈ d.weights Tryd.prog 39, z ≤ reachBytes) :
    ∃ ka kn kc ks ma mn mc xs aa an ac zs, v = .agg #[.slice ka kn kc, .slice ma mn mc, .slice aa an ac] ∧
      (ks.length = kn ∧ Wds ks ∧ At W .u32 ka ks ∧ kn ≤ kc ∧ Sl ka kc ∧ 4 * kn ≤ 140737488351232 ∧ kc ≤ 9223372036854775807) ∧
      (xs.length = mn ∧ Wds xs ∧ At W .u32 ma xs ∧ mn ≤ mc ∧ Sl ma mc ∧ 4 * mn ≤ 140737488351232 ∧ mc ≤ 9223372036854775807) ∧
      (zs.length = an ∧ At W .i64 aa zs ∧ an ≤ 9223372036854775807) := by
  obtain ⟨cs, rfl, hsz, _⟩ : ∃ cs, v = .agg cs ∧ cs.size = Tryd.prog.cellsOf 39 ∧ Row.okWide Tryd.prog W .any base 39 cs := by
    simpa [Value.okWide, Tryd.underlying39] using hv
  obtain ⟨fuel, hf⟩ := h
  obtain ⟨xs, m, rfl, hy, hlen, hn, hel⟩ := DataW.trod_struct Tryd.underlying39 hf
  obtain ⟨cs⟩ := cs
  have hlen' : cs.length = 3 := by simpa [cells39] using hsz
  have hsz' : xs.length = 3 := hn
  match cs, hlen' with
  | [v0, v1, v2], _ =>
    match xs, hsz' with
    | [x0, x1, x2], _ =>
      have e0 : DataW.trod enc Tryd.prog W 0 (fun _ => true) true m 35 (([v0, v1, v2].drop 0).take (Tryd.prog.cellsOf 35)) = some x0 := hel 0 _ rfl
      have e1 : DataW.trod enc Tryd.prog W 0 (fun _ => true) true m 35 (([v0, v1, v2].drop 1).take (Tryd.prog.cellsOf 35)) = some x1 := hel 1 _ rfl
      have e2 : DataW.trod enc Tryd.prog W 0 (fun _ => true) true m 37 (([v0, v1, v2].drop 2).take (Tryd.prog.cellsOf 37)) = some x2 := hel 2 _ rfl
      rw [cells35] at e0 e1
      rw [cells37] at e2
      obtain ⟨ka, kn, kc, ks, g0, l0, w0, t0, u0, s0, m0, b0⟩ := open_cells Tryd.underlying35 Tryd.underlying25 cells25 (show _ = some x0 from e0)
      obtain ⟨ma, mn, mc, ms, g1, l1, w1, t1, u1, s1, m1, b1⟩ := open_cells Tryd.underlying35 Tryd.underlying25 cells25 (show _ = some x1 from e1)
      obtain ⟨aa, an, ac, asl, g2, l2, w2, t2, u2, s2, m2, b2⟩ := open_cells Tryd.underlying37 Tryd.underlying3 cells3 (show _ = some x2 from e2)
      simp at g0 g1 g2
      subst g0 g1 g2
      have q0 : 4 * kn ≤ 140737488351232 := by
        rcases b0 with rfl | ⟨elems, spare, he, hl⟩
        · decide
        · have hz := hb ((elems.length + spare.length) * Tryd.prog.bytesOf 25) (by
            rw [show d = _ from congrArg Prod.fst hy]
            simp only [DataW.weights, Tryd.underlying39, List.map_cons, List.map_nil, DataW.weightsEach, he, Tryd.underlying35]
            simp)
          rw [bytes25] at hz
          simp only [reachBytes] at hz
          omega
      have q1 : 4 * mn ≤ 140737488351232 := by
        rcases b1 with rfl | ⟨elems, spare, he, hl⟩
        · decide
        · have hz := hb ((elems.length + spare.length) * Tryd.prog.bytesOf 25) (by
            rw [show d = _ from congrArg Prod.fst hy]
            simp only [DataW.weights, Tryd.underlying39, List.map_cons, List.map_nil, DataW.weightsEach, he, Tryd.underlying35]
            simp)
          rw [bytes25] at hz
          simp only [reachBytes] at hz
          omega
      exact ⟨ka, kn, kc, ks, ma, mn, mc, ms, aa, an, ac, asl, rfl, ⟨l0, wds_of w0, t0, u0, s0, q0, by unfold maxLen at m0; omega⟩, ⟨l1, wds_of w1, t1, u1, s1, q1, by unfold maxLen at m1; omega⟩, ⟨l2, t2, by unfold maxLen at m2; omega⟩⟩
end Go.Proofs.YtialckmoigcdeaaDoor
