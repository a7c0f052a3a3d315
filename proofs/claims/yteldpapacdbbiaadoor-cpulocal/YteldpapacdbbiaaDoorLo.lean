/- CpuLocal: its place opened. -/
import Derived.Test.YteldpapacdbbiaaDoorLa
import Derived.Test.YteldpapacdbbiaaDoorCf
namespace Go.Proofs.YteldpapacdbbiaaDoor
open Go.ChangeShapes Go.WideShapes Go.ChangeAt Go.RowKit
set_option maxRecDepth 100000
theorem cells48 : Tryd.prog.cellsOf 48 = 3 := by kernel_rfl
theorem under_u32 : Tryd.prog.underlying 23 = some (.int .u32) := by kernel_rfl
theorem open_place {H : Type} {enc : TypeId × Value → H} {W : World} {base : Nat} {v : Value} {d : DataW H} {p : List MemPlace}
    (hv : Value.okWide Tryd.prog W .any base 48 v) (h : DataW.Trod enc Tryd.prog W 0 (fun _ => true) true 48 v d p) :
    ∃ (s : Bool) (p o : Int), v = .agg (plc s p o).toArray := by
  obtain ⟨cs, rfl, hsz, _⟩ : ∃ cs, v = .agg cs ∧ cs.size = Tryd.prog.cellsOf 48 ∧ Row.okWide Tryd.prog W .any base 48 cs := by
    simpa [Value.okWide, under48] using hv
  obtain ⟨fuel, hf⟩ := h
  obtain ⟨xs, m, rfl, hy, hlen, hn, hel⟩ := DataW.trod_struct under48 hf
  rw [cells48] at hlen
  have hs2 : xs.length = 2 := hn
  match xs, hs2 with
  | [x0, x1], _ =>
    have e0 : DataW.trod enc Tryd.prog W 0 (fun _ => true) true m 46 (((Value.agg cs).cells.toList.drop 0).take (Tryd.prog.cellsOf 46)) = some x0 := hel 0 _ rfl
    have e1 : DataW.trod enc Tryd.prog W 0 (fun _ => true) true m 3 (((Value.agg cs).cells.toList.drop 2).take (Tryd.prog.cellsOf 3)) = some x1 := hel 1 _ rfl
    rw [cells46] at e0
    rw [cells3] at e1
    have hcs : (Value.agg cs).cells = cs := by simp [Value.cells]
    rw [hcs] at e0 e1 hlen
    obtain ⟨ys, m', rfl, hy0, hl0, hn0, hel0⟩ := DataW.trod_struct under46 e0
    have hsz0 : ys.length = 2 := hn0
    match ys, hsz0 with
    | [y0, y1], _ =>
      have f0 : DataW.trod enc Tryd.prog W 0 (fun _ => true) true m' 4 ((((cs.toList.drop 0).take 2).drop 0).take (Tryd.prog.cellsOf 4)) = some y0 := hel0 0 _ rfl
      have f1 : DataW.trod enc Tryd.prog W 0 (fun _ => true) true m' 3 ((((cs.toList.drop 0).take 2).drop 1).take (Tryd.prog.cellsOf 3)) = some y1 := hel0 1 _ rfl
      rw [cells4] at f0
      rw [cells3] at f1
      obtain ⟨q0, g0, _⟩ := DataW.trod_bool under4 (show _ = some y0 from f0)
      obtain ⟨q1, g1, _, _⟩ := DataW.trod_int under3 (show _ = some y1 from f1)
      obtain ⟨q2, g2, _, _⟩ := DataW.trod_int under3 (show _ = some x1 from e1)
      refine ⟨q0, q1, q2, ?_⟩
      obtain ⟨l⟩ := cs
      simp only at g0 g1 g2 hlen
      match l, hlen with
      | [c0, c1, c2], _ =>
        simp at g0 g1 g2
        rw [g0, g1, g2]
        rfl
end Go.Proofs.YteldpapacdbbiaaDoor
