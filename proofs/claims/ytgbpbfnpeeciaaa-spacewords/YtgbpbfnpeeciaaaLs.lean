/- Arguments opened. -/
import Derived.Test.YtgbpbfnpeeciaaaLw
import Derived.Test.YtgbpbfnpeeciaaaM4
namespace Go.Proofs.Ytgbpbfnpeeciaaa
open Go.ChangeShapes Go.WideShapes Go.ChangeAt Go.RowKit
set_option maxRecDepth 100000
theorem under23 : Try.prog.underlying 23 = some (.array 2 4) := by kernel_rfl
theorem cel23 : Try.prog.cellsOf 23 = 2 := by kernel_rfl
theorem open_two {H : Type} {enc : TypeId × Value → H} {W : World} {base b0 : Nat} {held : Bool} {v : Value} {d : DataW H} {p : List MemPlace} {t : TypeId}
    (ht : Try.prog.underlying t = some (.array 2 4)) (hct : Try.prog.cellsOf t = 2) (hv : Value.okWide Try.prog W .any base t v) (h : DataW.Trod enc Try.prog W b0 (fun _ => true) held t v d p) :
    ∃ a b : Bool, v = .agg #[.bool a, .bool b] := by
  obtain ⟨cs, rfl, hsz, _⟩ : ∃ cs, v = .agg cs ∧ cs.size = Try.prog.cellsOf t ∧ Row.okWide Try.prog W .any base t cs := by
    simpa [Value.okWide, ht] using hv
  rw [hct] at hsz
  obtain ⟨fuel, hf⟩ := h
  obtain ⟨ys, m, _, _, _, hl, hel⟩ := DataW.trod_array ht hf
  have key : ∀ i, i < 2 → ∃ b : Bool, cs.toList[i]? = some (.bool b) := fun i hi => by
    have hE := hel i hi
    rw [celB, Nat.mul_one, List.getElem?_eq_getElem (by omega)] at hE
    obtain ⟨z, e1, _⟩ := DataW.trod_bool under4 hE
    refine ⟨z, ?_⟩
    have h0 : (((Value.cells (.agg cs)).toList.drop i).take 1)[0]? = some (.bool z) := by rw [e1]; rfl
    simpa [Value.cells, List.getElem?_take, List.getElem?_drop] using h0
  obtain ⟨a, ha⟩ := key 0 (by decide)
  obtain ⟨b, hb⟩ := key 1 (by decide)
  refine ⟨a, b, ?_⟩
  obtain ⟨l⟩ := cs
  match l, hsz with
  | [x, y], _ => simp at ha hb; rw [ha, hb]
end Go.Proofs.Ytgbpbfnpeeciaaa
