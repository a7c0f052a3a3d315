/- Words that came in, opened: a nil list besides. -/
import Derived.Test.YthpkodkilbcepaaLwB
namespace Go.Proofs.Ythpkodkilbcepaa
open Go.ChangeShapes Go.WideShapes Go.ChangeAt Go.RowKit
theorem words_nil {H : Type} {enc : TypeId × Value → H} {W : World} {fuel : Nat} {held : Bool} {ao : Option Addr} {n cap : Nat} {y0 : DataW H × List MemPlace}
    (hf : DataW.trod enc Try.prog W 0 (fun _ => true) held fuel 45 [.slice ao n cap] = some y0) : ao = none → n = 0 ∧ cap = 0 := by
  intro h
  subst h
  rcases DataW.trod_slice under45' hf with ⟨hcs, hx⟩ | ⟨a, len, cap', elems, rest, m, rfl, hcs, hx, hb0, hl, hm, hlen, hel, hsp, hns⟩
  · simp only [List.cons.injEq, Value.slice.injEq, true_and, and_true] at hcs
    exact hcs
  · simp only [List.cons.injEq, Value.slice.injEq, reduceCtorEq, false_and] at hcs
end Go.Proofs.Ythpkodkilbcepaa
