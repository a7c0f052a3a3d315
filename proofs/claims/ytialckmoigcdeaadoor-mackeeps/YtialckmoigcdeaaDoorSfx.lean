/- A long function walked in several theorems: what follows its first n statements, as a term. -/
import Derived.Test.YtialckmoigcdeaaDoorBase
namespace Go.Proofs.YtialckmoigcdeaaDoor
open Go.RowKit

def sfx : Nat → Code → Code
  | n + 1, .seq _ b => sfx n b
  | _, c => c
theorem sfx_walk {body : Option Code} (n : Nat) {code c' : Code} {Q : Exit → Act → World → Prop} {a : Act} {w : World} (h : body = some code) (h' : sfx n code = c') (hw : Code.wp Tryd.prog c' Q a w) : Code.wp Tryd.prog (sfx n (body.getD .skip)) Q a w := by
  subst h'
  rw [h]
  exact hw
end Go.Proofs.YtialckmoigcdeaaDoor
