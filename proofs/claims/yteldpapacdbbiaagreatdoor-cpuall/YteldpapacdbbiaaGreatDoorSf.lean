/- WalkBack (3): its loop. -/
import Derived.Test.YteldpapacdbbiaaGreatDoorMb
namespace Go.Proofs.YteldpapacdbbiaaGreatDoor
open Go.RowKit
set_option maxHeartbeats 8000000
set_option maxRecDepth 100000
def sfx : Nat → Code → Code
  | n + 1, .seq _ b => sfx n b
  | _, c => c
def hdx (n : Nat) (c : Code) : Code := match sfx n c with
  | .seq x _ => x
  | c => c
theorem hd_walk {body : Option Code} (n : Nat) {code x y : Code} {Q : Exit → Act → World → Prop} {K : Act → World → Prop} {a : Act} {w : World} (h : body = some code) (h' : hdx n code = x) (h2 : sfx (n + 1) code = y)
    (hK : ∀ a w, Code.wp Tryz.prog (sfx (n + 1) (body.getD .skip)) Q a w → K a w) (hw : (∀ a w, Code.wp Tryz.prog y Q a w → K a w) → Code.wp Tryz.prog x (Exit.then K Q) a w) : Code.wp Tryz.prog (hdx n (body.getD .skip)) (Exit.then K Q) a w := by
  subst h' h2
  rw [h] at hK ⊢
  exact hw hK
end Go.Proofs.YteldpapacdbbiaaGreatDoor
