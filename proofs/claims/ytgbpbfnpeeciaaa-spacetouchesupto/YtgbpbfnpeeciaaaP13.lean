import Derived.Test.YtgbpbfnpeeciaaaP12
namespace Go.Proofs.Ytgbpbfnpeeciaaa
open Go.RowKit Go.Shelf
set_option maxHeartbeats 8000000
set_option maxRecDepth 100000
attribute [local go_sem] Oper.semAt_some
def busyOf (r : Loop) : Loop := { r with state := .busy }
theorem yield_b {n l : Nat} {r : Loop} {args : Array Value} {W : World} {R : Ending → World → Prop} (hl : Ob W l (.loop r)) (hst : r.state = .ready) (hp : r.pending = none) (hs : args.size = r.params.size)
    (h : r.assign.wpIn (Fence.wide.inRound l) n Try.prog (Exit.then (fun a₁ w₁ => Ob w₁ l (.loop r) ∧ r.body.wpIn (Fence.wide.inRound l) n Try.prog (fun e _ w₃ => e = .normal ∧ Ob w₃ l (.loop (busyOf r)) ∧ R (.returned (.bool true)) (w₃.putObj l (.loop r))) a₁ (w₁.putObj l (.loop (busyOf r)))) (fun _ _ _ => False))
      { tmps := (r.params.zip args).foldl (fun t (p, v) => t.setIfInBounds p v) r.tmps, defers := [] } W) : YieldAt .wide n Try.prog l args W R := yield_of trivial hl hst hp hs h
end Go.Proofs.Ytgbpbfnpeeciaaa
