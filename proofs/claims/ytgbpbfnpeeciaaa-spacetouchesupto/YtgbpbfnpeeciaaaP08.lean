import Derived.Test.YtgbpbfnpeeciaaaP07
import Derived.RangeFuncNested
import Derived.RangeFuncLeaves
import Derived.RangeFuncBound
import Derived.RangeFuncCalls
import Derived.Shelf.Abstract
import Derived.Shelf.RegionOpen
import Derived.OwnWalkIn
import Derived.TacticsInMore
import Derived.LoopNIn
import Derived.LoopIn
namespace Go.Proofs.Ytgbpbfnpeeciaaa
open Go.RowKit
set_option maxHeartbeats 4000000
theorem MS.read_p (m : MS) (s : Bool) (p off : Int) (k : Nat) : (m.read s p off).p k = m.p k := by
  unfold MS.read
  split
  · rfl
  · split <;> rfl
theorem MS.read_word (m : MS) (s : Bool) (p off : Int) (s' : Bool) (p' o' : Int) : (m.read s p off).word s' p' o' = m.word s' p' o' := by
  unfold MS.word
  rw [MS.read_at]
  split
  · rfl
  · rw [MS.read_p]
theorem MS.U.read {m : MS} (h : m.U) (s : Bool) (p off : Int) : (m.read s p off).U := fun k j => by rw [MS.read_p]; exact h k j
def MS.wkE (m : MS) (l va : Int) : Int := if spE va = 0 then (if m.f1E l (spI va) = 0 then m.f2E (m.f1 l (spI va)) (spJ va) else m.f1E l (spI va)) else spE va
def MS.wk (m : MS) (l va : Int) : Mp := if spE va = 0 then (if m.f1E l (spI va) = 0 then m.f2 (m.f1 l (spI va)) (spJ va) else Mp.z) else Mp.z
def MS.wkS (m : MS) (l va : Int) : MS := if spE va = 0 then (if m.f1E l (spI va) = 0 then (m.read true l (spI va)).read true (m.f1 l (spI va)) (spJ va) else m.read true l (spI va)) else m
def MS.trE (m : MS) (l va a : Int) : Int := if m.wkE l va = 0 then (if (m.wk l va).al a then 0 else 93) else m.wkE l va
def MS.trS (m : MS) (l va a : Int) : Bool := if m.trE l va a = 0 then (m.wk l va).s else false
def MS.trP (m : MS) (l va a : Int) : Int := if m.trE l va a = 0 then (m.wk l va).p else 0
def MS.trO (m : MS) (l va a : Int) : Int := if m.trE l va a = 0 then spO va else 0
end Go.Proofs.Ytgbpbfnpeeciaaa
namespace Go.Proofs.Ytgbpbfnpeeciaaa
open Go.RowKit
theorem yield_of {F : Fence} {n : Nat} {P : Program} {l : Nat} {r : Loop} {args : Array Value} {W : World} {R : Ending → World → Prop} (hF : F.fn r.fn) (hl : W.heap[l]? = some (.loop r)) (hst : r.state = .ready) (hp : r.pending = none) (hs : args.size = r.params.size)
    (h : r.assign.wpIn (F.inRound l) n P (Exit.then (fun a₁ w₁ => w₁.heap[l]? = some (.loop r) ∧ r.body.wpIn (F.inRound l) n P (fun e _ w₃ => e = .normal ∧ w₃.heap[l]? = some (.loop { r with state := .busy }) ∧ R (.returned (.bool true)) (w₃.putObj l (.loop r))) a₁ (w₁.putObj l (.loop { r with state := .busy }))) (fun _ _ _ => False))
      { tmps := (r.params.zip args).foldl (fun t (p, v) => t.setIfInBounds p v) r.tmps, defers := [] } W) : YieldAt F n P l args W R := by
  have hrr : ({ ({ r with state := .busy } : Loop) with state := .ready, pending := none } : Loop) = r := by
    cases r
    simp only at hst hp
    subst hst hp
    rfl
  refine ⟨r.fn, _, r.assign, r.body, run_yield hl hs, roundIn_of_wpIn hF (wpIn_mono h ?_)⟩
  rintro e a1 w1 hq
  cases e with
  | normal =>
    obtain ⟨h1, hb⟩ := hq
    refine ⟨_, run_beginRound h1 hst, wpIn_mono hb ?_⟩
    rintro e2 a3 w3 ⟨rfl, h3, hR⟩
    have he := run_endRound (P := P) none h3
    simp only [Option.isNone_none, if_true] at he
    rw [hrr] at he
    exact ⟨_, _, he, hR⟩
  | exit id => exact hq.elim
  | goto t => exact hq.elim
  | ret => exact hq.elim
  | panic c => exact hq.elim
  | outgrown => exact hq.elim
def recOf (fn : FuncId) (tmps : Array Value) (ps : Array Tmp) (assign body : Code) (D : Nat) : Loop := { state := .ready, pending := none, fn := fn, tmps := tmps, params := ps, assign := assign, body := body, defers := D }

theorem range_out {F : Fence} {n : Nat} {P : Program} {g : Operand} {ps : Array Tmp} {assign body : Code} {Q : Exit → Act → World → Prop} {a : Act} {w : World} (hro : F.round = none) (hd : F.depth = none) {gf : Nat} {lb : Array Value} (hg : a.eval g = .func (.func gf) #[] lb) (hF : F.fn gf) (eg : ∀ args w, (callFunc gf args).run P w = .ok (.enter gf args) w)
    (h : ∀ fn, F.fn fn → CallsIn F (n - 1) P gf (#[.func (.yield (w.heap.size + 1)) #[] #[]] ++ lb) ((w.alloc (.deferred (some []))).alloc (.loop (recOf fn a.tmps ps assign body w.heap.size))) fun e W2 => (∃ v, e = .returned v) ∧ W2.heap[w.heap.size + 1]? = some (.loop (recOf fn a.tmps ps assign body w.heap.size)) ∧
      Q .normal { a with defers := { target := .collected w.heap.size, args := #[] } :: a.defers } (W2.putObj (w.heap.size + 1) (.loop { recOf fn a.tmps ps assign body w.heap.size with state := .exhausted }))) :
    (Code.rangeFunc g ps assign body).wpIn F n P Q a w := by
  refine wpIn_rangeFunc ?_
  intro fn hfn
  rw [hro]
  have hh := h fn hfn
  obtain ⟨W1, hW1⟩ : ∃ W1, (w.alloc (.deferred (some []))).alloc (.loop (recOf fn a.tmps ps assign body w.heap.size)) = W1 := ⟨_, rfl⟩
  rw [hW1] at hh
  refine ⟨w.heap.size + 1, [{ target := .collected w.heap.size, args := #[] }], W1, { target := .fn (.func gf) lb, args := #[.func (.yield (w.heap.size + 1)) #[] #[]] }, W1, gf,
    #[.func (.yield (w.heap.size + 1)) #[] #[]] ++ lb, W1, ?_, ?_, ?_, ?_, ?_, ?_⟩
  · rw [← hW1]; exact run_enterLoop_outer _ _ _ _ _
  · simp only [resolve, hg]
    simp [go_sem]
  · intro f' hf'; simp [Target.leads] at hf'; subst hf'; exact hF
  · simp [invoke, go_sem, eg]
  · intro hh; rw [hd] at hh; cases hh
  · refine CallsIn.mono hh ?_
    rintro e W2 ⟨⟨v, rfl⟩, hl, hq⟩
    exact ⟨none, _, run_endLoop hl (by simp [recOf]), hq⟩

end Go.Proofs.Ytgbpbfnpeeciaaa
