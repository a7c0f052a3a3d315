/- A range over a function of our own: the statement; a round. -/
import Derived.RangeFuncNested
import Derived.RangeFuncLeaves
import Derived.RangeFuncBound
import Derived.RangeFuncCalls
import Derived.Shelf.Abstract
import Derived.Shelf.RegionOpen
import Derived.OwnWalkIn
import Derived.TacticsInMore
import Derived.LoopNIn
import Derived.LoopIn
import Derived.Test.YtajkhkaidjjioaaDb
namespace Go.Proofs.Ytajkhkaidjjioaa
open Go.RowKit
/-- One round whose body runs off its end. -/
theorem yield_of {F : Fence} {n : Nat} {P : Program} {l : Nat} {r : Loop} {args : Array Value} {W : World} {R : Ending → World → Prop} (hF : F.fn r.fn) (hl : W.heap[l]? = some (.loop r)) (hst : r.state = .ready) (hp : r.pending = none) (hs : args.size = r.params.size)
    (h : r.assign.wpIn (F.inRound l) n P (Exit.then (fun a₁ w₁ => w₁.heap[l]? = some (.loop r) ∧ r.body.wpIn (F.inRound l) n P (fun e _ w₃ => e = .normal ∧ w₃.heap[l]? = some (.loop { r with state := .busy }) ∧ R (.returned (.bool true)) (w₃.putObj l (.loop r))) a₁ (w₁.putObj l (.loop { r with state := .busy }))) (fun _ _ _ => False))
      { tmps := (r.params.zip args).foldl (fun t (p, v) => t.setIfInBounds p v) r.tmps, defers := [] } W) : YieldAt F n P l args W R := by
  have hrr : ({ ({ r with state := .busy } : Loop) with state := .ready, pending := none } : Loop) = r := by
    cases r
    simp only at hst hp
    subst hst hp
    rfl
  refine ⟨r.fn, _, r.assign, r.body, run_yield hl hs, roundIn_of_wpIn hF (wpIn_mono h ?_)⟩
  rintro e a1 w1 hq
  cases e with
  | normal =>
    obtain ⟨h1, hb⟩ := hq
    refine ⟨_, run_beginRound h1 hst, wpIn_mono hb ?_⟩
    rintro e2 a3 w3 ⟨rfl, h3, hR⟩
    have he := run_endRound (P := P) none h3
    simp only [Option.isNone_none, if_true] at he
    rw [hrr] at he
    exact ⟨_, _, he, hR⟩
  | exit id => exact hq.elim
  | goto t => exact hq.elim
  | ret => exact hq.elim
  | panic c => exact hq.elim
  | outgrown => exact hq.elim
/-- The record of a loop that begins. -/
def recOf (fn : FuncId) (tmps : Array Value) (ps : Array Tmp) (assign body : Code) (D : Nat) : Loop := { state := .ready, pending := none, fn := fn, tmps := tmps, params := ps, assign := assign, body := body, defers := D }

theorem range_out {F : Fence} {n : Nat} {P : Program} {g : Operand} {ps : Array Tmp} {assign body : Code} {Q : Exit → Act → World → Prop} {a : Act} {w : World} (hro : F.round = none) (hd : F.depth = none) {gf : Nat} {lb : Array Value} (hg : a.eval g = .func (.func gf) #[] lb) (hF : F.fn gf) (eg : ∀ args w, (callFunc gf args).run P w = .ok (.enter gf args) w)
    (h : ∀ fn, F.fn fn → CallsIn F (n - 1) P gf (#[.func (.yield (w.heap.size + 1)) #[] #[]] ++ lb) ((w.alloc (.deferred (some []))).alloc (.loop (recOf fn a.tmps ps assign body w.heap.size))) fun e W2 => (∃ v, e = .returned v) ∧ W2.heap[w.heap.size + 1]? = some (.loop (recOf fn a.tmps ps assign body w.heap.size)) ∧
      Q .normal { a with defers := { target := .collected w.heap.size, args := #[] } :: a.defers } (W2.putObj (w.heap.size + 1) (.loop { recOf fn a.tmps ps assign body w.heap.size with state := .exhausted }))) :
    (Code.rangeFunc g ps assign body).wpIn F n P Q a w := by
  refine wpIn_rangeFunc ?_
  intro fn hfn
  rw [hro]
  have hh := h fn hfn
  obtain ⟨W1, hW1⟩ : ∃ W1, (w.alloc (.deferred (some []))).alloc (.loop (recOf fn a.tmps ps assign body w.heap.size)) = W1 := ⟨_, rfl⟩
  rw [hW1] at hh
  refine ⟨w.heap.size + 1, [{ target := .collected w.heap.size, args := #[] }], W1, { target := .fn (.func gf) lb, args := #[.func (.yield (w.heap.size + 1)) #[] #[]] }, W1, gf,
    #[.func (.yield (w.heap.size + 1)) #[] #[]] ++ lb, W1, ?_, ?_, ?_, ?_, ?_, ?_⟩
  · rw [← hW1]; exact run_enterLoop_outer _ _ _ _ _
  · simp only [resolve, hg]
    simp [go_sem]
  · intro f' hf'; simp [Target.leads] at hf'; subst hf'; exact hF
  · simp [invoke, go_sem, eg]
  · intro hh; rw [hd] at hh; cases hh
  · refine CallsIn.mono hh ?_
    rintro e W2 ⟨⟨v, rfl⟩, hl, hq⟩
    exact ⟨none, _, run_endLoop hl (by simp [recOf]), hq⟩

theorem range_in {F : Fence} {n : Nat} {P : Program} {g : Operand} {ps : Array Tmp} {assign body : Code} {Q : Exit → Act → World → Prop} {a : Act} {w : World} {l₀ : Nat} {r₀ : Loop} (hro : F.round = some l₀) (h0 : w.heap[l₀]? = some (.loop r₀)) (hd : F.depth = none) {gf : Nat} {lb : Array Value} (hg : a.eval g = .func (.func gf) #[] lb) (hF : F.fn gf) (eg : ∀ args w, (callFunc gf args).run P w = .ok (.enter gf args) w)
    (h : ∀ fn, F.fn fn → CallsIn F (n - 1) P gf (#[.func (.yield w.heap.size) #[] #[]] ++ lb) (w.alloc (.loop (recOf fn a.tmps ps assign body r₀.defers))) fun e W2 => (∃ v, e = .returned v) ∧ W2.heap[w.heap.size]? = some (.loop (recOf fn a.tmps ps assign body r₀.defers)) ∧
      Q .normal a (W2.putObj w.heap.size (.loop { recOf fn a.tmps ps assign body r₀.defers with state := .exhausted }))) :
    (Code.rangeFunc g ps assign body).wpIn F n P Q a w := by
  refine wpIn_rangeFunc ?_
  intro fn hfn
  rw [hro]
  have hh := h fn hfn
  obtain ⟨W1, hW1⟩ : ∃ W1, w.alloc (.loop (recOf fn a.tmps ps assign body r₀.defers)) = W1 := ⟨_, rfl⟩
  rw [hW1] at hh
  refine ⟨w.heap.size, [], W1, { target := .fn (.func gf) lb, args := #[.func (.yield w.heap.size) #[] #[]] }, W1, gf,
    #[.func (.yield w.heap.size) #[] #[]] ++ lb, W1, ?_, ?_, ?_, ?_, ?_, ?_⟩
  · rw [← hW1]; exact run_enterLoop_inner h0 _ _ _ _ _
  · simp only [resolve, hg]
    simp [go_sem]
  · intro f' hf'; simp [Target.leads] at hf'; subst hf'; exact hF
  · simp [invoke, go_sem, eg]
  · intro hh; rw [hd] at hh; cases hh
  · refine CallsIn.mono hh ?_
    rintro e W2 ⟨⟨v, rfl⟩, hl, hq⟩
    exact ⟨none, _, run_endLoop hl (by simp [recOf]), hq⟩
/-- An object at a block. -/
def Ob (W : World) (k : Nat) (o : Obj) : Prop := W.heap[k]? = some o
theorem Ob.lt {W : World} {k : Nat} {o : Obj} (h : Ob W k o) : k < W.heap.size := (Array.getElem?_eq_some_iff.1 h).1
theorem Ob.on {W W' : World} {k : Nat} {o : Obj} (h : Ob W k o) (hb : Below W.heap.size W W') : Ob W' k o := (hb.block k h.lt).trans h
theorem Ob.but {W W' : World} {k : Nat} {o : Obj} {G : List Nat} (h : Ob W k o) (hb : ButL G W W') (hk : k ∉ G) : Ob W' k o := (hb.block k h.lt hk).trans h
def box (v : Value) (t : TypeId) : Obj := .cells #[v] t (0, 0)
theorem Ob.cell {W : World} {k : Nat} {v : Value} {t : TypeId} (h : Ob W k (box v t)) : W.cell? ⟨k, 0, none⟩ = some v := by
  rw [cell_of_row W k 0 _ t (0, 0) h]; rfl
theorem Ob.free {W : World} {k : Nat} {v : Value} {t : TypeId} (h : Ob W k (box v t)) : W.frozen? ⟨k, 0, none⟩ = false := frozen_of_row W k 0 _ t h
theorem putObj_but (W : World) (k : Nat) (o : Obj) : ButL [k] W (W.putObj k o) :=
  ⟨rfl, rfl, rfl, by simp [World.putObj], fun j _ hj => World.putObj_heap_other (by rw [List.mem_singleton] at hj; exact hj)⟩
theorem Ob.put {W : World} {k : Nat} {o : Obj} (h : Ob W k o) (o' : Obj) : Ob (W.putObj k o') k o' := World.putObj_heap_same h.lt
theorem Ob.ne {W : World} {j k : Nat} {o o' : Obj} (h : Ob W j o) (h' : Ob W k o') (hn : o.isCells ≠ o'.isCells) : j ≠ k := by
  rintro rfl
  unfold Ob at h h'
  rw [h] at h'
  cases h'
  exact hn rfl
/-- A block that is no row of cells is none of a database's. -/
theorem DB.ob {W : World} {p : Dp} {d : DS} (h : DB W p d) {k : Nat} {o : Obj} (ho : Ob W k o) (hn : o.isCells = false) : k ∉ p.all := by
  intro hk
  have hc : ∃ cs t, Cel W k t cs := by
    simp only [Dp.all, Fp.all, List.mem_cons] at hk
    rcases hk with rfl | rfl | rfl | rfl | rfl | hk
    · exact ⟨_, _, h.cel⟩
    · exact ⟨_, _, h.wds⟩
    · exact ⟨_, _, h.mem.cel⟩
    · exact ⟨_, _, h.mem.sec⟩
    · exact ⟨_, _, h.mem.ins⟩
    · obtain ⟨i, hi, rfl⟩ := List.mem_iff_getElem.1 hk
      have hi' : i < d.m.P.length := by rw [← h.mem.len]; exact hi
      have := h.mem.pg i hi'
      unfold Fp.b at this
      rw [List.getD_eq_getElem?_getD, List.getElem?_eq_getElem hi] at this
      exact ⟨_, _, this⟩
  obtain ⟨cs, t, hc⟩ := hc
  unfold Cel at hc
  rw [show W.heap[k]? = some o from ho] at hc
  cases hc
  cases hn
def busyOf (r : Loop) : Loop := { r with state := .busy }
theorem yield_b {n l : Nat} {r : Loop} {args : Array Value} {W : World} {R : Ending → World → Prop} (hl : Ob W l (.loop r)) (hst : r.state = .ready) (hp : r.pending = none) (hs : args.size = r.params.size)
    (h : r.assign.wpIn (Fence.wide.inRound l) n Try.prog (Exit.then (fun a₁ w₁ => Ob w₁ l (.loop r) ∧ r.body.wpIn (Fence.wide.inRound l) n Try.prog (fun e _ w₃ => e = .normal ∧ Ob w₃ l (.loop (busyOf r)) ∧ R (.returned (.bool true)) (w₃.putObj l (.loop r))) a₁ (w₁.putObj l (.loop (busyOf r)))) (fun _ _ _ => False))
      { tmps := (r.params.zip args).foldl (fun t (p, v) => t.setIfInBounds p v) r.tmps, defers := [] } W) : YieldAt .wide n Try.prog l args W R := yield_of trivial hl hst hp hs h
end Go.Proofs.Ytajkhkaidjjioaa
