import Derived.RangeFuncNested
import Derived.RangeFuncLeaves
import Derived.RangeFuncBound
import Derived.RangeFuncCalls
import Derived.Shelf.Abstract
import Derived.Shelf.RegionOpen
import Derived.OwnWalkIn
import Derived.TacticsInMore
import Derived.LoopNIn
import Derived.LoopIn
import Derived.Test.YtgbpbfnpeeciaaaGreatP28
namespace Go.Proofs.YtgbpbfnpeeciaaaGreat
open Go.RowKit
theorem yield_of {F : Fence} {n : Nat} {P : Program} {l : Nat} {r : Loop} {args : Array Value} {W : World} {R : Ending → World → Prop} (hF : F.fn r.fn) (hl : W.heap[l]? = some (.loop r)) (hst : r.state = .ready) (hp : r.pending = none) (hs : args.size = r.params.size)
    (h : r.assign.wpIn (F.inRound l) n P (Exit.then (fun a₁ w₁ => w₁.heap[l]? = some (.loop r) ∧ r.body.wpIn (F.inRound l) n P (fun e _ w₃ => e = .normal ∧ w₃.heap[l]? = some (.loop { r with state := .busy }) ∧ R (.returned (.bool true)) (w₃.putObj l (.loop r))) a₁ (w₁.putObj l (.loop { r with state := .busy }))) (fun _ _ _ => False))
      { tmps := (r.params.zip args).foldl (fun t (p, v) => t.setIfInBounds p v) r.tmps, defers := [] } W) : YieldAt F n P l args W R := by
  have hrr : ({ ({ r with state := .busy } : Loop) with state := .ready, pending := none } : Loop) = r := by
    cases r
    simp only at hst hp
    subst hst hp
    rfl
  refine ⟨r.fn, _, r.assign, r.body, run_yield hl hs, roundIn_of_wpIn hF (wpIn_mono h ?_)⟩
  rintro e a1 w1 hq
  cases e with
  | normal =>
    obtain ⟨h1, hb⟩ := hq
    refine ⟨_, run_beginRound h1 hst, wpIn_mono hb ?_⟩
    rintro e2 a3 w3 ⟨rfl, h3, hR⟩
    have he := run_endRound (P := P) none h3
    simp only [Option.isNone_none, if_true] at he
    rw [hrr] at he
    exact ⟨_, _, he, hR⟩
  | exit id => exact hq.elim
  | goto t => exact hq.elim
  | ret => exact hq.elim
  | panic c => exact hq.elim
  | outgrown => exact hq.elim
def recOf (fn : FuncId) (tmps : Array Value) (ps : Array Tmp) (assign body : Code) (D : Nat) : Loop := { state := .ready, pending := none, fn := fn, tmps := tmps, params := ps, assign := assign, body := body, defers := D }

theorem range_out {F : Fence} {n : Nat} {P : Program} {g : Operand} {ps : Array Tmp} {assign body : Code} {Q : Exit → Act → World → Prop} {a : Act} {w : World} (hro : F.round = none) (hd : F.depth = none) {gf : Nat} {lb : Array Value} (hg : a.eval g = .func (.func gf) #[] lb) (hF : F.fn gf) (eg : ∀ args w, (callFunc gf args).run P w = .ok (.enter gf args) w)
    (h : ∀ fn, F.fn fn → CallsIn F (n - 1) P gf (#[.func (.yield (w.heap.size + 1)) #[] #[]] ++ lb) ((w.alloc (.deferred (some []))).alloc (.loop (recOf fn a.tmps ps assign body w.heap.size))) fun e W2 => (∃ v, e = .returned v) ∧ W2.heap[w.heap.size + 1]? = some (.loop (recOf fn a.tmps ps assign body w.heap.size)) ∧
      Q .normal { a with defers := { target := .collected w.heap.size, args := #[] } :: a.defers } (W2.putObj (w.heap.size + 1) (.loop { recOf fn a.tmps ps assign body w.heap.size with state := .exhausted }))) :
    (Code.rangeFunc g ps assign body).wpIn F n P Q a w := by
  refine wpIn_rangeFunc ?_
  intro fn hfn
  rw [hro]
  have hh := h fn hfn
  obtain ⟨W1, hW1⟩ : ∃ W1, (w.alloc (.deferred (some []))).alloc (.loop (recOf fn a.tmps ps assign body w.heap.size)) = W1 := ⟨_, rfl⟩
  rw [hW1] at hh
  refine ⟨w.heap.size + 1, [{ target := .collected w.heap.size, args := #[] }], W1, { target := .fn (.func gf) lb, args := #[.func (.yield (w.heap.size + 1)) #[] #[]] }, W1, gf,
    #[.func (.yield (w.heap.size + 1)) #[] #[]] ++ lb, W1, ?_, ?_, ?_, ?_, ?_, ?_⟩
  · rw [← hW1]; exact run_enterLoop_outer _ _ _ _ _
  · simp only [resolve, hg]
    simp [go_sem]
  · intro f' hf'; simp [Target.leads] at hf'; subst hf'; exact hF
  · simp [invoke, go_sem, eg]
  · intro hh; rw [hd] at hh; cases hh
  · refine CallsIn.mono hh ?_
    rintro e W2 ⟨⟨v, rfl⟩, hl, hq⟩
    exact ⟨none, _, run_endLoop hl (by simp [recOf]), hq⟩

end Go.Proofs.YtgbpbfnpeeciaaaGreat
namespace Go.Proofs.YtgbpbfnpeeciaaaGreat
open Go.RowKit Go.Shelf
set_option maxHeartbeats 8000000
set_option maxRecDepth 100000
structure EB (W : World) (bw bm bt bp bf : Nat) (gm : Nat) (t : Int) (words : Nat) (fp ff : Nat) : Prop where
  w : W.cell? ⟨bw, 0, none⟩ = some (.int .i64 (words : Int))
  m : W.cell? ⟨bm, 0, none⟩ = some (.pointer (some ⟨gm, 0, none⟩))
  t : W.cell? ⟨bt, 0, none⟩ = some (.int .i64 t)
  p : W.cell? ⟨bp, 0, none⟩ = some (.func (.func fp) #[] #[])
  f : W.cell? ⟨bf, 0, none⟩ = some (.func (.func ff) #[] #[])
end Go.Proofs.YtgbpbfnpeeciaaaGreat
namespace Go.Proofs.YtgbpbfnpeeciaaaGreat
open Go.RowKit Go.Shelf
set_option maxHeartbeats 8000000
set_option maxRecDepth 100000
end Go.Proofs.YtgbpbfnpeeciaaaGreat
namespace Go.Proofs.YtgbpbfnpeeciaaaGreat
open Go.RowKit Go.Shelf
set_option maxHeartbeats 8000000
set_option maxRecDepth 100000
def Ob (W : World) (k : Nat) (o : Obj) : Prop := W.heap[k]? = some o
theorem Ob.lt {W : World} {k : Nat} {o : Obj} (h : Ob W k o) : k < W.heap.size := (Array.getElem?_eq_some_iff.1 h).1
theorem Ob.on {W W' : World} {k : Nat} {o : Obj} (h : Ob W k o) (hb : Below W.heap.size W W') : Ob W' k o := (hb.block k h.lt).trans h
def box (v : Value) (t : TypeId) : Obj := .cells #[v] t (0, 0)
theorem Ob.cell {W : World} {k : Nat} {v : Value} {t : TypeId} (h : Ob W k (box v t)) : W.cell? ⟨k, 0, none⟩ = some v := by
  rw [cell_of_row W k 0 _ t (0, 0) h]; rfl
structure FB (W W' : World) (bw bm bt bp bf : Nat) (gm : Nat) (t : Int) (words : Nat) (fp ff : Nat) (tp tf : TypeId) : Prop where
  w : Ob W' bw (box (.int .i64 (words : Int)) 3)
  m : Ob W' bm (box (.pointer (some ⟨gm, 0, none⟩)) 36)
  t : Ob W' bt (box (.int .i64 t) 3)
  p : Ob W' bp (box (.func (.func fp) #[] #[]) tp)
  f : Ob W' bf (box (.func (.func ff) #[] #[]) tf)
  lo : W.heap.size ≤ bw ∧ W.heap.size ≤ bm ∧ W.heap.size ≤ bt ∧ W.heap.size ≤ bp ∧ W.heap.size ≤ bf
  below : Below W.heap.size W W'
theorem five (W : World) (gm : Nat) (t : Int) (words fp ff : Nat) (tp tf : TypeId) :
    FB W (((((W.alloc (.cells #[.pointer (some ⟨gm, 0, none⟩)] 36)).alloc (.cells #[.int .i64 t] 3)).alloc (.cells #[.int .i64 (words : Int)] 3)).alloc (.cells #[.func (.func fp) #[] #[]] tp)).alloc (.cells #[.func (.func ff) #[] #[]] tf)) (W.heap.size + 1 + 1) W.heap.size (W.heap.size + 1) (W.heap.size + 1 + 1 + 1) (W.heap.size + 1 + 1 + 1 + 1) gm t words fp ff tp tf := by
  have h0 : ∀ (w : World) (o : Obj), Ob (w.alloc o) w.heap.size o := fun w o => heap_alloc_new _ _
  have hs : ∀ (w : World) (o : Obj), (w.alloc o).heap.size = w.heap.size + 1 := fun w o => World.size_alloc _ _
  have hb : ∀ (w : World) (o : Obj), Below w.heap.size w (w.alloc o) := below_one
  have a0 := h0 W (.cells #[.pointer (some ⟨gm, 0, none⟩)] 36)
  generalize e1 : W.alloc (.cells #[.pointer (some ⟨gm, 0, none⟩)] 36) = w1 at *
  have s1 : w1.heap.size = W.heap.size + 1 := by rw [← e1]; exact hs _ _
  have b1 : Below W.heap.size W w1 := by rw [← e1]; exact hb _ _
  have a1 := h0 w1 (.cells #[.int .i64 t] 3)
  generalize e2 : w1.alloc (.cells #[.int .i64 t] 3) = w2 at *
  have s2 : w2.heap.size = w1.heap.size + 1 := by rw [← e2]; exact hs _ _
  have b2 : Below w1.heap.size w1 w2 := by rw [← e2]; exact hb _ _
  have a2 := h0 w2 (.cells #[.int .i64 (words : Int)] 3)
  generalize e3 : w2.alloc (.cells #[.int .i64 (words : Int)] 3) = w3 at *
  have s3 : w3.heap.size = w2.heap.size + 1 := by rw [← e3]; exact hs _ _
  have b3 : Below w2.heap.size w2 w3 := by rw [← e3]; exact hb _ _
  have a3 := h0 w3 (.cells #[.func (.func fp) #[] #[]] tp)
  generalize e4 : w3.alloc (.cells #[.func (.func fp) #[] #[]] tp) = w4 at *
  have s4 : w4.heap.size = w3.heap.size + 1 := by rw [← e4]; exact hs _ _
  have b4 : Below w3.heap.size w3 w4 := by rw [← e4]; exact hb _ _
  have a4 := h0 w4 (.cells #[.func (.func ff) #[] #[]] tf)
  generalize e5 : w4.alloc (.cells #[.func (.func ff) #[] #[]] tf) = w5 at *
  have b5 : Below w4.heap.size w4 w5 := by rw [← e5]; exact hb _ _
  rw [s1] at a1
  rw [s2, s1] at a2
  rw [s3, s2, s1] at a3
  rw [s4, s3, s2, s1] at a4
  exact ⟨((a2.on b4).on b5), (((a0.on b2).on b3).on b4).on b5, ((a1.on b3).on b4).on b5, a3.on b5, a4, ⟨by omega, by omega, by omega, by omega, by omega⟩, below_on (below_on (below_on (below_on b1 b2) b3) b4) b5⟩
end Go.Proofs.YtgbpbfnpeeciaaaGreat
namespace Go.Proofs.YtgbpbfnpeeciaaaGreat
open Go.RowKit Go.Shelf
def notL : Obj → Bool
  | .cells _ t _ => t != 177
  | _ => true
structure St (B : Nat) (f : Fp) (W W' : World) : Prop where
  os : W'.os = W.os
  tape : W'.tape = W.tape
  output : W'.output = W.output
  size : W.heap.size ≤ W'.heap.size
  low : ∀ k, k < B → k ∉ f.w → k < W.heap.size → W'.heap[k]? = W.heap[k]?
  cel : ∀ k cs t z, k ∉ f.w → W.heap[k]? = some (.cells cs t z) → W'.heap[k]? = W.heap[k]?
theorem St.refl (B : Nat) (f : Fp) (W : World) : St B f W W := ⟨rfl, rfl, rfl, Nat.le_refl _, fun _ _ _ _ => rfl, fun _ _ _ _ _ _ => rfl⟩
theorem St.trans {B : Nat} {f : Fp} {a b c : World} (h : St B f a b) (h' : St B f b c) : St B f a c :=
  ⟨h'.os.trans h.os, h'.tape.trans h.tape, h'.output.trans h.output, Nat.le_trans h.size h'.size, fun k hk hf hl => (h'.low k hk hf (by have := h.size; omega)).trans (h.low k hk hf hl),
   fun k cs t z hf hc => (h'.cel k cs t z hf ((h.cel k cs t z hf hc).trans hc)).trans (h.cel k cs t z hf hc)⟩
theorem St.of {B : Nat} {f : Fp} {W W' : World} (h : ButL f.w W W') : St B f W W' :=
  ⟨h.os, h.tape, h.output, h.size, fun k _ hf hl => h.block k hl hf, fun k _ _ _ hf hc => h.block k (Array.getElem?_eq_some_iff.1 hc).1 hf⟩
theorem St.on {B : Nat} {f : Fp} {a W W' : World} (h : St B f a W) (hb : Below W.heap.size W W') : St B f a W' := h.trans (.of (.of hb))
theorem putObj_but (W : World) (k : Nat) (o : Obj) : ButL [k] W (W.putObj k o) :=
  ⟨rfl, rfl, rfl, by simp [World.putObj], fun j _ hj => World.putObj_heap_other (by rw [List.mem_singleton] at hj; exact hj)⟩
theorem St.put {B : Nat} {f : Fp} {a W : World} (h : St B f a W) {k : Nat} (hk : B ≤ k) {o : Obj} (ho : Ob W k o) (hn : o.isCells = false) (o' : Obj) : St B f a (W.putObj k o') := by
  have hp := putObj_but W k o'
  refine h.trans ⟨hp.os, hp.tape, hp.output, hp.size, fun j hj _ hl => hp.block j hl (by rw [List.mem_singleton]; omega), fun j cs t z _ hc => hp.block j (Array.getElem?_eq_some_iff.1 hc).1 ?_⟩
  rw [List.mem_singleton]
  rintro rfl
  rw [show W.heap[j]? = some o from ho] at hc
  cases hc
  cases hn
structure Kq (B : Nat) (W W' : World) : Prop where
  size : W.heap.size ≤ W'.heap.size
  keep : ∀ k o, B ≤ k → Ob W k o → notL o = true → Ob W' k o
theorem Kq.refl (B : Nat) (W : World) : Kq B W W := ⟨Nat.le_refl _, fun _ _ _ h _ => h⟩
def Obs (W : World) (l : List (Nat × Obj)) : Prop := ∀ p ∈ l, Ob W p.1 p.2
def Okl (B : Nat) (f : Fp) (l : List (Nat × Obj)) : Prop := ∀ p ∈ l, B ≤ p.1 ∧ notL p.2 = true ∧ p.1 ∉ f.w
theorem Obs.on {W W' : World} {l : List (Nat × Obj)} (h : Obs W l) (hb : Below W.heap.size W W') : Obs W' l := fun p hp => (h p hp).on hb
theorem Obs.but {W W' : World} {l : List (Nat × Obj)} {G : List Nat} (h : Obs W l) (hb : ButL G W W') (hG : ∀ p ∈ l, p.1 ∉ G) : Obs W' l := fun p hp => (hb.block p.1 (h p hp).lt (hG p hp)).trans (h p hp)
theorem Obs.mem {W W' : World} {l : List (Nat × Obj)} {B : Nat} {f : Fp} (h : Obs W l) (hb : ButL f.w W W') (hl : Okl B f l) : Obs W' l := h.but hb (fun p hp => (hl p hp).2.2)
theorem Obs.put {W : World} {l : List (Nat × Obj)} (h : Obs W l) {k : Nat} (o' : Obj) (hk : ∀ p ∈ l, p.1 ≠ k) : Obs (W.putObj k o') l := h.but (putObj_but W k o') (fun p hp => by rw [List.mem_singleton]; exact hk p hp)
theorem Ob.put {W : World} {k : Nat} {o : Obj} (h : Ob W k o) (o' : Obj) : Ob (W.putObj k o') k o' := World.putObj_heap_same h.lt
theorem Ob.ne {W : World} {j k : Nat} {o o' : Obj} (h : Ob W j o) (h' : Ob W k o') (hn : o.isCells ≠ o'.isCells) : j ≠ k := by
  rintro rfl
  unfold Ob at h h'
  rw [h] at h'
  cases h'
  exact hn rfl
theorem Mem.ob {W : World} {f : Fp} {m : MS} (h : Mem W f m) {k : Nat} {o : Obj} (ho : Ob W k o) (hn : o.isCells = false) : k ∉ f.all := by
  intro hk
  have hc : ∃ cs t, Cel W k t cs := by
    simp only [Fp.all, List.mem_cons] at hk
    rcases hk with rfl | rfl | rfl | hk
    · exact ⟨_, _, h.cel⟩
    · exact ⟨_, _, h.sec⟩
    · exact ⟨_, _, h.ins⟩
    · obtain ⟨i, hi, rfl⟩ := List.mem_iff_getElem.1 hk
      have hi' : i < m.P.length := by rw [← h.len]; exact hi
      have := h.pg i hi'
      unfold Fp.b at this
      rw [List.getD_eq_getElem?_getD, List.getElem?_eq_getElem hi] at this
      exact ⟨_, _, this⟩
  obtain ⟨cs, t, hc⟩ := hc
  unfold Cel at hc
  rw [show W.heap[k]? = some o from ho] at hc
  cases hc
  cases hn
def MS.wc (m : MS) (c : Int) : MS := { m with c := c }
theorem MS.wc_read (m : MS) (c : Int) (s : Bool) (p o : Int) : (m.wc c).read s p o = m.wc ((m.wc c).read s p o).c := by
  rw [MS.read_eq]
  split <;> rfl
end Go.Proofs.YtgbpbfnpeeciaaaGreat
namespace Go.Proofs.YtgbpbfnpeeciaaaGreat
open Go.RowKit Go.Shelf
set_option maxHeartbeats 8000000
set_option maxRecDepth 100000
attribute [local go_sem] Oper.semAt_some
def busyOf (r : Loop) : Loop := { r with state := .busy }
theorem yield_b {n l : Nat} {r : Loop} {args : Array Value} {W : World} {R : Ending → World → Prop} (hl : Ob W l (.loop r)) (hst : r.state = .ready) (hp : r.pending = none) (hs : args.size = r.params.size)
    (h : r.assign.wpIn (Fence.wide.inRound l) n Tryz.prog (Exit.then (fun a₁ w₁ => Ob w₁ l (.loop r) ∧ r.body.wpIn (Fence.wide.inRound l) n Tryz.prog (fun e _ w₃ => e = .normal ∧ Ob w₃ l (.loop (busyOf r)) ∧ R (.returned (.bool true)) (w₃.putObj l (.loop r))) a₁ (w₁.putObj l (.loop (busyOf r)))) (fun _ _ _ => False))
      { tmps := (r.params.zip args).foldl (fun t (p, v) => t.setIfInBounds p v) r.tmps, defers := [] } W) : YieldAt .wide n Tryz.prog l args W R := yield_of trivial hl hst hp hs h
end Go.Proofs.YtgbpbfnpeeciaaaGreat
namespace Go.Proofs.YtgbpbfnpeeciaaaGreat
open Go.RowKit Go.Shelf
set_option maxHeartbeats 8000000
set_option maxRecDepth 100000
attribute [local go_sem] Oper.semAt_some
def atC (x : Int × Mp) : List Value := [.int .u32 x.1, .bool x.2.s, .int .i64 x.2.p, .bool x.2.wr, .bool x.2.ex]
def flat (A : List (Int × Mp)) : List Value := A.flatMap atC
theorem flat_snoc (A : List (Int × Mp)) (x : Int × Mp) : flat (A ++ [x]) = flat A ++ atC x := by simp [flat]
theorem ownsRow_same {W W' : World} {b : Nat} {e : TypeId} {size : Nat} {v : Value} {n : Nat} {xs : List Value} (h : W.ownsRow b e size v n xs) (hk : ∀ k cs t z, b ≤ k → W.heap[k]? = some (.cells cs t z) → W'.heap[k]? = W.heap[k]?) : W'.ownsRow b e size v n xs := by
  refine ⟨h.1, h.2.imp id ?_⟩
  rintro ⟨g, cap, cur, rfl, h1, h2, h3⟩
  exact ⟨g, cap, cur, rfl, h1, (hk g _ _ _ h1 h2).trans h2, h3⟩
theorem Ob.free {W : World} {k : Nat} {v : Value} {t : TypeId} (h : Ob W k (box v t)) : W.frozen? ⟨k, 0, none⟩ = false := frozen_of_row W k 0 _ t h
theorem under60 : Tryz.prog.underlying 95 = some (.slice 177) := by kernel_rfl
theorem info67 : (Tryz.prog.info? 177).map (fun i => (i.zero, i.size, i.bytes)) = some (some (.agg #[.int .u32 0, .bool false, .int .i64 0, .bool false, .bool false]), 5, 32) := by kernel_rfl
end Go.Proofs.YtgbpbfnpeeciaaaGreat
