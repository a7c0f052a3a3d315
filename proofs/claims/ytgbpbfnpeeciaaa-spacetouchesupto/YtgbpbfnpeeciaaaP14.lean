import Derived.Test.YtgbpbfnpeeciaaaP13
namespace Go.Proofs.Ytgbpbfnpeeciaaa
open Go.RowKit Go.Shelf
set_option maxHeartbeats 8000000
set_option maxRecDepth 100000
attribute [local go_sem] Oper.semAt_some
def atC (x : Int × Mp) : List Value := [.int .u32 x.1, .bool x.2.s, .int .i64 x.2.p, .bool x.2.wr, .bool x.2.ex]
def flat (A : List (Int × Mp)) : List Value := A.flatMap atC
theorem flat_snoc (A : List (Int × Mp)) (x : Int × Mp) : flat (A ++ [x]) = flat A ++ atC x := by simp [flat]
structure LJ (w W : World) (f : Fp) (m : MS) (gl bm bl L D : Nat) (l1 : Int) (r : Loop) (A : List (Int × Mp)) (c : Int) : Prop where
  mem : Mem W f (m.wc c)
  but : ButL f.w w W
  cm : Ob W bm (box (.pointer (some ⟨f.gm, 0, none⟩)) 65)
  cl : Ob W bl (box (.int .i64 l1) 3)
  l : Ob W L (.loop r)
  d : Ob W D (.deferred (some []))
  lst : ∃ v, Ob W gl (box v 43) ∧ W.ownsRow w.heap.size 55 5 v A.length (flat A)
theorem ownsRow_same {W W' : World} {b : Nat} {e : TypeId} {size : Nat} {v : Value} {n : Nat} {xs : List Value} (h : W.ownsRow b e size v n xs) (hk : ∀ k cs t z, b ≤ k → W.heap[k]? = some (.cells cs t z) → W'.heap[k]? = W.heap[k]?) : W'.ownsRow b e size v n xs := by
  refine ⟨h.1, h.2.imp id ?_⟩
  rintro ⟨g, cap, cur, rfl, h1, h2, h3⟩
  exact ⟨g, cap, cur, rfl, h1, (hk g _ _ _ h1 h2).trans h2, h3⟩
theorem LJ.st {w W W' : World} {f : Fp} {m : MS} {gl bm bl L D : Nat} {l1 : Int} {r : Loop} {A : List (Int × Mp)} {c c' : Int} {B : Nat} (h : LJ w W f m gl bm bl L D l1 r A c) (hs : St B f W W') (hm : Mem W' f (m.wc c')) (_hB : w.heap.size ≤ B) (hf : ∀ k, w.heap.size ≤ k → k ∉ f.w)
    (h1 : w.heap.size ≤ gl ∧ w.heap.size ≤ bm ∧ w.heap.size ≤ bl ∧ w.heap.size ≤ L ∧ w.heap.size ≤ D) (h2 : L < B ∧ D < B) : LJ w W' f m gl bm bl L D l1 r A c' := by
  obtain ⟨v, hv, ho⟩ := h.lst
  refine ⟨hm, ⟨hs.os.trans h.but.os, hs.tape.trans h.but.tape, hs.output.trans h.but.output, Nat.le_trans h.but.size hs.size, fun k hk hn => (hs.low k (by omega) hn (by have := h.but.size; omega)).trans (h.but.block k hk hn)⟩, (hs.cel _ _ _ _ (hf _ h1.2.1) h.cm).trans h.cm, (hs.cel _ _ _ _ (hf _ h1.2.2.1) h.cl).trans h.cl,
    (hs.low _ h2.1 (hf _ h1.2.2.2.1) h.l.lt).trans h.l, (hs.low _ h2.2 (hf _ h1.2.2.2.2) h.d.lt).trans h.d, v, (hs.cel _ _ _ _ (hf _ h1.1) hv).trans hv, ownsRow_same ho (fun k cs t z hk hc => hs.cel k cs t z (hf k hk) hc)⟩
theorem Ob.free {W : World} {k : Nat} {v : Value} {t : TypeId} (h : Ob W k (box v t)) : W.frozen? ⟨k, 0, none⟩ = false := frozen_of_row W k 0 _ t h
theorem under60 : Try.prog.underlying 43 = some (.slice 55) := by kernel_rfl
theorem info67 : (Try.prog.info? 55).map (fun i => (i.zero, i.size, i.bytes)) = some (some (.agg #[.int .u32 0, .bool false, .int .i64 0, .bool false, .bool false]), 5, 32) := by kernel_rfl
end Go.Proofs.Ytgbpbfnpeeciaaa
