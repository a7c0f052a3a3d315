/- What stays: blocks as objects. -/
import Derived.Test.YtmmphmdmocfnpaaIt3
namespace Go.Proofs.Ytmmphmdmocfnpaa
open Go.RowKit Go.Shelf
def notL : Obj → Bool
  | .cells _ t _ => t != 67
  | _ => true
/-- What a step of the iterators' own leaves: cells that are none of the memory's, and all below. -/
structure St (B : Nat) (f : Fp) (W W' : World) : Prop where
  os : W'.os = W.os
  tape : W'.tape = W.tape
  output : W'.output = W.output
  size : W.heap.size ≤ W'.heap.size
  low : ∀ k, k < B → k ∉ f.w → k < W.heap.size → W'.heap[k]? = W.heap[k]?
  cel : ∀ k cs t z, k ∉ f.w → W.heap[k]? = some (.cells cs t z) → W'.heap[k]? = W.heap[k]?
theorem St.refl (B : Nat) (f : Fp) (W : World) : St B f W W := ⟨rfl, rfl, rfl, Nat.le_refl _, fun _ _ _ _ => rfl, fun _ _ _ _ _ _ => rfl⟩
theorem St.trans {B : Nat} {f : Fp} {a b c : World} (h : St B f a b) (h' : St B f b c) : St B f a c :=
  ⟨h'.os.trans h.os, h'.tape.trans h.tape, h'.output.trans h.output, Nat.le_trans h.size h'.size, fun k hk hf hl => (h'.low k hk hf (by have := h.size; omega)).trans (h.low k hk hf hl),
   fun k cs t z hf hc => (h'.cel k cs t z hf ((h.cel k cs t z hf hc).trans hc)).trans (h.cel k cs t z hf hc)⟩
theorem St.of {B : Nat} {f : Fp} {W W' : World} (h : ButL f.w W W') : St B f W W' :=
  ⟨h.os, h.tape, h.output, h.size, fun k _ hf hl => h.block k hl hf, fun k _ _ _ hf hc => h.block k (Array.getElem?_eq_some_iff.1 hc).1 hf⟩
theorem St.on {B : Nat} {f : Fp} {a W W' : World} (h : St B f a W) (hb : Below W.heap.size W W') : St B f a W' := h.trans (.of (.of hb))
theorem putObj_but (W : World) (k : Nat) (o : Obj) : ButL [k] W (W.putObj k o) :=
  ⟨rfl, rfl, rfl, by simp [World.putObj], fun j _ hj => World.putObj_heap_other (by rw [List.mem_singleton] at hj; exact hj)⟩
theorem St.put {B : Nat} {f : Fp} {a W : World} (h : St B f a W) {k : Nat} (hk : B ≤ k) {o : Obj} (ho : Ob W k o) (hn : o.isCells = false) (o' : Obj) : St B f a (W.putObj k o') := by
  have hp := putObj_but W k o'
  refine h.trans ⟨hp.os, hp.tape, hp.output, hp.size, fun j hj _ hl => hp.block j hl (by rw [List.mem_singleton]; omega), fun j cs t z _ hc => hp.block j (Array.getElem?_eq_some_iff.1 hc).1 ?_⟩
  rw [List.mem_singleton]
  rintro rfl
  rw [show W.heap[j]? = some o from ho] at hc
  cases hc
  cases hn
/-- What a round of List's keeps of the blocks from B on. -/
structure Kq (B : Nat) (W W' : World) : Prop where
  size : W.heap.size ≤ W'.heap.size
  keep : ∀ k o, B ≤ k → Ob W k o → notL o = true → Ob W' k o
theorem Kq.refl (B : Nat) (W : World) : Kq B W W := ⟨Nat.le_refl _, fun _ _ _ h _ => h⟩
/-- Several objects. -/
def Obs (W : World) (l : List (Nat × Obj)) : Prop := ∀ p ∈ l, Ob W p.1 p.2
def Okl (B : Nat) (f : Fp) (l : List (Nat × Obj)) : Prop := ∀ p ∈ l, B ≤ p.1 ∧ notL p.2 = true ∧ p.1 ∉ f.w
theorem Obs.on {W W' : World} {l : List (Nat × Obj)} (h : Obs W l) (hb : Below W.heap.size W W') : Obs W' l := fun p hp => (h p hp).on hb
theorem Obs.but {W W' : World} {l : List (Nat × Obj)} {G : List Nat} (h : Obs W l) (hb : ButL G W W') (hG : ∀ p ∈ l, p.1 ∉ G) : Obs W' l := fun p hp => (hb.block p.1 (h p hp).lt (hG p hp)).trans (h p hp)
theorem Obs.mem {W W' : World} {l : List (Nat × Obj)} {B : Nat} {f : Fp} (h : Obs W l) (hb : ButL f.w W W') (hl : Okl B f l) : Obs W' l := h.but hb (fun p hp => (hl p hp).2.2)
theorem Obs.kq {W W' : World} {l : List (Nat × Obj)} {B : Nat} {f : Fp} (h : Obs W l) (hk : Kq B W W') (hl : Okl B f l) : Obs W' l := fun p hp => hk.keep _ _ (hl p hp).1 (h p hp) (hl p hp).2.1
theorem Obs.put {W : World} {l : List (Nat × Obj)} (h : Obs W l) {k : Nat} (o' : Obj) (hk : ∀ p ∈ l, p.1 ≠ k) : Obs (W.putObj k o') l := h.but (putObj_but W k o') (fun p hp => by rw [List.mem_singleton]; exact hk p hp)
theorem Ob.put {W : World} {k : Nat} {o : Obj} (h : Ob W k o) (o' : Obj) : Ob (W.putObj k o') k o' := World.putObj_heap_same h.lt
theorem Ob.ne {W : World} {j k : Nat} {o o' : Obj} (h : Ob W j o) (h' : Ob W k o') (hn : o.isCells ≠ o'.isCells) : j ≠ k := by
  rintro rfl
  unfold Ob at h h'
  rw [h] at h'
  cases h'
  exact hn rfl
theorem Mem.ob {W : World} {f : Fp} {m : MS} (h : Mem W f m) {k : Nat} {o : Obj} (ho : Ob W k o) (hn : o.isCells = false) : k ∉ f.all := by
  intro hk
  have hc : ∃ cs t, Cel W k t cs := by
    simp only [Fp.all, List.mem_cons] at hk
    rcases hk with rfl | rfl | rfl | hk
    · exact ⟨_, _, h.cel⟩
    · exact ⟨_, _, h.sec⟩
    · exact ⟨_, _, h.ins⟩
    · obtain ⟨i, hi, rfl⟩ := List.mem_iff_getElem.1 hk
      have hi' : i < m.P.length := by rw [← h.len]; exact hi
      have := h.pg i hi'
      unfold Fp.b at this
      rw [List.getD_eq_getElem?_getD, List.getElem?_eq_getElem hi] at this
      exact ⟨_, _, this⟩
  obtain ⟨cs, t, hc⟩ := hc
  unfold Cel at hc
  rw [show W.heap[k]? = some o from ho] at hc
  cases hc
  cases hn
theorem Mem.putO {W : World} {f : Fp} {m : MS} (h : Mem W f m) {k : Nat} {o : Obj} (ho : Ob W k o) (hn : o.isCells = false) (o' : Obj) : Mem (W.putObj k o') f m :=
  h.frame (putObj_but W k o') (fun j hj hm => by rw [List.mem_singleton] at hm; subst hm; exact h.ob ho hn hj)
theorem yield_any {P : Program} {l : Nat} {args : Array Value} {W : World} {R : Ending → World → Prop} {a b : Nat} (h : YieldAt .wide a P l args W R) : YieldAt .wide b P l args W R := by
  obtain ⟨fn, tmps, assign, body, hy, hr⟩ := h
  exact ⟨fn, tmps, assign, body, hy, hr.1, fun c cs _ => hr.2 c cs (room_wide _)⟩
/-- What one first-level entry leads to, up to the j-th word; the whole list. -/
def MS.inn (m : MS) (i p : Int) : Nat → List (Int × Mp)
  | 0 => []
  | j + 1 => m.inn i p j ++ (if m.f2E p (j : Int) = 0 then [(jW i (j : Int) 0, m.f2 p (j : Int))] else [])
def MS.lst (m : MS) (l1 : Int) : Nat → List (Int × Mp)
  | 0 => []
  | i + 1 => m.lst l1 i ++ (if m.f1E l1 (i : Int) = 0 then m.inn (i : Int) (m.f1 l1 (i : Int)) 1024 else [])
/-- The meter. -/
def MS.cn2 (m : MS) (p : Int) (c : Int) : Nat → Int
  | 0 => c
  | j + 1 => ((m.wc (m.cn2 p c j)).read true p (j : Int)).c
def MS.cn1 (m : MS) (l1 : Int) (c : Int) : Nat → Int
  | 0 => c
  | i + 1 => if m.f1E l1 (i : Int) = 0 then m.cn2 (m.f1 l1 (i : Int)) ((m.wc (m.cn1 l1 c i)).read true l1 (i : Int)).c 1024 else ((m.wc (m.cn1 l1 c i)).read true l1 (i : Int)).c
theorem MS.wc_read (m : MS) (c : Int) (s : Bool) (p o : Int) : (m.wc c).read s p o = m.wc ((m.wc c).read s p o).c := by
  rw [MS.read_eq]
  split <;> rfl
end Go.Proofs.Ytmmphmdmocfnpaa
