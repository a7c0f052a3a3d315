/- The document's memories: where they lie. -/
import Derived.Test.YtmmphmdmocfnpaaK2
namespace Go.Proofs.Ytmmphmdmocfnpaa
open Go.RowKit
def nilV : Value := .slice none 0 0
def blkOf : Value → Option Nat
  | .slice (some a) _ _ => some a.block
  | _ => none
structure Rf where
  g : Nat
  gp : Nat
  cap : Nat
  vs : List Value
def Rf.all (r : Rf) : List Nat := r.g :: r.gp :: r.vs.filterMap blkOf
def Rf.v (r : Rf) (k : Nat) : Value := r.vs.getD k nilV
def PgIs (w : World) (v : Value) (L : List Int) : Prop := L.length = 1024 ∧ ((v = .slice none 0 0 ∧ L = zs) ∨ ∃ b cap cur, v = .slice (some ⟨b, 0, none⟩) 1024 cap ∧ w.heap[b]? = some (.cells cur 22 (0, 0)) ∧ cur.toList.take 1024 = u32s L)
theorem PgIs.but {w w' : World} {G : List Nat} {v : Value} {L : List Int} (h : PgIs w v L) (hb : ButL G w w') (hn : ∀ b, blkOf v = some b → b ∉ G) : PgIs w' v L := by
  refine ⟨h.1, h.2.imp id ?_⟩
  rintro ⟨b, cap, cur, rfl, h1, h2⟩
  exact ⟨b, cap, cur, rfl, (hb.block b (Array.getElem?_eq_some_iff.1 h1).1 (hn b rfl)).trans h1, h2⟩
theorem PgIs.lt {w : World} {v : Value} {L : List Int} (h : PgIs w v L) {b : Nat} (hb : blkOf v = some b) : b < w.heap.size := by
  rcases h.2 with ⟨rfl, _⟩ | ⟨b', cap, cur, rfl, h1, _⟩
  · cases hb
  · simp only [blkOf, Option.some.injEq] at hb
    subst hb
    exact (Array.getElem?_eq_some_iff.1 h1).1
/-- A document's memory in state m. -/
structure RMem (w : World) (r : Rf) (m : MS) : Prop where
  cel : Cel w r.g 141 [.slice (some ⟨r.gp, 0, none⟩) m.P.length r.cap, .int .i64 (m.ns : Int), .int .i64 m.c]
  pages : ∃ cur, w.heap[r.gp]? = some (.cells cur 159 (0, 0)) ∧ cur.toList.take m.P.length = r.vs
  len : r.vs.length = m.P.length
  ns0 : m.ns ≤ m.P.length
  most : m.P.length ≤ 128
  pg : ∀ k, k < m.P.length → PgIs w (r.v k) (m.p k)
  apart : ∀ j k, j < m.P.length → k < m.P.length → j ≠ k → ∀ b, blkOf (r.v j) = some b → blkOf (r.v k) ≠ some b
theorem Rf.mem_all {r : Rf} {k b : Nat} (hk : k < r.vs.length) (h : blkOf (r.v k) = some b) : b ∈ r.all := by
  have e : r.v k = r.vs[k] := by unfold Rf.v; rw [List.getD_eq_getElem?_getD, List.getElem?_eq_getElem hk]; rfl
  simp only [Rf.all, List.mem_cons, List.mem_filterMap]
  exact .inr (.inr ⟨r.vs[k], List.getElem_mem hk, e ▸ h⟩)
theorem Rf.all_mem {r : Rf} {b : Nat} (h : b ∈ r.all) : b = r.g ∨ b = r.gp ∨ ∃ k, k < r.vs.length ∧ blkOf (r.v k) = some b := by
  simp only [Rf.all, List.mem_cons, List.mem_filterMap] at h
  rcases h with h | h | ⟨v, hv, hb⟩
  · exact .inl h
  · exact .inr (.inl h)
  · obtain ⟨k, hk, rfl⟩ := List.mem_iff_getElem.1 hv
    refine .inr (.inr ⟨k, hk, ?_⟩)
    have e : r.v k = r.vs[k] := by unfold Rf.v; rw [List.getD_eq_getElem?_getD, List.getElem?_eq_getElem hk]; rfl
    rw [e]; exact hb
theorem RMem.frame {w w' : World} {r : Rf} {m : MS} {G : List Nat} (h : RMem w r m) (hb : ButL G w w') (hd : ∀ k ∈ r.all, k ∉ G) : RMem w' r m := by
  obtain ⟨cur, h1, h2⟩ := h.pages
  refine ⟨h.cel.but hb (hd _ (by simp [Rf.all])), ⟨cur, (hb.block _ (Array.getElem?_eq_some_iff.1 h1).1 (hd _ (by simp [Rf.all]))).trans h1, h2⟩, h.len, h.ns0, h.most, fun k hk => (h.pg k hk).but hb (fun b hbk => hd b (Rf.mem_all (by rw [h.len]; exact hk) hbk)), h.apart⟩
theorem RMem.on {w w' : World} {r : Rf} {m : MS} (h : RMem w r m) (hb : Below w.heap.size w w') : RMem w' r m := h.frame (G := []) (.of hb) (by simp)
theorem RMem.lt {w : World} {r : Rf} {m : MS} (h : RMem w r m) : ∀ k ∈ r.all, k < w.heap.size := by
  intro k hk
  rcases Rf.all_mem hk with rfl | rfl | ⟨j, hj, hb⟩
  · exact h.cel.lt
  · obtain ⟨cur, h1, _⟩ := h.pages
    exact (Array.getElem?_eq_some_iff.1 h1).1
  · exact (h.pg j (by rw [← h.len]; exact hj)).lt hb
theorem RMem.ne {w : World} {r : Rf} {m : MS} (h : RMem w r m) : r.g ≠ r.gp := by
  obtain ⟨cur, h1, _⟩ := h.pages
  intro e
  have h2 := h.cel
  unfold Cel at h2
  rw [e, h1] at h2
  injection h2 with h2
  injection h2 with _ h3 _
  exact absurd h3 (by decide)
theorem PgIs.ty {w : World} {v : Value} {L : List Int} (h : PgIs w v L) {b : Nat} (hb : blkOf v = some b) {cur : Array Value} {t : TypeId} {fr : Nat × Nat} (hh : w.heap[b]? = some (.cells cur t fr)) : t = 22 := by
  rcases h.2 with ⟨rfl, _⟩ | ⟨b', cap, cur', rfl, h1, _⟩
  · cases hb
  · simp only [blkOf, Option.some.injEq] at hb
    subst hb
    rw [h1] at hh
    injection hh with hh
    injection hh with _ h3 _
    exact h3.symm
/-- The cell of a page. -/
theorem RMem.cellAt {w : World} {r : Rf} {m : MS} (h : RMem w r m) (k : Nat) (hk : k < m.P.length) : w.cell? ⟨r.gp, k, none⟩ = some (r.v k) := by
  obtain ⟨cur, h1, h2⟩ := h.pages
  rw [cell_of_row w r.gp k _ 159 (0, 0) h1]
  have : (cur.toList.take m.P.length)[k]? = some (r.v k) := by
    rw [h2]; unfold Rf.v
    rw [List.getD_eq_getElem?_getD, List.getElem?_eq_getElem (by rw [h.len]; exact hk)]; rfl
  rw [List.getElem?_take_of_lt hk] at this
  simpa using this
theorem RMem.freeP {w : World} {r : Rf} {m : MS} (h : RMem w r m) (k : Nat) : w.frozen? ⟨r.gp, k, none⟩ = false := by
  obtain ⟨cur, h1, _⟩ := h.pages
  exact frozen_of_row w r.gp k _ 159 h1
/-- The meter is set. -/
theorem RMem.tick {w : World} {r : Rf} {m : MS} (h : RMem w r m) (n : Int) : RMem (w.setCell ⟨r.g, 2, none⟩ (.int .i64 (wrap64 (m.c + n)))) r (m.tick n) := by
  have hb := ButL.setCell (G := [r.g]) w r.g 2 (.int .i64 (wrap64 (m.c + n))) (by simp)
  obtain ⟨cur, h1, h2⟩ := h.pages
  refine ⟨h.cel.setCell 2 _, ⟨cur, (hb.block _ (Array.getElem?_eq_some_iff.1 h1).1 (by rw [List.mem_singleton]; exact fun e => h.ne e.symm)).trans h1, h2⟩, h.len, h.ns0, h.most, fun k hk => (h.pg k hk).but hb (fun b hbk => ?_), h.apart⟩
  rw [List.mem_singleton]
  intro e
  subst e
  exact absurd ((h.pg k hk).ty hbk h.cel) (by decide)
/-- A page is laid anew. -/
theorem RMem.setPage {w : World} {r : Rf} {m : MS} (h : RMem w r m) (k : Nat) (hk : k < m.P.length) (v' : Value) (L' : List Int) (hp : PgIs w v' L') (hnew : ∀ b, blkOf v' = some b → b ∉ r.all) :
    RMem (w.setCell ⟨r.gp, k, none⟩ v') { r with vs := r.vs.set k v' } { m with P := m.P.set k L' } := by
  have hb := ButL.setCell (G := [r.gp]) w r.gp k v' (by simp)
  obtain ⟨cur, h1, h2⟩ := h.pages
  have hv : ∀ j, j < m.P.length → ({ r with vs := r.vs.set k v' } : Rf).v j = if j = k then v' else r.v j := by
    intro j hj
    unfold Rf.v
    by_cases e : j = k
    · subst e
      rw [if_pos rfl, List.getD_eq_getElem?_getD, List.getElem?_set_self (by rw [h.len]; exact hj)]; rfl
    · rw [if_neg e, List.getD_eq_getElem?_getD, List.getElem?_set_ne (Ne.symm e), ← List.getD_eq_getElem?_getD]
  have hpp : ∀ j, j < m.P.length → ({ m with P := m.P.set k L' } : MS).p j = if j = k then L' else m.p j := by
    intro j hj
    unfold MS.p
    by_cases e : j = k
    · subst e
      rw [if_pos rfl, List.getD_eq_getElem?_getD, List.getElem?_set_self hj]; rfl
    · rw [if_neg e, List.getD_eq_getElem?_getD, List.getElem?_set_ne (Ne.symm e), ← List.getD_eq_getElem?_getD]
  have hty : ∀ j, j < m.P.length → ∀ b, blkOf (r.v j) = some b → b ≠ r.gp := fun j hj b hbj e => by
    subst e
    exact absurd ((h.pg j hj).ty hbj h1) (by decide)
  have hty' : ∀ b, blkOf v' = some b → b ≠ r.gp := fun b hbj e => by
    subst e
    exact absurd (hp.ty hbj h1) (by decide)
  refine ⟨?_, ⟨cur.setIfInBounds k v', ?_, ?_⟩, ?_, ?_, ?_, ?_, ?_⟩
  · simpa using h.cel.but hb (by rw [List.mem_singleton]; exact h.ne)
  · exact heap_setCell_same w r.gp k _ 159 _ h1
  · simp only [List.length_set, Array.toList_setIfInBounds]
    rw [List.take_set, h2]
  · simp [h.len]
  · simpa using h.ns0
  · simpa using h.most
  · intro j hj
    simp only [List.length_set] at hj
    rw [hv j hj, hpp j hj]
    split
    · exact hp.but hb (fun b hbj => by rw [List.mem_singleton]; exact hty' b hbj)
    · exact (h.pg j hj).but hb (fun b hbj => by rw [List.mem_singleton]; exact hty j hj b hbj)
  · intro i j hi hj hij b
    simp only [List.length_set] at hi hj
    rw [hv i hi, hv j hj]
    split
    · rename_i e1
      rw [if_neg (by omega)]
      intro hb1 hb2
      exact hnew b hb1 (Rf.mem_all (by rw [h.len]; exact hj) hb2)
    · split
      · intro hb1 hb2
        exact hnew b hb2 (Rf.mem_all (by rw [h.len]; exact hi) hb1)
      · exact h.apart i j hi hj hij b
/-- A step of a document's memory. -/
structure RSt (w w' : World) (r r' : Rf) (m' : MS) : Prop where
  mem : RMem w' r' m'
  but : ButL r.all w w'
  g : r'.g = r.g
  sub : ∀ k ∈ r'.all, k ∈ r.all ∨ w.heap.size ≤ k
theorem RSt.of {w w' : World} {r : Rf} {m : MS} (h : RMem w r m) (hb : Below w.heap.size w w') : RSt w w' r r m := ⟨h.on hb, .of hb, rfl, fun _ hk => .inl hk⟩
end Go.Proofs.Ytmmphmdmocfnpaa
