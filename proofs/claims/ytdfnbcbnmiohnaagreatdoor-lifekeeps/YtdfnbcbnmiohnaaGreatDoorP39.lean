import Derived.Test.YtdfnbcbnmiohnaaGreatDoorP38
namespace Go.Proofs.YtdfnbcbnmiohnaaGreatDoor
open Go.RowKit
/-- A word of a page that lies there. -/
theorem RMem.put {w : World} {r : Rf} {m : MS} (h : RMem w r m) (k : Nat) (hk : k < m.P.length) {b cap : Nat} {cur : Array Value} (e1 : r.v k = .slice (some ⟨b, 0, none⟩) 1024 cap) (e2 : w.heap[b]? = some (.cells cur 43 (0, 0))) (e3 : cur.toList.take 1024 = u32s (m.p k)) (j : Nat) (v : Int) :
    RMem (w.setCell ⟨b, j, none⟩ (.int .u32 v)) r { m with P := m.P.set k ((m.p k).set j v) } := by
  have hb := ButL.setCell (G := [b]) w b j (.int .u32 v) (by simp)
  have hL := (h.pg k hk).1
  have hbk : blkOf (r.v k) = some b := by rw [e1]; rfl
  obtain ⟨cur', h1, h2⟩ := h.pages
  have hpp : ∀ i, i < m.P.length → ({ m with P := m.P.set k ((m.p k).set j v) } : MS).p i = if i = k then (m.p k).set j v else m.p i := by
    intro i hi
    unfold MS.p
    by_cases e : i = k
    · subst e
      rw [if_pos rfl, List.getD_eq_getElem?_getD, List.getElem?_set_self hi]; rfl
    · rw [if_neg e, List.getD_eq_getElem?_getD, List.getElem?_set_ne (Ne.symm e), ← List.getD_eq_getElem?_getD]
  have ng : r.g ∉ [b] := by
    rw [List.mem_singleton]; intro e
    have h3 := h.cel
    unfold Cel at h3
    rw [e, e2] at h3
    injection h3 with h3
    injection h3 with _ h4 _
    exact absurd h4 (by decide)
  have ngp : r.gp ∉ [b] := by
    rw [List.mem_singleton]; intro e
    rw [e, e2] at h1
    injection h1 with h1
    injection h1 with _ h4 _
    exact absurd h4 (by decide)
  refine ⟨?_, ⟨cur', (hb.block _ (Array.getElem?_eq_some_iff.1 h1).1 ngp).trans h1, by simpa using h2⟩, by simp [h.len], by simpa using h.ns0, by simpa using h.most, ?_, ?_⟩
  · simpa using h.cel.but hb ng
  · intro i hi
    simp only [List.length_set] at hi
    rw [hpp i hi]
    split
    · rename_i e
      subst e
      refine ⟨by rw [List.length_set]; exact hL, .inr ⟨b, cap, cur.setIfInBounds j (.int .u32 v), e1, heap_setCell_same w b j _ 43 _ e2, ?_⟩⟩
      rw [Array.toList_setIfInBounds, List.take_set, e3, u32s_set]
    · rename_i e
      exact (h.pg i hi).but hb (fun b' hb' => by rw [List.mem_singleton]; intro e'; subst e'; exact h.apart k i hk hi (fun h' => e h'.symm) b' hbk hb')
  · intro i i' hi hi'
    simp only [List.length_set] at hi hi'
    exact h.apart i i' hi hi'
theorem NewL.pg {w w' : World} {g : Nat} {L : List Int} (h : NewL w w' g L) (hL : L.length = 1024) (c : Nat) : PgIs w' (.slice (some ⟨g, 0, none⟩) 1024 c) L :=
  ⟨hL, .inr ⟨g, c, (u32s L).toArray, rfl, h.cel, by rw [List.take_of_length_le (by rw [u32s_len, hL]; exact Nat.le_refl _)]⟩⟩
theorem PgIs.on {w w' : World} {v : Value} {L : List Int} (h : PgIs w v L) (hb : Below w.heap.size w w') : PgIs w' v L := h.but (G := []) (.of hb) (by simp)
end Go.Proofs.YtdfnbcbnmiohnaaGreatDoor
