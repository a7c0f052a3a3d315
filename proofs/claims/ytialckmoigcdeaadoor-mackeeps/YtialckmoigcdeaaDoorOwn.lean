/- Lists of the call's own that are written over. -/
import Derived.Test.YtialckmoigcdeaaDoorRoom
import Derived.Test.YtialckmoigcdeaaDoorExp
namespace Go.Proofs.YtialckmoigcdeaaDoor
open Go.RowKit

/-- Block g's first cells hold these numbers. -/
def Own (w : World) (g : Nat) (e : TypeId) (k : IntKind) (cap : Nat) (L : List Int) : Prop :=
  ∃ cur : Array Value, w.heap[g]? = some (.cells cur e (0, 0)) ∧ cur.size = cap ∧ L.length ≤ cap ∧ cur.toList.take L.length = L.map (Value.int k)
theorem Own.lt {w : World} {g : Nat} {e : TypeId} {k : IntKind} {cap : Nat} {L : List Int} (h : Own w g e k cap L) : g < w.heap.size := by
  obtain ⟨cur, hg, _⟩ := h
  exact (Array.getElem?_eq_some_iff.1 hg).1
theorem Own.on {w w' : World} {g : Nat} {e : TypeId} {k : IntKind} {cap : Nat} {L : List Int} (h : Own w g e k cap L) (hb : Below w.heap.size w w') : Own w' g e k cap L := by
  have := h.lt
  obtain ⟨cur, hg, r⟩ := h
  exact ⟨cur, (hb.block g this).trans hg, r⟩
theorem Own.but {w w' : World} {g i : Nat} {e : TypeId} {k : IntKind} {cap : Nat} {L : List Int} (h : Own w g e k cap L) (hb : But i w w') (hi : g ≠ i) : Own w' g e k cap L := by
  have := h.lt
  obtain ⟨cur, hg, r⟩ := h
  exact ⟨cur, (hb.block g this hi).trans hg, r⟩
theorem Own.row {w : World} {g : Nat} {e : TypeId} {k : IntKind} {cap : Nat} {L : List Int} (h : Own w g e k cap L) : Row w k g 0 L := by
  obtain ⟨cur, hg, _, _, ht⟩ := h
  intro i hi
  have e : cur.toList[i]? = some (.int k (L.getD i 0)) := by
    have : (cur.toList.take L.length)[i]? = (L.map (Value.int k))[i]? := by rw [ht]
    rw [List.getElem?_take, if_pos hi] at this
    rw [this]
    simp [List.getD_eq_getElem?_getD, hi]
  rw [Nat.zero_add]
  simp only [World.cell?, hg]
  simpa using e
theorem Own.at {w : World} {g : Nat} {e : TypeId} {k : IntKind} {cap : Nat} {L : List Int} (h : Own w g e k cap L) : At w k (some ⟨g, 0, none⟩) L := .inr ⟨g, 0, rfl, h.lt, h.row⟩
/-- What stands from 1 on. -/
theorem Own.mid {w : World} {g : Nat} {e : TypeId} {k : IntKind} {cap : Nat} {L : List Int} (h : Own w g e k cap L) (n : Nat) : At w k (some ⟨g, 1, none⟩) ((L.drop 1).take n) := .inr ⟨g, 1, rfl, h.lt, by have := (h.row.drop 1).take n; rwa [Nat.zero_add] at this⟩
theorem Own.cell {w : World} {g : Nat} {e : TypeId} {k : IntKind} {cap : Nat} {L : List Int} (h : Own w g e k cap L) (j : Nat) (hj : j < L.length) : w.cell? ⟨g, j, none⟩ = some (.int k (L.getD j 0)) := by
  have := h.row j hj
  rwa [Nat.zero_add] at this
theorem Own.free {w : World} {g : Nat} {e : TypeId} {k : IntKind} {cap : Nat} {L : List Int} (h : Own w g e k cap L) (j : Nat) : w.frozen? ⟨g, j, none⟩ = false := by
  obtain ⟨cur, hg, _⟩ := h
  exact frozen_of_row w g j _ e hg
theorem Own.set {w : World} {g : Nat} {e : TypeId} {k : IntKind} {cap : Nat} {L : List Int} (h : Own w g e k cap L) (j : Nat) (u : Int) : Own (w.setCell ⟨g, j, none⟩ (.int k u)) g e k cap (L.set j u) := by
  obtain ⟨cur, hg, hc, hl, ht⟩ := h
  refine ⟨cur.setIfInBounds j (.int k u), ?_, by simpa using hc, by simpa using hl, ?_⟩
  · exact heap_setCell_same w g j _ e _ hg
  · rw [List.length_set, List.map_set, ← ht, Array.toList_setIfInBounds, List.take_set]
theorem Own.len {w : World} {g : Nat} {e : TypeId} {k : IntKind} {cap : Nat} {L : List Int} (h : Own w g e k cap L) : L.length ≤ cap := by
  obtain ⟨_, _, _, h, _⟩ := h
  exact h
theorem Holds.toOwn {W w : World} {k : IntKind} {e : TypeId} {v : Value} {L : List Int} (h : Holds W w k e v L) (hn : 0 < L.length) : ∃ g cap, v = .slice (some ⟨g, 0, none⟩) L.length cap ∧ W.heap.size ≤ g ∧ Own w g e k cap L ∧ cap ≤ maxLen := by
  rcases h.own.2 with ⟨_, h0⟩ | ⟨g, cap, cur, h1, h2, h3, h4, h5, h6, h7⟩
  · omega
  · exact ⟨g, cap, h1, h2, ⟨cur, h3, by omega, h4, by rw [Nat.mul_one] at h7; exact h7⟩, h5⟩
theorem Cel.on {w w' : World} {g : Nat} {t : TypeId} {cs : List Value} (h : Cel w g t cs) (hb : Below w.heap.size w w') : Cel w' g t cs := h.below hb h.lt
theorem Blk.but {w w' : World} {g i : Nat} {k : IntKind} {e : TypeId} {L : List Int} (h : Blk w g k e L) (hb : But i w w') (hi : g ≠ i) : Blk w' g k e L := hb.blk h hi
theorem conv_own {w : World} {g : Nat} {cap c n : Nat} {L : List Int} (h : Own w g 5 .u8 cap L) (hn : L.length = n) : (convert 22 9 (.slice (some ⟨g, 0, none⟩) n c)).run Tryd.prog w = .ok (.string (strOfNums L)) w :=
  run_convert_bytes_arg w 22 5 Tryd.underlying22 Tryd.underlying5 g 0 n c L hn (fun i hi => h.row i (by omega)) 9 Tryd.underlying9
/-- Bytes that were answered: none, or in a block of their own. -/
def XB (w : World) (B : Nat) (vo : Option Addr) (L : List Int) : Prop := (vo = none ∧ L = []) ∨ ∃ g cap, vo = some ⟨g, 0, none⟩ ∧ B ≤ g ∧ Own w g 5 .u8 cap L
theorem XB.on {w w' : World} {B : Nat} {vo : Option Addr} {L : List Int} (h : XB w B vo L) (hb : Below w.heap.size w w') : XB w' B vo L := by
  rcases h with h | ⟨g, cap, h1, h2, h3⟩
  · exact .inl h
  · exact .inr ⟨g, cap, h1, h2, h3.on hb⟩
theorem XB.but {w w' : World} {B i : Nat} {vo : Option Addr} {L : List Int} (h : XB w B vo L) (hb : But i w w') (hi : i < B) : XB w' B vo L := by
  rcases h with h | ⟨g, cap, h1, h2, h3⟩
  · exact .inl h
  · exact .inr ⟨g, cap, h1, h2, h3.but hb (by omega)⟩
theorem OwnB.toXB {W w : World} {vo : Option Addr} {n : Nat} {L : List Int} (h : OwnB W w vo n L) : XB w W.heap.size vo L := by
  rcases h.2 with ⟨h0, h1⟩ | ⟨g, cur, h1, h2, h3, h4, h5⟩
  · have := h.1
    rw [h0] at this
    exact .inl ⟨h1, List.eq_nil_of_length_eq_zero this⟩
  · exact .inr ⟨g, cur.size, h1, h2, cur, h3, rfl, by rw [h.1]; exact h4, by rw [h.1]; exact h5⟩
theorem XB.at {w : World} {B : Nat} {vo : Option Addr} {L : List Int} (h : XB w B vo L) : At w .u8 vo L := by
  rcases h with ⟨_, h⟩ | ⟨g, cap, rfl, _, h3⟩
  · exact .inl h
  · exact h3.at
theorem XB.conv {w : World} {B n c : Nat} {vo : Option Addr} {L : List Int} (h : XB w B vo L) (hn : L.length = n) : (convert 22 9 (.slice vo n c)).run Tryd.prog w = .ok (.string (strOfNums L)) w := by
  rcases h with ⟨rfl, rfl⟩ | ⟨g, cap, rfl, _, h3⟩
  · exact run_convert_bytes_nil w 22 5 Tryd.underlying22 Tryd.underlying5 n c 9 Tryd.underlying9
  · exact conv_own h3 hn
/-- Nothing that was there at W has turned. -/
def Bw (W w : World) : Prop := Below W.heap.size W w
theorem Bw.on {W w w' : World} (h : Bw W w) (hb : Below w.heap.size w w') : Bw W w' := Below.trans h (hb.mono h.size)
theorem Bw.but {W w w' : World} {g : Nat} (h : Bw W w) (hb : But g w w') (hg : W.heap.size ≤ g) : Bw W w' := Below.trans h (hb.below hg h.size)
theorem roomW_mid (xs : List Int) (n t : Nat) (h : xs.length = n) : ((roomWD xs t).drop 1).take n = xs := by
  unfold roomWD
  rw [List.cons_append, List.drop_succ_cons, List.drop_zero, List.take_append_of_le_length (by omega), List.take_of_length_le (by omega)]
theorem roomB_mid (xs : List Int) (n t : Nat) (h : xs.length = n) : ((roomBD xs t).drop 1).take n = xs := by
  unfold roomBD
  rw [List.cons_append, List.drop_succ_cons, List.drop_zero, List.take_append_of_le_length (by omega), List.take_of_length_le (by omega)]
theorem set_fill (L : List Int) (u : Int) (j : Nat) (h : j < L.length) : (List.replicate j u ++ L.drop j).set j u = List.replicate (j + 1) u ++ L.drop (j + 1) := by
  rw [List.set_append_right _ _ (by simp), List.length_replicate, Nat.sub_self, List.drop_eq_getElem_cons h, List.set_cons_zero, List.replicate_succ', List.append_assoc]
  rfl
end Go.Proofs.YtialckmoigcdeaaDoor
