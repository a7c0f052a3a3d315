import Derived.Test.YtjkkelkblccolaaDoorSumsA
namespace Go.Proofs.YtjkkelkblccolaaDoor
open Go.RowKit

/-- A block of the call's own whose first cells hold these numbers. -/
def Mine (w : World) (g : Nat) (k : IntKind) (e : TypeId) (L : List Int) : Prop := ∃ cs : List Value, Cel w g e cs ∧ ∀ i, i < L.length → cs[i]? = some (.int k (L.getD i 0))
theorem Mine.lt {w : World} {g : Nat} {k : IntKind} {e : TypeId} {L : List Int} (h : Mine w g k e L) : g < w.heap.size := by
  obtain ⟨cs, hc, _⟩ := h
  exact hc.lt
theorem Mine.below {w w' : World} {B g : Nat} {k : IntKind} {e : TypeId} {L : List Int} (h : Mine w g k e L) (hb : Below B w w') (hg : g < B) : Mine w' g k e L := by
  obtain ⟨cs, hc, h⟩ := h
  exact ⟨cs, hc.below hb hg, h⟩
theorem Mine.on {w w' : World} {g : Nat} {k : IntKind} {e : TypeId} {L : List Int} (h : Mine w g k e L) (hb : Below w.heap.size w w') : Mine w' g k e L := h.below hb h.lt
theorem Mine.but {w w' : World} {g b : Nat} {k : IntKind} {e : TypeId} {L : List Int} (h : Mine w g k e L) (hb : But b w w') (hg : g ≠ b) : Mine w' g k e L := by
  obtain ⟨cs, hc, h⟩ := h
  exact ⟨cs, hc.but hb hg, h⟩
theorem Mine.row {w : World} {g : Nat} {k : IntKind} {e : TypeId} {L : List Int} (h : Mine w g k e L) : Row w k g 0 L := by
  obtain ⟨cs, hc, h⟩ := h
  intro i hi
  rw [Nat.zero_add, hc.cell i, h i hi]
theorem Mine.at {w : World} {g : Nat} {k : IntKind} {e : TypeId} {L : List Int} (h : Mine w g k e L) : At w k (some ⟨g, 0, none⟩) L := .inr ⟨g, 0, rfl, h.lt, h.row⟩
theorem Mine.head {w : World} {g : Nat} {k : IntKind} {e : TypeId} {L M : List Int} (h : Mine w g k e (L ++ M)) : At w k (some ⟨g, 0, none⟩) L := .inr ⟨g, 0, rfl, h.lt, h.row.head⟩
theorem Mine.cell {w : World} {g : Nat} {k : IntKind} {e : TypeId} {L : List Int} (h : Mine w g k e L) (j : Nat) (hj : j < L.length) : w.cell? ⟨g, j, none⟩ = some (.int k (L.getD j 0)) := by
  have := h.row j hj
  rwa [Nat.zero_add] at this
theorem Mine.free {w : World} {g : Nat} {k : IntKind} {e : TypeId} {L : List Int} (h : Mine w g k e L) (j : Nat) : w.frozen? ⟨g, j, none⟩ = false := by
  obtain ⟨cs, hc, _⟩ := h
  exact hc.free j
theorem Mine.set {w : World} {g : Nat} {k : IntKind} {e : TypeId} {L : List Int} (h : Mine w g k e L) (j : Nat) (u : Int) : Mine (w.setCell ⟨g, j, none⟩ (.int k u)) g k e (L.set j u) := by
  obtain ⟨cs, hc, h⟩ := h
  refine ⟨cs.set j (.int k u), ?_, ?_⟩
  · unfold Cel at hc ⊢
    rw [heap_setCell_same w g j _ e _ hc, List.setIfInBounds_toArray]
  · intro i hi
    rw [List.length_set] at hi
    have := h i hi
    have hl : i < cs.length := by
      rcases Nat.lt_or_ge i cs.length with h | h
      · exact h
      · rw [List.getElem?_eq_none h] at this; cases this
    rw [List.getElem?_set]
    simp only [List.getD_eq_getElem?_getD, List.getElem?_set]
    by_cases hj : j = i
    · subst hj
      simp [hl, hi]
    · simp only [if_neg hj]
      rw [this, List.getD_eq_getElem?_getD]
theorem Holds.mine {W wr : World} {k : IntKind} {e : TypeId} {v : Value} {L : List Int} (h : Holds W wr k e v L) (hn : 0 < L.length) : ∃ g cap, v = .slice (some ⟨g, 0, none⟩) L.length cap ∧ L.length ≤ cap ∧ W.heap.size ≤ g ∧ Mine wr g k e L := by
  rcases h.own.2 with ⟨_, h0⟩ | ⟨g, cap, cur, rfl, hg, hh, hc, hm, hs, ht⟩
  · omega
  · refine ⟨g, cap, rfl, hc, hg, cur.toList, hh, fun i hi => ?_⟩
    have h1 : (cur.toList.take (L.length * 1))[i]? = (L.map (Value.int k))[i]? := by rw [ht]
    rw [List.getElem?_take, if_pos (by omega)] at h1
    rw [h1]
    simp [List.getD_eq_getElem?_getD, hi]
theorem Mine.str {w : World} {g n c : Nat} {L : List Int} (h : Mine w g .u8 5 L) (hn : L.length = n) : (convert 22 9 (.slice (some ⟨g, 0, none⟩) n c)).run Tryd.prog w = .ok (.string (strOfNums L)) w :=
  run_convert_bytes_arg w 22 5 Tryd.underlying22 Tryd.underlying5 g 0 n c L hn (fun i hi => h.row i (by omega)) 9 Tryd.underlying9
theorem tabBoth {W w : World} (hT : Tab W) (hR : TabR W) (h2 : 2 < W.heap.size) (hw : Below W.heap.size W w) : Tab w ∧ TabR w ∧ 2 < w.heap.size := ⟨hT.below hw h2, hR.below hw (by omega), by have := hw.size; omega⟩
/-- The words lent. -/
theorem lent_mine (W : World) (ao : Option Addr) (n c : Nat) (xs : List Int) (hx : xs.length = n) (hat : At W .u32 ao xs) (hn : 4 * n ≤ 140737488351232) :
    Calls Tryd.prog 28 #[.slice ao n c] W fun e w => ∃ g cap, e = .returned (.slice (some ⟨g, 0, none⟩) (n + 120) cap) ∧ n + 120 ≤ cap ∧ W.heap.size ≤ g ∧ Mine w g .u32 26 (xs ++ markW 120) ∧ Below W.heap.size W w := by
  refine (lent_any W ao n c xs hx hat hn).mono ?_
  have hl : (xs ++ markW 120).length = n + 120 := by rw [List.length_append, hx, markW_length]
  rintro e w ⟨v, rfl, F⟩
  obtain ⟨g, cap, rfl, h1, h2, h3⟩ := F.mine (by omega)
  rw [hl] at h1
  rw [hl]
  exact ⟨g, cap, rfl, h1, h2, h3, F.below⟩
theorem lentBytes_mine (W : World) (ao : Option Addr) (n c : Nat) (xs : List Int) (hx : xs.length = n) (hat : At W .u8 ao xs) (hn : n ≤ 140737488351232) :
    Calls Tryd.prog 29 #[.slice ao n c] W fun e w => ∃ g cap, e = .returned (.slice (some ⟨g, 0, none⟩) (n + 200) cap) ∧ n + 200 ≤ cap ∧ W.heap.size ≤ g ∧ Mine w g .u8 5 (xs ++ markB 200) ∧ Below W.heap.size W w := by
  refine (lentBytes_any W ao n c xs hx hat hn).mono ?_
  have hl : (xs ++ markB 200).length = n + 200 := by rw [List.length_append, hx, markB_length]
  rintro e w ⟨v, rfl, F⟩
  obtain ⟨g, cap, rfl, h1, h2, h3⟩ := F.mine (by omega)
  rw [hl] at h1
  rw [hl]
  exact ⟨g, cap, rfl, h1, h2, h3, F.below⟩
end Go.Proofs.YtjkkelkblccolaaDoor
