/- What Print writes, as plain lists; rows of cells in a block of their own. -/
import Derived.Test.YtncnogndopgknaaDoorRt6
import Derived.OwnWalk
namespace Go.Proofs.YtncnogndopgknaaDoor
open Go.RowKit
namespace A
def tg (ws : List Nat) (p : Nat) : Option Nat := tgt (ws.getD p 0 : Nat) p ws.length
/-- Does one of the first k words jump to that place? -/
def met (ws : List Nat) (k j : Nat) : Bool := (List.range k).any fun p => tg ws p == some j
def cnt (ws : List Nat) (j : Nat) : Nat := ((List.range j).filter (met ws ws.length)).length
def nmAt (ws : List Nat) (j : Nat) : List UInt8 := if met ws ws.length j then 108 :: Lib.decDigits (cnt ws j) else []
def lab (ws : List Nat) (p : Nat) : List UInt8 := match tg ws p with | some t => nmAt ws t | none => []
def row (ws : List Nat) (p : Nat) : List UInt8 := (if nmAt ws p = [] then [] else nmAt ws p ++ [58, 10]) ++ (if p < ws.length then lin (ws.getD p 0 : Nat) (lab ws p) ++ [10] else [])
def txt (ws : List Nat) (k : Nat) : List UInt8 := (List.range k).flatMap (row ws)
theorem txt_succ (ws : List Nat) (k : Nat) : txt ws (k + 1) = txt ws k ++ row ws k := by simp [txt, List.range_succ]
theorem met_succ (ws : List Nat) (k j : Nat) : met ws (k + 1) j = (met ws k j || (tg ws k == some j)) := by simp [met, List.range_succ]
theorem met_zero (ws : List Nat) (j : Nat) : met ws 0 j = false := by simp [met]
theorem cnt_succ (ws : List Nat) (j : Nat) : cnt ws (j + 1) = if met ws ws.length j then cnt ws j + 1 else cnt ws j := by
  unfold cnt
  rw [List.range_succ, List.filter_append, List.length_append]
  by_cases h : met ws ws.length j = true <;> simp [List.filter, h]
theorem cnt_le (ws : List Nat) : ∀ j, cnt ws j ≤ j
  | 0 => by simp [cnt]
  | j + 1 => by
    have := cnt_le ws j
    rw [cnt_succ]
    split <;> omega
theorem nmAt_len (ws : List Nat) (j : Nat) (h : j ≤ 4294967295) : (nmAt ws j).length ≤ 11 := by
  unfold nmAt
  split
  · have := dec_len (cnt ws j) (by have := cnt_le ws j; omega)
    simp only [List.length_cons]
    omega
  · simp
theorem tg_le {ws : List Nat} {p t : Nat} (h : tg ws p = some t) : t ≤ ws.length := tgt_le h
theorem lab_len (ws : List Nat) (p : Nat) (h : ws.length ≤ 1000000000) : (lab ws p).length ≤ 20 := by
  unfold lab
  split
  · rename_i t ht
    have := nmAt_len ws t (by have := tg_le ht; omega)
    omega
  · simp
theorem row_len (ws : List Nat) (p : Nat) (h : ws.length ≤ 1000000000) (hp : p ≤ ws.length) : (row ws p).length ≤ 100 := by
  have h1 := nmAt_len ws p (by omega)
  have h2 := lin_len (ws.getD p 0 : Nat) (lab ws p) (lab_len ws p h)
  unfold row
  rw [List.length_append]
  have e1 : (if nmAt ws p = [] then ([] : List UInt8) else nmAt ws p ++ [58, 10]).length ≤ 13 := by
    split
    · simp
    · simp only [List.length_append, List.length_cons, List.length_nil]; omega
  have e2 : (if p < ws.length then lin (ws.getD p 0 : Nat) (lab ws p) ++ [10] else ([] : List UInt8)).length ≤ 81 := by
    split
    · simp only [List.length_append, List.length_cons, List.length_nil]; omega
    · simp
  omega
theorem txt_len (ws : List Nat) (h : ws.length ≤ 1000000000) : ∀ k, k ≤ ws.length + 1 → (txt ws k).length ≤ 100 * k
  | 0, _ => by simp [txt]
  | k + 1, hk => by
    have ih := txt_len ws h k (by omega)
    have := row_len ws k h (by omega)
    rw [txt_succ, List.length_append]
    omega
/-- The cells of the program's list of places that are met, and of the names' list. -/
def mets (ws : List Nat) (k : Nat) : List Value := (List.range (ws.length + 1)).map fun j => .bool (met ws k j)
def nms (ws : List Nat) (k : Nat) : List Value := (List.range (ws.length + 1)).map fun j => .string ⟨(if j < k then nmAt ws j else []).toArray⟩
/-- The document's: a mark first, then the name. -/
def rnms (ws : List Nat) (m k : Nat) : List Value := (List.range (ws.length + 1)).map fun j => .string ⟨(if j < k then nmAt ws j else if met ws m j then [108] else []).toArray⟩
theorem range_map_set (f g : Nat → Value) (n t : Nat) (v : Value) (h1 : g t = v) (h2 : ∀ j, j < n → j ≠ t → g j = f j) : (List.range n).map g = ((List.range n).map f).set t v := by
  apply List.ext_getElem?
  intro i
  rw [List.getElem?_set, List.getElem?_map, List.getElem?_map]
  by_cases hi : i < n
  · by_cases ht : t = i
    · subst ht
      simp [hi, h1]
    · rw [if_neg ht]
      simp [hi, h2 i hi (Ne.symm ht)]
  · have : (List.range n)[i]? = none := by simp; omega
    rw [this]
    by_cases ht : t = i
    · subst ht; simp [hi]
    · simp [ht]
theorem mets_yes (ws : List Nat) (k t : Nat) (h : tg ws k = some t) : mets ws (k + 1) = (mets ws k).set t (.bool true) :=
  range_map_set _ _ _ _ _ (by simp [met_succ, h]) (fun j _ hj => by
    have : (some t == some j) = false := by simp; omega
    simp [met_succ, h, this])
theorem mets_no (ws : List Nat) (k : Nat) (h : tg ws k = none) : mets ws (k + 1) = mets ws k := by simp [mets, met_succ, h]
theorem nms_yes (ws : List Nat) (k : Nat) : nms ws (k + 1) = (nms ws k).set k (.string ⟨(nmAt ws k).toArray⟩) :=
  range_map_set _ _ _ _ _ (by simp) (fun j _ hj => by
    by_cases h : j < k
    · simp [h, show j < k + 1 by omega]
    · simp [h, show ¬ j < k + 1 by omega])
theorem nms_no (ws : List Nat) (k : Nat) (h : met ws ws.length k = false) : nms ws (k + 1) = nms ws k := by
  unfold nms
  apply List.map_congr_left
  intro j _
  by_cases h1 : j < k
  · simp [h1, show j < k + 1 by omega]
  · by_cases h2 : j = k
    · subst h2; simp [nmAt, h]
    · simp [h1, show ¬ j < k + 1 by omega]
theorem rnms_mark (ws : List Nat) (m t : Nat) (h : tg ws m = some t) : rnms ws (m + 1) 0 = (rnms ws m 0).set t (.string ⟨#[108]⟩) :=
  range_map_set _ _ _ _ _ (by simp [met_succ, h]) (fun j _ hj => by
    have : (some t == some j) = false := by simp; omega
    simp [met_succ, h, this])
theorem rnms_unmark (ws : List Nat) (m : Nat) (h : tg ws m = none) : rnms ws (m + 1) 0 = rnms ws m 0 := by simp [rnms, met_succ, h]
theorem rnms_yes (ws : List Nat) (k : Nat) : rnms ws ws.length (k + 1) = (rnms ws ws.length k).set k (.string ⟨(nmAt ws k).toArray⟩) :=
  range_map_set _ _ _ _ _ (by simp) (fun j _ hj => by
    by_cases h : j < k
    · simp [h, show j < k + 1 by omega]
    · simp [h, show ¬ j < k + 1 by omega])
theorem rnms_no (ws : List Nat) (k : Nat) (h : met ws ws.length k = false) : rnms ws ws.length (k + 1) = rnms ws ws.length k := by
  unfold rnms
  apply List.map_congr_left
  intro j _
  by_cases h1 : j < k
  · simp [h1, show j < k + 1 by omega]
  · by_cases h2 : j = k
    · subst h2; simp [nmAt, h]
    · simp [h1, show ¬ j < k + 1 by omega]
theorem rnms_end (ws : List Nat) : rnms ws ws.length (ws.length + 1) = nms ws (ws.length + 1) := by
  unfold rnms nms
  apply List.map_congr_left
  intro j hj
  have := List.mem_range.1 hj
  simp [this]
theorem mets_at (ws : List Nat) (k j : Nat) (h : j ≤ ws.length) : (mets ws k)[j]? = some (.bool (met ws k j)) := by simp [mets, show j < ws.length + 1 by omega]
theorem nms_at (ws : List Nat) (k j : Nat) (h : j ≤ ws.length) : (nms ws k)[j]? = some (.string ⟨(if j < k then nmAt ws j else []).toArray⟩) := by simp [nms, show j < ws.length + 1 by omega]
theorem rnms_at (ws : List Nat) (m k j : Nat) (h : j ≤ ws.length) : (rnms ws m k)[j]? = some (.string ⟨(if j < k then nmAt ws j else if met ws m j then [108] else []).toArray⟩) := by simp [rnms, show j < ws.length + 1 by omega]
theorem mets_zero (ws : List Nat) : mets ws 0 = List.replicate (ws.length + 1) (.bool false) := by
  unfold mets
  rw [List.eq_replicate_iff]
  exact ⟨by simp, fun v hv => by obtain ⟨j, _, rfl⟩ := List.mem_map.1 hv; rw [met_zero]⟩
theorem nms_zero (ws : List Nat) : nms ws 0 = List.replicate (ws.length + 1) (.string ⟨#[]⟩) := by
  unfold nms
  rw [List.eq_replicate_iff]
  exact ⟨by simp, fun v hv => by obtain ⟨j, _, rfl⟩ := List.mem_map.1 hv; simp⟩
theorem rnms_zero (ws : List Nat) : rnms ws 0 0 = List.replicate (ws.length + 1) (.string ⟨#[]⟩) := by
  unfold rnms
  rw [List.eq_replicate_iff]
  exact ⟨by simp, fun v hv => by obtain ⟨j, _, rfl⟩ := List.mem_map.1 hv; simp [met_zero]⟩
end A
/-- A made row, whole. -/
theorem cel_of_own {w : World} {B g n : Nat} {e : TypeId} {xs : List Value} (h : w.ownsRow B e 1 (.slice (some ⟨g, 0, none⟩) n n) n xs) : Cel w g e xs ∧ B ≤ g := by
  rcases h.2 with ⟨h0, _⟩ | ⟨g', cap, cur, h1, h2, h3, h4, h5, h6, h7⟩
  · cases h0
  · injection h1 with a1 a2 a3
    injection a1 with a1
    injection a1 with a1
    subst a1 a3
    rw [Nat.mul_one] at h6 h7
    have hx : xs = cur.toList := by rw [← h7, List.take_of_length_le (by simp; omega)]
    refine ⟨?_, h2⟩
    unfold Cel
    rw [h3, hx]
theorem made_list (z : Value) (n : Nat) : (madeCells #[z] (n * 1)).toList = List.replicate n z := by
  rw [List.eq_replicate_iff]
  refine ⟨by simp [madeCells], fun v hv => ?_⟩
  simp only [madeCells, Array.toList_map, List.mem_map] at hv
  obtain ⟨j, _, rfl⟩ := hv
  simp [Nat.mod_one]
theorem Cel.setCell {w : World} {g : Nat} {t : TypeId} {cs : List Value} (h : Cel w g t cs) (j : Nat) (v : Value) : Cel (w.setCell ⟨g, j, none⟩ v) g t (cs.set j v) := by
  unfold Cel
  rw [heap_setCell_same w g j _ t _ h]
  simp
theorem Cel.setOther {w : World} {g g' : Nat} {t : TypeId} {cs : List Value} (h : Cel w g t cs) (hne : g' ≠ g) (j : Nat) (v : Value) : Cel (w.setCell ⟨g', j, none⟩ v) g t cs := by
  unfold Cel
  rw [heap_setCell_other w ⟨g', j, none⟩ g v (Ne.symm hne)]
  exact h
theorem Cel.free {w : World} {g : Nat} {t : TypeId} {cs : List Value} (h : Cel w g t cs) (j : Nat) : w.frozen? ⟨g, j, none⟩ = false := Lib.frozen_of_heap h j
/-- Words that stand one behind the other. -/
def AtW (w : World) (ao : Option Addr) (l : List Nat) : Prop := l = [] ∨ ∃ b o, ao = some ⟨b, o, none⟩ ∧ b < w.heap.size ∧ ∀ i (h : i < l.length), w.cell? ⟨b, o + i, none⟩ = some (.int .u32 (l[i] : Nat))
theorem AtW.on {W w : World} {ao : Option Addr} {l : List Nat} (h : AtW W ao l) (hb : Below W.heap.size W w) : AtW w ao l := by
  rcases h with h0 | ⟨b, o, e, hlt, hc⟩
  · exact .inl h0
  · exact .inr ⟨b, o, e, Nat.lt_of_lt_of_le hlt hb.size, fun i hi => by rw [hb.cell (p := ⟨b, o + i, none⟩) hlt]; exact hc i hi⟩
end Go.Proofs.YtncnogndopgknaaDoor
