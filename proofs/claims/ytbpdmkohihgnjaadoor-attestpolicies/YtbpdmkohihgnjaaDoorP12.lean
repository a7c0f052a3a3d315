import Derived.Test.YtbpdmkohihgnjaaDoorP11
import Derived.ArgAppend
namespace Go.Proofs.YtbpdmkohihgnjaaDoor
open Go.RowKit

def Cel (w : World) (g : Nat) (t : TypeId) (cs : List Value) : Prop := w.heap[g]? = some (.cells cs.toArray t (0, 0))
theorem Cel.lt {w : World} {g : Nat} {t : TypeId} {cs : List Value} (h : Cel w g t cs) : g < w.heap.size := (Array.getElem?_eq_some_iff.1 h).1
theorem Cel.but {w w' : World} {g i : Nat} {t : TypeId} {cs : List Value} (h : Cel w i t cs) (hb : But g w w') (hi : i ≠ g) : Cel w' i t cs := (hb.block i h.lt hi).trans h
theorem Cel.below {w w' : World} {B g : Nat} {t : TypeId} {cs : List Value} (h : Cel w g t cs) (hb : Below B w w') (hg : g < B) : Cel w' g t cs := (hb.block g hg).trans h
theorem Cel.cell {w : World} {g : Nat} {t : TypeId} {cs : List Value} (h : Cel w g t cs) (j : Nat) : w.cell? ⟨g, j, none⟩ = cs[j]? := by
  rw [cell_of_row w g j _ t (0, 0) h]; simp
theorem Cel.free {w : World} {g : Nat} {t : TypeId} {cs : List Value} (h : Cel w g t cs) (j : Nat) : w.frozen? ⟨g, j, none⟩ = false := frozen_of_row w g j _ t h

end Go.Proofs.YtbpdmkohihgnjaaDoor
namespace Go.Proofs.YtbpdmkohihgnjaaDoor
open Go.RowKit

def digC (A : List Int) (n : Nat) (q : List Int) : List Value := A.map (Value.int .u32) ++ (Value.int .i64 (n : Int) :: q.map (Value.int .u32))
structure Dig (W : World) (g : Nat) (A : List Int) (n : Nat) (p : List Int) : Prop where
  al : A.length = 8
  nl : n ≤ 36028797018963968
  pl : p.length = n % 16
  cells : ∃ r : List Int, (p ++ r).length = 16 ∧ Cel W g 111 (digC A n (p ++ r))
theorem digC_n (A : List Int) (n : Nat) (q : List Int) (hA : A.length = 8) : (digC A n q)[8]? = some (.int .i64 (n : Int)) := by
  unfold digC
  rw [List.getElem?_append_right (by simp [hA])]
  simp [hA]
theorem Dig.lt {W : World} {g : Nat} {A : List Int} {n : Nat} {p : List Int} (h : Dig W g A n p) : g < W.heap.size := by obtain ⟨r, _, h⟩ := h.cells; exact h.lt
theorem Dig.cellN {W : World} {g : Nat} {A : List Int} {n : Nat} {p : List Int} (h : Dig W g A n p) : W.cell? ⟨g, 8, none⟩ = some (.int .i64 (n : Int)) := by
  obtain ⟨r, _, hc⟩ := h.cells
  rw [hc.cell, digC_n _ _ _ h.al]
theorem cel_rowP {W : World} {g : Nat} {A : List Int} {n : Nat} {q : List Int} (hA : A.length = 8) (hc : Cel W g 111 (digC A n q)) : Row W .u32 g 9 q := by
  intro i hi
  rw [hc.cell]
  unfold digC
  rw [List.getElem?_append_right (by simp [hA]; omega)]
  simp only [List.length_map, hA]
  rw [show 9 + i - 8 = i + 1 by omega, List.getElem?_cons_succ]
  simp [List.getD_eq_getElem?_getD, hi]
theorem Dig.rowP {W : World} {g : Nat} {A : List Int} {n : Nat} {p : List Int} (h : Dig W g A n p) : Row W .u32 g 9 p := by
  obtain ⟨r, _, hc⟩ := h.cells
  exact (cel_rowP h.al hc).head
theorem Dig.below {W w : World} {B g : Nat} {A : List Int} {n : Nat} {p : List Int} (h : Dig W g A n p) (hb : Below B W w) (hg : g < B) : Dig w g A n p := by
  obtain ⟨r, hr, hc⟩ := h.cells
  exact ⟨h.al, h.nl, h.pl, r, hr, hc.below hb hg⟩
theorem Dig.but {W w : World} {g i : Nat} {A : List Int} {n : Nat} {p : List Int} (h : Dig W i A n p) (hb : But g W w) (hg : i ≠ g) : Dig w i A n p := by
  obtain ⟨r, hr, hc⟩ := h.cells
  exact ⟨h.al, h.nl, h.pl, r, hr, hc.but hb hg⟩
theorem Dig.at {W : World} {g : Nat} {A : List Int} {n : Nat} {p : List Int} (h : Dig W g A n p) : At W .u32 (some ⟨g, 9, none⟩) p := .inr ⟨g, 9, rfl, h.lt, h.rowP⟩

end Go.Proofs.YtbpdmkohihgnjaaDoor
namespace Go.Proofs.YtbpdmkohihgnjaaDoor
open Go.RowKit

attribute [-simp] Tryd.isAgg111 Tryd.sizeOf111 Tryd.zeroValue111
end Go.Proofs.YtbpdmkohihgnjaaDoor
