import Derived.Test.YtialckmoigcdeaaDoorLaws
namespace Go.Proofs.YtialckmoigcdeaaDoor
open Go.RowKit

/-- The cells of a digest. -/
def digC (A : List Int) (n : Nat) (q : List Int) : List Value := A.map (Value.int .u32) ++ (Value.int .i64 (n : Int) :: q.map (Value.int .u32))
/-- A digest: the state A, n words, of which p wait. -/
structure Dig (W : World) (g : Nat) (A : List Int) (n : Nat) (p : List Int) : Prop where
  al : A.length = 8
  nl : n ≤ 36028797018963968
  pl : p.length = n % 16
  cells : ∃ r : List Int, (p ++ r).length = 16 ∧ Cel W g 70 (digC A n (p ++ r))
theorem digC_length (A : List Int) (n : Nat) (q : List Int) (hA : A.length = 8) (hq : q.length = 16) : (digC A n q).length = 25 := by simp [digC, hA, hq]
theorem digC_n (A : List Int) (n : Nat) (q : List Int) (hA : A.length = 8) : (digC A n q)[8]? = some (.int .i64 (n : Int)) := by
  unfold digC
  rw [List.getElem?_append_right (by simp [hA])]
  simp [hA]
theorem Dig.lt {W : World} {g : Nat} {A : List Int} {n : Nat} {p : List Int} (h : Dig W g A n p) : g < W.heap.size := by obtain ⟨r, _, h⟩ := h.cells; exact h.lt
theorem Dig.cellN {W : World} {g : Nat} {A : List Int} {n : Nat} {p : List Int} (h : Dig W g A n p) : W.cell? ⟨g, 8, none⟩ = some (.int .i64 (n : Int)) := by
  obtain ⟨r, _, hc⟩ := h.cells
  rw [hc.cell, digC_n _ _ _ h.al]
theorem cel_rowA {W : World} {g : Nat} {A : List Int} {n : Nat} {q : List Int} (hc : Cel W g 70 (digC A n q)) : Row W .u32 g 0 A := by
  intro i hi
  rw [Nat.zero_add, hc.cell]
  unfold digC
  rw [List.getElem?_append_left (by simpa using hi)]
  simp [List.getD_eq_getElem?_getD, hi]
theorem cel_rowP {W : World} {g : Nat} {A : List Int} {n : Nat} {q : List Int} (hA : A.length = 8) (hc : Cel W g 70 (digC A n q)) : Row W .u32 g 9 q := by
  intro i hi
  rw [hc.cell]
  unfold digC
  rw [List.getElem?_append_right (by simp [hA]; omega)]
  simp only [List.length_map, hA]
  rw [show 9 + i - 8 = i + 1 by omega, List.getElem?_cons_succ]
  simp [List.getD_eq_getElem?_getD, hi]
theorem Dig.rowA {W : World} {g : Nat} {A : List Int} {n : Nat} {p : List Int} (h : Dig W g A n p) : Row W .u32 g 0 A := by
  obtain ⟨r, _, hc⟩ := h.cells
  exact cel_rowA hc
theorem Dig.rowP {W : World} {g : Nat} {A : List Int} {n : Nat} {p : List Int} (h : Dig W g A n p) : Row W .u32 g 9 p := by
  obtain ⟨r, _, hc⟩ := h.cells
  exact (cel_rowP h.al hc).head
theorem Dig.below {W w : World} {B g : Nat} {A : List Int} {n : Nat} {p : List Int} (h : Dig W g A n p) (hb : Below B W w) (hg : g < B) : Dig w g A n p := by
  obtain ⟨r, hr, hc⟩ := h.cells
  exact ⟨h.al, h.nl, h.pl, r, hr, hc.below hb hg⟩
theorem Dig.but {W w : World} {g i : Nat} {A : List Int} {n : Nat} {p : List Int} (h : Dig W i A n p) (hb : But g W w) (hg : i ≠ g) : Dig w i A n p := by
  obtain ⟨r, hr, hc⟩ := h.cells
  exact ⟨h.al, h.nl, h.pl, r, hr, hc.but hb hg⟩
theorem Dig.at {W : World} {g : Nat} {A : List Int} {n : Nat} {p : List Int} (h : Dig W g A n p) : At W .u32 (some ⟨g, 9, none⟩) p := .inr ⟨g, 9, rfl, h.lt, h.rowP⟩

/-- What waits lies behind the count: it stays where the state and the count are turned. -/
theorem row_behind {W w : World} {g : Nat} {A M : List Int} {n k : Nat} {q : List Int} {off : Nat} {R : List Int} (hA : A.length = 8) (hM : M.length = 8) (h : Cel W g 70 (digC A n q)) (h' : Cel w g 70 (digC M k q)) (ho : 9 ≤ off) (hr : Row W .u32 g off R) : Row w .u32 g off R := by
  intro i hi
  rw [← hr i hi, h.cell, h'.cell]
  unfold digC
  rw [List.getElem?_append_right (by simp [hM]; omega), List.getElem?_append_right (by simp [hA]; omega)]
  simp only [List.length_map, hA, hM]
  obtain ⟨j, hj⟩ : ∃ j, off + i - 8 = j + 1 := ⟨off + i - 9, by omega⟩
  rw [hj, List.getElem?_cons_succ, List.getElem?_cons_succ]
theorem waiting_any (W : World) (g : Nat) (A : List Int) (n : Nat) (p : List Int) (D : Dig W g A n p) :
    Calls Tryd.prog 34 #[.pointer (some ⟨g, 0, none⟩)] W fun e W' => e = .returned (.slice (some ⟨g, 9, none⟩) (n % 16) (n % 16)) ∧ W = W' := by
  have c := D.cellN
  have hn := D.nl
  have i1 : (n : Int) ≤ 36028797018963968 := by omega
  obtain ⟨t, ht⟩ : ∃ t : Nat, n % 16 = t := ⟨_, rfl⟩
  have e : (n : Int) % 16 = (t : Int) := by omega
  have i2 : (t : Int) ≤ 16 := by omega
  rw [ht]
  clear D hn ht
  go_enter Tryd.func34, Tryd.ntmps34
  go_wp2
  go_ret
  exact ⟨rfl, rfl⟩
theorem high_any (W : World) (n : Int) (h0 : 0 ≤ n) (h1 : n < 18446744073709551616) :
    Calls Tryd.prog 54 #[.int .u64 n] W fun e W' => e = .returned (.int .u32 (n / 4294967296)) ∧ W = W' := by
  go_enter Tryd.func54, Tryd.ntmps54
  go_wp2
  go_ret
  exact ⟨rfl, rfl⟩
theorem low_any (W : World) (n : Int) :
    Calls Tryd.prog 55 #[.int .u64 n] W fun e W' => e = .returned (.int .u32 (n % 4294967296)) ∧ W = W' := by
  go_enter Tryd.func55, Tryd.ntmps55
  go_wp2
  go_ret
  exact ⟨rfl, rfl⟩
end Go.Proofs.YtialckmoigcdeaaDoor
