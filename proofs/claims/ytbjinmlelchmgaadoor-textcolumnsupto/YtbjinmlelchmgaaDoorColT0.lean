/- TextColumns (4): what its loops keep, as plain lists. -/
import Derived.Test.YtbjinmlelchmgaaDoorColb
import Derived.Test.YtbjinmlelchmgaaDoorSfx
import Derived.Deep.DeepCutAuto
namespace Go.Proofs.YtbjinmlelchmgaaDoor
open Go.RowKit
namespace T
/-- Where the columns begin, as far as rows had them. -/
def bsOf (ws : List Nat) (N M : Nat) : List Nat := (List.range N).map fun j => if j < M then col ws j + 1 else 0
theorem bsOf_length (ws : List Nat) (N M : Nat) : (bsOf ws N M).length = N := by simp [bsOf]
theorem bsOf_get (ws : List Nat) (N M j : Nat) (h : j < N) : (bsOf ws N M)[j]'(by rw [bsOf_length]; exact h) = if j < M then col ws j + 1 else 0 := by simp [bsOf]
theorem bsOf_zero (ws : List Nat) (N : Nat) : bsOf ws N 0 = List.replicate N 0 := by
  apply List.ext_getElem
  · simp [bsOf]
  · intro i h1 h2; simp [bsOf]
theorem bsOf_set (ws : List Nat) (N M t : Nat) : (bsOf ws N (max M t)).set t (col ws t + 1) = bsOf ws N (max M (t + 1)) := by
  apply List.ext_getElem
  · simp [bsOf]
  · intro i h1 h2
    rw [List.getElem_set]
    simp only [bsOf, List.getElem_map, List.getElem_range]
    by_cases hi : t = i
    · subst hi
      rw [if_pos rfl, if_pos (by omega)]
    · rw [if_neg hi]
      by_cases h3 : i < max M t
      · rw [if_pos h3, if_pos (by omega)]
      · rw [if_neg h3, if_neg (by omega)]
/-- What is known of the fewest blanks, q + 1 the column. -/
def Few (ws : List Nat) (q x : Nat) (rs : List (List (List UInt8))) : Prop := (x = 0 ∧ ∀ r ∈ rs, ¬ q < r.length) ∨ (2 ≤ x ∧ ∀ r ∈ rs, q < r.length → x + (r.getD q []).length ≤ ws.getD q 0 + 2)
theorem Few.nil (ws : List Nat) (q : Nat) : Few ws q 0 [] := .inl ⟨rfl, fun r h => by cases h⟩
theorem Few.skip {ws : List Nat} {q x : Nat} {rs : List (List (List UInt8))} (h : Few ws q x rs) (r : List (List UInt8)) (hr : ¬ q < r.length) : Few ws q x (rs ++ [r]) := by
  rcases h with ⟨h0, h1⟩ | ⟨h0, h1⟩
  · refine .inl ⟨h0, fun r' hr' => ?_⟩
    rcases List.mem_append.1 hr' with h2 | h2
    · exact h1 r' h2
    · simp at h2; subst h2; exact hr
  · refine .inr ⟨h0, fun r' hr' hq => ?_⟩
    rcases List.mem_append.1 hr' with h2 | h2
    · exact h1 r' h2 hq
    · simp at h2; subst h2; exact absurd hq hr
/-- A row that has the column: its gap is smaller, or not. -/
theorem Few.less {ws : List Nat} {q x g : Nat} {rs : List (List (List UInt8))} (h : Few ws q x rs) (r : List (List UInt8)) (hg : g + (r.getD q []).length = ws.getD q 0 + 2) (h2 : 2 ≤ g) (hx : x = 0 ∨ g < x) : Few ws q g (rs ++ [r]) := by
  refine .inr ⟨h2, fun r' hr' hq => ?_⟩
  rcases List.mem_append.1 hr' with h3 | h3
  · rcases h with ⟨_, h1⟩ | ⟨h0, h1⟩
    · exact absurd hq (h1 r' h3)
    · have := h1 r' h3 hq
      omega
  · simp at h3; subst h3; omega
theorem Few.more {ws : List Nat} {q x g : Nat} {rs : List (List (List UInt8))} (h : Few ws q x rs) (r : List (List UInt8)) (hg : g + (r.getD q []).length = ws.getD q 0 + 2) (hx : x ≠ 0) (hl : x ≤ g) : Few ws q x (rs ++ [r]) := by
  rcases h with ⟨h0, _⟩ | ⟨h0, h1⟩
  · exact absurd h0 hx
  · refine .inr ⟨h0, fun r' hr' hq => ?_⟩
    rcases List.mem_append.1 hr' with h3 | h3
    · exact h1 r' h3 hq
    · simp at h3; subst h3; omega
theorem Few.two {ws : List Nat} {q x : Nat} {rs : List (List (List UInt8))} (h : Few ws q x rs) (he : ∃ r ∈ rs, q < r.length ∧ (r.getD q []).length = ws.getD q 0) : x = 2 := by
  obtain ⟨r, hr, hq, hl⟩ := he
  rcases h with ⟨_, h1⟩ | ⟨h0, h1⟩
  · exact absurd hq (h1 r hr)
  · have := h1 r hr hq
    omega
end T
theorem HW.wide {W w w' : World} {v : Value} {ws : List T.Wd} (h : HW w w' v ws) (hb : Below W.heap.size W w) : HW W w' v ws := ⟨own_mono h.own hb.size, hb.trans (h.below.mono hb.size)⟩
theorem HV.wide {W w w' : World} {e : TypeId} {v : Value} {xs : List Value} (h : HV w w' e v xs) (hb : Below W.heap.size W w) : HV W w' e v xs := ⟨own_mono h.own hb.size, hb.trans (h.below.mono hb.size)⟩
theorem HW.drewN' {W wr : World} {v : Value} {ws : List T.Wd} (h : HW W wr v ws) (n : Nat) : HW W (wr.drewN n) v ws := ⟨h.own, below_drewN h.below n⟩
theorem HV.drewN {W wr : World} {e : TypeId} {v : Value} {xs : List Value} (h : HV W wr e v xs) (n : Nat) : HV W (wr.drewN n) e v xs := h.on (below_drewN (Below.refl _ _) n)
theorem RowsT.on {w w' : World} {ao : Option Addr} {rows : List (List (List UInt8))} (h : RowsT w ao rows) (hb : Below w.heap.size w w') : RowsT w' ao rows := h.keep (K3.on hb)
theorem RowsT.drewN {w : World} {ao : Option Addr} {rows : List (List (List UInt8))} (h : RowsT w ao rows) (n : Nat) : RowsT (w.drewN n) ao rows := h.on (below_drewN (Below.refl _ _) n)
theorem strs_get (ls : List (List UInt8)) (i : Nat) (h : i < ls.length) : (strs ls)[i]? = some (.string ⟨ls[i].toArray⟩) := by simp [strs, h]
end Go.Proofs.YtbjinmlelchmgaaDoor
