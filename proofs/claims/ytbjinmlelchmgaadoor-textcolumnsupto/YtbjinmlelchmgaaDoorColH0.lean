/- TextColumns: the table that came in, as rows of texts. -/
import Derived.Test.YtbjinmlelchmgaaDoorColT0
namespace Go.Proofs.YtbjinmlelchmgaaDoor
open Go.RowKit

theorem Tryd.info39 : (Tryd.prog.info? 39).map (fun i => (i.zero, i.size, i.bytes)) = some (some (.slice none 0 0), 1, 24) := by kernel_rfl
def U32sAt (w : World) (ao : Option Addr) (l : List Nat) : Prop := l = [] ∨ ∃ b o, ao = some ⟨b, o, none⟩ ∧ b < w.heap.size ∧ ∀ i (h : i < l.length), w.cell? ⟨b, o + i, none⟩ = some (.int .u32 (l[i] : Int))
def TabAt (w : World) (ao : Option Addr) (l : List (List Nat)) : Prop := l = [] ∨ ∃ b o, ao = some ⟨b, o, none⟩ ∧ b < w.heap.size ∧ ∀ i (h : i < l.length), ∃ ai ci, w.cell? ⟨b, o + i, none⟩ = some (.slice ai l[i].length ci) ∧ U32sAt w ai l[i]
namespace T
def rowsOf (tab : List (List Nat)) : List (List (List UInt8)) := tab.map fun l => l.map Lib.decDigits
theorem digs_dec (u : Nat) : digs (Lib.decDigits u) := by
  refine ⟨decDigits_ne u, fun x hx => ?_⟩
  have := List.all_eq_true.1 (decDigits_all u) x hx
  exact (isDig_iff x).1 this
theorem dec_le (u : Nat) (h : u ≤ 4294967295) : (Lib.decDigits u).length ≤ 10 := by
  rw [Lib.decDigits_length]
  exact nDigits_le 9 u (by omega)
end T
theorem nums_nil {W w : World} (hb : Below W.heap.size W w) : Nums W w (.slice none 0 0) (.slice none 0 0) [] [] := ⟨HV.nil 3 hb, HV.nil 3 hb, fun g h => by cases h⟩
theorem take_map_dec (l : List Nat) (t : Nat) (h : t < l.length) : (l.map Lib.decDigits).take (t + 1) = (l.map Lib.decDigits).take t ++ [Lib.decDigits l[t]] := by
  rw [List.take_succ_eq_append_getElem (by simpa using h), List.getElem_map]
theorem In.own4 {W Wi w : World} {v4 v5 v7 : Value} {m4 m5 : Nat} {cells : List (List UInt8)} (h : In W Wi w v4 v5 v7 m4 m5 cells) : w.ownsRow W.heap.size 3 1 v4 m4 (ints (List.replicate m4 0)) := by
  have := h.nums.b.own
  rwa [ints_length, List.length_replicate] at this
theorem In.form4 {W Wi w : World} {v4 v5 v7 : Value} {m4 m5 : Nat} {cells : List (List UInt8)} (h : In W Wi w v4 v5 v7 m4 m5 cells) : ∃ a c, v4 = .slice a m4 c := h.nums.b.anyN (by rw [ints_length, List.length_replicate])
theorem fits_rows (tab : List (List Nat)) (r : List (List UInt8)) (hr : r ∈ T.rowsOf tab) : T.Fits (T.widths (T.rowsOf tab)) r := by
  refine ⟨fun c hc => ?_, (T.widths_ge _ r hr).2⟩
  obtain ⟨l, _, rfl⟩ := List.mem_map.1 hr
  obtain ⟨u, _, rfl⟩ := List.mem_map.1 hc
  exact T.digs_dec u
theorem wide_rows (tab : List (List Nat)) (hu : ∀ l ∈ tab, ∀ u ∈ l, u ≤ 4294967295) (i : Nat) : (T.widths (T.rowsOf tab)).getD i 0 ≤ 10 := by
  rcases T.widths_is (T.rowsOf tab) i with h | ⟨r, hr, h⟩
  · omega
  · rw [← h]
    refine T.getD_len r 10 (fun x hx => ?_) i
    obtain ⟨l, hl, rfl⟩ := List.mem_map.1 hr
    obtain ⟨u, hu1, rfl⟩ := List.mem_map.1 hx
    exact T.dec_le u (hu l hl u hu1)
theorem met_rows (tab : List (List Nat)) (q : Nat) (hq : q < (T.widths (T.rowsOf tab)).length) : ∃ r ∈ T.rowsOf tab, q < r.length ∧ (r.getD q []).length = (T.widths (T.rowsOf tab)).getD q 0 := by
  have hpos : 1 ≤ (T.widths (T.rowsOf tab)).getD q 0 := by
    rcases T.widths_length_is (T.rowsOf tab) [] with h | ⟨r, hr, h⟩
    · unfold T.widths at hq; rw [h] at hq; simp at hq
    · have h1 := (T.widths_ge _ r hr).2 q
      have h2 : q < r.length := by rw [h]; exact hq
      have h3 := ((fits_rows tab r hr).at q h2).1
      have h4 : 0 < (r.getD q []).length := by
        cases hc : r.getD q [] with
        | nil => exact absurd hc h3
        | cons _ _ => simp
      omega
  rcases T.widths_is (T.rowsOf tab) q with h | ⟨r, hr, h⟩
  · omega
  · refine ⟨r, hr, ?_, h⟩
    rcases Nat.lt_or_ge q r.length with h1 | h1
    · exact h1
    · rw [List.getD_eq_getElem?_getD, List.getElem?_eq_none h1] at h
      simp at h
      simp at hpos
      omega
end Go.Proofs.YtbjinmlelchmgaaDoor
