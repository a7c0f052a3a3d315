/- TextBack (5): what is said of the text that came in. -/
import Derived.Test.YtbjinmlelchmgaaDoorBack1
namespace Go.Proofs.YtbjinmlelchmgaaDoor
open Go.RowKit

/-- Tens write the text that was read. -/
def TenC (x : Int) (s : ByteArray) : Prop := ∀ w, PowTab w → Calls Tryd.prog 10 #[.int .u32 x] w fun e w' => e = .returned (.string s) ∧ Below w.heap.size w w'
/-- Hex writes it, filled up with zeros. -/
structure HexC (x : Int) (s A H : ByteArray) : Prop where
  tens : ∀ w, PowTab w → Calls Tryd.prog 10 #[.int .u32 x] w fun e w' => e = .returned (.string A) ∧ Below w.heap.size w w'
  ne : A.data.toList ≠ s.data.toList
  hexd : ∀ w, Calls Tryd.prog 14 #[.int .u32 x] w fun e w' => e = .returned (.string H) ∧ Below w.heap.size w w'
  lo : 3 ≤ s.size
  hi : s.size ≤ 10
  pre : s.extract 0 2 = ⟨#[48, 120]⟩
  cat : (⟨#[48, 120]⟩ : ByteArray) ++ (⟨#[48, 48, 48, 48, 48, 48, 48, 48]⟩ : ByteArray).extract 0 (10 - s.size) ++ s.extract 2 s.size = H
theorem zeros_take (k : Nat) (h : k ≤ 8) : ([48, 48, 48, 48, 48, 48, 48, 48] : List UInt8).take k = List.replicate k 48 := by
  revert k
  decide +kernel
theorem app_arr (a b : List UInt8) : (⟨a.toArray⟩ : ByteArray) ++ (⟨b.toArray⟩ : ByteArray) = ⟨(a ++ b).toArray⟩ := by
  apply WideShapes.bytes_inj
  simp
theorem num_case (s : ByteArray) (hs : s.size ≤ 1048576) : ∃ x i : Int, (∀ w, Calls Tryd.prog 13 #[.string s] w fun e w' => e = .returned (.tuple #[.int .u32 x, .int .i64 i]) ∧ w = w') ∧ ((i = 41 ∧ x = 0) ∨ (i = 0 ∧ TenC x s) ∨ (i = 0 ∧ ∃ A H, HexC x s A H)) := by
  have hn := fun w => number_any w s (by omega)
  cases hr : T.number s.data.toList with
  | none => rw [hr] at hn; exact ⟨0, 41, hn, .inl ⟨rfl, rfl⟩⟩
  | some v =>
    rw [hr] at hn
    refine ⟨v, 0, hn, .inr ?_⟩
    obtain ⟨hv, hd | ⟨l3, l10, hp, hx⟩⟩ := T.number_form hr
    · refine .inl ⟨rfl, fun w h => ?_⟩
      have := tens_text v hv w h
      rw [hd, back_of] at this
      exact this
    · refine .inr ⟨rfl, ⟨(Lib.decDigits v).toArray⟩, ⟨(T.hexed8 v).toArray⟩, ?_⟩
      rw [size_list] at l3 l10
      constructor
      · exact fun w h => tens_text v hv w h
      · rw [arr_of]
        intro h
        have hall := T.decDigits_all v
        rw [h, hp] at hall
        simp [T.isDig] at hall
      · exact fun w => hexed_text w v (by omega)
      · exact l3
      · exact l10
      · rw [extract_eq, hp]; rfl
      · rw [extract_eq, extract_eq, arr_of]
        rw [show (⟨#[48, 120]⟩ : ByteArray) = ⟨([48, 120] : List UInt8).toArray⟩ from rfl, app_arr, app_arr, hx, size_list]
        simp only [List.drop_zero, Nat.sub_zero]
        rw [zeros_take _ (by omega)]
        rw [List.take_of_length_le (by rw [List.length_drop, size_list]; omega)]
theorem sgn_case (s : ByteArray) (hs : s.size ≤ 1048576) : ∃ y j : Int, (∀ w, Calls Tryd.prog 15 #[.string s] w fun e w' => e = .returned (.tuple #[.int .i32 y, .int .i64 j]) ∧ w = w') ∧ ((j = 41 ∧ y = 0) ∨ (j = 0 ∧ ∀ w, PowTab w → Calls Tryd.prog 16 #[.int .i32 y] w fun e w' => e = .returned (.string s) ∧ Below w.heap.size w w')) := by
  have hn := fun w => signed_any w s (by omega)
  cases hr : T.signed s.data.toList with
  | none => rw [hr] at hn; exact ⟨0, 41, hn, .inl ⟨rfl, rfl⟩⟩
  | some v =>
    rw [hr] at hn
    refine ⟨v, 0, hn, .inr ⟨rfl, fun w h => ?_⟩⟩
    obtain ⟨h0, h1, hd⟩ := T.signed_form hr
    have := minus_text v h0 h1 w h
    rw [hd, back_of] at this
    exact this
theorem HB.at {W w : World} {v : Value} {l : List UInt8} (h : HB W w v l) : ∃ ao c, v = .slice ao l.length c ∧ AtB w ao l := by
  rcases h.own.2 with ⟨hv, h0⟩ | ⟨g, cap, cur, hv, hb, hg, _⟩
  · exact ⟨none, 0, by rw [hv, h0], .inl (List.eq_nil_of_length_eq_zero h0)⟩
  · refine ⟨some ⟨g, 0, none⟩, cap, hv, .inr ⟨g, 0, rfl, (Array.getElem?_eq_some_iff.1 hg).1, fun i hi => ?_⟩⟩
    have := h.own.cells (g := g) (by rw [hv]; rfl) i (.int .u8 (l[i].toNat : Int)) (by simp [Lib.byteCells, hi])
    rw [Addr.add_mid] at this
    exact this
theorem unq_case (s : ByteArray) (hs : s.size ≤ 1048576) : ∃ (m : Nat) (k : Int), (∀ w, Calls Tryd.prog 17 #[.string s] w fun e w' => ∃ ao c, e = .returned (.tuple #[.slice ao m c, .int .i64 k]) ∧ Below w.heap.size w w' ∧ (k = 0 → ∀ X, Below w'.heap.size w' X → Calls Tryd.prog 8 #[.slice ao m c] X fun e w' => e = .returned (.string s) ∧ Below X.heap.size X w')) ∧ ((k = 40 ∧ m = 0) ∨ k = 0) := by
  have hn := fun w => unquote_any w s (by omega)
  cases hr : T.unquote s.data.toList with
  | none =>
    rw [hr] at hn
    refine ⟨0, 40, fun w => (hn w).mono ?_, .inl ⟨rfl, rfl⟩⟩
    rintro e w' ⟨rfl, hb⟩
    exact ⟨none, 0, rfl, hb, fun h => by cases h⟩
  | some b =>
    rw [hr] at hn
    have hq := T.quote_unquote hr
    have hbl := (T.quote_length b).1
    rw [hq, size_list] at hbl
    refine ⟨b.length, 0, fun w => (hn w).mono ?_, .inr rfl⟩
    rintro e w' ⟨v, rfl, h⟩
    obtain ⟨ao, c, rfl, hat⟩ := h.at
    refine ⟨ao, c, rfl, h.below, fun _ X hX => ?_⟩
    have hat' : AtB X ao b := by
      rcases hat with h0 | ⟨g, o, hg, hlt, hc⟩
      · exact .inl h0
      · refine .inr ⟨g, o, hg, Nat.lt_of_lt_of_le hlt hX.size, fun i hi => ?_⟩
        rw [hX.cell (p := ⟨g, o + i, none⟩) hlt]
        exact hc i hi
    have := quote_any X ao b.length c b rfl (by omega) hat'
    rw [hq, back_of] at this
    exact this
end Go.Proofs.YtbjinmlelchmgaaDoor
