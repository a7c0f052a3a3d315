/- TextBack (5): what its walk uses. -/
import Derived.Test.YtbjinmlelchmgaaDoorNum2
import Derived.Test.YtbjinmlelchmgaaDoorNumb
import Derived.Test.YtbjinmlelchmgaaDoorHead
import Derived.Lib.ConvBytes
import Derived.Lib.AtoiErrMem
namespace Go.Proofs.YtbjinmlelchmgaaDoor
open Go.RowKit

theorem arr_of (l : List UInt8) : (⟨l.toArray⟩ : ByteArray).data.toList = l := rfl
theorem back_of (s : ByteArray) : (⟨s.data.toList.toArray⟩ : ByteArray) = s := by cases s; simp
theorem size_of (l : List UInt8) : (⟨l.toArray⟩ : ByteArray).size = l.length := by simp [ByteArray.size]
/-- []byte(s). -/
theorem bytes_of (w : World) (s : ByteArray) : ∃ X g cap, (convert 9 24 (.string s)).run Tryd.prog w = .ok (.slice (some ⟨g, 0, none⟩) s.size cap) X ∧ Below w.heap.size w X ∧ AtB X (some ⟨g, 0, none⟩) s.data.toList := by
  refine ⟨_, _, _, Lib.run_convert_string_bytes (P := Tryd.prog) w 9 24 5 s Tryd.underlying9 Tryd.underlying24 Tryd.underlying5, Lib.bytesWorld_below _ _ _, ?_⟩
  right
  refine ⟨_, _, rfl, by rw [Lib.bytesWorld_size]; omega, fun i hi => ?_⟩
  rw [Nat.zero_add, Lib.bytesWorld_cell w 5 s i (by rw [size_list] at hi; exact hi)]
  simp only [List.getD_eq_getElem?_getD, List.getElem?_eq_getElem hi]
  rfl
/-- What comes of the document's numbers. -/
structure Tools (u : Nat) (n : Int) (s A Bx C Q : ByteArray) : Prop where
  tens : ∀ w, PowTab w → Calls Tryd.prog 10 #[.int .u32 (u : Int)] w fun e w' => e = .returned (.string A) ∧ Below w.heap.size w w'
  numA : ∀ w, Calls Tryd.prog 13 #[.string A] w fun e w' => e = .returned (.tuple #[.int .u32 (u : Int), .int .i64 0]) ∧ w = w'
  hexd : ∀ w, Calls Tryd.prog 14 #[.int .u32 (u : Int)] w fun e w' => e = .returned (.string Bx) ∧ Below w.heap.size w w'
  numB : ∀ w, Calls Tryd.prog 13 #[.string Bx] w fun e w' => e = .returned (.tuple #[.int .u32 (u : Int), .int .i64 0]) ∧ w = w'
  sizeB : (Bx.size : Int) = 10
  minus : ∀ w, PowTab w → Calls Tryd.prog 16 #[.int .i32 n] w fun e w' => e = .returned (.string C) ∧ Below w.heap.size w w'
  sgn : ∀ w, Calls Tryd.prog 15 #[.string C] w fun e w' => e = .returned (.tuple #[.int .i32 n, .int .i64 0]) ∧ w = w'
  quote : ∀ w ao c, AtB w ao s.data.toList → Calls Tryd.prog 8 #[.slice ao s.size c] w fun e w' => e = .returned (.string Q) ∧ Below w.heap.size w w'
  unq : ∀ w, Calls Tryd.prog 17 #[.string Q] w fun e w' => ∃ ao c, e = .returned (.tuple #[.slice ao s.size c, .int .i64 0]) ∧ Below w.heap.size w w' ∧ (convert 24 9 (.slice ao s.size c)).run Tryd.prog w' = .ok (.string s) w'
  q1 : (s.size : Int) + 2 ≤ (Q.size : Int)
  q2 : (Q.size : Int) ≤ 4 * (s.size : Int) + 2
  qb : ∀ k (h : k < Q.size), 32 ≤ Q[k].toNat ∧ Q[k].toNat ≤ 126 ∧ (Q[k].toNat = 34 → k = 0 ∨ k + 1 = Q.size)
theorem tools (u : Nat) (hu : u < 4294967296) (n : Int) (h0 : -2147483648 ≤ n) (h1 : n ≤ 2147483647) (s : ByteArray) (hs : s.size ≤ 1048576) : ∃ A Bx C Q, Tools u n s A Bx C Q := by
  have hql := T.quote_length s.data.toList
  rw [size_list] at hql
  have hA : (Lib.decDigits u).length ≤ 10 := by rw [Lib.decDigits_length]; exact T.nDigits_le 9 u (by omega)
  have hC : (Lib.itoa n).length ≤ 11 := by
    unfold Lib.itoa
    split
    · have := T.nDigits_le 9 n.natAbs (by omega)
      rw [List.length_cons, Lib.decDigits_length]
      omega
    · have := T.nDigits_le 9 n.toNat (by omega)
      rw [Lib.decDigits_length]
      omega
  refine ⟨⟨(Lib.decDigits u).toArray⟩, ⟨(T.hexed8 u).toArray⟩, ⟨(Lib.itoa n).toArray⟩, ⟨(T.quote s.data.toList).toArray⟩, ?_⟩
  constructor
  · exact fun w h => tens_text u (by omega) w h
  · intro w
    have := number_any w ⟨(Lib.decDigits u).toArray⟩ (by rw [size_of]; omega)
    rw [arr_of, T.number_dec u (by omega)] at this
    exact this
  · exact fun w => hexed_text w u hu
  · intro w
    have := number_any w ⟨(T.hexed8 u).toArray⟩ (by rw [size_of, T.hexed8_length]; omega)
    rw [arr_of, T.number_hex u hu] at this
    exact this
  · rw [size_of, T.hexed8_length]; rfl
  · exact fun w h => minus_text n h0 h1 w h
  · intro w
    have := signed_any w ⟨(Lib.itoa n).toArray⟩ (by rw [size_of]; omega)
    rw [arr_of, T.signed_itoa n h0 h1] at this
    exact this
  · intro w ao c h
    exact quote_any w ao s.size c s.data.toList (size_list s) (by omega) h
  · intro w
    have := unquote_any w ⟨(T.quote s.data.toList).toArray⟩ (by rw [size_of]; omega)
    rw [arr_of, T.unquote_quote] at this
    refine this.mono ?_
    rintro e w' ⟨v, rfl, h⟩
    obtain ⟨ao, cap, rfl, hcv⟩ := h.conv
    rw [size_list, back_of] at hcv
    rw [size_list]
    exact ⟨ao, cap, rfl, h.below, hcv⟩
  · rw [size_of (T.quote s.data.toList)]; omega
  · rw [size_of (T.quote s.data.toList)]; omega
  · intro k hk
    have hq : T.quote s.data.toList = 34 :: (T.quoteB s.data.toList ++ [34]) := rfl
    have hk' : k < (T.quote s.data.toList).length := by rw [size_of] at hk; exact hk
    have he : (⟨(T.quote s.data.toList).toArray⟩ : ByteArray)[k] = (T.quote s.data.toList)[k] := by
      show (T.quote s.data.toList).toArray[k] = _
      simp
    rw [he, size_of]
    have hp := T.quoteB_plain s.data.toList
    have hlen : (T.quote s.data.toList).length = (T.quoteB s.data.toList).length + 2 := by simp [hq]
    rw [hlen] at hk' ⊢
    generalize hz : (T.quote s.data.toList)[k] = z
    have hz' : (34 :: (T.quoteB s.data.toList ++ [34]))[k]? = some z := by rw [← hq, List.getElem?_eq_getElem (by omega), hz]
    generalize T.quoteB s.data.toList = b at *
    cases k with
    | zero => simp at hz'; subst hz'; exact ⟨by decide, by decide, fun _ => .inl rfl⟩
    | succ k =>
      rw [List.getElem?_cons_succ] at hz'
      by_cases hkb : k < b.length
      · rw [List.getElem?_append_left hkb] at hz'
        have := hp z (List.mem_of_getElem? hz')
        exact ⟨this.1, this.2.1, fun h => absurd h this.2.2⟩
      · obtain rfl : k = b.length := by omega
        simp at hz'
        subst hz'
        exact ⟨by decide, by decide, fun _ => .inr (by omega)⟩
end Go.Proofs.YtbjinmlelchmgaaDoor
