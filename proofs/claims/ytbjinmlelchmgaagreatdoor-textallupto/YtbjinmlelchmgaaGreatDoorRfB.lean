/- The document's Unquote (42). -/
import Derived.Test.YtbjinmlelchmgaaGreatDoorRfA
namespace Go.Proofs.YtbjinmlelchmgaaGreatDoor
open Go.RowKit
set_option maxHeartbeats 1000000 in
theorem runquote_any (W : World) (s : ByteArray) (hs : s.size ≤ 1000000000) :
    Calls Tryz.prog 42 #[.string s] W fun e W' => UqPost W (T.unquote s.data.toList) e W' := by
  generalize hr0 : T.unquote s.data.toList = r0
  have b0 : (s.size : Int) ≤ 1000000000 := by omega
  by_cases h2 : s.size < 2
  · have H : Hid (r0 = none) := hid (by
      rw [← hr0]
      cases hl : s.data.toList with
      | nil => rfl
      | cons c t =>
        have ht : t = [] := by
          have := size_list s
          rw [hl] at this
          cases t with
          | nil => rfl
          | cons _ _ => simp at this; omega
        subst ht
        unfold T.unquote
        simp only [T.unq_nil]
        split <;> rfl)
    have c1 : (s.size : Int) < 2 := by omega
    clear hr0 h2 hs
    go_enter Tryz.func42, Tryz.ntmps42
    go_wp2_with fail
    go_ret2
    rw [H.out]
    exact ⟨rfl, Below.refl _ _⟩
  · have c1 : (2 : Int) ≤ (s.size : Int) := by omega
    have hlt : 0 < s.size := by omega
    have hd := drop_get s 0 hlt
    rw [List.drop_zero] at hd
    by_cases h34 : s[0].toNat = 34
    · have e34 : ((s[0].toNat : Int) != 34) = false := by rw [h34]; rfl
      have HQ := hid (rquoted_any W s 0 hs hlt)
      have hle := T.unq_le (s.data.toList.drop 1)
      have hun : T.unquote s.data.toList = match T.unq (s.data.toList.drop 1) with
          | .inl _ => none
          | .inr (b, n) => if n < (s.data.toList.drop 1).length then none else some b := by
        conv => lhs; rw [hd]
        simp only [T.unquote, h34, if_true, Nat.zero_add]
        rfl
      rw [hun] at hr0
      rw [Nat.zero_add] at HQ
      obtain ⟨r, hr⟩ : ∃ r, T.unq (s.data.toList.drop 1) = r := ⟨_, rfl⟩
      rw [hr] at HQ hr0 hle
      have hlen : (s.data.toList.drop 1).length = s.size - 1 := by rw [List.length_drop, size_list]
      rw [hlen] at hr0 hle
      cases r with
      | inl x =>
        have H : Hid (r0 = none) := hid hr0.symm
        have HQ2 : Hid (Calls Tryz.prog 52 #[.string s, .int .i64 0] W fun e W' => e = .returned (.tuple #[.slice none 0 0, .int .i64 ((0 + 1 + x : Nat) : Int), .bool false]) ∧ Below W.heap.size W W') := HQ
        clear hr0 h2 hs hd hr hun hle hlen HQ h34
        go_enter Tryz.func42, Tryz.ntmps42
        go_wp2_with (go_at_call 52; refine HQ2.out.mono ?_; rintro e w1 ⟨rfl, hb1⟩)
        go_ret2
        rw [H.out]
        exact ⟨rfl, hb1⟩
      | inr bn =>
        obtain ⟨b, n⟩ := bn
        have HQ2 : Hid (Calls Tryz.prog 52 #[.string s, .int .i64 0] W fun e W' => ∃ v, e = .returned (.tuple #[v, .int .i64 ((0 + 1 + n : Nat) : Int), .bool true]) ∧ HB W W' v b) := HQ
        have hn : n ≤ s.size - 1 := hle.1
        by_cases hq : n < s.size - 1
        · have H : Hid (r0 = none) := hid (by rw [← hr0]; simp only [if_pos hq])
          obtain ⟨E, hE⟩ : ∃ E : Int, ((0 + 1 + n : Nat) : Int) = E := ⟨_, rfl⟩
          rw [hE] at HQ2
          have ee : (E != (s.size : Int)) = true := by simp; omega
          clear hr0 h2 hs hd hr hun hle hlen HQ h34 hE hn hq
          go_enter Tryz.func42, Tryz.ntmps42
          go_wp2_with (go_at_call 52; refine HQ2.out.mono ?_; rintro e w1 ⟨v, rfl, F⟩)
          go_ret2
          rw [H.out]
          exact ⟨rfl, F.below⟩
        · have H : Hid (r0 = some b) := hid (by rw [← hr0]; simp only [if_neg hq])
          obtain ⟨E, hE⟩ : ∃ E : Int, ((0 + 1 + n : Nat) : Int) = E := ⟨_, rfl⟩
          rw [hE] at HQ2
          have ee : (E != (s.size : Int)) = false := by simp; omega
          clear hr0 h2 hs hd hr hun hle hlen HQ h34 hE hn hq
          go_enter Tryz.func42, Tryz.ntmps42
          go_wp2_with (go_at_call 52; refine HQ2.out.mono ?_; rintro e w1 ⟨v, rfl, F⟩)
          go_ret2
          rw [H.out]
          exact ⟨v, rfl, F⟩
    · have e34 : ((s[0].toNat : Int) != 34) = true := by simp; omega
      have H : Hid (r0 = none) := hid (by
        rw [← hr0]
        conv => lhs; rw [hd]
        simp only [T.unquote, h34, if_false])
      clear hr0 h2 hs hd h34
      go_enter Tryz.func42, Tryz.ntmps42
      go_wp2_with fail
      go_ret2
      rw [H.out]
      exact ⟨rfl, Below.refl _ _⟩
end Go.Proofs.YtbjinmlelchmgaaGreatDoor
