/- hexed (31). -/
import Derived.Test.YtncnogndopgknaaGreatDoorTens
import Derived.Laws.BitsAllLaws
namespace Go.Proofs.YtncnogndopgknaaGreatDoor
open Go.RowKit
theorem or_digit (x b : Int) (x0 : 0 ≤ x) (x1 : x < 268435456) (b0 : 0 ≤ b) (b1 : b < 16) : bits .or .u32 (x * 16) b = x * 16 + b := by
  rw [u32_or _ _ (by omega) (by omega) b0 (by omega), nat_join 4 _ _ (by omega) (by omega)]
  omega
set_option maxHeartbeats 1000000 in
theorem hexed_any (W : World) (s : ByteArray) (hs : s.size ≤ 1000000000) :
    Calls Tryz.prog 171 #[.string s] W fun e W' => e = .returned (numRes (T.hexed s.data.toList)) ∧ W = W' := by
  generalize hr0 : numRes (T.hexed s.data.toList) = r0
  by_cases h0 : s.size = 0
  · have hse := emp s h0
    have HR : Hid (.tuple #[.int .u32 0, .int .i64 41] = r0) := hid (by rw [← hr0, hse]; rfl)
    clear hr0 hs h0
    subst hse
    go_enter Tryz.func171, Tryz.ntmps171
    go_wp2_with fail
    go_ret2
    exact ⟨ret_val HR.out, rfl⟩
  · have hlt : 0 < s.size := by omega
    obtain ⟨n1, n2, n3⟩ := ne_nil s hlt
    have b1 : (0 : Int) < (s.size : Int) := by omega
    by_cases h10 : s.size ≤ 8
    · have b2 : (s.size : Int) ≤ 8 := by omega
      have HR : Hid (numRes (T.hval s.data.toList) = r0) := hid (by
        have hneg : ¬ (s.data.toList.length = 0 ∨ 8 < s.data.toList.length) := by
          rw [size_list]
          omega
        rw [← hr0]
        unfold T.hexed
        rw [if_neg hneg])
      clear hr0 h0 n3
      go_enter Tryz.func171, Tryz.ntmps171
      go_wp2_with fail
      go_loopw [4, 5, 6, 7, 17] (fun n _ _ _ i wr => ∃ (k : Nat) (a : Int), k ≤ s.size ∧ i = .int .i64 k ∧ n = .int .u32 a ∧ 0 ≤ a ∧ a < 4294967296 ∧ Hid (∃ b : Nat, a = (b : Int) ∧ T.hval (s.data.toList.take k) = some b) ∧ W = wr) (fun _ _ _ _ i _ => s.size - (intOf i).toNat)
      case atStart => exact ⟨0, 0, Nat.zero_le _, rfl, rfl, by omega, by omega, hid ⟨0, rfl, by simp [T.hval]⟩, rfl⟩
      case round =>
        obtain ⟨k, a, hk, rfl, rfl, ha0, ha1, ha, rfl⟩ := hrel
        by_cases hk2 : k < s.size
        · have c1 : (k : Int) < (s.size : Int) := by omega
          obtain ⟨b, hb1, hb2⟩ := ha.out
          have hlt1 := T.hval_lt hb2
          rw [List.length_take, size_list, Nat.min_eq_left (by omega)] at hlt1
          have hpow : 16 ^ k ≤ 16 ^ 7 := Nat.pow_le_pow_right (by decide) (by omega)
          have q1 : a < 268435456 := by omega
          cases hD : T.hexV s[k] with
          | some d =>
            have HD := hexValue_some _ d hD
            have hd := (T.hexV_lt hD).1
            have q2 : (d : Int) < 16 := by omega
            have q3 : (0 : Int) ≤ (d : Int) := by omega
            have ho := or_digit a (d : Int) ha0 q1 q3 q2
            have HN : Hid (∃ b : Nat, a * 16 + (d : Int) = (b : Int) ∧ T.hval (s.data.toList.take (k + 1)) = some b) := hid ⟨b * 16 + d, by omega, by
              rw [take_snoc s k hk2, T.hval_snoc, hb2]
              simp only [T.hstep, hD]⟩
            clear hb1 hb2 hlt1 hpow ha HR hD
            go_wp2_with fail
            refine (HD _).mono ?_
            rintro e w' ⟨rfl, rfl⟩
            go_wp2_with fail
            go_roundw
            case rel => exact ⟨k + 1, _, by omega, by go_num, rfl, by omega, by omega, HN, trivial⟩
            case measure => simp [intOf]; omega
          | none =>
            have HD := hexValue_none _ hD
            have HF : Hid (.tuple #[.int .u32 0, .int .i64 41] = r0) := hid (by
              rw [← HR.out, ← List.take_append_drop k s.data.toList, T.hval_append, hb2, drop_get s k hk2, List.foldl_cons]
              simp only [T.hstep, hD]
              rw [T.hfold_none]
              rfl)
            clear hb1 hb2 hlt1 hpow ha HR hD
            go_wp2_with fail
            refine (HD _).mono ?_
            rintro e w' ⟨rfl, rfl⟩
            go_wp2_with fail
            go_ret2
            exact ⟨ret_val HF.out, rfl⟩
        · obtain rfl : k = s.size := by omega
          obtain ⟨b, hb1, hb2⟩ := ha.out
          rw [take_size] at hb2
          have HF : Hid (.tuple #[.int .u32 a, .int .i64 0] = r0) := hid (by
            rw [← HR.out, hb2, hb1]
            rfl)
          clear ha HR hb1 hb2
          go_wp2_with fail
          go_ret2
          exact ⟨ret_val HF.out, rfl⟩
    · have b2 : (8 : Int) < (s.size : Int) := by omega
      have HR : Hid (.tuple #[.int .u32 0, .int .i64 41] = r0) := hid (by
        rw [← hr0]
        unfold T.hexed
        rw [if_pos (.inr (by rw [size_list]; omega))]
        rfl)
      clear hr0 h0 n3
      go_enter Tryz.func171, Tryz.ntmps171
      go_wp2_with fail
      go_ret2
      exact ⟨ret_val HR.out, rfl⟩
end Go.Proofs.YtncnogndopgknaaGreatDoor
