/- tens (32), hexed (31). -/
import Derived.Test.YtncnogndopgknaaGreatDoorNum
import Derived.Test.YtncnogndopgknaaGreatDoorNam
namespace Go.Proofs.YtncnogndopgknaaGreatDoor
open Go.RowKit
theorem ret_val {a b : Value} (h : a = b) : Ending.returned a = .returned b := by rw [h]
def numRes (r : Option Nat) : Value := match r with
  | some v => .tuple #[.int .u32 (v : Int), .int .i64 0]
  | none => .tuple #[.int .u32 0, .int .i64 41]

theorem all_at (s : ByteArray) (f : UInt8 → Bool) (k : Nat) (h : k < s.size) (hf : f s[k] = false) : s.data.toList.all f = false := by
  rw [← List.take_append_drop k s.data.toList, List.all_append, drop_get s k h, List.all_cons, hf]
  simp

set_option maxHeartbeats 1000000 in
theorem tens_any (W : World) (s : ByteArray) (m : Nat) (hm : m ≤ 4294967295) (hs : s.size ≤ 1000000000) (M : Int) (hM : M = (m : Int)) :
    Calls Tryz.prog 172 #[.string s, .int .u64 M] W fun e W' => e = .returned (numRes (T.tens s.data.toList m)) ∧ W = W' := by
  generalize hr0 : numRes (T.tens s.data.toList m) = r0
  have m1 : (0 : Int) ≤ M := by omega
  have m2 : M ≤ 4294967295 := by omega
  have HM : Hid (M = (m : Int)) := hM
  clear hM
  by_cases h0 : s.size = 0
  · have hse := emp s h0
    have HR : Hid (.tuple #[.int .u32 0, .int .i64 41] = r0) := hid (by rw [← hr0, hse]; rfl)
    clear hr0 hs h0 hm
    subst hse
    go_enter Tryz.func172, Tryz.ntmps172
    go_wp2_with fail
    go_ret2
    exact ⟨ret_val HR.out, rfl⟩
  · have hlt : 0 < s.size := by omega
    obtain ⟨n1, n2, n3⟩ := ne_nil s hlt
    have b1 : (0 : Int) < (s.size : Int) := by omega
    by_cases h10 : s.size ≤ 10
    · have b2 : (s.size : Int) ≤ 10 := by omega
      by_cases hz : s[0].toNat = 48 ∧ 1 < s.size
      · have e1 : ((s[0].toNat : Int) == 48) = true := by rw [hz.1]; rfl
        have e2 : (1 : Int) < (s.size : Int) := by omega
        have HR : Hid (.tuple #[.int .u32 0, .int .i64 41] = r0) := hid (by
          rw [← hr0]
          unfold T.tens
          rw [if_pos (.inr (.inr (by rw [n3, size_list]; exact hz)))]
          rfl)
        clear hr0 h0 hm n3 hz
        go_enter Tryz.func172, Tryz.ntmps172
        go_wp2_with fail
        go_ret2
        exact ⟨ret_val HR.out, rfl⟩
      · have HR : Hid (numRes (if s.data.toList.all T.isDig then (if T.val s.data.toList ≤ m then some (T.val s.data.toList) else none) else none) = r0) := hid (by
          have hneg : ¬ (s.data.toList.length = 0 ∨ 10 < s.data.toList.length ∨ (s.data.toList.headD 0).toNat = 48 ∧ 1 < s.data.toList.length) := by
            rw [n3, size_list]
            omega
          rw [← hr0]
          unfold T.tens
          rw [if_neg hneg])
        have hz' : ((s[0].toNat : Int) == 48) = false ∨ (((s[0].toNat : Int) == 48) = true ∧ (s.size : Int) ≤ 1) := by
          by_cases h : s[0].toNat = 48
          · right; exact ⟨by rw [h]; rfl, by omega⟩
          · left; simp; omega
        clear hr0 h0 n3 hz
        rcases hz' with hz | ⟨hz, hz2⟩
        all_goals
          go_enter Tryz.func172, Tryz.ntmps172
          go_wp2_with fail
          go_loopw [6, 7, 27] (fun n _ i wr => ∃ (k : Nat) (a : Int), k ≤ s.size ∧ i = .int .i64 k ∧ n = .int .u64 a ∧ 0 ≤ a ∧ a < 10000000000 ∧ Hid (a = (T.val (s.data.toList.take k) : Int) ∧ (s.data.toList.take k).all T.isDig = true) ∧ W = wr) (fun _ _ i _ => s.size - (intOf i).toNat)
          case atStart => exact ⟨0, 0, Nat.zero_le _, rfl, rfl, by omega, by omega, hid ⟨by simp [T.val], by simp⟩, rfl⟩
          case round =>
            obtain ⟨k, a, hk, rfl, rfl, ha0, ha1, ha, rfl⟩ := hrel
            by_cases hk2 : k < s.size
            · have c1 : (k : Int) < (s.size : Int) := by omega
              have HD := digit_any s[k]
              cases hD : T.isDig s[k] with
              | true =>
                rw [hD] at HD
                have h1 := hD
                simp [T.isDig] at h1
                have d1 : (48 : Int) ≤ s[k].toNat := by omega
                have d2 : (s[k].toNat : Int) ≤ 57 := by omega
                have hs1 := T.val_snoc (s.data.toList.take k) s[k]
                have hall : (s.data.toList.take (k + 1)).all T.isDig = true := by rw [take_snoc s k hk2, List.all_append, ha.out.2]; simp [hD]
                have hlt1 := T.val_lt (s.data.toList.take (k + 1)) hall
                rw [List.length_take, size_list, Nat.min_eq_left (by omega)] at hlt1
                rw [← take_snoc s k hk2] at hs1
                have hpow : 10 ^ (k + 1) ≤ 10 ^ 10 := Nat.pow_le_pow_right (by decide) (by omega)
                have hnew : a * 10 + ((s[k].toNat : Int) - 48) = (T.val (s.data.toList.take (k + 1)) : Int) := by
                  rw [hs1, ha.out.1]
                  simp only [T.dv]
                  omega
                have q1 : a * 10 + ((s[k].toNat : Int) - 48) < 10000000000 := by
                  rw [hnew]
                  omega
                have HN : Hid (a * 10 + ((s[k].toNat : Int) - 48) = (T.val (s.data.toList.take (k + 1)) : Int) ∧ (s.data.toList.take (k + 1)).all T.isDig = true) := ⟨hnew, hall⟩
                clear hnew hall hlt1 hs1 hpow h1 hD ha HR
                go_wp2_with fail
                refine (HD _).mono ?_
                rintro e w' ⟨rfl, rfl⟩
                go_wp2_with fail
                go_roundw
                case rel => exact ⟨k + 1, _, by omega, by go_num, rfl, by omega, q1, HN, trivial⟩
                case measure => simp [intOf]; omega
              | false =>
                rw [hD] at HD
                have HF : Hid (.tuple #[.int .u32 0, .int .i64 41] = r0) := hid (by
                  rw [← HR.out, if_neg (by rw [all_at s _ k hk2 hD]; simp)]
                  rfl)
                clear ha HR hD
                go_wp2_with fail
                refine (HD _).mono ?_
                rintro e w' ⟨rfl, rfl⟩
                go_wp2_with fail
                go_ret2
                exact ⟨ret_val HF.out, rfl⟩
            · obtain rfl : k = s.size := by omega
              have h := ha.out
              rw [take_size] at h
              by_cases hle : a ≤ M
              · have HF : Hid (.tuple #[.int .u32 a, .int .i64 0] = r0) := hid (by
                  have hMM := HM.out
                  rw [← HR.out, if_pos h.2, if_pos (by omega), h.1]
                  rfl)
                have q1 : a ≤ 4294967295 := by omega
                clear ha HR h
                go_wp2_with fail
                go_ret2
                exact ⟨ret_val HF.out, rfl⟩
              · have HF : Hid (.tuple #[.int .u32 0, .int .i64 41] = r0) := hid (by
                  have hMM := HM.out
                  rw [← HR.out, if_pos h.2, if_neg (by omega)]
                  rfl)
                have q1 : M < a := by omega
                clear ha HR h hle
                go_wp2_with fail
                go_ret2
                exact ⟨ret_val HF.out, rfl⟩
    · have b2 : (10 : Int) < (s.size : Int) := by omega
      have HR : Hid (.tuple #[.int .u32 0, .int .i64 41] = r0) := hid (by
        rw [← hr0]
        unfold T.tens
        rw [if_pos (.inr (.inl (by rw [size_list]; omega)))]
        rfl)
      clear hr0 h0 n3 hm
      go_enter Tryz.func172, Tryz.ntmps172
      go_wp2_with fail
      go_ret2
      exact ⟨ret_val HR.out, rfl⟩
end Go.Proofs.YtncnogndopgknaaGreatDoor
