/- Name (18) and the statements' own isName (19). -/
import Derived.Test.YtncnogndopgknaaGreatDoorUnq
namespace Go.Proofs.YtncnogndopgknaaGreatDoor
open Go.RowKit
namespace T
def okc (c : UInt8) : Bool := isLet c || isDig c || c.toNat == 95
def name (l : List UInt8) : Bool := decide (1 ≤ l.length) && decide (l.length ≤ 24) && isLet (l.headD 0) && l.all okc
end T
theorem take_snoc (s : ByteArray) (k : Nat) (h : k < s.size) : s.data.toList.take (k + 1) = s.data.toList.take k ++ [s[k]] := by
  rw [List.take_succ_eq_append_getElem (by simpa using h)]; rfl
theorem take_size (s : ByteArray) : s.data.toList.take s.size = s.data.toList := List.take_length
theorem ne_nil (s : ByteArray) (h : 0 < s.size) : (¬ s.toList = []) ∧ s.toList.isEmpty = false ∧ s.data.toList.headD 0 = s[0] := by
  have hd := drop_get s 0 h
  rw [List.drop_zero] at hd
  refine ⟨?_, ?_, ?_⟩
  · rw [ByteArray.toList_eq s, hd]; simp
  · rw [ByteArray.toList_eq s, hd]; rfl
  · rw [hd]; rfl
theorem emp (s : ByteArray) (h : s.size = 0) : s = ⟨#[]⟩ := by
  cases s with
  | mk d => congr; exact Array.eq_empty_of_size_eq_zero h

set_option maxHeartbeats 1000000 in
theorem name_any (W : World) (s : ByteArray) (hs : s.size ≤ 1000000000) :
    Calls Tryz.prog 87 #[.string s] W fun e W' => e = .returned (.int .i64 (if T.name s.data.toList then 0 else 42)) ∧ W = W' := by
  generalize hr0 : (if T.name s.data.toList then (0 : Int) else 42) = r0
  by_cases h0 : s.size = 0
  · have hse := emp s h0
    have HR : Hid (r0 = 42) := hid (by rw [← hr0, hse]; rfl)
    clear hr0 hs h0
    subst hse
    go_enter Tryz.func87, Tryz.ntmps87
    go_wp2_with fail
    go_ret
    exact ⟨ret_int HR.out.symm, rfl⟩
  · have hlt : 0 < s.size := by omega
    obtain ⟨n1, n2, n3⟩ := ne_nil s hlt
    have b1 : (0 : Int) < (s.size : Int) := by omega
    by_cases h24 : s.size ≤ 24
    · have b2 : (s.size : Int) ≤ 24 := by omega
      have HC := letter_any s[0]
      cases hl : T.isLet s[0] with
      | false =>
        have HR : Hid (r0 = 42) := hid (by rw [← hr0, if_neg]; unfold T.name; rw [n3, hl]; simp)
        rw [hl] at HC
        clear hr0 h0 n3 hl
        go_enter Tryz.func87, Tryz.ntmps87
        go_wp2_with fail
        refine (HC _).mono ?_
        rintro e w' ⟨rfl, rfl⟩
        go_wp2_with fail
        go_ret
        exact ⟨ret_int HR.out.symm, rfl⟩
      | true =>
        rw [hl] at HC
        have HR : Hid (r0 = if s.data.toList.all T.okc then 0 else 42) := hid (by
          rw [← hr0]
          congr 1
          unfold T.name
          rw [n3, hl, size_list, decide_eq_true h24, decide_eq_true (show 1 ≤ s.size by omega)]
          simp)
        clear hr0 h0 n3 hl
        go_enter Tryz.func87, Tryz.ntmps87
        go_wp2_with fail
        refine (HC _).mono ?_
        rintro e w' ⟨rfl, rfl⟩
        go_wp2_with fail
        clear HC
        go_loopw [3, 4, 20] (fun _ _ i wr => ∃ k : Nat, k ≤ s.size ∧ i = .int .i64 k ∧ (s.data.toList.take k).all T.okc = true ∧ W = wr) (fun _ _ i _ => s.size - (intOf i).toNat)
        case atStart => exact ⟨0, Nat.zero_le _, rfl, by simp, rfl⟩
        case round =>
          obtain ⟨k, hk, rfl, ha, rfl⟩ := hrel
          by_cases hk2 : k < s.size
          · have c1 : (k : Int) < (s.size : Int) := by omega
            have HL := letter_any s[k]
            have HD := digit_any s[k]
            have hsn := take_snoc s k hk2
            have HS : Hid ((s.data.toList.take (k + 1)).all T.okc = T.okc s[k]) := hid (by rw [hsn, List.all_append, ha]; simp)
            have HE : Hid (T.okc s[k] = false → r0 = 42) := hid (by
              intro h
              rw [HR.out, if_neg]
              intro h2
              rw [List.all_eq_true] at h2
              have := h2 s[k] (by
                have : s.data.toList.drop k = s[k] :: _ := drop_get s k hk2
                have h3 : s[k] ∈ s.data.toList.drop k := by rw [this]; simp
                exact List.mem_of_mem_drop h3)
              rw [h] at this
              cases this)
            clear hsn ha HR
            cases hL : T.isLet s[k] with
            | true =>
              have HK : Hid (T.okc s[k] = true) := hid (by simp [T.okc, hL])
              rw [hL] at HL
              clear hL
              go_wp2_with fail
              refine (HL _).mono ?_
              rintro e w' ⟨rfl, rfl⟩
              go_wp2_with fail
              go_roundw
              case rel => exact ⟨k + 1, by omega, by go_num, by rw [HS.out]; exact HK.out, trivial⟩
              case measure => simp [intOf]; omega
            | false =>
              rw [hL] at HL
              cases hD : T.isDig s[k] with
              | true =>
                have HK : Hid (T.okc s[k] = true) := hid (by simp [T.okc, hD])
                rw [hD] at HD
                clear hL hD
                go_wp2_with fail
                refine (HL _).mono ?_
                rintro e w' ⟨rfl, rfl⟩
                go_wp2_with fail
                refine (HD _).mono ?_
                rintro e w' ⟨rfl, rfl⟩
                go_wp2_with fail
                go_roundw
                case rel => exact ⟨k + 1, by omega, by go_num, by rw [HS.out]; exact HK.out, trivial⟩
                case measure => simp [intOf]; omega
              | false =>
                rw [hD] at HD
                by_cases h95 : s[k].toNat = 95
                · have HK : Hid (T.okc s[k] = true) := hid (by simp [T.okc, h95])
                  have e95 : ((s[k].toNat : Int) != 95) = false := by rw [h95]; rfl
                  clear hL hD h95
                  go_wp2_with fail
                  refine (HL _).mono ?_
                  rintro e w' ⟨rfl, rfl⟩
                  go_wp2_with fail
                  refine (HD _).mono ?_
                  rintro e w' ⟨rfl, rfl⟩
                  go_wp2_with fail
                  go_roundw
                  case rel => exact ⟨k + 1, by omega, by go_num, by rw [HS.out]; exact HK.out, trivial⟩
                  case measure => simp [intOf]; omega
                · have HK : Hid (T.okc s[k] = false) := hid (by simp [T.okc, hL, hD, h95])
                  have e95 : ((s[k].toNat : Int) != 95) = true := by rw [bne_iff_ne]; omega
                  clear hL hD h95
                  go_wp2_with fail
                  refine (HL _).mono ?_
                  rintro e w' ⟨rfl, rfl⟩
                  go_wp2_with fail
                  refine (HD _).mono ?_
                  rintro e w' ⟨rfl, rfl⟩
                  go_wp2_with fail
                  go_ret
                  exact ⟨ret_int (HE.out HK.out).symm, rfl⟩
          · obtain rfl : k = s.size := by omega
            rw [take_size] at ha
            have HF : Hid (r0 = 0) := hid (by rw [HR.out, if_pos ha])
            clear ha HR
            go_wp2_with fail
            go_ret
            exact ⟨ret_int HF.out.symm, rfl⟩
    · have b2 : (24 : Int) < (s.size : Int) := by omega
      have HR : Hid (r0 = 42) := hid (by rw [← hr0]; simp [T.name, h24])
      clear hr0 h0 n3
      go_enter Tryz.func87, Tryz.ntmps87
      go_wp2_with fail
      go_ret
      exact ⟨ret_int HR.out.symm, rfl⟩

end Go.Proofs.YtncnogndopgknaaGreatDoor
