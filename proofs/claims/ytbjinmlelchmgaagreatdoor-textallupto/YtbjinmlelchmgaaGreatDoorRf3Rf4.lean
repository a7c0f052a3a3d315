/- The document's Number (31), Signed (33). The document's Signed (33). -/
import Derived.Test.YtbjinmlelchmgaaGreatDoorRf2
import Derived.Test.YtbjinmlelchmgaaGreatDoorNumb
import Derived.Lib.IndexBytes
namespace Go.Proofs.YtbjinmlelchmgaaGreatDoor
open Go.RowKit
theorem list_two (s : ByteArray) (h : 1 < s.size) : s.data.toList = s[0] :: s[1] :: s.data.toList.drop 2 := by
  have a := drop_get s 0 (by omega)
  have b := drop_get s 1 h
  rw [List.drop_zero] at a
  exact a.trans (congrArg (s[0] :: ·) b)
theorem pre_two (s : ByteArray) (h : 1 < s.size) : [48, 120].isPrefixOf s.data.toList = ((s[0] == 48) && (s[1] == 120)) := by
  rw [list_two s h]
  simp [List.isPrefixOf, Bool.beq_comm]
theorem pre_short (s : ByteArray) (h : s.size ≤ 1) : ([48, 120] : List UInt8).isPrefixOf s.data.toList = false := by
  cases hl : s.data.toList with
  | nil => rfl
  | cons a t =>
    cases t with
    | nil => simp [List.isPrefixOf]
    | cons b t => have := size_list s; rw [hl] at this; simp at this; omega
/-- In tens, if it doesn't begin as a hex number that the document takes. -/
theorem number_tens (s : ByteArray) (h : ¬ (2 < s.size ∧ s.size ≤ 10 ∧ ∃ h : 1 < s.size, s[0].toNat = 48 ∧ s[1].toNat = 120)) : T.number s.data.toList = T.tens s.data.toList 4294967295 := by
  unfold T.number
  by_cases h1 : 1 < s.size
  · rw [pre_two s h1]
    by_cases h2 : s[0].toNat = 48 ∧ s[1].toNat = 120
    · have e0 : s[0] = 48 := UInt8.toNat_inj.1 h2.1
      have e1 : s[1] = 120 := UInt8.toNat_inj.1 h2.2
      have hl : s.size ≤ 2 ∨ 10 < s.size := by
        rcases Nat.lt_or_ge 2 s.size with a | a
        · rcases Nat.lt_or_ge 10 s.size with b | b
          · exact .inr b
          · exact absurd ⟨a, b, h1, h2⟩ h
        · exact .inl a
      rw [e0, e1]
      have n3 := (ne_nil s (by omega)).2.2
      have ht : T.tens s.data.toList 4294967295 = none := by
        unfold T.tens
        rw [if_pos (.inr (.inr ⟨by rw [n3]; exact h2.1, by rw [size_list]; exact h1⟩))]
      have hh : T.hexed (s.data.toList.drop 2) = none := by
        unfold T.hexed
        rw [if_pos (by rw [List.length_drop, size_list]; omega)]
      rw [ht]
      simp [hh]
    · have : ((s[0] == 48) && (s[1] == 120)) = false := by
        cases hq : ((s[0] == 48) && (s[1] == 120)) with
        | false => rfl
        | true =>
          simp only [Bool.and_eq_true, beq_iff_eq] at hq
          exact absurd ⟨by rw [hq.1]; rfl, by rw [hq.2]; rfl⟩ h2
      rw [this]
      rfl
  · rw [pre_short s (by omega)]
    rfl
theorem number_hex (s : ByteArray) (h1 : 2 < s.size) (h2 : s.size ≤ 10) (h3 : s[0].toNat = 48) (h4 : s[1].toNat = 120) : T.number s.data.toList = T.hval (s.data.toList.drop 2) := by
  unfold T.number
  have e0 : s[0] = 48 := UInt8.toNat_inj.1 h3
  have e1 : s[1] = 120 := UInt8.toNat_inj.1 h4
  rw [pre_two s (by omega), e0, e1]
  unfold T.hexed
  rw [if_pos (by decide), if_neg (by rw [List.length_drop, size_list]; omega)]
theorem drop_take_snoc (s : ByteArray) (k : Nat) (h2 : 2 ≤ k) (h : k < s.size) : (s.data.toList.take (k + 1)).drop 2 = (s.data.toList.take k).drop 2 ++ [s[k]] := by
  rw [take_snoc s k h, List.drop_append_of_le_length (by rw [List.length_take, size_list]; omega)]

set_option maxHeartbeats 1000000 in
theorem rnumber_any (W : World) (s : ByteArray) (hs : s.size ≤ 1000000000) :
    Calls Tryz.prog 31 #[.string s] W fun e W' => e = .returned (numRes (T.number s.data.toList)) ∧ W = W' := by
  have b0 : (s.size : Int) ≤ 1000000000 := by omega
  by_cases h : 2 < s.size ∧ s.size ≤ 10 ∧ ∃ h : 1 < s.size, s[0].toNat = 48 ∧ s[1].toNat = 120
  · obtain ⟨h1, h2, h5, h3, h4⟩ := h
    rw [number_hex s h1 h2 h3 h4]
    obtain ⟨r0, hr0⟩ : ∃ r, numRes (T.hval (s.data.toList.drop 2)) = r := ⟨_, rfl⟩
    have HR : Hid (numRes (T.hval (s.data.toList.drop 2)) = r0) := hr0
    rw [hr0]
    have e0 : ((s[0].toNat : Int) == 48) = true := by rw [h3]; rfl
    have e1 : ((s[1].toNat : Int) == 120) = true := by rw [h4]; rfl
    have b1 : (2 : Int) < (s.size : Int) := by omega
    have b2 : (s.size : Int) ≤ 10 := by omega
    clear hr0 h3 h4
    go_enter Tryz.func31, Tryz.ntmps31
    go_wp2_with fail
    go_loopw [4, 5] (fun n i wr => ∃ (k : Nat) (A : Int), 2 ≤ k ∧ k ≤ s.size ∧ i = .int .i64 k ∧ n = .int .i64 A ∧ 0 ≤ A ∧ A < 4294967296 ∧ Hid (T.hval ((s.data.toList.take k).drop 2) = some A.toNat) ∧ W = wr) (fun _ i _ => s.size - (intOf i).toNat)
    case atStart => exact ⟨2, 0, Nat.le_refl _, by omega, rfl, rfl, by decide, by decide, hid (by rw [List.drop_eq_nil_of_le (by rw [List.length_take]; omega)]; rfl), rfl⟩
    case round =>
      obtain ⟨k, A, ka, kb, rfl, rfl, a0, a1, HA, rfl⟩ := hrel
      obtain ⟨a, ha⟩ : ∃ a, A.toNat = a := ⟨_, rfl⟩
      have HAA : Hid (A = (a : Int)) := (show A = (a : Int) by omega)
      rw [ha] at HA
      clear ha
      by_cases hk2 : k < s.size
      · have c1 : (k : Int) < (s.size : Int) := by omega
        have HW := hid (worth_any s[k] W)
        have hst : T.hval ((s.data.toList.take (k + 1)).drop 2) = T.hstep (some a) s[k] := by rw [drop_take_snoc s k ka hk2, T.hval_snoc, HA.out]
        cases hv : T.hexV s[k] with
        | none =>
          have hw : wth s[k] = -1 := by unfold wth; rw [hv]
          rw [hw] at HW
          have HF : Hid (.tuple #[.int .u32 0, .int .i64 41] = r0) := hid (by
            rw [← HR.out]
            have hd : s.data.toList.drop 2 = (s.data.toList.take (k + 1)).drop 2 ++ s.data.toList.drop (k + 1) := by
              conv => lhs; rw [← List.take_append_drop (k + 1) s.data.toList]
              rw [List.drop_append_of_le_length (by rw [List.length_take, size_list]; omega)]
            rw [hd, T.hval_append, hst]
            have hn : T.hstep (some a) s[k] = none := by unfold T.hstep; rw [hv]
            rw [hn, T.hfold_none]
            rfl)
          clear hst hv hw HA
          go_wp2_with (go_at_call 60; refine HW.out.mono ?_; rintro e w1 ⟨rfl, rfl⟩)
          go_ret2
          exact ⟨ret_val HF.out, rfl⟩
        | some d =>
          have hw : wth s[k] = (d : Int) := by unfold wth; rw [hv]
          have hd := (T.hexV_lt hv).1
          rw [hw] at HW
          have hn : T.hval ((s.data.toList.take (k + 1)).drop 2) = some (a * 16 + d) := by rw [hst]; unfold T.hstep; rw [hv]
          have hb : a * 16 + d < 4294967296 := by
            have h1 := T.hval_lt hn
            rw [List.length_drop, List.length_take, size_list] at h1
            have h2 : 16 ^ (min (k + 1) s.size - 2) ≤ 16 ^ 8 := Nat.pow_le_pow_right (by decide) (by omega)
            omega
          have HN : Hid (T.hval ((s.data.toList.take (k + 1)).drop 2) = some (a * 16 + d)) := hn
          have HK : Hid (k < s.size ∧ 2 ≤ k ∧ a * 16 + d < 4294967296) := ⟨hk2, ka, hb⟩
          obtain ⟨D, hD⟩ : ∃ D : Int, (d : Int) = D := ⟨_, rfl⟩
          have HDD : Hid (D = (d : Int)) := hD.symm
          rw [hD] at HW
          have d1 : D < 16 := by omega
          have d0 : 0 ≤ D := by omega
          clear hst hv hw HA hn HR hd hb ka kb hD
          go_wp2_with (go_at_call 60; refine HW.out.mono ?_; rintro e w1 ⟨rfl, rfl⟩)
          go_roundw
          case measure => have := HK.out; simp [intOf]; omega
          case rel => exact ⟨k + 1, 16 * A + D, by have := HK.out; omega, by have := HK.out; omega, by go_num, rfl, by omega, by have := HK.out; have := HAA.out; have := HDD.out; omega, hid (by rw [HN.out]; congr 1; have := HAA.out; have := HDD.out; omega), trivial⟩
      · obtain rfl : k = s.size := by omega
        have HF : Hid (.tuple #[.int .u32 A, .int .i64 0] = r0) := hid (by rw [← HR.out, show s.data.toList.drop 2 = (s.data.toList.take s.size).drop 2 by rw [take_size], HA.out, HAA.out]; rfl)
        clear HA HR ka kb hk2
        go_wp2_with fail
        go_ret2
        exact ⟨ret_val HF.out, rfl⟩
  · rw [number_tens s h]
    have HT := hid (rtens_any W s 4294967295 (by decide) hs 4294967295 rfl)
    obtain ⟨r, hr⟩ : ∃ r, T.tens s.data.toList 4294967295 = r := ⟨_, rfl⟩
    rw [hr] at HT ⊢
    have hle : ∀ v, r = some v → v ≤ 4294967295 := fun v hv => by
      rw [hv] at hr
      unfold T.tens at hr
      split at hr
      · cases hr
      · split at hr
        · split at hr
          · cases hr; assumption
          · cases hr
        · cases hr
    have hcase : ((s.size : Int) ≤ 2) ∨ (∃ h1 : 1 < s.size, (2 : Int) < (s.size : Int) ∧ (((s[0].toNat : Int) == 48) = false ∨ (((s[0].toNat : Int) == 48) = true ∧ (((s[1].toNat : Int) == 120) = false ∨ (((s[1].toNat : Int) == 120) = true ∧ (10 : Int) < (s.size : Int)))))) := by
      by_cases a1 : 2 < s.size
      · refine .inr ⟨by omega, by omega, ?_⟩
        by_cases a2 : s[0].toNat = 48
        · refine .inr ⟨by simp; omega, ?_⟩
          by_cases a3 : s[1].toNat = 120
          · refine .inr ⟨by simp; omega, ?_⟩
            rcases Nat.lt_or_ge 10 s.size with a4 | a4
            · omega
            · exact absurd ⟨a1, a4, by omega, a2, a3⟩ h
          · exact .inl (by simp; omega)
        · exact .inl (by simp; omega)
      · exact .inl (by omega)
    clear h hr
    cases r with
    | none =>
      rcases hcase with c1 | ⟨h1, c1, c2 | ⟨c2, c3 | ⟨c3, c4⟩⟩⟩
      all_goals
        go_enter Tryz.func31, Tryz.ntmps31
        go_wp2_with (go_at_call 61; refine HT.out.mono ?_; rintro e w1 ⟨rfl, rfl⟩; simp only [tn])
        go_ret2
        exact ⟨rfl, rfl⟩
    | some v =>
      have hv := hle v rfl
      have v1 : (v : Int) ≤ 4294967295 := by omega
      have v0 : 0 ≤ (v : Int) := by omega
      clear hle hv
      rcases hcase with c1 | ⟨h1, c1, c2 | ⟨c2, c3 | ⟨c3, c4⟩⟩⟩
      all_goals
        go_enter Tryz.func31, Tryz.ntmps31
        go_wp2_with (go_at_call 61; refine HT.out.mono ?_; rintro e w1 ⟨rfl, rfl⟩; simp only [tn])
        go_ret2
        exact ⟨rfl, rfl⟩
end Go.Proofs.YtbjinmlelchmgaaGreatDoor
namespace Go.Proofs.YtbjinmlelchmgaaGreatDoor
open Go.RowKit
theorem rtens_le {l : List UInt8} {m v : Nat} (h : T.tens l m = some v) : v ≤ m := by
  unfold T.tens at h
  split at h
  · cases h
  · split at h
    · split at h
      · cases h; assumption
      · cases h
    · cases h
theorem ext_one (s : ByteArray) : (s.extract 1 s.size).data.toList = s.data.toList.drop 1 := by
  exact Lib.extract_to_end s 1
set_option maxHeartbeats 1000000 in
theorem rsigned_any (W : World) (s : ByteArray) (hs : s.size ≤ 1000000000) :
    Calls Tryz.prog 33 #[.string s] W fun e W' => e = .returned (sgnRes (T.signed s.data.toList)) ∧ W = W' := by
  have b0 : (s.size : Int) ≤ 1000000000 := by omega
  by_cases h0 : s.size = 0
  · have hse := emp s h0
    subst hse
    have HT := hid (rtens_any W ⟨#[]⟩ 2147483647 (by decide) (by decide) 2147483647 rfl)
    have e : T.tens (⟨#[]⟩ : ByteArray).data.toList 2147483647 = none := rfl
    rw [e] at HT
    clear hs b0 h0 e
    go_enter Tryz.func33, Tryz.ntmps33
    go_wp2_with (go_at_call 61; refine HT.out.mono ?_; rintro e w1 ⟨rfl, rfl⟩; simp only [tn])
    go_ret2
    exact ⟨rfl, rfl⟩
  · have hlt : 0 < s.size := by omega
    obtain ⟨n1, n2, n3⟩ := ne_nil s hlt
    have b1 : (0 : Int) < (s.size : Int) := by omega
    have hp : ([45] : List UInt8).isPrefixOf s.data.toList = (s[0] == 45) := by
      have a := drop_get s 0 hlt
      rw [List.drop_zero] at a
      rw [a]
      simp [List.isPrefixOf, Bool.beq_comm]
    by_cases hm : s[0].toNat = 45
    · have e0 : s[0] = 45 := UInt8.toNat_inj.1 hm
      have e1 : ((s[0].toNat : Int) == 45) = true := by rw [hm]; rfl
      have HT := hid (rtens_any W (s.extract 1 s.size) 2147483648 (by decide) (by rw [ByteArray.size_extract]; omega) 2147483648 rfl)
      rw [ext_one] at HT
      have hsg : T.signed s.data.toList = match T.tens (s.data.toList.drop 1) 2147483648 with
          | some n => if n = 0 then none else some (-(n : Int))
          | none => none := by unfold T.signed; rw [hp, e0]; rfl
      rw [hsg]
      obtain ⟨r, hr⟩ : ∃ r, T.tens (s.data.toList.drop 1) 2147483648 = r := ⟨_, rfl⟩
      rw [hr] at HT ⊢
      clear hsg hp e0 hm n3 h0
      obtain ⟨R, hR⟩ : ∃ R, sgnRes (match r with
          | some n => if n = 0 then none else some (-(n : Int))
          | none => none) = R := ⟨_, rfl⟩
      rw [hR]
      cases r with
      | none =>
        have HR : Hid (.tuple #[.int .i32 0, .int .i64 41] = R) := hR
        clear hr hR
        go_enter Tryz.func33, Tryz.ntmps33
        go_wp2_with (go_at_call 61; refine HT.out.mono ?_; rintro e w1 ⟨rfl, rfl⟩; simp only [tn])
        go_ret2
        exact ⟨ret_val HR.out, rfl⟩
      | some v =>
        have hv := rtens_le hr
        obtain ⟨V, hV⟩ : ∃ V : Int, (v : Int) = V := ⟨_, rfl⟩
        have HVV : Hid (V = (v : Int)) := hV.symm
        have v0 : 0 ≤ V := by omega
        have v1 : V ≤ 2147483648 := by omega
        have HT2 : Hid (Calls Tryz.prog 61 #[.string (s.extract 1 s.size), .int .i64 2147483648] W fun e W' => e = .returned (.int .i64 V) ∧ W = W') := hid (by rw [← hV]; exact HT.out)
        by_cases hz : v = 0
        · have v2 : V < 1 := by omega
          have HR : Hid (.tuple #[.int .i32 0, .int .i64 41] = R) := hid (by rw [← hR]; simp only [if_pos hz]; rfl)
          clear hr hv hV HT hR hz
          go_enter Tryz.func33, Tryz.ntmps33
          go_wp2_with (go_at_call 61; refine HT2.out.mono ?_; rintro e w1 ⟨rfl, rfl⟩)
          go_ret2
          exact ⟨ret_val HR.out, rfl⟩
        · have v2 : 1 ≤ V := by omega
          have HR : Hid (.tuple #[.int .i32 (-V), .int .i64 0] = R) := hid (by rw [← hR, HVV.out]; simp only [if_neg hz]; rfl)
          clear hr hv hV HT hz hR
          go_enter Tryz.func33, Tryz.ntmps33
          go_wp2_with (go_at_call 61; refine HT2.out.mono ?_; rintro e w1 ⟨rfl, rfl⟩)
          go_ret2
          exact ⟨ret_val HR.out, rfl⟩
    · have e1 : ((s[0].toNat : Int) == 45) = false := by simp; omega
      have HT := hid (rtens_any W s 2147483647 (by decide) hs 2147483647 rfl)
      have hsg : T.signed s.data.toList = match T.tens s.data.toList 2147483647 with
          | some n => some (n : Int)
          | none => none := by
        unfold T.signed
        have : (s[0] == 45) = false := by simp only [beq_eq_false_iff_ne, ne_eq]; intro e; exact hm (by rw [e]; rfl)
        rw [hp, this]
        rfl
      rw [hsg]
      obtain ⟨r, hr⟩ : ∃ r, T.tens s.data.toList 2147483647 = r := ⟨_, rfl⟩
      rw [hr] at HT ⊢
      clear hsg hp hm n3 h0
      cases r with
      | none =>
        clear hr
        go_enter Tryz.func33, Tryz.ntmps33
        go_wp2_with (go_at_call 61; refine HT.out.mono ?_; rintro e w1 ⟨rfl, rfl⟩; simp only [tn])
        go_ret2
        exact ⟨rfl, rfl⟩
      | some v =>
        have hv := rtens_le hr
        have v0 : 0 ≤ (v : Int) := by omega
        have v1 : (v : Int) ≤ 2147483647 := by omega
        clear hr hv
        go_enter Tryz.func33, Tryz.ntmps33
        go_wp2_with (go_at_call 61; refine HT.out.mono ?_; rintro e w1 ⟨rfl, rfl⟩; simp only [tn])
        go_ret2
        exact ⟨rfl, rfl⟩
end Go.Proofs.YtbjinmlelchmgaaGreatDoor
