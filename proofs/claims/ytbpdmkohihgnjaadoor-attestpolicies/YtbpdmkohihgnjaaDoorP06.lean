import Derived.Test.YtbpdmkohihgnjaaDoorP05
namespace Go.Proofs.YtbpdmkohihgnjaaDoor.L
open Go.RowKit

theorem drop_get (s : ByteArray) (k : Nat) (h : k < s.size) : s.data.toList.drop k = s[k] :: s.data.toList.drop (k + 1) := by
  rw [List.drop_eq_getElem_cons (by simpa using h)]
  rfl
theorem size_list (s : ByteArray) : s.data.toList.length = s.size := rfl
theorem or_bits : ∀ a : Nat, a < 16 → ∀ b : Nat, b < 16 → bits .or .u8 ((a : Int) * 16) (b : Int) = ((a * 16 + b : Nat) : Int) := by
  have h : ∀ a : Fin 16, ∀ b : Fin 16, bits .or .u8 ((a.val : Int) * 16) (b.val : Int) = ((a.val * 16 + b.val : Nat) : Int) := by decide +kernel
  exact fun a ha b hb => h ⟨a, ha⟩ ⟨b, hb⟩
theorem esc_at (s : ByteArray) (k : Nat) (h4 : k + 4 ≤ s.size) : T.esc (s.data.toList.drop (k + 1)) = if s[k + 1].toNat = 120 then (match T.hexV s[k + 2], T.hexV s[k + 3] with
      | some a, some b => if T.itself (UInt8.ofNat (a * 16 + b)) then none else some (UInt8.ofNat (a * 16 + b))
      | _, _ => none) else none := by
  rw [drop_get s (k + 1) (by omega), drop_get s (k + 2) (by omega), drop_get s (k + 3) (by omega)]
  rfl
theorem esc_short (s : ByteArray) (k : Nat) (h4 : s.size < k + 4) : T.esc (s.data.toList.drop (k + 1)) = none := by
  cases h : T.esc (s.data.toList.drop (k + 1)) with
  | none => rfl
  | some x =>
    have := T.esc_three h
    simp at this
    have : s.data.size = s.size := rfl
    omega

theorem escaped_two (s : ByteArray) (k : Nat) (hs : s.size ≤ 1000000000) (h4 : k + 4 ≤ s.size) (a b : Nat) (h1 : s[k + 1].toNat = 120) (h2 : T.hexV s[k + 2] = some a) (h3 : T.hexV s[k + 3] = some b) (x : UInt8) (hx : x = UInt8.ofNat (a * 16 + b)) (t : Bool) (hi : T.itself x = t) (w : World) :
    Calls Tryd.prog 144 #[.string s, .int .i64 (k : Int)] w fun e w' => e = (if t then .panicked [{ v := .iface 214 (.int .i64 (k : Int)), recovered := false }] else .returned (.int .u8 (x.toNat : Int))) ∧ w = w' := by
  have b2 : (s.size : Int) ≤ 1000000000 := by omega
  have b3 : (k : Int) + 4 ≤ (s.size : Int) := by omega
  have c1 : ((s[k + 1].toNat : Int) != 120) = false := by rw [h1]; rfl
  have ha := (T.hexV_lt h2).1
  have hb := (T.hexV_lt h3).1
  have ho : bits .or .u8 ((a : Int) * 16) (b : Int) = (x.toNat : Int) := by
    rw [or_bits a ha b hb, hx, UInt8.toNat_ofNat']
    omega
  have H2 := hexValue_some _ a h2
  have H3 := hexValue_some _ b h3
  have HI := itself_any x
  rw [hi] at HI
  clear h1 h2 h3 hx hi
  cases t
  all_goals
    go_enter Tryd.func144, Tryd.ntmps144
    go_wp2_with fail
    refine (H2 _).mono ?_
    rintro e w' ⟨rfl, rfl⟩
    go_wp2_with fail
    refine (H3 _).mono ?_
    rintro e w' ⟨rfl, rfl⟩
    go_wp2_with fail
    refine (HI _).mono ?_
    rintro e w' ⟨rfl, rfl⟩
    go_wp2_with fail
  · go_ret
    exact ⟨rfl, rfl⟩
  · exact ⟨rfl, rfl, rfl⟩
theorem escaped_bad (s : ByteArray) (k : Nat) (hs : s.size ≤ 1000000000) (h4 : k + 4 ≤ s.size) (h1 : s[k + 1].toNat = 120) (h2 : T.hexV s[k + 2] = none ∨ T.hexV s[k + 3] = none) (w : World) :
    Calls Tryd.prog 144 #[.string s, .int .i64 (k : Int)] w fun e w' => e = .panicked [{ v := .iface 214 (.int .i64 (k : Int)), recovered := false }] ∧ w = w' := by
  have b2 : (s.size : Int) ≤ 1000000000 := by omega
  have b3 : (k : Int) + 4 ≤ (s.size : Int) := by omega
  have c1 : ((s[k + 1].toNat : Int) != 120) = false := by rw [h1]; rfl
  cases e2 : T.hexV s[k + 2] with
  | none =>
    have H2 := hexValue_none _ e2
    cases e3 : T.hexV s[k + 3] with
    | none =>
      have H3 := hexValue_none _ e3
      clear h1 h2 e2 e3
      go_enter Tryd.func144, Tryd.ntmps144
      go_wp2_with fail
      refine (H2 _).mono ?_
      rintro e w' ⟨rfl, rfl⟩
      go_wp2_with fail
      refine (H3 _).mono ?_
      rintro e w' ⟨rfl, rfl⟩
      go_wp2_with fail
      exact ⟨rfl, rfl, rfl⟩
    | some b =>
      have H3 := hexValue_some _ b e3
      have hb := (T.hexV_lt e3).1
      clear h1 h2 e2 e3
      go_enter Tryd.func144, Tryd.ntmps144
      go_wp2_with fail
      refine (H2 _).mono ?_
      rintro e w' ⟨rfl, rfl⟩
      go_wp2_with fail
      refine (H3 _).mono ?_
      rintro e w' ⟨rfl, rfl⟩
      go_wp2_with fail
      exact ⟨rfl, rfl, rfl⟩
  | some a =>
    have H2 := hexValue_some _ a e2
    have ha := (T.hexV_lt e2).1
    have e3 : T.hexV s[k + 3] = none := by
      rcases h2 with h2 | h2
      · rw [e2] at h2; cases h2
      · exact h2
    have H3 := hexValue_none _ e3
    clear h1 h2 e2 e3
    go_enter Tryd.func144, Tryd.ntmps144
    go_wp2_with fail
    refine (H2 _).mono ?_
    rintro e w' ⟨rfl, rfl⟩
    go_wp2_with fail
    refine (H3 _).mono ?_
    rintro e w' ⟨rfl, rfl⟩
    go_wp2_with fail
    exact ⟨rfl, rfl, rfl⟩
theorem escaped_short (s : ByteArray) (k : Nat) (hs : s.size ≤ 1000000000) (hk : k < s.size) (h4 : s.size < k + 4 ∨ ∃ h : k + 1 < s.size, k + 4 ≤ s.size ∧ s[k + 1].toNat ≠ 120) (w : World) :
    Calls Tryd.prog 144 #[.string s, .int .i64 (k : Int)] w fun e w' => e = .panicked [{ v := .iface 214 (.int .i64 (k : Int)), recovered := false }] ∧ w = w' := by
  have b1 : (k : Int) < (s.size : Int) := by omega
  have b2 : (s.size : Int) ≤ 1000000000 := by omega
  rcases h4 with h4 | ⟨h0, h4, h1⟩
  · have b3 : (s.size : Int) < (k : Int) + 4 := by omega
    go_enter Tryd.func144, Tryd.ntmps144
    go_wp2_with fail
    exact ⟨rfl, rfl, rfl⟩
  · have b3 : (k : Int) + 4 ≤ (s.size : Int) := by omega
    have c1 : ((s[k + 1].toNat : Int) != 120) = true := by rw [bne_iff_ne]; omega
    clear h1
    go_enter Tryd.func144, Tryd.ntmps144
    go_wp2_with fail
    exact ⟨rfl, rfl, rfl⟩
theorem escaped_any (s : ByteArray) (k : Nat) (hs : s.size ≤ 1000000000) (hk : k < s.size) (w : World) :
    Calls Tryd.prog 144 #[.string s, .int .i64 (k : Int)] w fun e w' => e = (match T.esc (s.data.toList.drop (k + 1)) with
      | some x => .returned (.int .u8 (x.toNat : Int))
      | none => .panicked [{ v := .iface 214 (.int .i64 (k : Int)), recovered := false }]) ∧ w = w' := by
  by_cases h4 : k + 4 ≤ s.size
  · rw [esc_at s k h4]
    by_cases h1 : s[k + 1].toNat = 120
    · rw [if_pos h1]
      cases h2 : T.hexV s[k + 2] with
      | none => exact escaped_bad s k hs h4 h1 (.inl h2) w
      | some a =>
        cases h3 : T.hexV s[k + 3] with
        | none => exact escaped_bad s k hs h4 h1 (.inr h3) w
        | some b =>
          have := escaped_two s k hs h4 a b h1 h2 h3 _ rfl _ rfl w
          revert this
          show _ → Calls Tryd.prog 144 _ w fun e w' => e = (match (if T.itself (UInt8.ofNat (a * 16 + b)) then none else some (UInt8.ofNat (a * 16 + b))) with
            | some x => .returned (.int .u8 (x.toNat : Int))
            | none => .panicked [{ v := .iface 214 (.int .i64 (k : Int)), recovered := false }]) ∧ w = w'
          generalize UInt8.ofNat (a * 16 + b) = x
          cases hi : T.itself x with
          | true => exact id
          | false => exact id
    · rw [if_neg h1]
      exact escaped_short s k hs hk (.inr ⟨by omega, h4, h1⟩) w
  · rw [esc_short s k (by omega)]
    exact escaped_short s k hs hk (.inl (by omega)) w
end Go.Proofs.YtbpdmkohihgnjaaDoor.L
