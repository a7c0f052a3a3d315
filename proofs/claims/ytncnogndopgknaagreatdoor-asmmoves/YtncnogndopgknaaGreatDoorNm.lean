/- Named (15, 17), CondNamed (18, 20), Name (16, 22), CondName (19, 23). -/
import Derived.Test.YtncnogndopgknaaGreatDoorRef1
namespace Go.Proofs.YtncnogndopgknaaGreatDoor
open Go.RowKit
def condT : List (List UInt8) := [[97, 108], [101, 113], [110, 101], [108, 116], [103, 101], [108, 111], [104, 115]]
def cnd (n : Nat) : ByteArray := ⟨(condT.getD n []).toArray⟩
def FNames (W : World) : Prop := ∀ n : Nat, n < 25 → W.cell? ⟨1, n * 2, none⟩ = some (.string (nam n))
def RNames (W : World) : Prop := ∀ n : Nat, n < 25 → W.cell? ⟨5, n, none⟩ = some (.string (nam n))
def CNames (W : World) : Prop := ∀ n : Nat, n < 7 → W.cell? ⟨0, n, none⟩ = some (.string (cnd n))
def RConds (W : World) : Prop := ∀ n : Nat, n < 7 → W.cell? ⟨10, n, none⟩ = some (.string (cnd n))
/-- The first number from lo on, below hi, whose name it is. -/
def Fnd (f : Nat → ByteArray) (lo hi : Nat) (s : ByteArray) (r e : Int) : Prop :=
  (∃ k : Nat, lo ≤ k ∧ k < hi ∧ f k = s ∧ (∀ j : Nat, lo ≤ j → j < k → f j ≠ s) ∧ r = (k : Int) ∧ e = 0) ∨ ((∀ j : Nat, lo ≤ j → j < hi → f j ≠ s) ∧ r = 0 ∧ e = 50)
theorem fnd_or (f : Nat → ByteArray) (lo : Nat) (s : ByteArray) : ∀ hi : Nat, (∃ k : Nat, lo ≤ k ∧ k < hi ∧ f k = s ∧ ∀ j : Nat, lo ≤ j → j < k → f j ≠ s) ∨ ∀ j : Nat, lo ≤ j → j < hi → f j ≠ s
  | 0 => .inr fun j _ h => by omega
  | hi + 1 => by
    rcases fnd_or f lo s hi with ⟨k, h1, h2, h3, h4⟩ | h
    · exact .inl ⟨k, h1, by omega, h3, h4⟩
    · by_cases hk : lo ≤ hi ∧ f hi = s
      · exact .inl ⟨hi, hk.1, by omega, hk.2, h⟩
      · refine .inr fun j h1 h2 h3 => ?_
        rcases Nat.lt_or_ge j hi with h4 | h4
        · exact h j h1 h4 h3
        · obtain rfl : j = hi := by omega
          exact hk ⟨h1, h3⟩
theorem fnd_ex (f : Nat → ByteArray) (lo hi : Nat) (s : ByteArray) : ∃ r e, Fnd f lo hi s r e := by
  rcases fnd_or f lo s hi with ⟨k, h1, h2, h3, h4⟩ | h
  · exact ⟨k, 0, .inl ⟨k, h1, h2, h3, h4, rfl, rfl⟩⟩
  · exact ⟨0, 50, .inr ⟨h, rfl, rfl⟩⟩
theorem toList_ne {t s : ByteArray} (h : t ≠ s) : (t.toList == s.toList) = false := by
  rw [ByteArray.toList_eq t, ByteArray.toList_eq s]
  simp only [beq_eq_false_iff_ne, ne_eq]
  intro e
  apply h
  cases t
  cases s
  congr
  exact Array.toList_inj.1 e

theorem named_any (W : World) (hF : FNames W) (s : ByteArray) (r e : Int) (h : Fnd nam 1 25 s r e) : Calls Tryz.prog 119 #[.string s] W fun x W' => x = .returned (.tuple #[.int .i64 r, .int .i64 e]) ∧ W = W' := by
  have HF : Hid (FNames W) := hF
  clear hF
  rcases h with ⟨K, h1, h2, h3, h4, rfl, rfl⟩ | ⟨h4, rfl, rfl⟩
  · have H4 : Hid (∀ j : Nat, 1 ≤ j → j < K → nam j ≠ s) := h4
    have H3 : Hid (nam K = s) := h3
    have k1 : (K : Int) < 25 := by omega
    clear h4 h3
    go_enter Tryz.func119, Tryz.ntmps119
    go_wp2_with fail
    go_loopw [4] (fun i wr => ∃ k : Nat, 1 ≤ k ∧ k ≤ K ∧ i = .int .i64 k ∧ W = wr) (fun i _ => K - (intOf i).toNat)
    case atStart => exact ⟨1, Nat.le_refl _, h1, rfl, rfl⟩
    case round =>
      obtain ⟨k, ka, kb, rfl, rfl⟩ := hrel
      have c1 : (k : Int) < 25 := by omega
      have hc := HF.out k (by omega)
      by_cases hk : k = K
      · subst hk
        rw [H3.out] at hc
        clear ka kb h1 h2
        go_wp2_with fail
        go_ret2
        exact ⟨rfl, rfl⟩
      · have q := toList_ne (H4.out k ka (by omega))
        generalize nam k = t at *
        have hlt : k < K := by omega
        clear ka hk
        go_wp2_with fail
        go_roundw
        case measure => simp [intOf]; omega
        case rel => exact ⟨k + 1, by omega, by omega, by go_num, trivial⟩
  · have H4 : Hid (∀ j : Nat, 1 ≤ j → j < 25 → nam j ≠ s) := h4
    clear h4
    go_enter Tryz.func119, Tryz.ntmps119
    go_wp2_with fail
    go_loopw [4] (fun i wr => ∃ k : Nat, 1 ≤ k ∧ k ≤ 25 ∧ i = .int .i64 k ∧ W = wr) (fun i _ => 25 - (intOf i).toNat)
    case atStart => exact ⟨1, Nat.le_refl _, by decide, rfl, rfl⟩
    case round =>
      obtain ⟨k, ka, kb, rfl, rfl⟩ := hrel
      by_cases hk : k < 25
      · have c1 : (k : Int) < 25 := by omega
        have hc := HF.out k hk
        have q := toList_ne (H4.out k ka hk)
        generalize nam k = t at *
        clear ka
        go_wp2_with fail
        go_roundw
        case measure => simp [intOf]; omega
        case rel => exact ⟨k + 1, by omega, by omega, by go_num, trivial⟩
      · obtain rfl : k = 25 := by omega
        clear ka kb hk
        go_wp2_with fail
        go_ret2
        exact ⟨rfl, rfl⟩

theorem rnamed_any (W : World) (hF : RNames W) (s : ByteArray) (r e : Int) (h : Fnd nam 1 25 s r e) : Calls Tryz.prog 104 #[.string s] W fun x W' => x = .returned (.tuple #[.int .i64 r, .int .i64 e]) ∧ W = W' := by
  have HF : Hid (RNames W) := hF
  clear hF
  rcases h with ⟨K, h1, h2, h3, h4, rfl, rfl⟩ | ⟨h4, rfl, rfl⟩
  · have H4 : Hid (∀ j : Nat, 1 ≤ j → j < K → nam j ≠ s) := h4
    have H3 : Hid (nam K = s) := h3
    have k1 : (K : Int) < 25 := by omega
    clear h4 h3
    go_enter Tryz.func104, Tryz.ntmps104
    go_wp2_with fail
    go_loopw [4] (fun i wr => ∃ k : Nat, 1 ≤ k ∧ k ≤ K ∧ i = .int .i64 k ∧ W = wr) (fun i _ => K - (intOf i).toNat)
    case atStart => exact ⟨1, Nat.le_refl _, h1, rfl, rfl⟩
    case round =>
      obtain ⟨k, ka, kb, rfl, rfl⟩ := hrel
      have c1 : (k : Int) < 25 := by omega
      have hc := HF.out k (by omega)
      by_cases hk : k = K
      · subst hk
        rw [H3.out] at hc
        clear ka kb h1 h2
        go_wp2_with fail
        go_ret2
        exact ⟨rfl, rfl⟩
      · have q := toList_ne (H4.out k ka (by omega))
        generalize nam k = t at *
        have hlt : k < K := by omega
        clear ka hk
        go_wp2_with fail
        go_roundw
        case measure => simp [intOf]; omega
        case rel => exact ⟨k + 1, by omega, by omega, by go_num, trivial⟩
  · have H4 : Hid (∀ j : Nat, 1 ≤ j → j < 25 → nam j ≠ s) := h4
    clear h4
    go_enter Tryz.func104, Tryz.ntmps104
    go_wp2_with fail
    go_loopw [4] (fun i wr => ∃ k : Nat, 1 ≤ k ∧ k ≤ 25 ∧ i = .int .i64 k ∧ W = wr) (fun i _ => 25 - (intOf i).toNat)
    case atStart => exact ⟨1, Nat.le_refl _, by decide, rfl, rfl⟩
    case round =>
      obtain ⟨k, ka, kb, rfl, rfl⟩ := hrel
      by_cases hk : k < 25
      · have c1 : (k : Int) < 25 := by omega
        have hc := HF.out k hk
        have q := toList_ne (H4.out k ka hk)
        generalize nam k = t at *
        clear ka
        go_wp2_with fail
        go_roundw
        case measure => simp [intOf]; omega
        case rel => exact ⟨k + 1, by omega, by omega, by go_num, trivial⟩
      · obtain rfl : k = 25 := by omega
        clear ka kb hk
        go_wp2_with fail
        go_ret2
        exact ⟨rfl, rfl⟩

theorem cnamed_any (W : World) (hF : CNames W) (s : ByteArray) (r e : Int) (h : Fnd cnd 0 7 s r e) : Calls Tryz.prog 160 #[.string s] W fun x W' => x = .returned (.tuple #[.int .i64 r, .int .i64 e]) ∧ W = W' := by
  have HF : Hid (CNames W) := hF
  clear hF
  rcases h with ⟨K, h1, h2, h3, h4, rfl, rfl⟩ | ⟨h4, rfl, rfl⟩
  · have H4 : Hid (∀ j : Nat, 0 ≤ j → j < K → cnd j ≠ s) := h4
    have H3 : Hid (cnd K = s) := h3
    have k1 : (K : Int) < 7 := by omega
    clear h4 h3
    go_enter Tryz.func160, Tryz.ntmps160
    go_wp2_with fail
    go_loopw [5] (fun i wr => ∃ k : Nat, 0 ≤ k ∧ k ≤ K ∧ i = .int .i64 k ∧ W = wr) (fun i _ => K - (intOf i).toNat)
    case atStart => exact ⟨0, Nat.le_refl _, h1, rfl, rfl⟩
    case round =>
      obtain ⟨k, ka, kb, rfl, rfl⟩ := hrel
      have c1 : (k : Int) < 7 := by omega
      have hc := HF.out k (by omega)
      by_cases hk : k = K
      · subst hk
        rw [H3.out] at hc
        clear ka kb h1 h2
        go_wp2_with fail
        go_ret2
        exact ⟨rfl, rfl⟩
      · have q := toList_ne (H4.out k ka (by omega))
        generalize cnd k = t at *
        have hlt : k < K := by omega
        clear ka hk
        go_wp2_with fail
        go_roundw
        case measure => simp [intOf]; omega
        case rel => exact ⟨k + 1, by omega, by omega, by go_num, trivial⟩
  · have H4 : Hid (∀ j : Nat, 0 ≤ j → j < 7 → cnd j ≠ s) := h4
    clear h4
    go_enter Tryz.func160, Tryz.ntmps160
    go_wp2_with fail
    go_loopw [5] (fun i wr => ∃ k : Nat, 0 ≤ k ∧ k ≤ 7 ∧ i = .int .i64 k ∧ W = wr) (fun i _ => 7 - (intOf i).toNat)
    case atStart => exact ⟨0, Nat.le_refl _, by decide, rfl, rfl⟩
    case round =>
      obtain ⟨k, ka, kb, rfl, rfl⟩ := hrel
      by_cases hk : k < 7
      · have c1 : (k : Int) < 7 := by omega
        have hc := HF.out k hk
        have q := toList_ne (H4.out k ka hk)
        generalize cnd k = t at *
        clear ka
        go_wp2_with fail
        go_roundw
        case measure => simp [intOf]; omega
        case rel => exact ⟨k + 1, by omega, by omega, by go_num, trivial⟩
      · obtain rfl : k = 7 := by omega
        clear ka kb hk
        go_wp2_with fail
        go_ret2
        exact ⟨rfl, rfl⟩

theorem rcnamed_any (W : World) (hF : RConds W) (s : ByteArray) (r e : Int) (h : Fnd cnd 0 7 s r e) : Calls Tryz.prog 147 #[.string s] W fun x W' => x = .returned (.tuple #[.int .i64 r, .int .i64 e]) ∧ W = W' := by
  have HF : Hid (RConds W) := hF
  clear hF
  rcases h with ⟨K, h1, h2, h3, h4, rfl, rfl⟩ | ⟨h4, rfl, rfl⟩
  · have H4 : Hid (∀ j : Nat, 0 ≤ j → j < K → cnd j ≠ s) := h4
    have H3 : Hid (cnd K = s) := h3
    have k1 : (K : Int) < 7 := by omega
    clear h4 h3
    go_enter Tryz.func147, Tryz.ntmps147
    go_wp2_with fail
    go_loopw [4] (fun i wr => ∃ k : Nat, 0 ≤ k ∧ k ≤ K ∧ i = .int .i64 k ∧ W = wr) (fun i _ => K - (intOf i).toNat)
    case atStart => exact ⟨0, Nat.le_refl _, h1, rfl, rfl⟩
    case round =>
      obtain ⟨k, ka, kb, rfl, rfl⟩ := hrel
      have c1 : (k : Int) < 7 := by omega
      have hc := HF.out k (by omega)
      by_cases hk : k = K
      · subst hk
        rw [H3.out] at hc
        clear ka kb h1 h2
        go_wp2_with fail
        go_ret2
        exact ⟨rfl, rfl⟩
      · have q := toList_ne (H4.out k ka (by omega))
        generalize cnd k = t at *
        have hlt : k < K := by omega
        clear ka hk
        go_wp2_with fail
        go_roundw
        case measure => simp [intOf]; omega
        case rel => exact ⟨k + 1, by omega, by omega, by go_num, trivial⟩
  · have H4 : Hid (∀ j : Nat, 0 ≤ j → j < 7 → cnd j ≠ s) := h4
    clear h4
    go_enter Tryz.func147, Tryz.ntmps147
    go_wp2_with fail
    go_loopw [4] (fun i wr => ∃ k : Nat, 0 ≤ k ∧ k ≤ 7 ∧ i = .int .i64 k ∧ W = wr) (fun i _ => 7 - (intOf i).toNat)
    case atStart => exact ⟨0, Nat.le_refl _, by decide, rfl, rfl⟩
    case round =>
      obtain ⟨k, ka, kb, rfl, rfl⟩ := hrel
      by_cases hk : k < 7
      · have c1 : (k : Int) < 7 := by omega
        have hc := HF.out k hk
        have q := toList_ne (H4.out k ka hk)
        generalize cnd k = t at *
        clear ka
        go_wp2_with fail
        go_roundw
        case measure => simp [intOf]; omega
        case rel => exact ⟨k + 1, by omega, by omega, by go_num, trivial⟩
      · obtain rfl : k = 7 := by omega
        clear ka kb hk
        go_wp2_with fail
        go_ret2
        exact ⟨rfl, rfl⟩

def namI (op : Int) : ByteArray := if 1 ≤ op ∧ op < 25 then nam op.toNat else ⟨#[]⟩
def cndI (op : Int) : ByteArray := if 0 ≤ op ∧ op < 7 then cnd op.toNat else ⟨#[]⟩

theorem iname_any (W : World) (hF : FNames W) (op : Int) : Calls Tryz.prog 52 #[.int .i64 op] W fun x W' => x = .returned (.string (namI op)) ∧ W = W' := by
  by_cases h : 1 ≤ op ∧ op < 25
  · have hc := hF op.toNat (by omega)
    have HR : Hid (nam op.toNat = namI op) := (if_pos h).symm
    generalize nam op.toNat = s at *
    obtain ⟨o0, o1⟩ := h
    have o2 : 0 ≤ op := by omega
    clear hF
    go_enter Tryz.func52, Tryz.ntmps52
    go_wp2_with (go_at_call 69; refine (isOp_any _ _).mono ?_; rintro e w' ⟨rfl, rfl⟩)
    go_ret
    exact ⟨congrArg (fun x => Ending.returned (.string x)) HR.out, rfl⟩
  · have HR : Hid (⟨#[]⟩ = namI op) := (if_neg h).symm
    have HO : Hid (∀ w, Calls Tryz.prog 69 #[.int .i64 op] w fun e W' => e = .returned (.bool false) ∧ w = W') := fun w => by have := isOp_any w op; rwa [decide_eq_false h] at this
    clear hF h
    go_enter Tryz.func52, Tryz.ntmps52
    go_wp2_with (go_at_call 69; refine (HO.out _).mono ?_; rintro e w' ⟨rfl, rfl⟩)
    go_ret
    exact ⟨congrArg (fun x => Ending.returned (.string x)) HR.out, rfl⟩

theorem cname_any (W : World) (hF : CNames W) (op : Int) : Calls Tryz.prog 27 #[.int .i64 op] W fun x W' => x = .returned (.string (cndI op)) ∧ W = W' := by
  by_cases h : 0 ≤ op ∧ op < 7
  · have hc := hF op.toNat (by omega)
    have HR : Hid (cnd op.toNat = cndI op) := (if_pos h).symm
    generalize cnd op.toNat = s at *
    obtain ⟨o0, o1⟩ := h
    have o2 : 0 ≤ op := by omega
    clear hF
    go_enter Tryz.func27, Tryz.ntmps27
    go_wp2_with fail
    go_ret
    exact ⟨congrArg (fun x => Ending.returned (.string x)) HR.out, rfl⟩
  · have HR : Hid (⟨#[]⟩ = cndI op) := (if_neg h).symm
    by_cases h1 : op < 0
    · clear hF h
      go_enter Tryz.func27, Tryz.ntmps27
      go_wp2_with fail
      go_ret
      exact ⟨congrArg (fun x => Ending.returned (.string x)) HR.out, rfl⟩
    · have h2 : 7 ≤ op := by omega
      have h3 : 0 ≤ op := by omega
      clear hF h h1
      go_enter Tryz.func27, Tryz.ntmps27
      go_wp2_with fail
      go_ret
      exact ⟨congrArg (fun x => Ending.returned (.string x)) HR.out, rfl⟩

end Go.Proofs.YtncnogndopgknaaGreatDoor
