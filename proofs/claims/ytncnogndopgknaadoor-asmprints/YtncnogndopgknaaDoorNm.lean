/- Named (15, 17), CondNamed (18, 20), Name (16, 22), CondName (19, 23). -/
import Derived.Test.YtncnogndopgknaaDoorRef1
namespace Go.Proofs.YtncnogndopgknaaDoor
open Go.RowKit
def condT : List (List UInt8) := [[97, 108], [101, 113], [110, 101], [108, 116], [103, 101], [108, 111], [104, 115]]
def cnd (n : Nat) : ByteArray := ⟨(condT.getD n []).toArray⟩
def FNames (W : World) : Prop := ∀ n : Nat, n < 25 → W.cell? ⟨0, n * 2, none⟩ = some (.string (nam n))
def RNames (W : World) : Prop := ∀ n : Nat, n < 25 → W.cell? ⟨1, n, none⟩ = some (.string (nam n))
def CNames (W : World) : Prop := ∀ n : Nat, n < 7 → W.cell? ⟨4, n, none⟩ = some (.string (cnd n))
def RConds (W : World) : Prop := ∀ n : Nat, n < 7 → W.cell? ⟨3, n, none⟩ = some (.string (cnd n))
/-- The first number from lo on, below hi, whose name it is. -/
def Fnd (f : Nat → ByteArray) (lo hi : Nat) (s : ByteArray) (r e : Int) : Prop :=
  (∃ k : Nat, lo ≤ k ∧ k < hi ∧ f k = s ∧ (∀ j : Nat, lo ≤ j → j < k → f j ≠ s) ∧ r = (k : Int) ∧ e = 0) ∨ ((∀ j : Nat, lo ≤ j → j < hi → f j ≠ s) ∧ r = 0 ∧ e = 50)
theorem fnd_or (f : Nat → ByteArray) (lo : Nat) (s : ByteArray) : ∀ hi : Nat, (∃ k : Nat, lo ≤ k ∧ k < hi ∧ f k = s ∧ ∀ j : Nat, lo ≤ j → j < k → f j ≠ s) ∨ ∀ j : Nat, lo ≤ j → j < hi → f j ≠ s
  | 0 => .inr fun j _ h => by omega
  | hi + 1 => by
    rcases fnd_or f lo s hi with ⟨k, h1, h2, h3, h4⟩ | h
    · exact .inl ⟨k, h1, by omega, h3, h4⟩
    · by_cases hk : lo ≤ hi ∧ f hi = s
      · exact .inl ⟨hi, hk.1, by omega, hk.2, h⟩
      · refine .inr fun j h1 h2 h3 => ?_
        rcases Nat.lt_or_ge j hi with h4 | h4
        · exact h j h1 h4 h3
        · obtain rfl : j = hi := by omega
          exact hk ⟨h1, h3⟩
theorem fnd_ex (f : Nat → ByteArray) (lo hi : Nat) (s : ByteArray) : ∃ r e, Fnd f lo hi s r e := by
  rcases fnd_or f lo s hi with ⟨k, h1, h2, h3, h4⟩ | h
  · exact ⟨k, 0, .inl ⟨k, h1, h2, h3, h4, rfl, rfl⟩⟩
  · exact ⟨0, 50, .inr ⟨h, rfl, rfl⟩⟩
theorem toList_ne {t s : ByteArray} (h : t ≠ s) : (t.toList == s.toList) = false := by
  rw [ByteArray.toList_eq t, ByteArray.toList_eq s]
  simp only [beq_eq_false_iff_ne, ne_eq]
  intro e
  apply h
  cases t
  cases s
  congr
  exact Array.toList_inj.1 e

def namI (op : Int) : ByteArray := if 1 ≤ op ∧ op < 25 then nam op.toNat else ⟨#[]⟩
def cndI (op : Int) : ByteArray := if 0 ≤ op ∧ op < 7 then cnd op.toNat else ⟨#[]⟩

theorem name_any (W : World) (hF : FNames W) (op : Int) : Calls Tryd.prog 22 #[.int .i64 op] W fun x W' => x = .returned (.string (namI op)) ∧ W = W' := by
  by_cases h : 1 ≤ op ∧ op < 25
  · have hc := hF op.toNat (by omega)
    have HR : Hid (nam op.toNat = namI op) := (if_pos h).symm
    generalize nam op.toNat = s at *
    obtain ⟨o0, o1⟩ := h
    have o2 : 0 ≤ op := by omega
    clear hF
    go_enter Tryd.func22, Tryd.ntmps22
    go_wp2_with (go_at_call 39; refine (isOp_any _ _).mono ?_; rintro e w' ⟨rfl, rfl⟩)
    go_ret
    exact ⟨congrArg (fun x => Ending.returned (.string x)) HR.out, rfl⟩
  · have HR : Hid (⟨#[]⟩ = namI op) := (if_neg h).symm
    have HO : Hid (∀ w, Calls Tryd.prog 39 #[.int .i64 op] w fun e W' => e = .returned (.bool false) ∧ w = W') := fun w => by have := isOp_any w op; rwa [decide_eq_false h] at this
    clear hF h
    go_enter Tryd.func22, Tryd.ntmps22
    go_wp2_with (go_at_call 39; refine (HO.out _).mono ?_; rintro e w' ⟨rfl, rfl⟩)
    go_ret
    exact ⟨congrArg (fun x => Ending.returned (.string x)) HR.out, rfl⟩

theorem rname_any (W : World) (hF : RNames W) (op : Int) : Calls Tryd.prog 28 #[.int .i64 op] W fun x W' => x = .returned (.string (namI op)) ∧ W = W' := by
  by_cases h : 1 ≤ op ∧ op < 25
  · have hc := hF op.toNat (by omega)
    have HR : Hid (nam op.toNat = namI op) := (if_pos h).symm
    generalize nam op.toNat = s at *
    obtain ⟨o0, o1⟩ := h
    have o2 : 0 ≤ op := by omega
    clear hF
    go_enter Tryd.func28, Tryd.ntmps28
    go_wp2_with fail
    go_ret
    exact ⟨congrArg (fun x => Ending.returned (.string x)) HR.out, rfl⟩
  · have HR : Hid (⟨#[]⟩ = namI op) := (if_neg h).symm
    by_cases h1 : op < 1
    · clear hF h
      go_enter Tryd.func28, Tryd.ntmps28
      go_wp2_with fail
      go_ret
      exact ⟨congrArg (fun x => Ending.returned (.string x)) HR.out, rfl⟩
    · have h2 : 25 ≤ op := by omega
      have h3 : 1 ≤ op := by omega
      clear hF h h1
      go_enter Tryd.func28, Tryd.ntmps28
      go_wp2_with fail
      go_ret
      exact ⟨congrArg (fun x => Ending.returned (.string x)) HR.out, rfl⟩

theorem cname_any (W : World) (hF : CNames W) (op : Int) : Calls Tryd.prog 41 #[.int .i64 op] W fun x W' => x = .returned (.string (cndI op)) ∧ W = W' := by
  by_cases h : 0 ≤ op ∧ op < 7
  · have hc := hF op.toNat (by omega)
    have HR : Hid (cnd op.toNat = cndI op) := (if_pos h).symm
    generalize cnd op.toNat = s at *
    obtain ⟨o0, o1⟩ := h
    have o2 : 0 ≤ op := by omega
    clear hF
    go_enter Tryd.func41, Tryd.ntmps41
    go_wp2_with fail
    go_ret
    exact ⟨congrArg (fun x => Ending.returned (.string x)) HR.out, rfl⟩
  · have HR : Hid (⟨#[]⟩ = cndI op) := (if_neg h).symm
    by_cases h1 : op < 0
    · clear hF h
      go_enter Tryd.func41, Tryd.ntmps41
      go_wp2_with fail
      go_ret
      exact ⟨congrArg (fun x => Ending.returned (.string x)) HR.out, rfl⟩
    · have h2 : 7 ≤ op := by omega
      have h3 : 0 ≤ op := by omega
      clear hF h h1
      go_enter Tryd.func41, Tryd.ntmps41
      go_wp2_with fail
      go_ret
      exact ⟨congrArg (fun x => Ending.returned (.string x)) HR.out, rfl⟩

theorem rcname_any (W : World) (hF : RConds W) (op : Int) : Calls Tryd.prog 30 #[.int .i64 op] W fun x W' => x = .returned (.string (cndI op)) ∧ W = W' := by
  by_cases h : 0 ≤ op ∧ op < 7
  · have hc := hF op.toNat (by omega)
    have HR : Hid (cnd op.toNat = cndI op) := (if_pos h).symm
    generalize cnd op.toNat = s at *
    obtain ⟨o0, o1⟩ := h
    have o2 : 0 ≤ op := by omega
    clear hF
    go_enter Tryd.func30, Tryd.ntmps30
    go_wp2_with fail
    go_ret
    exact ⟨congrArg (fun x => Ending.returned (.string x)) HR.out, rfl⟩
  · have HR : Hid (⟨#[]⟩ = cndI op) := (if_neg h).symm
    by_cases h1 : op < 0
    · clear hF h
      go_enter Tryd.func30, Tryd.ntmps30
      go_wp2_with fail
      go_ret
      exact ⟨congrArg (fun x => Ending.returned (.string x)) HR.out, rfl⟩
    · have h2 : 7 ≤ op := by omega
      have h3 : 0 ≤ op := by omega
      clear hF h h1
      go_enter Tryd.func30, Tryd.ntmps30
      go_wp2_with fail
      go_ret
      exact ⟨congrArg (fun x => Ending.returned (.string x)) HR.out, rfl⟩
end Go.Proofs.YtncnogndopgknaaDoor
