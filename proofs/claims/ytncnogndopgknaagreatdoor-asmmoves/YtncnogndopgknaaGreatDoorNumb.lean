/- Number (13), Signed (15). -/
import Derived.Test.YtncnogndopgknaaGreatDoorHxd
import Derived.Test.YtncnogndopgknaaGreatDoorShelf
namespace Go.Proofs.YtncnogndopgknaaGreatDoor
open Go.RowKit
def sgnRes (r : Option Int) : Value := match r with
  | some v => .tuple #[.int .i32 v, .int .i64 0]
  | none => .tuple #[.int .i32 0, .int .i64 41]
theorem numRes_cases (r : Option Nat) : (∃ v, r = some v ∧ numRes r = .tuple #[.int .u32 (v : Int), .int .i64 0]) ∨ (r = none ∧ numRes r = .tuple #[.int .u32 0, .int .i64 41]) := by
  cases r with
  | none => exact .inr ⟨rfl, rfl⟩
  | some v => exact .inl ⟨v, rfl, rfl⟩
theorem tens_le {l : List UInt8} {m v : Nat} (h : T.tens l m = some v) : v ≤ m := by
  unfold T.tens at h
  split at h
  · cases h
  · split at h
    · split at h
      · cases h; assumption
      · cases h
    · cases h

set_option maxHeartbeats 1000000 in
theorem number_any (W : World) (s : ByteArray) (hs : s.size ≤ 1000000000) :
    Calls Tryz.prog 168 #[.string s] W fun e W' => e = .returned (numRes (T.number s.data.toList)) ∧ W = W' := by
  have HC := Tryz.strings_CutPrefix s ⟨#[48, 120]⟩
  have HT := fun w => tens_any w s 4294967295 (by decide) hs 4294967295 rfl
  cases hp : Lib.hasPrefix s.data.toList [48, 120] with
  | true =>
    have hp' : ([48, 120] : List UInt8).isPrefixOf s.data.toList = true := hp
    have HX : Hid (∀ w, Calls Tryz.prog 171 #[.string ⟨(s.data.toList.drop 2).toArray⟩] w fun e W' => e = .returned (numRes (T.hexed (s.data.toList.drop 2))) ∧ w = W') := fun w => by
      have := hexed_any w ⟨(s.data.toList.drop 2).toArray⟩ (by show (s.data.toList.drop 2).toArray.size ≤ _; simp; have : s.data.size = s.size := rfl; omega)
      simpa using this
    have HR : Hid (numRes (T.number s.data.toList) = numRes (T.hexed (s.data.toList.drop 2))) := hid (by unfold T.number; rw [if_pos hp'])
    have HC2 : Hid (∀ w, Calls Tryz.prog 167 #[.string s, .string ⟨#[48, 120]⟩] w fun e w' => e = .returned (.tuple #[.string ⟨(s.data.toList.drop 2).toArray⟩, .bool true]) ∧ w' = w) := hid (by
      intro w
      have := HC w
      simp only [Lib.trimPrefix, hp, if_true] at this
      exact this)
    clear HC hp hp' HT
    generalize T.hexed (s.data.toList.drop 2) = r at *
    generalize s.data.toList.drop 2 = d at *
    rcases numRes_cases r with ⟨v, -, hv⟩ | ⟨-, hv⟩
    all_goals
      rw [hv] at HX HR
      clear hv
      go_enter Tryz.func168, Tryz.ntmps168
      go_wp2_with (first | (go_at_call 167; refine (HC2.out _).mono ?_; rintro e w' ⟨rfl, rfl⟩) | (go_at_call 171; refine (HX.out _).mono ?_; rintro e w' ⟨rfl, rfl⟩))
      go_ret2
      exact ⟨ret_val HR.out.symm, rfl⟩
  | false =>
    have hp' : ([48, 120] : List UInt8).isPrefixOf s.data.toList = false := hp
    have HR : Hid (numRes (T.number s.data.toList) = numRes (T.tens s.data.toList 4294967295)) := hid (by unfold T.number; rw [if_neg (by rw [hp']; simp)])
    have HC2 : Hid (∀ w, Calls Tryz.prog 167 #[.string s, .string ⟨#[48, 120]⟩] w fun e w' => e = .returned (.tuple #[.string s, .bool false]) ∧ w' = w) := hid (by
      intro w
      have := HC w
      simp only [Lib.trimPrefix, hp] at this
      exact this)
    have HT2 : Hid (∀ w, Calls Tryz.prog 172 #[.string s, .int .u64 4294967295] w fun e W' => e = .returned (numRes (T.tens s.data.toList 4294967295)) ∧ w = W') := HT
    clear HC hp hp' HT
    generalize T.tens s.data.toList 4294967295 = r at *
    rcases numRes_cases r with ⟨v, -, hv⟩ | ⟨-, hv⟩
    all_goals
      rw [hv] at HT2 HR
      clear hv
      go_enter Tryz.func168, Tryz.ntmps168
      go_wp2_with (first | (go_at_call 167; refine (HC2.out _).mono ?_; rintro e w' ⟨rfl, rfl⟩) | (go_at_call 172; refine (HT2.out _).mono ?_; rintro e w' ⟨rfl, rfl⟩))
      go_ret2
      exact ⟨ret_val HR.out.symm, rfl⟩
set_option maxHeartbeats 1000000 in
theorem signed_any (W : World) (s : ByteArray) (hs : s.size ≤ 1000000000) :
    Calls Tryz.prog 169 #[.string s] W fun e W' => e = .returned (sgnRes (T.signed s.data.toList)) ∧ W = W' := by
  have HC := Tryz.strings_CutPrefix s ⟨#[45]⟩
  cases hp : Lib.hasPrefix s.data.toList [45] with
  | true =>
    have hp' : ([45] : List UInt8).isPrefixOf s.data.toList = true := hp
    have HX : Hid (∀ w, Calls Tryz.prog 172 #[.string ⟨(s.data.toList.drop 1).toArray⟩, .int .u64 2147483648] w fun e W' => e = .returned (numRes (T.tens (s.data.toList.drop 1) 2147483648)) ∧ w = W') := fun w => by
      have := tens_any w ⟨(s.data.toList.drop 1).toArray⟩ 2147483648 (by decide) (by show (s.data.toList.drop 1).toArray.size ≤ _; simp; have : s.data.size = s.size := rfl; omega) 2147483648 rfl
      simpa using this
    have HR : Hid (sgnRes (T.signed s.data.toList) = sgnRes (match T.tens (s.data.toList.drop 1) 2147483648 with
      | some n => if n = 0 then none else some (-(n : Int))
      | none => none)) := hid (by unfold T.signed; rw [if_pos hp']; rfl)
    have HC2 : Hid (∀ w, Calls Tryz.prog 167 #[.string s, .string ⟨#[45]⟩] w fun e w' => e = .returned (.tuple #[.string ⟨(s.data.toList.drop 1).toArray⟩, .bool true]) ∧ w' = w) := hid (by
      intro w
      have := HC w
      simp only [Lib.trimPrefix, hp, if_true] at this
      exact this)
    clear HC hp hp'
    have hle := fun v => tens_le (l := s.data.toList.drop 1) (m := 2147483648) (v := v)
    generalize T.tens (s.data.toList.drop 1) 2147483648 = r at *
    generalize s.data.toList.drop 1 = d at *
    cases r with
    | none =>
      have HX2 : Hid (∀ w, Calls Tryz.prog 172 #[.string ⟨d.toArray⟩, .int .u64 2147483648] w fun e W' => e = .returned (.tuple #[.int .u32 0, .int .i64 41]) ∧ w = W') := HX
      have HR2 : Hid (sgnRes (T.signed s.data.toList) = .tuple #[.int .i32 0, .int .i64 41]) := HR
      clear HX HR hle
      go_enter Tryz.func169, Tryz.ntmps169
      go_wp2_with (first | (go_at_call 167; refine (HC2.out _).mono ?_; rintro e w' ⟨rfl, rfl⟩) | (go_at_call 172; refine (HX2.out _).mono ?_; rintro e w' ⟨rfl, rfl⟩))
      go_ret2
      exact ⟨ret_val HR2.out.symm, rfl⟩
    | some v =>
      have hv := hle v rfl
      have HX2 : Hid (∀ w, Calls Tryz.prog 172 #[.string ⟨d.toArray⟩, .int .u64 2147483648] w fun e W' => e = .returned (.tuple #[.int .u32 (v : Int), .int .i64 0]) ∧ w = W') := HX
      by_cases h0 : v = 0
      · subst h0
        have HR2 : Hid (sgnRes (T.signed s.data.toList) = .tuple #[.int .i32 0, .int .i64 41]) := HR
        clear HX HR hle
        go_enter Tryz.func169, Tryz.ntmps169
        go_wp2_with (first | (go_at_call 167; refine (HC2.out _).mono ?_; rintro e w' ⟨rfl, rfl⟩) | (go_at_call 172; refine (HX2.out _).mono ?_; rintro e w' ⟨rfl, rfl⟩))
        go_ret2
        exact ⟨ret_val HR2.out.symm, rfl⟩
      · have HR2 : Hid (sgnRes (T.signed s.data.toList) = .tuple #[.int .i32 (-(v : Int)), .int .i64 0]) := hid (by
          rw [HR.out]
          simp only [h0, if_false]
          rfl)
        have c0 : ((v : Int) == 0) = false := by simp; omega
        have w1 : wrap32 (-(v : Int) % 4294967296) = -(v : Int) := by
          unfold wrap32
          omega
        have W1 : Hid (wrap32 (-(v : Int) % 4294967296) = -(v : Int)) := w1
        clear HX HR hle h0 w1
        go_enter Tryz.func169, Tryz.ntmps169
        go_wp2_with (first | (go_at_call 167; refine (HC2.out _).mono ?_; rintro e w' ⟨rfl, rfl⟩) | (go_at_call 172; refine (HX2.out _).mono ?_; rintro e w' ⟨rfl, rfl⟩))
        go_ret2
        exact ⟨ret_val ((congrArg (fun z => Value.tuple #[.int .i32 z, .int .i64 0]) W1.out).trans HR2.out.symm), rfl⟩
  | false =>
    have hp' : ([45] : List UInt8).isPrefixOf s.data.toList = false := hp
    have HX : Hid (∀ w, Calls Tryz.prog 172 #[.string s, .int .u64 2147483647] w fun e W' => e = .returned (numRes (T.tens s.data.toList 2147483647)) ∧ w = W') := fun w => tens_any w s 2147483647 (by decide) hs 2147483647 rfl
    have HR : Hid (sgnRes (T.signed s.data.toList) = sgnRes (match T.tens s.data.toList 2147483647 with
      | some n => some (n : Int)
      | none => none)) := hid (by unfold T.signed; rw [if_neg (by rw [hp']; simp)]; rfl)
    have HC2 : Hid (∀ w, Calls Tryz.prog 167 #[.string s, .string ⟨#[45]⟩] w fun e w' => e = .returned (.tuple #[.string s, .bool false]) ∧ w' = w) := hid (by
      intro w
      have := HC w
      simp only [Lib.trimPrefix, hp] at this
      exact this)
    clear HC hp hp'
    have hle := fun v => tens_le (l := s.data.toList) (m := 2147483647) (v := v)
    generalize T.tens s.data.toList 2147483647 = r at *
    cases r with
    | none =>
      have HX2 : Hid (∀ w, Calls Tryz.prog 172 #[.string s, .int .u64 2147483647] w fun e W' => e = .returned (.tuple #[.int .u32 0, .int .i64 41]) ∧ w = W') := HX
      have HR2 : Hid (sgnRes (T.signed s.data.toList) = .tuple #[.int .i32 0, .int .i64 41]) := HR
      clear HX HR hle
      go_enter Tryz.func169, Tryz.ntmps169
      go_wp2_with (first | (go_at_call 167; refine (HC2.out _).mono ?_; rintro e w' ⟨rfl, rfl⟩) | (go_at_call 172; refine (HX2.out _).mono ?_; rintro e w' ⟨rfl, rfl⟩))
      go_ret2
      exact ⟨ret_val HR2.out.symm, rfl⟩
    | some v =>
      have hv := hle v rfl
      have hv' : (v : Int) ≤ 2147483647 := by omega
      have HX2 : Hid (∀ w, Calls Tryz.prog 172 #[.string s, .int .u64 2147483647] w fun e W' => e = .returned (.tuple #[.int .u32 (v : Int), .int .i64 0]) ∧ w = W') := HX
      have HR2 : Hid (sgnRes (T.signed s.data.toList) = .tuple #[.int .i32 (v : Int), .int .i64 0]) := HR
      clear HX HR hle hv
      go_enter Tryz.func169, Tryz.ntmps169
      go_wp2_with (first | (go_at_call 167; refine (HC2.out _).mono ?_; rintro e w' ⟨rfl, rfl⟩) | (go_at_call 172; refine (HX2.out _).mono ?_; rintro e w' ⟨rfl, rfl⟩))
      go_ret2
      exact ⟨ret_val HR2.out.symm, rfl⟩
end Go.Proofs.YtncnogndopgknaaGreatDoor
