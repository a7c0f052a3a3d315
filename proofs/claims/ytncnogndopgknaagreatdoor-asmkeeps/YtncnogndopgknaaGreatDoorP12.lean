import Derived.Test.YtncnogndopgknaaGreatDoorP11
import Derived.Test.YtncnogndopgknaaGreatDoorP03
import Derived.Test.YtncnogndopgknaaGreatDoorP10
namespace Go.Proofs.YtncnogndopgknaaGreatDoor
open Go.RowKit
def sgnRes (r : Option Int) : Value := match r with
  | some v => .tuple #[.int .i32 v, .int .i64 0]
  | none => .tuple #[.int .i32 0, .int .i64 41]
theorem numRes_cases (r : Option Nat) : (∃ v, r = some v ∧ numRes r = .tuple #[.int .u32 (v : Int), .int .i64 0]) ∨ (r = none ∧ numRes r = .tuple #[.int .u32 0, .int .i64 41]) := by
  cases r with
  | none => exact .inr ⟨rfl, rfl⟩
  | some v => exact .inl ⟨v, rfl, rfl⟩
theorem tens_le {l : List UInt8} {m v : Nat} (h : T.tens l m = some v) : v ≤ m := by
  unfold T.tens at h
  split at h
  · cases h
  · split at h
    · split at h
      · cases h; assumption
      · cases h
    · cases h

set_option maxHeartbeats 1000000 in
theorem number_any (W : World) (s : ByteArray) (hs : s.size ≤ 1000000000) :
    Calls Tryz.prog 168 #[.string s] W fun e W' => e = .returned (numRes (T.number s.data.toList)) ∧ W = W' := by
  have HC := Tryz.strings_CutPrefix s ⟨#[48, 120]⟩
  have HT := fun w => tens_any w s 4294967295 (by decide) hs 4294967295 rfl
  cases hp : Lib.hasPrefix s.data.toList [48, 120] with
  | true =>
    have hp' : ([48, 120] : List UInt8).isPrefixOf s.data.toList = true := hp
    have HX : Hid (∀ w, Calls Tryz.prog 171 #[.string ⟨(s.data.toList.drop 2).toArray⟩] w fun e W' => e = .returned (numRes (T.hexed (s.data.toList.drop 2))) ∧ w = W') := fun w => by
      have := hexed_any w ⟨(s.data.toList.drop 2).toArray⟩ (by show (s.data.toList.drop 2).toArray.size ≤ _; simp; have : s.data.size = s.size := rfl; omega)
      simpa using this
    have HR : Hid (numRes (T.number s.data.toList) = numRes (T.hexed (s.data.toList.drop 2))) := hid (by unfold T.number; rw [if_pos hp'])
    have HC2 : Hid (∀ w, Calls Tryz.prog 167 #[.string s, .string ⟨#[48, 120]⟩] w fun e w' => e = .returned (.tuple #[.string ⟨(s.data.toList.drop 2).toArray⟩, .bool true]) ∧ w' = w) := hid (by
      intro w
      have := HC w
      simp only [Lib.trimPrefix, hp, if_true] at this
      exact this)
    clear HC hp hp' HT
    generalize T.hexed (s.data.toList.drop 2) = r at *
    generalize s.data.toList.drop 2 = d at *
    rcases numRes_cases r with ⟨v, -, hv⟩ | ⟨-, hv⟩
    all_goals
      rw [hv] at HX HR
      clear hv
      go_enter Tryz.func168, Tryz.ntmps168
      go_wp2_with (first | (go_at_call 167; refine (HC2.out _).mono ?_; rintro e w' ⟨rfl, rfl⟩) | (go_at_call 171; refine (HX.out _).mono ?_; rintro e w' ⟨rfl, rfl⟩))
      go_ret2
      exact ⟨ret_val HR.out.symm, rfl⟩
  | false =>
    have hp' : ([48, 120] : List UInt8).isPrefixOf s.data.toList = false := hp
    have HR : Hid (numRes (T.number s.data.toList) = numRes (T.tens s.data.toList 4294967295)) := hid (by unfold T.number; rw [if_neg (by rw [hp']; simp)])
    have HC2 : Hid (∀ w, Calls Tryz.prog 167 #[.string s, .string ⟨#[48, 120]⟩] w fun e w' => e = .returned (.tuple #[.string s, .bool false]) ∧ w' = w) := hid (by
      intro w
      have := HC w
      simp only [Lib.trimPrefix, hp] at this
      exact this)
    have HT2 : Hid (∀ w, Calls Tryz.prog 172 #[.string s, .int .u64 4294967295] w fun e W' => e = .returned (numRes (T.tens s.data.toList 4294967295)) ∧ w = W') := HT
    clear HC hp hp' HT
    generalize T.tens s.data.toList 4294967295 = r at *
    rcases numRes_cases r with ⟨v, -, hv⟩ | ⟨-, hv⟩
    all_goals
      rw [hv] at HT2 HR
      clear hv
      go_enter Tryz.func168, Tryz.ntmps168
      go_wp2_with (first | (go_at_call 167; refine (HC2.out _).mono ?_; rintro e w' ⟨rfl, rfl⟩) | (go_at_call 172; refine (HT2.out _).mono ?_; rintro e w' ⟨rfl, rfl⟩))
      go_ret2
      exact ⟨ret_val HR.out.symm, rfl⟩
set_option maxHeartbeats 1000000 in
theorem signed_any (W : World) (s : ByteArray) (hs : s.size ≤ 1000000000) :
    Calls Tryz.prog 169 #[.string s] W fun e W' => e = .returned (sgnRes (T.signed s.data.toList)) ∧ W = W' := by
  have HC := Tryz.strings_CutPrefix s ⟨#[45]⟩
  cases hp : Lib.hasPrefix s.data.toList [45] with
  | true =>
    have hp' : ([45] : List UInt8).isPrefixOf s.data.toList = true := hp
    have HX : Hid (∀ w, Calls Tryz.prog 172 #[.string ⟨(s.data.toList.drop 1).toArray⟩, .int .u64 2147483648] w fun e W' => e = .returned (numRes (T.tens (s.data.toList.drop 1) 2147483648)) ∧ w = W') := fun w => by
      have := tens_any w ⟨(s.data.toList.drop 1).toArray⟩ 2147483648 (by decide) (by show (s.data.toList.drop 1).toArray.size ≤ _; simp; have : s.data.size = s.size := rfl; omega) 2147483648 rfl
      simpa using this
    have HR : Hid (sgnRes (T.signed s.data.toList) = sgnRes (match T.tens (s.data.toList.drop 1) 2147483648 with
      | some n => if n = 0 then none else some (-(n : Int))
      | none => none)) := hid (by unfold T.signed; rw [if_pos hp']; rfl)
    have HC2 : Hid (∀ w, Calls Tryz.prog 167 #[.string s, .string ⟨#[45]⟩] w fun e w' => e = .returned (.tuple #[.string ⟨(s.data.toList.drop 1).toArray⟩, .bool true]) ∧ w' = w) := hid (by
      intro w
      have := HC w
      simp only [Lib.trimPrefix, hp, if_true] at this
      exact this)
    clear HC hp hp'
    have hle := fun v => tens_le (l := s.data.toList.drop 1) (m := 2147483648) (v := v)
    generalize T.tens (s.data.toList.drop 1) 2147483648 = r at *
    generalize s.data.toList.drop 1 = d at *
    cases r with
    | none =>
      have HX2 : Hid (∀ w, Calls Tryz.prog 172 #[.string ⟨d.toArray⟩, .int .u64 2147483648] w fun e W' => e = .returned (.tuple #[.int .u32 0, .int .i64 41]) ∧ w = W') := HX
      have HR2 : Hid (sgnRes (T.signed s.data.toList) = .tuple #[.int .i32 0, .int .i64 41]) := HR
      clear HX HR hle
      go_enter Tryz.func169, Tryz.ntmps169
      go_wp2_with (first | (go_at_call 167; refine (HC2.out _).mono ?_; rintro e w' ⟨rfl, rfl⟩) | (go_at_call 172; refine (HX2.out _).mono ?_; rintro e w' ⟨rfl, rfl⟩))
      go_ret2
      exact ⟨ret_val HR2.out.symm, rfl⟩
    | some v =>
      have hv := hle v rfl
      have HX2 : Hid (∀ w, Calls Tryz.prog 172 #[.string ⟨d.toArray⟩, .int .u64 2147483648] w fun e W' => e = .returned (.tuple #[.int .u32 (v : Int), .int .i64 0]) ∧ w = W') := HX
      by_cases h0 : v = 0
      · subst h0
        have HR2 : Hid (sgnRes (T.signed s.data.toList) = .tuple #[.int .i32 0, .int .i64 41]) := HR
        clear HX HR hle
        go_enter Tryz.func169, Tryz.ntmps169
        go_wp2_with (first | (go_at_call 167; refine (HC2.out _).mono ?_; rintro e w' ⟨rfl, rfl⟩) | (go_at_call 172; refine (HX2.out _).mono ?_; rintro e w' ⟨rfl, rfl⟩))
        go_ret2
        exact ⟨ret_val HR2.out.symm, rfl⟩
      · have HR2 : Hid (sgnRes (T.signed s.data.toList) = .tuple #[.int .i32 (-(v : Int)), .int .i64 0]) := hid (by
          rw [HR.out]
          simp only [h0, if_false]
          rfl)
        have c0 : ((v : Int) == 0) = false := by simp; omega
        have w1 : wrap32 (-(v : Int) % 4294967296) = -(v : Int) := by
          unfold wrap32
          omega
        have W1 : Hid (wrap32 (-(v : Int) % 4294967296) = -(v : Int)) := w1
        clear HX HR hle h0 w1
        go_enter Tryz.func169, Tryz.ntmps169
        go_wp2_with (first | (go_at_call 167; refine (HC2.out _).mono ?_; rintro e w' ⟨rfl, rfl⟩) | (go_at_call 172; refine (HX2.out _).mono ?_; rintro e w' ⟨rfl, rfl⟩))
        go_ret2
        exact ⟨ret_val ((congrArg (fun z => Value.tuple #[.int .i32 z, .int .i64 0]) W1.out).trans HR2.out.symm), rfl⟩
  | false =>
    have hp' : ([45] : List UInt8).isPrefixOf s.data.toList = false := hp
    have HX : Hid (∀ w, Calls Tryz.prog 172 #[.string s, .int .u64 2147483647] w fun e W' => e = .returned (numRes (T.tens s.data.toList 2147483647)) ∧ w = W') := fun w => tens_any w s 2147483647 (by decide) hs 2147483647 rfl
    have HR : Hid (sgnRes (T.signed s.data.toList) = sgnRes (match T.tens s.data.toList 2147483647 with
      | some n => some (n : Int)
      | none => none)) := hid (by unfold T.signed; rw [if_neg (by rw [hp']; simp)]; rfl)
    have HC2 : Hid (∀ w, Calls Tryz.prog 167 #[.string s, .string ⟨#[45]⟩] w fun e w' => e = .returned (.tuple #[.string s, .bool false]) ∧ w' = w) := hid (by
      intro w
      have := HC w
      simp only [Lib.trimPrefix, hp] at this
      exact this)
    clear HC hp hp'
    have hle := fun v => tens_le (l := s.data.toList) (m := 2147483647) (v := v)
    generalize T.tens s.data.toList 2147483647 = r at *
    cases r with
    | none =>
      have HX2 : Hid (∀ w, Calls Tryz.prog 172 #[.string s, .int .u64 2147483647] w fun e W' => e = .returned (.tuple #[.int .u32 0, .int .i64 41]) ∧ w = W') := HX
      have HR2 : Hid (sgnRes (T.signed s.data.toList) = .tuple #[.int .i32 0, .int .i64 41]) := HR
      clear HX HR hle
      go_enter Tryz.func169, Tryz.ntmps169
      go_wp2_with (first | (go_at_call 167; refine (HC2.out _).mono ?_; rintro e w' ⟨rfl, rfl⟩) | (go_at_call 172; refine (HX2.out _).mono ?_; rintro e w' ⟨rfl, rfl⟩))
      go_ret2
      exact ⟨ret_val HR2.out.symm, rfl⟩
    | some v =>
      have hv := hle v rfl
      have hv' : (v : Int) ≤ 2147483647 := by omega
      have HX2 : Hid (∀ w, Calls Tryz.prog 172 #[.string s, .int .u64 2147483647] w fun e W' => e = .returned (.tuple #[.int .u32 (v : Int), .int .i64 0]) ∧ w = W') := HX
      have HR2 : Hid (sgnRes (T.signed s.data.toList) = .tuple #[.int .i32 (v : Int), .int .i64 0]) := HR
      clear HX HR hle hv
      go_enter Tryz.func169, Tryz.ntmps169
      go_wp2_with (first | (go_at_call 167; refine (HC2.out _).mono ?_; rintro e w' ⟨rfl, rfl⟩) | (go_at_call 172; refine (HX2.out _).mono ?_; rintro e w' ⟨rfl, rfl⟩))
      go_ret2
      exact ⟨ret_val HR2.out.symm, rfl⟩
end Go.Proofs.YtncnogndopgknaaGreatDoor
namespace Go.Proofs.YtncnogndopgknaaGreatDoor
open Go.RowKit

theorem parted_at (s : ByteArray) (k : Nat) (h : k < s.size) : T.parted (s.data.toList.drop k) = T.isGap s[k] := by rw [drop_get s k h]; rfl
theorem parted_end (s : ByteArray) (k : Nat) (h : s.size ≤ k) : T.parted (s.data.toList.drop k) = true := by rw [List.drop_eq_nil_of_le (by rw [size_list]; exact h)]; rfl

def QwPost (W : World) (k : Nat) (l : List UInt8) (e : Ending) (W' : World) : Prop :=
  Below W.heap.size W W' ∧ match T.unq (l.drop (k + 1)) with
  | .inl x => e = brk (k + 1 + x)
  | .inr (b, n) => e = if T.parted (l.drop (k + 1 + n)) then .returned (.tuple #[.string ⟨b.toArray⟩, .int .i64 ((k + 1 + n : Nat) : Int)]) else brk (k + 1 + n)

set_option maxHeartbeats 1000000 in
theorem quotedWord_any (W : World) (s : ByteArray) (k : Nat) (hs : s.size ≤ 1000000000) (hk : k < s.size) :
    Calls Tryz.prog 113 #[.string s, .int .i64 (k : Int)] W fun e W' => QwPost W k s.data.toList e W' := by
  have HU := unquoted_any W s k hs hk
  have hle := T.unq_le (s.data.toList.drop (k + 1))
  rw [List.length_drop, size_list] at hle
  have b2 : (s.size : Int) ≤ 1000000000 := by omega
  have HP : Hid (∀ e W', QwPost W k s.data.toList e W' = (Below W.heap.size W W' ∧ match T.unq (s.data.toList.drop (k + 1)) with
    | .inl x => e = brk (k + 1 + x)
    | .inr (b, n) => e = if T.parted (s.data.toList.drop (k + 1 + n)) then .returned (.tuple #[.string ⟨b.toArray⟩, .int .i64 ((k + 1 + n : Nat) : Int)]) else brk (k + 1 + n))) := fun _ _ => rfl
  cases hq : T.unq (s.data.toList.drop (k + 1)) with
  | inl x =>
    rw [hq] at HU hle
    have HP2 : Hid (∀ W', Below W.heap.size W W' → QwPost W k s.data.toList (brk (k + 1 + x)) W') := hid (fun W' h => by rw [HP.out, hq]; exact ⟨h, rfl⟩)
    clear HP hq
    have HU2 : Hid (Calls Tryz.prog 141 #[.string s, .int .i64 (k : Int)] W fun e W' => e = .panicked [{ v := .iface 231 (.int .i64 ((k + 1 + x : Nat) : Int)), recovered := false }] ∧ Below W.heap.size W W') := HU
    clear HU
    go_enter Tryz.func113, Tryz.ntmps113
    go_wp2_with fail
    refine HU2.out.mono ?_
    rintro e w1 ⟨rfl, hb⟩
    go_wp2_with fail
    exact ⟨rfl, HP2.out _ hb⟩
  | inr y =>
    obtain ⟨b, n⟩ := y
    rw [hq] at HU hle
    obtain ⟨hle1, hle2⟩ := hle
    have HU2 : Hid (Calls Tryz.prog 141 #[.string s, .int .i64 (k : Int)] W fun e W' => ∃ v, e = .returned (.tuple #[v, .int .i64 ((k + 1 + n : Nat) : Int)]) ∧ HB W W' v b) := HU
    clear HU
    have HP2 : Hid (∀ e W', Below W.heap.size W W' → (e = if T.parted (s.data.toList.drop (k + 1 + n)) then .returned (.tuple #[.string ⟨b.toArray⟩, .int .i64 ((k + 1 + n : Nat) : Int)]) else brk (k + 1 + n)) → QwPost W k s.data.toList e W') := hid (fun e W' h h2 => by rw [HP.out, hq]; exact ⟨h, h2⟩)
    clear HP hq
    generalize hm : k + 1 + n = m at *
    have hm1 : m ≤ s.size := by omega
    have c1 : (m : Int) ≤ (s.size : Int) := by omega
    clear hm hle1 hle2
    by_cases hlt : m < s.size
    · have c2 : (m : Int) < (s.size : Int) := by omega
      have HG := gap_any s[m]
      have hpt := parted_at s m hlt
      cases hg : T.isGap s[m] with
      | true =>
        rw [hg] at HG hpt
        have HF : Hid (∀ W', Below W.heap.size W W' → QwPost W k s.data.toList (.returned (.tuple #[.string ⟨b.toArray⟩, .int .i64 (m : Int)])) W') := hid (fun W' h => HP2.out _ W' h (by rw [hpt]; rfl))
        clear HP2 hpt hg
        go_enter Tryz.func113, Tryz.ntmps113
        go_wp2_with fail
        refine HU2.out.mono ?_
        rintro e w1 ⟨v, rfl, F⟩
        obtain ⟨ao, cc, rfl, hcv⟩ := F.conv
        go_wp2_with fail
        refine (HG _).mono ?_
        rintro e w' ⟨rfl, rfl⟩
        go_wp2_with fail
        go_ret2
        exact HF.out _ F.below
      | false =>
        rw [hg] at HG hpt
        have HF : Hid (∀ W', Below W.heap.size W W' → QwPost W k s.data.toList (.panicked [{ v := .iface 231 (.int .i64 (m : Int)), recovered := false }]) W') := hid (fun W' h => HP2.out _ W' h (by rw [hpt]; rfl))
        clear HP2 hpt hg
        go_enter Tryz.func113, Tryz.ntmps113
        go_wp2_with fail
        refine HU2.out.mono ?_
        rintro e w1 ⟨v, rfl, F⟩
        go_wp2_with fail
        refine (HG _).mono ?_
        rintro e w' ⟨rfl, rfl⟩
        go_wp2_with fail
        exact ⟨rfl, HF.out _ F.below⟩
    · have c2 : (s.size : Int) ≤ (m : Int) := by omega
      have hpt := parted_end s m (by omega)
      have HF : Hid (∀ W', Below W.heap.size W W' → QwPost W k s.data.toList (.returned (.tuple #[.string ⟨b.toArray⟩, .int .i64 (m : Int)])) W') := hid (fun W' h => HP2.out _ W' h (by rw [hpt]; rfl))
      clear HP2 hpt
      go_enter Tryz.func113, Tryz.ntmps113
      go_wp2_with fail
      refine HU2.out.mono ?_
      rintro e w1 ⟨v, rfl, F⟩
      obtain ⟨ao, cc, rfl, hcv⟩ := F.conv
      go_wp2_with fail
      go_ret2
      exact HF.out _ F.below

theorem extract_eq (s : ByteArray) (k p : Nat) : s.extract k p = ⟨((s.data.toList.drop k).take (p - k)).toArray⟩ := by
  have : (s.extract k p).data = ((s.data.toList.drop k).take (p - k)).toArray := by
    rw [ByteArray.data_extract]
    apply Array.toList_inj.1
    simp
  cases h : s.extract k p with
  | mk d => rw [h] at this; simp at this; rw [this]
theorem clone_any (w : World) (s : ByteArray) (hs : s.size ≤ 1000000000) : Calls Tryz.prog 59 #[.string s] w fun e w' => e = .returned (.string s) ∧ Below w.heap.size w w' := by
  have H : Hid (Calls Tryz.prog 81 #[.string s] w fun e w' => e = .returned (.string s) ∧ Below w.heap.size w w') := Tryz.stringslite_Clone s w (by omega)
  go_enter Tryz.func59, Tryz.ntmps59
  go_wp2_with (first | (go_at_call 81; refine H.out.mono ?_; rintro e w' ⟨rfl, hb⟩))
  go_ret
  exact ⟨rfl, hb⟩
theorem ret_pw {a b : ByteArray} {m n : Int} (h1 : a = b) (h2 : m = n) : Ending.returned (.tuple #[.string a, .int .i64 m]) = .returned (.tuple #[.string b, .int .i64 n]) := by rw [h1, h2]
set_option maxHeartbeats 1000000 in
theorem plainWord_any (W : World) (s : ByteArray) (k : Nat) (hs : s.size ≤ 1000000000) (hk : k < s.size) :
    Calls Tryz.prog 114 #[.string s, .int .i64 (k : Int)] W fun e W' => e = .returned (.tuple #[.string ⟨((s.data.toList.drop k).take (T.plainN (s.data.toList.drop k))).toArray⟩, .int .i64 ((k + T.plainN (s.data.toList.drop k) : Nat) : Int)]) ∧ Below W.heap.size W W' := by
  have b1 : (k : Int) < (s.size : Int) := by omega
  have b2 : (s.size : Int) ≤ 1000000000 := by omega
  have hex : ∀ p, (s.extract k p).size ≤ 1000000000 := fun p => by rw [extract_eq]; show (List.toArray _).size ≤ _; simp; have : s.data.size = s.size := rfl; omega
  go_enter Tryz.func114, Tryz.ntmps114
  go_wp2_with fail
  go_loopw [5] (fun i wr => ∃ p : Nat, k ≤ p ∧ p ≤ s.size ∧ i = .int .i64 p ∧ Hid (T.plainN (s.data.toList.drop k) = p - k + T.plainN (s.data.toList.drop p)) ∧ W = wr) (fun i _ => s.size - (intOf i).toNat)
  case atStart => exact ⟨k, Nat.le_refl _, by omega, rfl, hid (by omega), rfl⟩
  case round =>
    obtain ⟨p, hp1, hp2, rfl, R, rfl⟩ := hrel
    have c1 : (p : Int) ≤ (s.size : Int) := by omega
    have c2 : (k : Int) ≤ (p : Int) := by omega
    by_cases hlt : p < s.size
    · have c3 : (p : Int) < (s.size : Int) := by omega
      have HG := gap_any s[p]
      cases hg : T.isGap s[p] with
      | true =>
        have HF : Hid (T.plainN (s.data.toList.drop k) = p - k) := hid (by
          rw [R.out, drop_get s p hlt]
          simp [T.plainN, hg])
        rw [hg] at HG
        clear R hg
        go_wp2_with fail
        refine (HG _).mono ?_
        rintro e w' ⟨rfl, rfl⟩
        go_wp2_with fail
        refine (clone_any _ _ (hex p)).mono ?_
        rintro e w1 ⟨rfl, hb⟩
        go_wp2_with fail
        go_ret2
        exact ⟨ret_pw (by rw [extract_eq, HF.out]) (by rw [HF.out]; omega), hb⟩
      | false =>
        have HF : Hid (T.plainN (s.data.toList.drop k) = p + 1 - k + T.plainN (s.data.toList.drop (p + 1))) := hid (by
          rw [R.out, drop_get s p hlt, T.plainN_pos _ hg]
          omega)
        rw [hg] at HG
        clear R hg
        go_wp2_with fail
        refine (HG _).mono ?_
        rintro e w' ⟨rfl, rfl⟩
        go_wp2_with fail
        go_roundw
        case rel => exact ⟨p + 1, by omega, by omega, by go_num, HF, trivial⟩
        case measure => simp [intOf]; omega
    · obtain rfl : p = s.size := by omega
      have HF : Hid (T.plainN (s.data.toList.drop k) = s.size - k) := hid (by
        rw [R.out, List.drop_eq_nil_of_le (by rw [size_list]; exact Nat.le_refl _)]
        simp [T.plainN])
      clear R
      go_wp2_with fail
      refine (clone_any _ _ (hex _)).mono ?_
      rintro e w1 ⟨rfl, hb⟩
      go_wp2_with fail
      go_ret2
      exact ⟨ret_pw (by rw [extract_eq, HF.out]) (by rw [HF.out]; omega), hb⟩
end Go.Proofs.YtncnogndopgknaaGreatDoor
