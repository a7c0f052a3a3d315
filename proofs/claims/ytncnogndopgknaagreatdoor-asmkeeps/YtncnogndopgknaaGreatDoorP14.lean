import Derived.Test.YtncnogndopgknaaGreatDoorP11
import Derived.Test.YtncnogndopgknaaGreatDoorP12
import Derived.Test.YtncnogndopgknaaGreatDoorP13
namespace Go.Proofs.YtncnogndopgknaaGreatDoor
open Go.RowKit
def bk (e l c : Int) : Value := .iface 113 (.agg #[.int .i64 e, .int .i64 l, .int .i64 c])
theorem faultAt_any (W : World) (e l c : Int) : Calls Tryz.prog 38 #[.int .i64 e, .int .i64 l, .int .i64 c] W fun x w' => x = .returned (bk e l c) ∧ W = w' := by
  go_enter Tryz.func38, Tryz.ntmps38
  go_wp2
  go_ret
  exact ⟨rfl, rfl⟩
theorem below1 (W : World) (o : Obj) : Below W.heap.size W (W.alloc o) := (Below.refl _ _).alloc (Nat.le_refl _) _
theorem isDef_any (W : World) (w : T.Wd) (hs : w.text.length ≤ 1000000000) : Calls Tryz.prog 61 #[.agg #[.string ⟨w.text.toArray⟩, .bool w.quoted, .int .i64 (w.col : Int)]] W fun x w' => x = .returned (.bool (S.isDef w)) ∧ Below W.heap.size W w' := by
  obtain ⟨t, q, c⟩ := w
  have H85 : Hid (∀ x, Calls Tryz.prog 85 #[.string ⟨t.toArray⟩, .string ⟨#[58]⟩] x fun e w' => e = .returned (.bool (Lib.hasSuffix t [58])) ∧ w' = x) := hid (fun x => by
    have := Tryz.strings_HasSuffix ⟨t.toArray⟩ ⟨#[58]⟩ x (by simp [ByteArray.size] at hs ⊢; omega)
    simpa using this)
  cases q with
  | true =>
    go_enter Tryz.func61, Tryz.ntmps61
    go_wp2_with fail
    go_ret
    exact ⟨rfl, below1 _ _⟩
  | false =>
    go_enter Tryz.func61, Tryz.ntmps61
    go_wp2_with (go_at_call 85; refine (H85.out _).mono ?_; rintro e w' ⟨rfl, rfl⟩)
    go_ret
    exact ⟨rfl, below1 _ _⟩
theorem mayBe_label (W : World) (l : Nat) (L : Int) (hL : L = (l : Int)) : Calls Tryz.prog 143 #[.int .u8 L] W fun x w' => x = .returned (.bool (decide (l = 111 ∨ l = 120))) ∧ W = w' := by
  subst hL
  by_cases h1 : l = 111
  · subst h1
    go_enter Tryz.func143, Tryz.ntmps143
    go_wp2
    go_ret
    exact ⟨rfl, rfl⟩
  · by_cases h2 : l = 120
    · subst h2
      go_enter Tryz.func143, Tryz.ntmps143
      go_wp2
      go_ret
      exact ⟨rfl, rfl⟩
    · have e1 : ((l : Int) == 111) = false := by simp; omega
      have e2 : ((l : Int) == 120) = false := by simp; omega
      have HR : Hid (false = decide (l = 111 ∨ l = 120)) := hid (by simp [h1, h2])
      clear h1 h2
      go_enter Tryz.func143, Tryz.ntmps143
      go_wp2_with fail
      go_ret
      exact ⟨ret_bool HR.out, rfl⟩
def NumPost (o : Option Nat) (x : Ending) : Prop := ∃ n : Int, x = .returned (.tuple #[.int .u32 n, .bool o.isSome]) ∧ ∀ v, o = some v → n = (v : Int)
theorem ret_nb {n : Int} {a b : Bool} (h : a = b) : Ending.returned (.tuple #[.int .u32 n, .bool a]) = .returned (.tuple #[.int .u32 n, .bool b]) := by rw [h]
theorem upTo_any (W : World) (s : List UInt8) (hs : s.length ≤ 1000000000) (m : Nat) (M : Int) (hM : M = (m : Int)) : Calls Tryz.prog 161 #[.string ⟨s.toArray⟩, .int .u32 M] W fun x w' => NumPost (S.upTo s m) x ∧ W = w' := by
  subst hM
  have HN := hid (number_any W ⟨s.toArray⟩ (by simpa [ByteArray.size] using hs))
  have e0 : (⟨s.toArray⟩ : ByteArray).data.toList = s := rfl
  rw [e0] at HN
  unfold S.upTo
  cases hn : T.number s with
  | none =>
    rw [hn] at HN
    simp only [numRes] at HN
    clear hn
    go_enter Tryz.func161, Tryz.ntmps161
    go_wp2_with (go_at_call 168; refine HN.out.mono ?_; rintro e w' ⟨rfl, rfl⟩)
    go_ret2
    exact ⟨⟨_, rfl, fun v h => by cases h⟩, rfl⟩
  | some n =>
    rw [hn] at HN
    simp only [numRes] at HN
    clear hn
    by_cases hle : n ≤ m
    · have c1 : (n : Int) ≤ (m : Int) := by omega
      simp only [if_pos hle]
      clear hle
      go_enter Tryz.func161, Tryz.ntmps161
      go_wp2_with (go_at_call 168; refine HN.out.mono ?_; rintro e w' ⟨rfl, rfl⟩)
      go_ret2
      exact ⟨⟨n, ret_nb (by simp <;> omega), fun v h => by injection h; omega⟩, rfl⟩
    · simp only [if_neg hle]
      have c1 : (m : Int) < (n : Int) := by omega
      clear hle
      go_enter Tryz.func161, Tryz.ntmps161
      go_wp2_with (go_at_call 168; refine HN.out.mono ?_; rintro e w' ⟨rfl, rfl⟩)
      go_ret2
      exact ⟨⟨n, ret_nb (by simp <;> omega), fun v h => by cases h⟩, rfl⟩
theorem between_any (W : World) (s : List UInt8) (hs : s.length ≤ 1000000000) (lo hi : Int) (_ : -2147483648 ≤ lo) (_ : hi ≤ 2147483647) : Calls Tryz.prog 162 #[.string ⟨s.toArray⟩, .int .i32 lo, .int .i32 hi] W fun x w' => NumPost (S.between s lo hi) x ∧ W = w' := by
  have HN := hid (signed_any W ⟨s.toArray⟩ (by simpa [ByteArray.size] using hs))
  have e0 : (⟨s.toArray⟩ : ByteArray).data.toList = s := rfl
  rw [e0] at HN
  unfold S.between
  cases hn : T.signed s with
  | none =>
    rw [hn] at HN
    simp only [sgnRes] at HN
    clear hn
    go_enter Tryz.func162, Tryz.ntmps162
    go_wp2_with (go_at_call 169; refine HN.out.mono ?_; rintro e w' ⟨rfl, rfl⟩)
    go_ret2
    exact ⟨⟨_, rfl, fun v h => by cases h⟩, rfl⟩
  | some v =>
    rw [hn] at HN
    simp only [sgnRes] at HN
    clear hn
    have HU : Hid (S.u32 v = (v % 4294967296).toNat) := hid rfl
    by_cases hlo : lo ≤ v
    · by_cases hhi : v ≤ hi
      · simp only [if_pos (show lo ≤ v ∧ v ≤ hi from ⟨hlo, hhi⟩)]
        go_enter Tryz.func162, Tryz.ntmps162
        go_wp2_with (go_at_call 169; refine HN.out.mono ?_; rintro e w' ⟨rfl, rfl⟩)
        go_ret2
        exact ⟨⟨_, ret_nb (by simp <;> omega), fun u h => by injection h with h; rw [HU.out] at h; omega⟩, rfl⟩
      · simp only [if_neg (fun h : lo ≤ v ∧ v ≤ hi => hhi h.2)]
        have c1 : hi < v := by omega
        clear hhi
        go_enter Tryz.func162, Tryz.ntmps162
        go_wp2_with (go_at_call 169; refine HN.out.mono ?_; rintro e w' ⟨rfl, rfl⟩)
        go_ret2
        exact ⟨⟨_, ret_nb (by simp <;> omega), fun u h => by cases h⟩, rfl⟩
    · simp only [if_neg (fun h : lo ≤ v ∧ v ≤ hi => hlo h.1)]
      have c1 : v < lo := by omega
      clear hlo
      go_enter Tryz.func162, Tryz.ntmps162
      go_wp2_with (go_at_call 169; refine HN.out.mono ?_; rintro e w' ⟨rfl, rfl⟩)
      go_ret2
      exact ⟨⟨_, ret_nb (by simp), fun u h => by cases h⟩, rfl⟩
theorem register_any (W : World) (s : List UInt8) (hs : s.length ≤ 1000000000) : Calls Tryz.prog 159 #[.string ⟨s.toArray⟩] W fun x w' => NumPost (S.register s) x ∧ W = w' := by
  have HC := hid (Tryz.strings_CutPrefix ⟨s.toArray⟩ ⟨#[114]⟩ W)
  have e0 : (⟨s.toArray⟩ : ByteArray).data.toList = s := rfl
  have e1 : (⟨#[114]⟩ : ByteArray).data.toList = [114] := rfl
  rw [e0, e1] at HC
  cases hp : Lib.hasPrefix s [114] with
  | true =>
    have hp' : ([114] : List UInt8).isPrefixOf s = true := hp
    have HR : Hid (S.register s = S.between (s.drop 1) 0 14) := hid (by unfold S.register; rw [if_pos hp'])
    rw [HR.out]
    rw [hp, show Lib.trimPrefix s [114] = s.drop 1 by simp [Lib.trimPrefix, hp]] at HC
    have HB := hid (between_any W (s.drop 1) (by simp; omega) 0 14 (by decide) (by decide))
    generalize S.between (s.drop 1) 0 14 = r at *
    generalize s.drop 1 = t at *
    clear hp hp'
    go_enter Tryz.func159, Tryz.ntmps159
    go_wp2_with (first | (go_at_call 167; refine HC.out.mono ?_; rintro e w' ⟨rfl, rfl⟩) | (go_at_call 162; refine HB.out.mono ?_; rintro e w' ⟨⟨n, rfl, hn⟩, rfl⟩))
    go_ret2
    exact ⟨⟨n, rfl, hn⟩, rfl⟩
  | false =>
    have hp' : ¬ ([114] : List UInt8).isPrefixOf s = true := by rw [show ([114] : List UInt8).isPrefixOf s = false from hp]; decide
    have HR : Hid (S.register s = none) := hid (by unfold S.register; rw [if_neg hp'])
    rw [HR.out]
    rw [hp, show Lib.trimPrefix s [114] = s by simp [Lib.trimPrefix, hp]] at HC
    have HB := hid (between_any W s hs 0 14 (by decide) (by decide))
    generalize S.between s 0 14 = r at *
    clear hp hp'
    go_enter Tryz.func159, Tryz.ntmps159
    go_wp2_with (first | (go_at_call 167; refine HC.out.mono ?_; rintro e w' ⟨rfl, rfl⟩) | (go_at_call 162; refine HB.out.mono ?_; rintro e w' ⟨⟨n, rfl, hn⟩, rfl⟩))
    go_ret2
    exact ⟨⟨n, rfl, fun v h => by cases h⟩, rfl⟩
end Go.Proofs.YtncnogndopgknaaGreatDoor
