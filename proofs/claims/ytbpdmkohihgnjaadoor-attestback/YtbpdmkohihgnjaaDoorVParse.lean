import Derived.Test.YtbpdmkohihgnjaaDoorVWords
namespace Go.Proofs.YtbpdmkohihgnjaaDoor.V
set_option maxRecDepth 100000
open Go.RowKit

/-- A hex digit's worth; -1: it is none. -/
def dv (c : Int) : Int := if 48 ≤ c ∧ c ≤ 57 then c - 48 else if 97 ≤ c ∧ c ≤ 102 then c - 87 else -1
theorem dv_bounds (c : Int) : -1 ≤ dv c ∧ dv c < 16 := by unfold dv; split <;> (try split) <;> omega
theorem dv_dig (d : Int) (h0 : 0 ≤ d) (h1 : d < 16) : dv (dig d) = d := by unfold dv dig; split <;> (repeat (first | rw [if_pos (by omega)] | rw [if_neg (by omega)])) <;> omega
theorem dig_dv (c : Int) (h : 0 ≤ dv c) : dig (dv c) = c := by
  unfold dv at h ⊢
  split at h
  · rw [if_pos ‹_›]; unfold dig; rw [if_pos (by omega)]; omega
  · rw [if_neg ‹_›]
    split at h
    · rw [if_pos ‹_›]; unfold dig; rw [if_neg (by omega)]; omega
    · omega

theorem ret_int_bool {k : IntKind} {a b : Int} {x : Bool} (h : a = b) : Ending.returned (.tuple #[.int k a, .bool x]) = .returned (.tuple #[.int k b, .bool x]) := by rw [h]
theorem ret_two {k k' : IntKind} {a b : Int} {x : Int} (h : a = b) : Ending.returned (.tuple #[.int k a, .int k' x]) = .returned (.tuple #[.int k b, .int k' x]) := by rw [h]
theorem digit_yes (W : World) (c : Int) (c0 : 0 ≤ c) (c1 : c < 256) (h : 0 ≤ dv c) :
    Calls Tryd.prog 132 #[.int .u8 c] W fun e W' => e = .returned (.tuple #[.int .u32 (dv c), .bool true]) ∧ W = W' := by
  unfold dv at *
  split at h
  · rename_i hc
    obtain ⟨h1, h2⟩ := hc
    rw [if_pos ⟨h1, h2⟩]
    clear h
    go_enter Tryd.func132, Tryd.ntmps132
    go_wp2
    go_ret2
    exact ⟨rfl, rfl⟩
  · split at h
    · rename_i hn hc
      obtain ⟨h1, h2⟩ := hc
      rw [if_neg hn, if_pos ⟨h1, h2⟩]
      have h3 : 57 < c := by omega
      clear h hn
      go_enter Tryd.func132, Tryd.ntmps132
      go_wp2
      go_ret2
      exact ⟨ret_int_bool (by omega), rfl⟩
    · omega
theorem digit_no (W : World) (c : Int) (h : dv c < 0) :
    Calls Tryd.prog 132 #[.int .u8 c] W fun e W' => e = .returned (.tuple #[.int .u32 0, .bool false]) ∧ W = W' := by
  have h' : c < 48 ∨ (57 < c ∧ c < 97) ∨ 102 < c := by
    unfold dv at h
    split at h
    · omega
    · split at h <;> omega
  clear h
  rcases h' with h | ⟨h1, h2⟩ | h
  all_goals
    go_enter Tryd.func132, Tryd.ntmps132
    go_wp2
    go_ret2
    exact ⟨rfl, rfl⟩

/-- A text's bytes as numbers. -/
def strL (s : ByteArray) : List Int := s.data.toList.map fun c => (c.toNat : Int)
theorem strL_length (s : ByteArray) : (strL s).length = s.size := by
  show (s.data.toList.map _).length = s.data.size
  rw [List.length_map, Array.length_toList]
theorem strL_at (s : ByteArray) (k : Nat) (h : k < s.size) : (strL s).getD k 0 = (s[k].toNat : Int) := by
  simp only [strL, List.getD_eq_getElem?_getD, List.getElem?_map]
  rw [List.getElem?_eq_getElem (show k < s.data.toList.length by rw [Array.length_toList]; exact h)]
  rfl
/-- The number of the first k hex digits from place a on. -/
def pv (l : List Int) (a : Nat) : Nat → Option Int
  | 0 => some 0
  | k + 1 => match pv l a k with
    | some n => if dv (l.getD (a + k) 0) < 0 then none else some (n * 16 + dv (l.getD (a + k) 0))
    | none => none
theorem pv_bound (l : List Int) (a : Nat) : ∀ (k : Nat) (n : Int), pv l a k = some n → 0 ≤ n ∧ n < 16 ^ k := by
  intro k
  induction k with
  | zero => intro n h; simp [pv] at h; subst h; decide
  | succ k ih =>
    intro n h
    unfold pv at h
    split at h
    · rename_i m hm
      have h1 := ih m hm
      have h2 := dv_bounds (l.getD (a + k) 0)
      split at h
      · cases h
      · have h3 := Option.some.inj h
        rw [Int.pow_succ]
        omega
    · cases h
theorem pv_none (l : List Int) (a k : Nat) (h : pv l a k = none) : ∀ j, pv l a (k + j) = none
  | 0 => h
  | j + 1 => by
    rw [← Nat.add_assoc, pv, pv_none l a k h j]
theorem pv_step {l : List Int} {a k : Nat} {n : Int} (h : pv l a k = some n) (hd : 0 ≤ dv (l.getD (a + k) 0)) : pv l a (k + 1) = some (n * 16 + dv (l.getD (a + k) 0)) := by
  rw [pv, h]
  exact if_neg (by omega)
theorem pv_stop {l : List Int} {a k : Nat} {n : Int} (h : pv l a k = some n) (hd : dv (l.getD (a + k) 0) < 0) : pv l a (k + 1) = none := by
  rw [pv, h]
  exact if_pos hd
theorem or_digit (x b : Int) (x0 : 0 ≤ x) (x1 : x < 268435456) (b0 : 0 ≤ b) (b1 : b < 16) : bits .or .u32 (x * 16) b = x * 16 + b := by
  rw [u32_or _ _ (by omega) (by omega) b0 (by omega), nat_join 4 _ _ (by omega) (by omega)]
  omega

theorem parseHex_size (W : World) (s : ByteArray) (h : s.size ≠ 8) :
    Calls Tryd.prog 124 #[.string s] W fun e W' => e = .returned (.tuple #[.int .u32 0, .int .i64 10]) ∧ W = W' := by
  have h' : ((s.size : Int) != 8) = true := by simp; omega
  go_enter Tryd.func124, Tryd.ntmps124
  go_wp2
  go_ret2
  exact ⟨rfl, rfl⟩
def pvAns : Option Int → Ending
  | some n => .returned (.tuple #[.int .u32 n, .int .i64 0])
  | none => .returned (.tuple #[.int .u32 0, .int .i64 10])
set_option maxHeartbeats 400000 in
theorem parseHex_eight (W : World) (s : ByteArray) (h : s.size = 8) :
    Calls Tryd.prog 124 #[.string s] W fun e W' => e = pvAns (pv (strL s) 0 8) ∧ W = W' := by
  have h' : ((s.size : Int) != 8) = false := by simp; omega
  have H : Hid (s.size = 8) := h
  have HL : Hid (∀ k (hk : k < s.size), (strL s).getD (0 + k) 0 = (s[k].toNat : Int)) := fun k hk => by rw [Nat.zero_add]; exact strL_at s k hk
  have hs : 8 ≤ s.size := by omega
  clear h
  generalize strL s = l at *
  go_enter Tryd.func124, Tryd.ntmps124
  go_wp2
  go_loop [4, 11] (fun x i => ∃ (k : Nat) (n : Int), k ≤ 8 ∧ i = .int .i64 k ∧ x = .int .u32 n ∧ pv l 0 k = some n) (fun _ i => 8 - (intOf i).toNat)
  case atStart => exact ⟨0, 0, by decide, rfl, rfl, rfl⟩
  case round =>
    obtain ⟨k, n, hk, rfl, rfl, hp⟩ := hrel
    have HP : Hid (pv l 0 k = some n) := hp
    obtain ⟨n0, n1⟩ := pv_bound l 0 k n hp
    clear hp
    by_cases hlt : k < 8
    · have n2 : n < 268435456 := by
        have : (16 : Int) ^ k ≤ 16 ^ 7 := by
          have := Nat.pow_le_pow_right (n := 16) (by decide) (show k ≤ 7 by omega)
          have e : ∀ j : Nat, ((16 ^ j : Nat) : Int) = 16 ^ j := fun j => by push_cast; rfl
          have e1 := e k
          have e2 := e 7
          omega
        have e : (16 : Int) ^ 7 = 268435456 := by decide
        omega
      clear n1
      have hl := HL.out k (by omega)
      have hks : k < s.size := by omega
      have c1 : s[k].toNat < 256 := s[k].toNat_lt
      by_cases hd : 0 ≤ dv (l.getD (0 + k) 0)
      · have HS := pv_step HP.out hd
        rw [hl] at hd HS
        have db := dv_bounds (s[k].toNat : Int)
        have HO := or_digit n _ n0 n2 hd db.2
        have HS' : Hid (pv l 0 (k + 1) = some (bits .or .u32 (n * 16) (dv (s[k].toNat : Int)))) := by rw [HO]; exact HS
        clear HS HO hl db
        go_wp2_with (first | (go_at_call 132; refine (digit_yes _ _ (by omega) (by omega) hd).mono ?_; rintro e w' ⟨rfl, rfl⟩))
        go_round
        case rel => exact ⟨k + 1, _, by omega, by go_num, rfl, HS'.out⟩
        case measure => simp [intOf]; omega
      · have hd' : dv (l.getD (0 + k) 0) < 0 := by omega
        have HS := pv_stop HP.out hd'
        have HN : Hid (pv l 0 8 = none) := by
          have := pv_none l 0 (k + 1) HS (7 - k)
          rwa [show k + 1 + (7 - k) = 8 by omega] at this
        rw [hl] at hd'
        clear HS hl hd
        go_wp2_with (first | (go_at_call 132; refine (digit_no _ _ hd').mono ?_; rintro e w' ⟨rfl, rfl⟩))
        go_ret2
        exact ⟨by rw [HN.out]; rfl, rfl⟩
    · obtain rfl : k = 8 := by omega
      go_wp2
      go_ret2
      exact ⟨by rw [HP.out]; rfl, rfl⟩
end Go.Proofs.YtbpdmkohihgnjaaDoor.V
