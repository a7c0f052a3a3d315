import Derived.Test.YtbpdmkohihgnjaaDoorVHexVHeadVBytesVWords
import Derived.Lib.Strings
namespace Go.Proofs.YtbpdmkohihgnjaaDoor.V
set_option maxRecDepth 100000
open Go.RowKit

/-- A hex digit's worth; -1: it is none. -/
def dv (c : Int) : Int := if 48 ≤ c ∧ c ≤ 57 then c - 48 else if 97 ≤ c ∧ c ≤ 102 then c - 87 else -1
theorem dv_bounds (c : Int) : -1 ≤ dv c ∧ dv c < 16 := by unfold dv; split <;> (try split) <;> omega
theorem dv_dig (d : Int) (h0 : 0 ≤ d) (h1 : d < 16) : dv (dig d) = d := by unfold dv dig; split <;> (repeat (first | rw [if_pos (by omega)] | rw [if_neg (by omega)])) <;> omega
theorem dig_dv (c : Int) (h : 0 ≤ dv c) : dig (dv c) = c := by
  unfold dv at h ⊢
  split at h
  · rw [if_pos ‹_›]; unfold dig; rw [if_pos (by omega)]; omega
  · rw [if_neg ‹_›]
    split at h
    · rw [if_pos ‹_›]; unfold dig; rw [if_neg (by omega)]; omega
    · omega

theorem ret_int_bool {k : IntKind} {a b : Int} {x : Bool} (h : a = b) : Ending.returned (.tuple #[.int k a, .bool x]) = .returned (.tuple #[.int k b, .bool x]) := by rw [h]
theorem ret_two {k k' : IntKind} {a b : Int} {x : Int} (h : a = b) : Ending.returned (.tuple #[.int k a, .int k' x]) = .returned (.tuple #[.int k b, .int k' x]) := by rw [h]
theorem digit_yes (W : World) (c : Int) (c0 : 0 ≤ c) (c1 : c < 256) (h : 0 ≤ dv c) :
    Calls Tryd.prog 132 #[.int .u8 c] W fun e W' => e = .returned (.tuple #[.int .u32 (dv c), .bool true]) ∧ W = W' := by
  unfold dv at *
  split at h
  · rename_i hc
    obtain ⟨h1, h2⟩ := hc
    rw [if_pos ⟨h1, h2⟩]
    clear h
    go_enter Tryd.func132, Tryd.ntmps132
    go_wp2
    go_ret2
    exact ⟨rfl, rfl⟩
  · split at h
    · rename_i hn hc
      obtain ⟨h1, h2⟩ := hc
      rw [if_neg hn, if_pos ⟨h1, h2⟩]
      have h3 : 57 < c := by omega
      clear h hn
      go_enter Tryd.func132, Tryd.ntmps132
      go_wp2
      go_ret2
      exact ⟨ret_int_bool (by omega), rfl⟩
    · omega
theorem digit_no (W : World) (c : Int) (h : dv c < 0) :
    Calls Tryd.prog 132 #[.int .u8 c] W fun e W' => e = .returned (.tuple #[.int .u32 0, .bool false]) ∧ W = W' := by
  have h' : c < 48 ∨ (57 < c ∧ c < 97) ∨ 102 < c := by
    unfold dv at h
    split at h
    · omega
    · split at h <;> omega
  clear h
  rcases h' with h | ⟨h1, h2⟩ | h
  all_goals
    go_enter Tryd.func132, Tryd.ntmps132
    go_wp2
    go_ret2
    exact ⟨rfl, rfl⟩

/-- A text's bytes as numbers. -/
def strL (s : ByteArray) : List Int := s.data.toList.map fun c => (c.toNat : Int)
theorem strL_length (s : ByteArray) : (strL s).length = s.size := by
  show (s.data.toList.map _).length = s.data.size
  rw [List.length_map, Array.length_toList]
theorem strL_at (s : ByteArray) (k : Nat) (h : k < s.size) : (strL s).getD k 0 = (s[k].toNat : Int) := by
  simp only [strL, List.getD_eq_getElem?_getD, List.getElem?_map]
  rw [List.getElem?_eq_getElem (show k < s.data.toList.length by rw [Array.length_toList]; exact h)]
  rfl
/-- The number of the first k hex digits from place a on. -/
def pv (l : List Int) (a : Nat) : Nat → Option Int
  | 0 => some 0
  | k + 1 => match pv l a k with
    | some n => if dv (l.getD (a + k) 0) < 0 then none else some (n * 16 + dv (l.getD (a + k) 0))
    | none => none
theorem pv_bound (l : List Int) (a : Nat) : ∀ (k : Nat) (n : Int), pv l a k = some n → 0 ≤ n ∧ n < 16 ^ k := by
  intro k
  induction k with
  | zero => intro n h; simp [pv] at h; subst h; decide
  | succ k ih =>
    intro n h
    unfold pv at h
    split at h
    · rename_i m hm
      have h1 := ih m hm
      have h2 := dv_bounds (l.getD (a + k) 0)
      split at h
      · cases h
      · have h3 := Option.some.inj h
        rw [Int.pow_succ]
        omega
    · cases h
theorem pv_none (l : List Int) (a k : Nat) (h : pv l a k = none) : ∀ j, pv l a (k + j) = none
  | 0 => h
  | j + 1 => by
    rw [← Nat.add_assoc, pv, pv_none l a k h j]
theorem pv_step {l : List Int} {a k : Nat} {n : Int} (h : pv l a k = some n) (hd : 0 ≤ dv (l.getD (a + k) 0)) : pv l a (k + 1) = some (n * 16 + dv (l.getD (a + k) 0)) := by
  rw [pv, h]
  exact if_neg (by omega)
theorem pv_stop {l : List Int} {a k : Nat} {n : Int} (h : pv l a k = some n) (hd : dv (l.getD (a + k) 0) < 0) : pv l a (k + 1) = none := by
  rw [pv, h]
  exact if_pos hd
theorem or_digit (x b : Int) (x0 : 0 ≤ x) (x1 : x < 268435456) (b0 : 0 ≤ b) (b1 : b < 16) : bits .or .u32 (x * 16) b = x * 16 + b := by
  rw [u32_or _ _ (by omega) (by omega) b0 (by omega), nat_join 4 _ _ (by omega) (by omega)]
  omega

theorem parseHex_size (W : World) (s : ByteArray) (h : s.size ≠ 8) :
    Calls Tryd.prog 124 #[.string s] W fun e W' => e = .returned (.tuple #[.int .u32 0, .int .i64 10]) ∧ W = W' := by
  have h' : ((s.size : Int) != 8) = true := by simp; omega
  go_enter Tryd.func124, Tryd.ntmps124
  go_wp2
  go_ret2
  exact ⟨rfl, rfl⟩
def pvAns : Option Int → Ending
  | some n => .returned (.tuple #[.int .u32 n, .int .i64 0])
  | none => .returned (.tuple #[.int .u32 0, .int .i64 10])
set_option maxHeartbeats 400000 in
theorem parseHex_eight (W : World) (s : ByteArray) (h : s.size = 8) :
    Calls Tryd.prog 124 #[.string s] W fun e W' => e = pvAns (pv (strL s) 0 8) ∧ W = W' := by
  have h' : ((s.size : Int) != 8) = false := by simp; omega
  have H : Hid (s.size = 8) := h
  have HL : Hid (∀ k (hk : k < s.size), (strL s).getD (0 + k) 0 = (s[k].toNat : Int)) := fun k hk => by rw [Nat.zero_add]; exact strL_at s k hk
  have hs : 8 ≤ s.size := by omega
  clear h
  generalize strL s = l at *
  go_enter Tryd.func124, Tryd.ntmps124
  go_wp2
  go_loop [4, 11] (fun x i => ∃ (k : Nat) (n : Int), k ≤ 8 ∧ i = .int .i64 k ∧ x = .int .u32 n ∧ pv l 0 k = some n) (fun _ i => 8 - (intOf i).toNat)
  case atStart => exact ⟨0, 0, by decide, rfl, rfl, rfl⟩
  case round =>
    obtain ⟨k, n, hk, rfl, rfl, hp⟩ := hrel
    have HP : Hid (pv l 0 k = some n) := hp
    obtain ⟨n0, n1⟩ := pv_bound l 0 k n hp
    clear hp
    by_cases hlt : k < 8
    · have n2 : n < 268435456 := by
        have : (16 : Int) ^ k ≤ 16 ^ 7 := by
          have := Nat.pow_le_pow_right (n := 16) (by decide) (show k ≤ 7 by omega)
          have e : ∀ j : Nat, ((16 ^ j : Nat) : Int) = 16 ^ j := fun j => by push_cast; rfl
          have e1 := e k
          have e2 := e 7
          omega
        have e : (16 : Int) ^ 7 = 268435456 := by decide
        omega
      clear n1
      have hl := HL.out k (by omega)
      have hks : k < s.size := by omega
      have c1 : s[k].toNat < 256 := s[k].toNat_lt
      by_cases hd : 0 ≤ dv (l.getD (0 + k) 0)
      · have HS := pv_step HP.out hd
        rw [hl] at hd HS
        have db := dv_bounds (s[k].toNat : Int)
        have HO := or_digit n _ n0 n2 hd db.2
        have HS' : Hid (pv l 0 (k + 1) = some (bits .or .u32 (n * 16) (dv (s[k].toNat : Int)))) := by rw [HO]; exact HS
        clear HS HO hl db
        go_wp2_with (first | (go_at_call 132; refine (digit_yes _ _ (by omega) (by omega) hd).mono ?_; rintro e w' ⟨rfl, rfl⟩))
        go_round
        case rel => exact ⟨k + 1, _, by omega, by go_num, rfl, HS'.out⟩
        case measure => simp [intOf]; omega
      · have hd' : dv (l.getD (0 + k) 0) < 0 := by omega
        have HS := pv_stop HP.out hd'
        have HN : Hid (pv l 0 8 = none) := by
          have := pv_none l 0 (k + 1) HS (7 - k)
          rwa [show k + 1 + (7 - k) = 8 by omega] at this
        rw [hl] at hd'
        clear HS hl hd
        go_wp2_with (first | (go_at_call 132; refine (digit_no _ _ hd').mono ?_; rintro e w' ⟨rfl, rfl⟩))
        go_ret2
        exact ⟨by rw [HN.out]; rfl, rfl⟩
    · obtain rfl : k = 8 := by omega
      go_wp2
      go_ret2
      exact ⟨by rw [HP.out]; rfl, rfl⟩
end Go.Proofs.YtbpdmkohihgnjaaDoor.V
namespace Go.Proofs.YtbpdmkohihgnjaaDoor.V
set_option maxRecDepth 100000
open Go.RowKit

theorem pv_congr (l l' : List Int) (a a' : Nat) : ∀ k, (∀ j, j < k → l.getD (a + j) 0 = l'.getD (a' + j) 0) → pv l a k = pv l' a' k
  | 0, _ => rfl
  | k + 1, h => by
    rw [pv, pv, pv_congr l l' a a' k (fun j hj => h j (by omega)), h k (by omega)]
theorem strL_extract (s : ByteArray) (a b j : Nat) (hb : b ≤ s.size) (hj : a + j < b) : (strL (s.extract a b)).getD j 0 = (strL s).getD (a + j) 0 := by
  rw [strL_at _ j (by rw [ByteArray.size_extract]; omega), strL_at s (a + j) (by omega)]
  rw [ByteArray.getElem_extract]
theorem pv_extract (s : ByteArray) (a : Nat) (h : a + 8 ≤ s.size) : pv (strL (s.extract a (a + 8))) 0 8 = pv (strL s) a 8 :=
  pv_congr _ _ _ _ 8 (fun j hj => by rw [Nat.zero_add]; exact strL_extract s a (a + 8) j h (by omega))

/-- The words of the digits, 0 where they are none. -/
def hexWs (l : List Int) (n : Nat) : List Int := (List.range n).map fun i => (pv l (8 * i) 8).getD 0
theorem hexWs_length (l : List Int) (n : Nat) : (hexWs l n).length = n := by simp [hexWs]
theorem hexWs_at (l : List Int) (n i : Nat) (hi : i < n) : (hexWs l n).getD i 0 = (pv l (8 * i) 8).getD 0 := by simp [hexWs, List.getD_eq_getElem?_getD, hi]

theorem parseAll_long (W : World) (s : ByteArray) (h : 2097152 < s.size) (h2 : s.size ≤ 281474976710656) :
    Calls Tryd.prog 109 #[.string s] W fun e W' => e = .returned (.tuple #[.slice none 0 0, .int .i64 2]) ∧ W = W' := by
  go_enter Tryd.func109, Tryd.ntmps109
  go_wp2
  go_ret2
  exact ⟨rfl, rfl⟩
theorem parseAll_part (W : World) (s : ByteArray) (h : s.size ≤ 2097152) (h8 : s.size % 8 ≠ 0) :
    Calls Tryd.prog 109 #[.string s] W fun e W' => e = .returned (.tuple #[.slice none 0 0, .int .i64 10]) ∧ W = W' := by
  have h' : ((s.size : Int) % 8 != 0) = true := by simp; omega
  go_enter Tryd.func109, Tryd.ntmps109
  go_wp2
  go_ret2
  exact ⟨rfl, rfl⟩
set_option maxHeartbeats 800000 in
theorem parseAll_any (W : World) (s : ByteArray) (n : Nat) (hs : s.size = 8 * n) (hn : 8 * n ≤ 2097152) :
    Calls Tryd.prog 109 #[.string s] W fun e W' =>
      ((∀ i, i < n → pv (strL s) (8 * i) 8 ≠ none) ∧ e = .returned (.tuple #[.slice (some ⟨W.heap.size, 0, none⟩) n n, .int .i64 0]) ∧ Owned W W' .u32 22 n (hexWs (strL s) n)) ∨
      ((∃ i, i < n ∧ pv (strL s) (8 * i) 8 = none) ∧ e = .returned (.tuple #[.slice none 0 0, .int .i64 10]) ∧ Below W.heap.size W W') := by
  obtain ⟨i0, hi, hz0, hz1, hz2⟩ := info_parts Tryd.info22
  have h4 : ((s.size : Int) % 8 != 0) = false := by simp; omega
  have h5 : (s.size : Int) / 8 = (n : Int) := by omega
  have hN : s.size ≤ 2097152 := by omega
  have HSZ : Hid (s.size = 8 * n) := hs
  clear hs
  have hLL := hexWs_length (strL s) n
  go_enter Tryd.func109, Tryd.ntmps109
  go_wp2_with (first | (at_make; refine wpList_make_full _ rfl _ _ 25 rfl W.heap.size 22 i0 (.int .u32 0) 1 Tryd.underlying25 hi hz0 hz1 .i64 .i64 _ _ n rfl rfl (by omega) (by omega) ?c1 ?c2 (Nat.le_refl _) ?_))
  case c1 => rw [hz2]; omega
  case c2 => unfold maxLen; omega
  intro w' hown hg
  have F0 := Filled.start hLL hown hg
  clear hown hg hi hz0 hz1 hz2
  go_wp2
  go_loopw [21] (fun i wr => ∃ k : Nat, k ≤ n ∧ i = .int .i64 k ∧ Filled W wr .u32 22 n (hexWs (strL s) n) k ∧ ∀ j, j < k → pv (strL s) (8 * j) 8 ≠ none) (fun i _ => n - (intOf i).toNat)
  case atStart => exact ⟨0, Nat.zero_le _, rfl, F0, fun j hj => by omega⟩
  case round =>
    obtain ⟨i, hin, rfl, F, hall⟩ := hrel
    have HA : Hid (∀ j, j < i → pv (strL s) (8 * j) 8 ≠ none) := hall
    clear hall
    by_cases hlt : i < n
    · have hsz : (s.extract (8 * i) (8 * (i + 1))).size = 8 := by rw [ByteArray.size_extract]; have := HSZ.out; omega
      have HX : pv (strL (s.extract (8 * i) (8 * (i + 1)))) 0 8 = pv (strL s) (8 * i) 8 := by have := HSZ.out; exact pv_extract s (8 * i) (by omega)
      have P := fun w => parseHex_eight w (s.extract (8 * i) (8 * (i + 1))) hsz
      rw [HX] at P
      have hcell := F.cell i hlt
      have hfree := F.free i
      have hle : 8 * i + 8 ≤ s.size := by have := HSZ.out; omega
      have HW := hexWs_at (strL s) n i hlt
      cases hp : pv (strL s) (8 * i) 8 with
      | some x =>
        rw [hp] at P HW
        have HS : Hid (Filled W (wr.setCell ⟨W.heap.size, i, none⟩ (.int .u32 x)) .u32 22 n (hexWs (strL s) n) (i + 1)) := F.step hlt HW.symm
        have HA' : Hid (∀ j, j < i + 1 → pv (strL s) (8 * j) 8 ≠ none) := fun j hj => by
          by_cases e : j = i
          · subst e; rw [hp]; exact fun h => by cases h
          · exact HA.out j (by omega)
        clear HW F HX hp HA
        have P' : Hid (∀ w, Calls Tryd.prog 124 #[.string (s.extract (8 * i) (8 * (i + 1)))] w fun e W' => e = .returned (.tuple #[.int .u32 x, .int .i64 0]) ∧ w = W') := P
        clear P
        go_wp2_with (first | (go_at_call 124; refine (P'.out _).mono ?_; rintro e w' ⟨rfl, rfl⟩))
        go_roundw
        case rel => exact ⟨i + 1, by omega, by go_num, HS.out, HA'.out⟩
        case measure => simp [intOf]; omega
      | none =>
        rw [hp] at P
        have HN : Hid (∃ i, i < n ∧ pv (strL s) (8 * i) 8 = none) := ⟨i, hlt, hp⟩
        have HB : Hid (Below W.heap.size W wr) := F.below
        clear HW F HX hp HA
        have P' : Hid (∀ w, Calls Tryd.prog 124 #[.string (s.extract (8 * i) (8 * (i + 1)))] w fun e W' => e = .returned (.tuple #[.int .u32 0, .int .i64 10]) ∧ w = W') := P
        clear P
        go_wp2_with (first | (go_at_call 124; refine (P'.out _).mono ?_; rintro e w' ⟨rfl, rfl⟩))
        go_ret2
        exact Or.inr ⟨HN.out, rfl, HB.out⟩
    · obtain rfl : i = n := by omega
      have HB : Hid (Owned W wr .u32 22 i (hexWs (strL s) i)) := F.owned
      clear F
      go_wp2
      go_ret2
      exact Or.inl ⟨HA.out, rfl, HB.out⟩
end Go.Proofs.YtbpdmkohihgnjaaDoor.V
namespace Go.Proofs.YtbpdmkohihgnjaaDoor.V
set_option maxRecDepth 100000
open Go.RowKit

theorem pv_some_digits (l : List Int) (a : Nat) : ∀ (k : Nat) (n : Int), pv l a k = some n → ∀ j, j < k → 0 ≤ dv (l.getD (a + j) 0) := by
  intro k
  induction k with
  | zero => intro n _ j hj; omega
  | succ k ih =>
    intro n h j hj
    unfold pv at h
    split at h
    · rename_i m hm
      split at h
      · cases h
      · by_cases e : j = k
        · subst e; omega
        · exact ih m hm j (by omega)
    · cases h
theorem pv_eight (l : List Int) (a : Nat) (n : Int) (h : pv l a 8 = some n) : let d := fun j => dv (l.getD (a + j) 0)
    n = ((((((d 0 * 16 + d 1) * 16 + d 2) * 16 + d 3) * 16 + d 4) * 16 + d 5) * 16 + d 6) * 16 + d 7 := by
  intro d
  have hd := pv_some_digits l a 8 n h
  have s1 := pv_step (l := l) (a := a) (k := 0) (n := 0) rfl (hd 0 (by decide))
  have s2 := pv_step (k := 1) s1 (hd 1 (by decide))
  have s3 := pv_step (k := 2) s2 (hd 2 (by decide))
  have s4 := pv_step (k := 3) s3 (hd 3 (by decide))
  have s5 := pv_step (k := 4) s4 (hd 4 (by decide))
  have s6 := pv_step (k := 5) s5 (hd 5 (by decide))
  have s7 := pv_step (k := 6) s6 (hd 6 (by decide))
  have s8 := pv_step (k := 7) s7 (hd 7 (by decide))
  have := Option.some.inj (h.symm.trans s8)
  rw [this]
  show _ = ((((((d 0 * 16 + d 1) * 16 + d 2) * 16 + d 3) * 16 + d 4) * 16 + d 5) * 16 + d 6) * 16 + d 7
  simp only [d]
  omega
/-- What is read prints as it was. -/
theorem hex_of_pv (l : List Int) (a : Nat) (n : Int) (h : pv l a 8 = some n) (j : Nat) (hj : j < 8) : (hexW n).getD j 0 = l.getD (a + j) 0 := by
  have hd := pv_some_digits l a 8 n h
  have e := pv_eight l a n h
  have b : ∀ j, dv (l.getD (a + j) 0) < 16 := fun j => (dv_bounds _).2
  have h0 := hd 0 (by decide); have b0 := b 0
  have h1 := hd 1 (by decide); have b1 := b 1
  have h2 := hd 2 (by decide); have b2 := b 2
  have h3 := hd 3 (by decide); have b3 := b 3
  have h4 := hd 4 (by decide); have b4 := b 4
  have h5 := hd 5 (by decide); have b5 := b 5
  have h6 := hd 6 (by decide); have b6 := b 6
  have h7 := hd 7 (by decide); have b7 := b 7
  have key : ∀ j, j < 8 → M.Fld n (28 - 4 * j) 4 = dv (l.getD (a + j) 0) := by
    intro j hj
    simp only at e
    match j, hj with
    | 0, _ | 1, _ | 2, _ | 3, _ | 4, _ | 5, _ | 6, _ | 7, _ => simp only [M.Fld]; omega
  have hw : (hexW n).getD j 0 = dig (M.Fld n (28 - 4 * j) 4) := by
    match j, hj with
    | 0, _ | 1, _ | 2, _ | 3, _ | 4, _ | 5, _ | 6, _ | 7, _ => rfl
  rw [hw, key j hj]
  exact dig_dv _ (hd j hj)
/-- What is printed reads as it was. -/
theorem pv_of_hex (l : List Int) (a : Nat) (x : Int) (x0 : 0 ≤ x) (x1 : x < 4294967296) (h : ∀ j, j < 8 → l.getD (a + j) 0 = dig (M.Fld x (28 - 4 * j) 4)) : pv l a 8 = some x := by
  have f : ∀ j, 0 ≤ M.Fld x (28 - 4 * j) 4 ∧ M.Fld x (28 - 4 * j) 4 < 16 := fun j => by
    have := M.fld_bounds x (28 - 4 * j) 4 (by decide)
    rw [show (2 : Int) ^ 4 = 16 from rfl] at this
    omega
  have g : ∀ j, j < 8 → dv (l.getD (a + j) 0) = M.Fld x (28 - 4 * j) 4 := fun j hj => by rw [h j hj, dv_dig _ (f j).1 (f j).2]
  have hd : ∀ j, j < 8 → 0 ≤ dv (l.getD (a + j) 0) := fun j hj => by rw [g j hj]; exact (f j).1
  have s1 := pv_step (l := l) (a := a) (k := 0) (n := 0) rfl (hd 0 (by decide))
  have s2 := pv_step (k := 1) s1 (hd 1 (by decide))
  have s3 := pv_step (k := 2) s2 (hd 2 (by decide))
  have s4 := pv_step (k := 3) s3 (hd 3 (by decide))
  have s5 := pv_step (k := 4) s4 (hd 4 (by decide))
  have s6 := pv_step (k := 5) s5 (hd 5 (by decide))
  have s7 := pv_step (k := 6) s6 (hd 6 (by decide))
  have s8 := pv_step (k := 7) s7 (hd 7 (by decide))
  rw [s8, g 0 (by decide), g 1 (by decide), g 2 (by decide), g 3 (by decide), g 4 (by decide), g 5 (by decide), g 6 (by decide), g 7 (by decide)]
  simp only [M.Fld]
  congr 1
  omega
theorem strOfNums_strL (s : ByteArray) : strOfNums (strL s) = s := by
  unfold strOfNums strL
  rw [List.map_map]
  have : ((fun n : Int => UInt8.ofNat n.toNat) ∘ fun c : UInt8 => (c.toNat : Int)) = id := by funext c; simp
  rw [this, List.map_id]
theorem strL_strOfNums (l : List Int) (h : Bts l) : strL (strOfNums l) = l := by
  unfold strOfNums strL
  rw [List.map_map]
  apply List.ext_getElem
  · simp
  · intro i h1 h2
    have := h i
    have e : l.getD i 0 = l[i] := by simp [List.getD_eq_getElem?_getD, h2]
    rw [e] at this
    simp only [List.getElem_map, Function.comp]
    rw [UInt8.toNat_ofNat']
    omega
theorem dig_byte (d : Int) (h0 : 0 ≤ d) (h1 : d < 16) : 0 ≤ dig d ∧ dig d < 256 := by unfold dig; split <;> omega
theorem hexD_bts (xs : List Int) : Bts (hexD xs) := by
  intro t
  by_cases h : t < 8 * xs.length
  · have := hexD_at xs (t / 8) (t % 8) (by omega) (by omega)
    rw [show 8 * (t / 8) + t % 8 = t by omega] at this
    rw [this]
    have := M.fld_bounds (xs.getD (t / 8) 0) (28 - 4 * (t % 8)) 4 (by decide)
    rw [show (2 : Int) ^ 4 = 16 from rfl] at this
    exact dig_byte _ this.1 this.2.1
  · have := hexD_length xs
    simp [List.getD_eq_getElem?_getD, List.getElem?_eq_none (show (hexD xs).length ≤ t by omega)]
theorem pv_hexD (xs : List Int) (wx : Wds xs) (i : Nat) (hi : i < xs.length) : pv (hexD xs) (8 * i) 8 = some (xs.getD i 0) :=
  pv_of_hex _ _ _ (wx i).1 (wx i).2 (fun j hj => hexD_at xs i j hi hj)
theorem hexWs_hexD (xs : List Int) (wx : Wds xs) : hexWs (hexD xs) xs.length = xs := by
  apply List.ext_getElem
  · simp [hexWs]
  · intro i h1 h2
    simp only [hexWs, List.getElem_map, List.getElem_range]
    rw [pv_hexD xs wx i h2]
    simp [List.getD_eq_getElem?_getD, h2]
theorem hexD_hexWs (l : List Int) (n : Nat) (hl : l.length = 8 * n) (h : ∀ i, i < n → pv l (8 * i) 8 ≠ none) : hexD (hexWs l n) = l := by
  have hlen := hexD_length (hexWs l n)
  rw [hexWs_length] at hlen
  apply List.ext_getElem
  · omega
  · intro t h1 h2
    have e1 : (hexD (hexWs l n))[t] = (hexD (hexWs l n)).getD t 0 := by simp [List.getD_eq_getElem?_getD, h1]
    have e2 : l[t] = l.getD t 0 := by simp [List.getD_eq_getElem?_getD, h2]
    rw [e1, e2]
    have a := hexD_at (hexWs l n) (t / 8) (t % 8) (by rw [hexWs_length]; omega) (by omega)
    rw [show 8 * (t / 8) + t % 8 = t by omega, hexWs_at l n (t / 8) (by omega)] at a
    rw [a]
    cases hp : pv l (8 * (t / 8)) 8 with
    | none => exact absurd hp (h _ (by omega))
    | some x =>
      have b := hex_of_pv l _ x hp (t % 8) (by omega)
      rw [show 8 * (t / 8) + t % 8 = t by omega] at b
      rw [← b]
      have hm : t % 8 < 8 := by omega
      generalize t % 8 = j at hm
      match j, hm with
      | 0, _ | 1, _ | 2, _ | 3, _ | 4, _ | 5, _ | 6, _ | 7, _ => rfl
theorem hexWs_wds (l : List Int) (n : Nat) : Wds (hexWs l n) := by
  intro i
  by_cases h : i < n
  · rw [hexWs_at l n i h]
    cases hp : pv l (8 * i) 8 with
    | none => simp
    | some x =>
      have := pv_bound l _ 8 x hp
      rw [show (16 : Int) ^ 8 = 4294967296 by decide] at this
      exact this
  · have := hexWs_length l n
    simp [List.getD_eq_getElem?_getD, List.getElem?_eq_none (show (hexWs l n).length ≤ i by omega)]
end Go.Proofs.YtbpdmkohihgnjaaDoor.V
