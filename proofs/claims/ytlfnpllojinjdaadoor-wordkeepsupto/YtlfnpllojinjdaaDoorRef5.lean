import Derived.Test.YtlfnpllojinjdaaDoorRef4
namespace Go.Proofs.YtlfnpllojinjdaaDoor
open Go.RowKit

theorem digit_const (k : Nat) (h : k < 16) (hp : k < (⟨#[48, 49, 50, 51, 52, 53, 54, 55, 56, 57, 97, 98, 99, 100, 101, 102]⟩ : ByteArray).size) : (((⟨#[48, 49, 50, 51, 52, 53, 54, 55, 56, 57, 97, 98, 99, 100, 101, 102]⟩ : ByteArray)[k]'hp).toNat : Int) = dig (k : Int) := by
  exact dig_at (k : Int) (by omega) (by omega) hp
set_option maxRecDepth 20000 in
set_option maxHeartbeats 400000 in
theorem rdigit_any (W : World) (c : Int) :
    Calls Tryd.prog 60 #[.int .u8 c] W fun e W' => e = .returned (.int .i64 (dv c)) ∧ W = W' := by
  go_enter Tryd.func60, Tryd.ntmps60
  go_wp2
  go_loop [3] (fun i => ∃ k : Nat, k ≤ 16 ∧ i = .int .i64 k ∧ ∀ j : Nat, j < k → dig (j : Int) ≠ c) (fun i => 16 - (intOf i).toNat)
  case atStart => exact ⟨0, by decide, rfl, fun j hj => by omega⟩
  case round =>
    obtain ⟨k, hk, rfl, hall⟩ := hrel
    have HA : Hid _ := hall
    clear hall
    by_cases hlt : k < 16
    · have hb := digit_const k hlt hlt
      by_cases hd : dig (k : Int) = c
      · have hd' : (dig (k : Int) == c) = true := by simp [hd]
        have HR : Hid ((k : Int) = dv c) := by show _ = _; rw [← hd, dv_dig _ (by omega) (by omega)]
        clear hd
        go_wp2
        go_ret
        exact ⟨ret_int HR.out, rfl⟩
      · have hd' : (dig (k : Int) == c) = false := by simp [hd]
        have HA' : Hid (∀ j : Nat, j < k + 1 → dig (j : Int) ≠ c) := fun j hj => by
          by_cases e : j = k
          · subst e; exact hd
          · exact HA.out j (by omega)
        clear hd HA
        go_wp2
        go_round
        case rel => exact ⟨k + 1, by omega, by go_num, HA'.out⟩
        case measure => simp [intOf]; omega
    · obtain rfl : k = 16 := by omega
      have HR : Hid (-1 = dv c) := by
        show _ = _
        have h1 := dv_bounds c
        rcases (show dv c = -1 ∨ 0 ≤ dv c by omega) with e | e
        · exact e.symm
        · exact absurd (by rw [Int.toNat_of_nonneg e]; exact dig_dv c e) (HA.out (dv c).toNat (by omega))
      go_wp2
      go_ret
      exact ⟨ret_int HR.out, rfl⟩

theorem rparseHex_size (W : World) (s : ByteArray) (h : s.size ≠ 8) :
    Calls Tryd.prog 46 #[.string s] W fun e W' => e = .returned (.tuple #[.int .u32 0, .int .i64 10]) ∧ W = W' := by
  have h' : ((s.size : Int) != 8) = true := by simp; omega
  go_enter Tryd.func46, Tryd.ntmps46
  go_wp2
  go_ret2
  exact ⟨rfl, rfl⟩
set_option maxHeartbeats 400000 in
theorem rparseHex_eight (W : World) (s : ByteArray) (h : s.size = 8) :
    Calls Tryd.prog 46 #[.string s] W fun e W' => e = pvAns (pv (strL s) 0 8) ∧ W = W' := by
  have h' : ((s.size : Int) != 8) = false := by simp; omega
  have H : Hid (s.size = 8) := h
  have HL : Hid (∀ k (hk : k < s.size), (strL s).getD (0 + k) 0 = (s[k].toNat : Int)) := fun k hk => by rw [Nat.zero_add]; exact strL_at s k hk
  have hs : 8 ≤ s.size := by omega
  clear h
  generalize strL s = l at *
  go_enter Tryd.func46, Tryd.ntmps46
  go_wp2
  go_loop [4, 5] (fun x i => ∃ (k : Nat) (n : Int), k ≤ 8 ∧ i = .int .i64 k ∧ x = .int .i64 n ∧ pv l 0 k = some n) (fun _ i => 8 - (intOf i).toNat)
  case atStart => exact ⟨0, 0, by decide, rfl, rfl, rfl⟩
  case round =>
    obtain ⟨k, n, hk, rfl, rfl, hp⟩ := hrel
    have HP : Hid (pv l 0 k = some n) := hp
    obtain ⟨n0, n1⟩ := pv_bound l 0 k n hp
    clear hp
    have n2 : n < 4294967296 := by
      have : (16 : Int) ^ k ≤ 16 ^ 8 := by
        have := Nat.pow_le_pow_right (n := 16) (by decide) (show k ≤ 8 by omega)
        have e : ∀ j : Nat, ((16 ^ j : Nat) : Int) = 16 ^ j := fun j => by push_cast; rfl
        have e1 := e k
        have e2 := e 8
        omega
      have e : (16 : Int) ^ 8 = 4294967296 := by decide
      omega
    clear n1
    by_cases hlt : k < 8
    · have hl := HL.out k (by omega)
      have hks : k < s.size := by omega
      have db := dv_bounds (s[k].toNat : Int)
      by_cases hd : 0 ≤ dv (l.getD (0 + k) 0)
      · have HS := pv_step HP.out hd
        rw [hl] at hd HS
        have HS' : Hid (∀ y, y = 16 * n + dv (s[k].toNat : Int) → pv l 0 (k + 1) = some y) := fun y hy => by rw [hy, HS]; congr 1; omega
        clear HS hl
        go_wp2_with (first | (go_at_call 60; refine (rdigit_any _ _).mono ?_; rintro e w' ⟨rfl, rfl⟩))
        go_round
        case rel => exact ⟨k + 1, _, by omega, by go_num, rfl, HS'.out _ rfl⟩
        case measure => simp [intOf]; omega
      · have hd' : dv (l.getD (0 + k) 0) < 0 := by omega
        have HS := pv_stop HP.out hd'
        have HN : Hid (pv l 0 8 = none) := by
          have := pv_none l 0 (k + 1) HS (7 - k)
          rwa [show k + 1 + (7 - k) = 8 by omega] at this
        rw [hl] at hd'
        clear HS hl hd
        go_wp2_with (first | (go_at_call 60; refine (rdigit_any _ _).mono ?_; rintro e w' ⟨rfl, rfl⟩))
        go_ret2
        exact ⟨by rw [HN.out]; rfl, rfl⟩
    · obtain rfl : k = 8 := by omega
      have HN : Hid (n % 4294967296 = n) := Int.emod_eq_of_lt n0 n2
      go_wp2
      go_ret2
      exact ⟨by rw [HP.out]; first | rfl | exact ret_two HN.out, rfl⟩

theorem strOfNums_append (xs ys : List Int) : strOfNums xs ++ strOfNums ys = strOfNums (xs ++ ys) := by
  unfold strOfNums
  rw [List.map_append]
  apply ByteArray.ext
  simp
theorem digit_slice (d : Int) (h0 : 0 ≤ d) (h1 : d < 16) : (⟨#[48, 49, 50, 51, 52, 53, 54, 55, 56, 57, 97, 98, 99, 100, 101, 102]⟩ : ByteArray).extract d.toNat (d.toNat + 1) = strOfNums [dig d] := by
  obtain ⟨m, rfl⟩ := Int.eq_ofNat_of_zero_le h0
  have hm : m < 16 := by omega
  match m, hm with
  | 0, _ | 1, _ | 2, _ | 3, _ | 4, _ | 5, _ | 6, _ | 7, _ | 8, _ | 9, _ | 10, _ | 11, _ | 12, _ | 13, _ | 14, _ | 15, _ => decide
theorem hexW_drop (w : Int) (k : Nat) (hk : k < 8) : (hexW w).drop (8 - (k + 1)) = dig (w / 2 ^ (4 * k) % 16) :: (hexW w).drop (8 - k) := by
  match k, hk with
  | 0, _ | 1, _ | 2, _ | 3, _ | 4, _ | 5, _ | 6, _ | 7, _ => rfl
theorem div16 (w : Int) (k : Nat) : w / 2 ^ (4 * k) / 16 = w / 2 ^ (4 * (k + 1)) := by
  rw [show 4 * (k + 1) = 4 * k + 4 by omega, M.div_div]; rfl
set_option maxHeartbeats 400000 in
theorem rhex_any (W : World) (w : Int) (w0 : 0 ≤ w) (w1 : w < 4294967296) :
    Calls Tryd.prog 45 #[.int .u32 w] W fun e W' => e = .returned (.string (strOfNums (hexW w))) ∧ W = W' := by
  go_enter Tryd.func45, Tryd.ntmps45
  go_wp2
  go_loop [3, 4, 5] (fun x n i => ∃ k : Nat, k ≤ 8 ∧ i = .int .i64 k ∧ n = .int .i64 (w / 2 ^ (4 * k)) ∧ x = .string (strOfNums ((hexW w).drop (8 - k)))) (fun _ _ i => 8 - (intOf i).toNat)
  case atStart => exact ⟨0, by decide, rfl, by simp, rfl⟩
  case round =>
    obtain ⟨k, hk, rfl, rfl, rfl⟩ := hrel
    by_cases hlt : k < 8
    · obtain ⟨q0, q1⟩ := M.div_bounds w (4 * k) w0 w1
      have HD : Hid _ := hexW_drop w k hlt
      have HN : Hid _ := div16 w k
      have hsz : (strOfNums ((hexW w).drop (8 - k))).size ≤ 8 := by rw [strOfNums_size]; simp [hexW]
      generalize w / 2 ^ (4 * k) = q at *
      have HX : Hid _ := digit_slice (q % 16) (by omega) (by omega)
      have HS : Hid (∀ y, y = strOfNums [dig (q % 16)] → y ++ strOfNums ((hexW w).drop (8 - k)) = strOfNums ((hexW w).drop (8 - (k + 1)))) := fun y hy => by rw [hy, strOfNums_append, HD.out]; rfl
      generalize strOfNums ((hexW w).drop (8 - k)) = t at *
      go_wp2
      go_round
      case rel => exact ⟨k + 1, by omega, by go_num, by rw [HN.out], by rw [HS.out _ (by rw [show (q % 16 + 1).toNat = (q % 16).toNat + 1 by omega]; exact HX.out)]⟩
      case measure => simp [intOf]; omega
    · obtain rfl : k = 8 := by omega
      go_wp2
      go_ret
      exact ⟨rfl, rfl⟩
end Go.Proofs.YtlfnpllojinjdaaDoor
