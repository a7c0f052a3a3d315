import Derived.Test.YtbpdmkohihgnjaaDoorVParse
import Derived.Lib.Strings
namespace Go.Proofs.YtbpdmkohihgnjaaDoor.V
set_option maxRecDepth 100000
open Go.RowKit

theorem pv_congr (l l' : List Int) (a a' : Nat) : ∀ k, (∀ j, j < k → l.getD (a + j) 0 = l'.getD (a' + j) 0) → pv l a k = pv l' a' k
  | 0, _ => rfl
  | k + 1, h => by
    rw [pv, pv, pv_congr l l' a a' k (fun j hj => h j (by omega)), h k (by omega)]
theorem strL_extract (s : ByteArray) (a b j : Nat) (hb : b ≤ s.size) (hj : a + j < b) : (strL (s.extract a b)).getD j 0 = (strL s).getD (a + j) 0 := by
  rw [strL_at _ j (by rw [ByteArray.size_extract]; omega), strL_at s (a + j) (by omega)]
  rw [ByteArray.getElem_extract]
theorem pv_extract (s : ByteArray) (a : Nat) (h : a + 8 ≤ s.size) : pv (strL (s.extract a (a + 8))) 0 8 = pv (strL s) a 8 :=
  pv_congr _ _ _ _ 8 (fun j hj => by rw [Nat.zero_add]; exact strL_extract s a (a + 8) j h (by omega))

/-- The words of the digits, 0 where they are none. -/
def hexWs (l : List Int) (n : Nat) : List Int := (List.range n).map fun i => (pv l (8 * i) 8).getD 0
theorem hexWs_length (l : List Int) (n : Nat) : (hexWs l n).length = n := by simp [hexWs]
theorem hexWs_at (l : List Int) (n i : Nat) (hi : i < n) : (hexWs l n).getD i 0 = (pv l (8 * i) 8).getD 0 := by simp [hexWs, List.getD_eq_getElem?_getD, hi]

theorem parseAll_long (W : World) (s : ByteArray) (h : 2097152 < s.size) (h2 : s.size ≤ 281474976710656) :
    Calls Tryd.prog 109 #[.string s] W fun e W' => e = .returned (.tuple #[.slice none 0 0, .int .i64 2]) ∧ W = W' := by
  go_enter Tryd.func109, Tryd.ntmps109
  go_wp2
  go_ret2
  exact ⟨rfl, rfl⟩
theorem parseAll_part (W : World) (s : ByteArray) (h : s.size ≤ 2097152) (h8 : s.size % 8 ≠ 0) :
    Calls Tryd.prog 109 #[.string s] W fun e W' => e = .returned (.tuple #[.slice none 0 0, .int .i64 10]) ∧ W = W' := by
  have h' : ((s.size : Int) % 8 != 0) = true := by simp; omega
  go_enter Tryd.func109, Tryd.ntmps109
  go_wp2
  go_ret2
  exact ⟨rfl, rfl⟩
set_option maxHeartbeats 800000 in
theorem parseAll_any (W : World) (s : ByteArray) (n : Nat) (hs : s.size = 8 * n) (hn : 8 * n ≤ 2097152) :
    Calls Tryd.prog 109 #[.string s] W fun e W' =>
      ((∀ i, i < n → pv (strL s) (8 * i) 8 ≠ none) ∧ e = .returned (.tuple #[.slice (some ⟨W.heap.size, 0, none⟩) n n, .int .i64 0]) ∧ Owned W W' .u32 22 n (hexWs (strL s) n)) ∨
      ((∃ i, i < n ∧ pv (strL s) (8 * i) 8 = none) ∧ e = .returned (.tuple #[.slice none 0 0, .int .i64 10]) ∧ Below W.heap.size W W') := by
  obtain ⟨i0, hi, hz0, hz1, hz2⟩ := info_parts Tryd.info22
  have h4 : ((s.size : Int) % 8 != 0) = false := by simp; omega
  have h5 : (s.size : Int) / 8 = (n : Int) := by omega
  have hN : s.size ≤ 2097152 := by omega
  have HSZ : Hid (s.size = 8 * n) := hs
  clear hs
  have hLL := hexWs_length (strL s) n
  go_enter Tryd.func109, Tryd.ntmps109
  go_wp2_with (first | (at_make; refine wpList_make_full _ rfl _ _ 25 rfl W.heap.size 22 i0 (.int .u32 0) 1 Tryd.underlying25 hi hz0 hz1 .i64 .i64 _ _ n rfl rfl (by omega) (by omega) ?c1 ?c2 (Nat.le_refl _) ?_))
  case c1 => rw [hz2]; omega
  case c2 => unfold maxLen; omega
  intro w' hown hg
  have F0 := Filled.start hLL hown hg
  clear hown hg hi hz0 hz1 hz2
  go_wp2
  go_loopw [21] (fun i wr => ∃ k : Nat, k ≤ n ∧ i = .int .i64 k ∧ Filled W wr .u32 22 n (hexWs (strL s) n) k ∧ ∀ j, j < k → pv (strL s) (8 * j) 8 ≠ none) (fun i _ => n - (intOf i).toNat)
  case atStart => exact ⟨0, Nat.zero_le _, rfl, F0, fun j hj => by omega⟩
  case round =>
    obtain ⟨i, hin, rfl, F, hall⟩ := hrel
    have HA : Hid (∀ j, j < i → pv (strL s) (8 * j) 8 ≠ none) := hall
    clear hall
    by_cases hlt : i < n
    · have hsz : (s.extract (8 * i) (8 * (i + 1))).size = 8 := by rw [ByteArray.size_extract]; have := HSZ.out; omega
      have HX : pv (strL (s.extract (8 * i) (8 * (i + 1)))) 0 8 = pv (strL s) (8 * i) 8 := by have := HSZ.out; exact pv_extract s (8 * i) (by omega)
      have P := fun w => parseHex_eight w (s.extract (8 * i) (8 * (i + 1))) hsz
      rw [HX] at P
      have hcell := F.cell i hlt
      have hfree := F.free i
      have hle : 8 * i + 8 ≤ s.size := by have := HSZ.out; omega
      have HW := hexWs_at (strL s) n i hlt
      cases hp : pv (strL s) (8 * i) 8 with
      | some x =>
        rw [hp] at P HW
        have HS : Hid (Filled W (wr.setCell ⟨W.heap.size, i, none⟩ (.int .u32 x)) .u32 22 n (hexWs (strL s) n) (i + 1)) := F.step hlt HW.symm
        have HA' : Hid (∀ j, j < i + 1 → pv (strL s) (8 * j) 8 ≠ none) := fun j hj => by
          by_cases e : j = i
          · subst e; rw [hp]; exact fun h => by cases h
          · exact HA.out j (by omega)
        clear HW F HX hp HA
        have P' : Hid (∀ w, Calls Tryd.prog 124 #[.string (s.extract (8 * i) (8 * (i + 1)))] w fun e W' => e = .returned (.tuple #[.int .u32 x, .int .i64 0]) ∧ w = W') := P
        clear P
        go_wp2_with (first | (go_at_call 124; refine (P'.out _).mono ?_; rintro e w' ⟨rfl, rfl⟩))
        go_roundw
        case rel => exact ⟨i + 1, by omega, by go_num, HS.out, HA'.out⟩
        case measure => simp [intOf]; omega
      | none =>
        rw [hp] at P
        have HN : Hid (∃ i, i < n ∧ pv (strL s) (8 * i) 8 = none) := ⟨i, hlt, hp⟩
        have HB : Hid (Below W.heap.size W wr) := F.below
        clear HW F HX hp HA
        have P' : Hid (∀ w, Calls Tryd.prog 124 #[.string (s.extract (8 * i) (8 * (i + 1)))] w fun e W' => e = .returned (.tuple #[.int .u32 0, .int .i64 10]) ∧ w = W') := P
        clear P
        go_wp2_with (first | (go_at_call 124; refine (P'.out _).mono ?_; rintro e w' ⟨rfl, rfl⟩))
        go_ret2
        exact Or.inr ⟨HN.out, rfl, HB.out⟩
    · obtain rfl : i = n := by omega
      have HB : Hid (Owned W wr .u32 22 i (hexWs (strL s) i)) := F.owned
      clear F
      go_wp2
      go_ret2
      exact Or.inl ⟨HA.out, rfl, HB.out⟩
end Go.Proofs.YtbpdmkohihgnjaaDoor.V
