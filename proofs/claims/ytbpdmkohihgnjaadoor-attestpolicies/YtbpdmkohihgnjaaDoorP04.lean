import Derived.Test.YtbpdmkohihgnjaaDoorP03
import Derived.Lib.Strings
namespace Go.Proofs.YtbpdmkohihgnjaaDoor.V
set_option maxRecDepth 100000
open Go.RowKit

theorem pv_congr (l l' : List Int) (a a' : Nat) : ∀ k, (∀ j, j < k → l.getD (a + j) 0 = l'.getD (a' + j) 0) → pv l a k = pv l' a' k
  | 0, _ => rfl
  | k + 1, h => by
    rw [pv, pv, pv_congr l l' a a' k (fun j hj => h j (by omega)), h k (by omega)]
theorem strL_extract (s : ByteArray) (a b j : Nat) (hb : b ≤ s.size) (hj : a + j < b) : (strL (s.extract a b)).getD j 0 = (strL s).getD (a + j) 0 := by
  rw [strL_at _ j (by rw [ByteArray.size_extract]; omega), strL_at s (a + j) (by omega)]
  rw [ByteArray.getElem_extract]
theorem pv_extract (s : ByteArray) (a : Nat) (h : a + 8 ≤ s.size) : pv (strL (s.extract a (a + 8))) 0 8 = pv (strL s) a 8 :=
  pv_congr _ _ _ _ 8 (fun j hj => by rw [Nat.zero_add]; exact strL_extract s a (a + 8) j h (by omega))

def hexWs (l : List Int) (n : Nat) : List Int := (List.range n).map fun i => (pv l (8 * i) 8).getD 0
theorem hexWs_length (l : List Int) (n : Nat) : (hexWs l n).length = n := by simp [hexWs]
theorem hexWs_at (l : List Int) (n i : Nat) (hi : i < n) : (hexWs l n).getD i 0 = (pv l (8 * i) 8).getD 0 := by simp [hexWs, List.getD_eq_getElem?_getD, hi]

theorem parseAll_long (W : World) (s : ByteArray) (h : 2097152 < s.size) (h2 : s.size ≤ 281474976710656) :
    Calls Tryd.prog 109 #[.string s] W fun e W' => e = .returned (.tuple #[.slice none 0 0, .int .i64 2]) ∧ W = W' := by
  go_enter Tryd.func109, Tryd.ntmps109
  go_wp2
  go_ret2
  exact ⟨rfl, rfl⟩
theorem parseAll_part (W : World) (s : ByteArray) (h : s.size ≤ 2097152) (h8 : s.size % 8 ≠ 0) :
    Calls Tryd.prog 109 #[.string s] W fun e W' => e = .returned (.tuple #[.slice none 0 0, .int .i64 10]) ∧ W = W' := by
  have h' : ((s.size : Int) % 8 != 0) = true := by simp; omega
  go_enter Tryd.func109, Tryd.ntmps109
  go_wp2
  go_ret2
  exact ⟨rfl, rfl⟩
set_option maxHeartbeats 800000 in
theorem parseAll_any (W : World) (s : ByteArray) (n : Nat) (hs : s.size = 8 * n) (hn : 8 * n ≤ 2097152) :
    Calls Tryd.prog 109 #[.string s] W fun e W' =>
      ((∀ i, i < n → pv (strL s) (8 * i) 8 ≠ none) ∧ e = .returned (.tuple #[.slice (some ⟨W.heap.size, 0, none⟩) n n, .int .i64 0]) ∧ Owned W W' .u32 22 n (hexWs (strL s) n)) ∨
      ((∃ i, i < n ∧ pv (strL s) (8 * i) 8 = none) ∧ e = .returned (.tuple #[.slice none 0 0, .int .i64 10]) ∧ Below W.heap.size W W') := by
  obtain ⟨i0, hi, hz0, hz1, hz2⟩ := info_parts Tryd.info22
  have h4 : ((s.size : Int) % 8 != 0) = false := by simp; omega
  have h5 : (s.size : Int) / 8 = (n : Int) := by omega
  have hN : s.size ≤ 2097152 := by omega
  have HSZ : Hid (s.size = 8 * n) := hs
  clear hs
  have hLL := hexWs_length (strL s) n
  go_enter Tryd.func109, Tryd.ntmps109
  go_wp2_with (first | (at_make; refine wpList_make_full _ rfl _ _ 25 rfl W.heap.size 22 i0 (.int .u32 0) 1 Tryd.underlying25 hi hz0 hz1 .i64 .i64 _ _ n rfl rfl (by omega) (by omega) ?c1 ?c2 (Nat.le_refl _) ?_))
  case c1 => rw [hz2]; omega
  case c2 => unfold maxLen; omega
  intro w' hown hg
  have F0 := Filled.start hLL hown hg
  clear hown hg hi hz0 hz1 hz2
  go_wp2
  go_loopw [21] (fun i wr => ∃ k : Nat, k ≤ n ∧ i = .int .i64 k ∧ Filled W wr .u32 22 n (hexWs (strL s) n) k ∧ ∀ j, j < k → pv (strL s) (8 * j) 8 ≠ none) (fun i _ => n - (intOf i).toNat)
  case atStart => exact ⟨0, Nat.zero_le _, rfl, F0, fun j hj => by omega⟩
  case round =>
    obtain ⟨i, hin, rfl, F, hall⟩ := hrel
    have HA : Hid (∀ j, j < i → pv (strL s) (8 * j) 8 ≠ none) := hall
    clear hall
    by_cases hlt : i < n
    · have hsz : (s.extract (8 * i) (8 * (i + 1))).size = 8 := by rw [ByteArray.size_extract]; have := HSZ.out; omega
      have HX : pv (strL (s.extract (8 * i) (8 * (i + 1)))) 0 8 = pv (strL s) (8 * i) 8 := by have := HSZ.out; exact pv_extract s (8 * i) (by omega)
      have P := fun w => parseHex_eight w (s.extract (8 * i) (8 * (i + 1))) hsz
      rw [HX] at P
      have hcell := F.cell i hlt
      have hfree := F.free i
      have hle : 8 * i + 8 ≤ s.size := by have := HSZ.out; omega
      have HW := hexWs_at (strL s) n i hlt
      cases hp : pv (strL s) (8 * i) 8 with
      | some x =>
        rw [hp] at P HW
        have HS : Hid (Filled W (wr.setCell ⟨W.heap.size, i, none⟩ (.int .u32 x)) .u32 22 n (hexWs (strL s) n) (i + 1)) := F.step hlt HW.symm
        have HA' : Hid (∀ j, j < i + 1 → pv (strL s) (8 * j) 8 ≠ none) := fun j hj => by
          by_cases e : j = i
          · subst e; rw [hp]; exact fun h => by cases h
          · exact HA.out j (by omega)
        clear HW F HX hp HA
        have P' : Hid (∀ w, Calls Tryd.prog 124 #[.string (s.extract (8 * i) (8 * (i + 1)))] w fun e W' => e = .returned (.tuple #[.int .u32 x, .int .i64 0]) ∧ w = W') := P
        clear P
        go_wp2_with (first | (go_at_call 124; refine (P'.out _).mono ?_; rintro e w' ⟨rfl, rfl⟩))
        go_roundw
        case rel => exact ⟨i + 1, by omega, by go_num, HS.out, HA'.out⟩
        case measure => simp [intOf]; omega
      | none =>
        rw [hp] at P
        have HN : Hid (∃ i, i < n ∧ pv (strL s) (8 * i) 8 = none) := ⟨i, hlt, hp⟩
        have HB : Hid (Below W.heap.size W wr) := F.below
        clear HW F HX hp HA
        have P' : Hid (∀ w, Calls Tryd.prog 124 #[.string (s.extract (8 * i) (8 * (i + 1)))] w fun e W' => e = .returned (.tuple #[.int .u32 0, .int .i64 10]) ∧ w = W') := P
        clear P
        go_wp2_with (first | (go_at_call 124; refine (P'.out _).mono ?_; rintro e w' ⟨rfl, rfl⟩))
        go_ret2
        exact Or.inr ⟨HN.out, rfl, HB.out⟩
    · obtain rfl : i = n := by omega
      have HB : Hid (Owned W wr .u32 22 i (hexWs (strL s) i)) := F.owned
      clear F
      go_wp2
      go_ret2
      exact Or.inl ⟨HA.out, rfl, HB.out⟩
end Go.Proofs.YtbpdmkohihgnjaaDoor.V
namespace Go.Proofs.YtbpdmkohihgnjaaDoor.V
set_option maxRecDepth 100000
open Go.RowKit

theorem pv_of_hex (l : List Int) (a : Nat) (x : Int) (x0 : 0 ≤ x) (x1 : x < 4294967296) (h : ∀ j, j < 8 → l.getD (a + j) 0 = dig (M.Fld x (28 - 4 * j) 4)) : pv l a 8 = some x := by
  have f : ∀ j, 0 ≤ M.Fld x (28 - 4 * j) 4 ∧ M.Fld x (28 - 4 * j) 4 < 16 := fun j => by
    have := M.fld_bounds x (28 - 4 * j) 4 (by decide)
    rw [show (2 : Int) ^ 4 = 16 from rfl] at this
    omega
  have g : ∀ j, j < 8 → dv (l.getD (a + j) 0) = M.Fld x (28 - 4 * j) 4 := fun j hj => by rw [h j hj, dv_dig _ (f j).1 (f j).2]
  have hd : ∀ j, j < 8 → 0 ≤ dv (l.getD (a + j) 0) := fun j hj => by rw [g j hj]; exact (f j).1
  have s1 := pv_step (l := l) (a := a) (k := 0) (n := 0) rfl (hd 0 (by decide))
  have s2 := pv_step (k := 1) s1 (hd 1 (by decide))
  have s3 := pv_step (k := 2) s2 (hd 2 (by decide))
  have s4 := pv_step (k := 3) s3 (hd 3 (by decide))
  have s5 := pv_step (k := 4) s4 (hd 4 (by decide))
  have s6 := pv_step (k := 5) s5 (hd 5 (by decide))
  have s7 := pv_step (k := 6) s6 (hd 6 (by decide))
  have s8 := pv_step (k := 7) s7 (hd 7 (by decide))
  rw [s8, g 0 (by decide), g 1 (by decide), g 2 (by decide), g 3 (by decide), g 4 (by decide), g 5 (by decide), g 6 (by decide), g 7 (by decide)]
  simp only [M.Fld]
  congr 1
  omega
theorem strL_strOfNums (l : List Int) (h : Bts l) : strL (strOfNums l) = l := by
  unfold strOfNums strL
  rw [List.map_map]
  apply List.ext_getElem
  · simp
  · intro i h1 h2
    have := h i
    have e : l.getD i 0 = l[i] := by simp [List.getD_eq_getElem?_getD, h2]
    rw [e] at this
    simp only [List.getElem_map, Function.comp]
    rw [UInt8.toNat_ofNat']
    omega
theorem dig_byte (d : Int) (h0 : 0 ≤ d) (h1 : d < 16) : 0 ≤ dig d ∧ dig d < 256 := by unfold dig; split <;> omega
theorem hexD_bts (xs : List Int) : Bts (hexD xs) := by
  intro t
  by_cases h : t < 8 * xs.length
  · have := hexD_at xs (t / 8) (t % 8) (by omega) (by omega)
    rw [show 8 * (t / 8) + t % 8 = t by omega] at this
    rw [this]
    have := M.fld_bounds (xs.getD (t / 8) 0) (28 - 4 * (t % 8)) 4 (by decide)
    rw [show (2 : Int) ^ 4 = 16 from rfl] at this
    exact dig_byte _ this.1 this.2.1
  · have := hexD_length xs
    simp [List.getD_eq_getElem?_getD, List.getElem?_eq_none (show (hexD xs).length ≤ t by omega)]
theorem pv_hexD (xs : List Int) (wx : Wds xs) (i : Nat) (hi : i < xs.length) : pv (hexD xs) (8 * i) 8 = some (xs.getD i 0) :=
  pv_of_hex _ _ _ (wx i).1 (wx i).2 (fun j hj => hexD_at xs i j hi hj)
theorem hexWs_hexD (xs : List Int) (wx : Wds xs) : hexWs (hexD xs) xs.length = xs := by
  apply List.ext_getElem
  · simp [hexWs]
  · intro i h1 h2
    simp only [hexWs, List.getElem_map, List.getElem_range]
    rw [pv_hexD xs wx i h2]
    simp [List.getD_eq_getElem?_getD, h2]
end Go.Proofs.YtbpdmkohihgnjaaDoor.V
