import Derived.Test.YtlfnpllojinjdaaDoorRef7
namespace Go.Proofs.YtlfnpllojinjdaaDoor
open Go.RowKit

theorem hexWs_take (l : List Int) (n k : Nat) (h : k < n) : (hexWs l n).take (k + 1) = (hexWs l n).take k ++ [(pv l (8 * k) 8).getD 0] := by
  have hl := hexWs_length l n
  rw [List.take_succ_eq_append_getElem (by omega)]
  congr 2
  simp only [hexWs, List.getElem_map, List.getElem_range]
theorem rparseAll_long (W : World) (s : ByteArray) (h : 2097152 < s.size) (h2 : s.size ≤ 281474976710656) :
    Calls Tryd.prog 47 #[.string s] W fun e W' => e = .returned (.tuple #[.slice none 0 0, .int .i64 2]) ∧ W = W' := by
  go_enter Tryd.func47, Tryd.ntmps47
  go_wp2
  go_ret2
  exact ⟨rfl, rfl⟩
theorem rparseAll_part (W : World) (s : ByteArray) (h : s.size ≤ 2097152) (h8 : s.size % 8 ≠ 0) :
    Calls Tryd.prog 47 #[.string s] W fun e W' => e = .returned (.tuple #[.slice none 0 0, .int .i64 10]) ∧ W = W' := by
  have h' : ((s.size : Int) % 8 != 0) = true := by simp; omega
  go_enter Tryd.func47, Tryd.ntmps47
  go_wp2
  go_ret2
  exact ⟨rfl, rfl⟩
set_option maxRecDepth 20000 in
set_option maxHeartbeats 1000000 in
theorem rparseAll_any (W : World) (s : ByteArray) (n : Nat) (hs : s.size = 8 * n) (hn : 8 * n ≤ 2097152) :
    Calls Tryd.prog 47 #[.string s] W fun e W' =>
      ((∀ i, i < n → pv (strL s) (8 * i) 8 ≠ none) ∧ ∃ v, e = .returned (.tuple #[v, .int .i64 0]) ∧ Holds W W' .u32 22 v (hexWs (strL s) n)) ∨
      ((∃ i, i < n ∧ pv (strL s) (8 * i) 8 = none) ∧ e = .returned (.tuple #[.slice none 0 0, .int .i64 10]) ∧ Below W.heap.size W W') := by
  obtain ⟨i0, hi, hz0, hz1, hz2⟩ := info_parts Tryd.info22
  have h4 : ((s.size : Int) % 8 != 0) = false := by simp; omega
  have hN : s.size ≤ 2097152 := by omega
  have HSZ : Hid (s.size = 8 * n) := hs
  have hsN : (s.size : Int) ≤ 8 * (n : Int) := by omega
  have hsN2 : 8 * (n : Int) ≤ (s.size : Int) := by omega
  clear hs
  have hLL := hexWs_length (strL s) n
  go_enter Tryd.func47, Tryd.ntmps47
  go_wp2
  go_loopw [4, 5] (fun v i wr => ∃ k : Nat, k ≤ n ∧ i = .int .i64 ((8 * k : Nat) : Int) ∧ Holds W wr .u32 22 v ((hexWs (strL s) n).take k) ∧ ∀ j, j < k → pv (strL s) (8 * j) 8 ≠ none) (fun _ i _ => 8 * n - (intOf i).toNat)
  case atStart => exact ⟨0, Nat.zero_le _, rfl, Holds.start _ _ _, fun j hj => by omega⟩
  case round =>
    obtain ⟨i, hin, rfl, F, hall⟩ := hrel
    have HA : Hid (∀ j, j < i → pv (strL s) (8 * j) 8 ≠ none) := hall
    clear hall
    by_cases hlt : i < n
    · have hsz : (s.extract (8 * i) (8 * i + 8)).size = 8 := by rw [ByteArray.size_extract]; have := HSZ.out; omega
      have HX : pv (strL (s.extract (8 * i) (8 * i + 8))) 0 8 = pv (strL s) (8 * i) 8 := by have := HSZ.out; exact pv_extract s (8 * i) (by omega)
      have P := fun w => rparseHex_eight w (s.extract (8 * i) (8 * i + 8)) hsz
      rw [HX] at P
      have hle : 8 * i + 8 ≤ s.size := by have := HSZ.out; omega
      have HT := hexWs_take (strL s) n i hlt
      have ho := F.own
      have hbl := F.below
      have hkl : ((hexWs (strL s) n).take i).length = i := by rw [List.length_take]; omega
      have HV : Hid (∀ g, u4.ownBlock = some g → W.heap.size ≤ g) := fun g hg => (ho.lt g hg).1
      rw [hkl] at ho
      have HO : Hid (wr.ownsRow W.heap.size 22 1 u4 i (((hexWs (strL s) n).take i).map (Value.int .u32))) := ho
      clear ho F
      cases hp : pv (strL s) (8 * i) 8 with
      | some x =>
        rw [hp] at P HT
        have HT' : Hid ((hexWs (strL s) n).take (i + 1) = (hexWs (strL s) n).take i ++ [x]) := HT
        have HA' : Hid (∀ j, j < i + 1 → pv (strL s) (8 * j) 8 ≠ none) := fun j hj => by
          by_cases e : j = i
          · subst e; rw [hp]; exact fun h => by cases h
          · exact HA.out j (by omega)
        have P' : Hid (∀ w, Calls Tryd.prog 46 #[.string (s.extract (8 * i) (8 * i + 8))] w fun e W' => e = .returned (.tuple #[.int .u32 x, .int .i64 0]) ∧ w = W') := P
        clear P HX hp HA HT
        have h63 : i + 1 ≤ maxLen := by unfold maxLen; omega
        have hby : (i + 1) * 4 ≤ 140737488355328 := by omega
        have hba : W.heap.size ≤ (wr.alloc (.cells #[.int .u32 x] 22)).heap.size := by have := hbl.size; simp; omega
        go_wp2_with (first | (go_at_call 46; refine (P'.out _).mono ?_; rintro e w' ⟨rfl, rfl⟩) | (at_builtin; refine wpList_append_own _ rfl _ _ 32 rfl W.heap.size 22 i0 (.int .u32 0) 1 4 Tryd.underlying32 hi hz0 hz1 hz2 rfl (by decide) u4 i _ rfl (HO.out.alloc _) ⟨wr.heap.size, 0, none⟩ 1 1 [.int .u32 x] rfl rfl (cell_one_new _ _ _) (ints_oneCell .u32 [x]) h63 hby hba ?_))
        intro v' w1 hown1 hgrow _
        have HH : Hid (Holds W w1 .u32 22 v' ((hexWs (strL s) n).take (i + 1))) := by
          rw [HT'.out]
          exact Holds.grow (hbl.alloc hbl.size _) HV.out hown1 hgrow (by simp; omega) (by simp)
        clear hown1 hgrow HO h63 hby hba
        go_wp2
        go_roundw
        case rel => exact ⟨i + 1, by omega, by go_num, HH.out, HA'.out⟩
        case measure => simp [intOf]; omega
      | none =>
        rw [hp] at P
        have HN : Hid (∃ i, i < n ∧ pv (strL s) (8 * i) 8 = none) := ⟨i, hlt, hp⟩
        have P' : Hid (∀ w, Calls Tryd.prog 46 #[.string (s.extract (8 * i) (8 * i + 8))] w fun e W' => e = .returned (.tuple #[.int .u32 0, .int .i64 10]) ∧ w = W') := P
        have HB : Hid _ := hbl
        clear P HX hp HA HT HO HV hbl
        go_wp2_with (first | (go_at_call 46; refine (P'.out _).mono ?_; rintro e w' ⟨rfl, rfl⟩))
        go_ret2
        exact Or.inr ⟨HN.out, rfl, HB.out⟩
    · obtain rfl : i = n := by omega
      have HH : Hid (Holds W wr .u32 22 u4 (hexWs (strL s) i)) := by
        rw [List.take_of_length_le (by omega)] at F
        exact F
      clear F
      go_wp2
      go_ret2
      exact Or.inl ⟨HA.out, _, rfl, HH.out⟩

theorem numbers_any (W : World) : Calls Tryd.prog 32 #[] W fun e W' => e = .returned (.bool true) ∧ W = W' := by
  go_enter Tryd.func32, Tryd.ntmps32
  go_wp2
  go_ret
  exact ⟨rfl, rfl⟩
theorem rsame_unlike (W : World) (ao bo : Option Addr) (n m ca cb : Nat) (h : n ≠ m) :
    Calls Tryd.prog 59 #[.slice ao n ca, .slice bo m cb] W fun e W' => e = .returned (.tuple #[.bool false, .int .i64 0]) ∧ W = W' := by
  have h' : (((n : Int) != (m : Int))) = true := by simp; omega
  go_enter Tryd.func59, Tryd.ntmps59
  go_wp2
  go_ret2
  exact ⟨rfl, rfl⟩
theorem rsame_zero (W : World) (ao bo : Option Addr) (ca cb : Nat) :
    Calls Tryd.prog 59 #[.slice ao 0 ca, .slice bo 0 cb] W fun e W' => e = .returned (.tuple #[.bool true, .int .i64 0]) ∧ W = W' := by
  go_enter Tryd.func59, Tryd.ntmps59
  go_wp2
  refine wp_loop_rounds 1 ?_
  rw [rounds_succ]
  go_wp2
  go_ret2
  exact ⟨rfl, rfl⟩
theorem same_zero (W : World) (ao bo : Option Addr) (ca cb : Nat) :
    Calls Tryd.prog 13 #[.slice ao 0 ca, .slice bo 0 cb] W fun e W' => e = .returned (.tuple #[.bool true, .int .i64 0]) ∧ W = W' := by
  go_enter Tryd.func13, Tryd.ntmps13
  go_wp2
  refine wp_loop_rounds 1 ?_
  rw [rounds_succ]
  go_wp2
  go_ret2
  exact ⟨rfl, rfl⟩
set_option maxHeartbeats 400000 in
theorem rsame_like (W : World) (b1 o1 b2 o2 : Nat) (n c1 c2 : Nat) (xs ys : List Int) (hx : xs.length = n) (hy : ys.length = n) (h1 : Row W .u32 b1 o1 xs) (h2 : Row W .u32 b2 o2 ys) (hn : n ≤ 140737488351232) :
    Calls Tryd.prog 59 #[.slice (some ⟨b1, o1, none⟩) n c1, .slice (some ⟨b2, o2, none⟩) n c2] W fun e W' => e = .returned (.tuple #[.bool (decide (xs = ys)), .int .i64 n]) ∧ ∃ k, W' = W.drewN k := by
  go_enter Tryd.func59, Tryd.ntmps59
  go_wp2
  go_loopw [6, 7] (fun p i wr => ∃ k : Nat, k ≤ n ∧ i = .int .i64 k ∧ p = .bool (decide (xs.take k = ys.take k)) ∧ ∃ d, wr = W.drewN d) (fun _ i _ => n - (intOf i).toNat)
  case atStart => exact ⟨0, Nat.zero_le _, rfl, by simp, 0, rfl⟩
  case round =>
    obtain ⟨k, hk, rfl, rfl, d, rfl⟩ := hrel
    by_cases hlt : k < n
    · have g1 := h1 k (by omega)
      have g2 := h2 k (by omega)
      have HT : Hid _ := take_same xs ys n k hx hy hlt
      generalize xs.getD k 0 = x at *
      generalize ys.getD k 0 = y at *
      by_cases ha : xs.take k = ys.take k
      · have hd : decide (xs.take k = ys.take k) = true := decide_eq_true ha
        have HR : Hid ((x == y) = decide (xs.take (k + 1) = ys.take (k + 1))) := by
          show _ = _
          rw [Bool.eq_iff_iff, beq_iff_eq, decide_eq_true_eq, HT.out]
          exact ⟨fun h => ⟨ha, h⟩, fun h => h.2⟩
        clear ha HT
        rw [hd]
        clear hd
        go_wp2
        go_quiet (fail)
        go_wp2
        go_roundw
        case rel => exact ⟨k + 1, by omega, by go_num, by rw [← HR.out], _, rfl⟩
        case measure => simp [intOf]; omega
      · have hd : decide (xs.take k = ys.take k) = false := decide_eq_false ha
        have HR : Hid (false = decide (xs.take (k + 1) = ys.take (k + 1))) := by
          show _ = _
          rw [eq_comm, decide_eq_false_iff_not, HT.out]
          exact fun h => ha h.1
        clear ha HT
        rw [hd]
        clear hd
        go_wp2
        go_quiet (fail)
        go_wp2
        go_roundw
        case rel => exact ⟨k + 1, by omega, by go_num, by rw [← HR.out], _, rfl⟩
        case measure => simp [intOf]; omega
    · obtain rfl : k = n := by omega
      have HR : Hid (decide (xs.take k = ys.take k) = decide (xs = ys)) := by
        show _ = _
        rw [List.take_of_length_le (by omega), List.take_of_length_le (by omega)]
      go_wp2
      go_ret2
      exact ⟨ret_bool_int HR.out, _, rfl⟩
end Go.Proofs.YtlfnpllojinjdaaDoor
