import Derived.Test.YtlfnpllojinjdaaDoorRef6
namespace Go.Proofs.YtlfnpllojinjdaaDoor
open Go.RowKit

theorem hexD_take (xs : List Int) (k : Nat) (h : k < xs.length) : hexD (xs.take (k + 1)) = hexD (xs.take k) ++ hexW (xs.getD k 0) := by
  unfold hexD
  rw [List.take_succ_eq_append_getElem h, List.map_append, List.flatten_append]
  simp [List.getD_eq_getElem?_getD, h]
theorem hexW_bts (x : Int) : Bts (hexW x) := by
  have := hexD_bts [x]
  rwa [show hexD [x] = hexW x by simp [hexD]] at this
theorem strCells_of (L : List Int) (h : Bts L) : Lib.strCells (strOfNums L) = L.map (Value.int .u8) := by
  have e := strL_strOfNums L h
  have : Lib.strCells (strOfNums L) = (strL (strOfNums L)).map (Value.int .u8) := by
    simp [Lib.strCells, strL]
  rw [this, e]
set_option maxRecDepth 20000 in
set_option maxHeartbeats 1000000 in
theorem rhexAll_any (W : World) (ao : Option Addr) (n cap : Nat) (xs : List Int) (hx : xs.length = n) (wx : Wds xs) (h1 : At W .u32 ao xs) (hn : n ≤ 1048576) :
    Calls Tryd.prog 41 #[.slice ao n cap] W fun e W' => e = .returned (.string (strOfNums (hexD xs))) ∧ Below W.heap.size W W' := by
  obtain ⟨i0, hi, hz0, hz1, hz2⟩ := info_parts Tryd.info5
  go_enter Tryd.func41, Tryd.ntmps41
  go_wp2
  go_loopw [3, 4] (fun v i wr => ∃ k : Nat, k ≤ n ∧ i = .int .i64 k ∧ Holds W wr .u8 5 v (hexD (xs.take k))) (fun _ i _ => n - (intOf i).toNat)
  case atStart => exact ⟨0, Nat.zero_le _, rfl, Holds.start _ _ _⟩
  case round =>
    obtain ⟨k, hk, rfl, F⟩ := hrel
    by_cases hlt : k < n
    · rcases h1 with rfl | ⟨b, off, rfl, hb, h1⟩
      · simp at hx; omega
      have hc := h1.below F.below hb k (by omega)
      obtain ⟨q0, q1⟩ := wx k
      have HT : Hid _ := hexD_take xs k (by omega)
      have hlen : (hexD (xs.take k)).length = 8 * k := by rw [hexD_length, List.length_take]; omega
      generalize xs.getD k 0 = x at *
      generalize hexD (xs.take k) = L at *
      have ho := F.own
      have hbl := F.below
      have hv : ∀ g, u3.ownBlock = some g → W.heap.size ≤ g := fun g hg => (ho.lt g hg).1
      rw [hlen] at ho
      have HV : Hid _ := hv
      have hsz : (strOfNums (hexW x)).size = 8 := by rw [strOfNums_size]; rfl
      have HC : Hid _ := strCells_of (hexW x) (hexW_bts x)
      clear F hv h1 wx
      go_wp2_with (first | (go_at_call 45; refine (rhex_any _ _ q0 q1).mono ?_; rintro e w' ⟨rfl, rfl⟩) | (at_builtin; refine Lib.wpList_append_own_string _ rfl _ _ 36 9 rfl W.heap.size 5 i0 Tryd.underlying36 Tryd.underlying9 hi hz0 hz1 hz2 _ _ _ rfl ho _ rfl ?c1 ?c2 ?c3 ?_))
      case c1 => unfold maxLen; omega
      case c2 => omega
      case c3 => exact hbl.size
      intro v' w1 hown1 hgrow _
      have HH : Hid (Holds W w1 .u8 5 v' (hexD (xs.take (k + 1)))) := by
        rw [HT.out]
        rw [HC.out] at hown1
        exact Holds.grow hbl HV.out hown1 hgrow (by simp [hlen]; rfl) (by simp)
      clear hown1 hgrow ho
      go_wp2
      go_roundw
      case rel => exact ⟨k + 1, by omega, by go_num, HH.out⟩
      case measure => simp [intOf]; omega
    · obtain rfl : k = n := by omega
      rw [List.take_of_length_le (by omega)] at F
      obtain ⟨ao', cap', hv, hat⟩ := F.at
      have HB : Hid _ := F.below
      have hcv : (convert 36 9 u3).run Tryd.prog wr = .ok (.string (strOfNums (hexD xs))) wr := by
        rw [hv]
        rcases hat with h0 | ⟨b, off, rfl, _, hr⟩
        · rw [h0]
          rcases ao' with _ | a
          · exact (run_convert_bytes_nil (P := Tryd.prog) wr 36 5 Tryd.underlying36 Tryd.underlying5 0 cap' 9 Tryd.underlying9).trans rfl
          · show (convert 36 9 (.slice (some a) 0 cap')).run Tryd.prog wr = _
            rw [run_convert_bytes_string (P := Tryd.prog) wr 36 9 5 _ 0 cap' Tryd.underlying36 Tryd.underlying5 Tryd.underlying9, run_bytesToString wr a 0 cap' [] (run_loadCells_list (P := Tryd.prog) wr a [] (fun j v hj => by simp at hj))]
            rfl
        · exact run_convert_bytes_arg (P := Tryd.prog) wr 36 5 Tryd.underlying36 Tryd.underlying5 b off _ cap' (hexD xs) rfl hr 9 Tryd.underlying9
      clear F hv hat h1 wx
      go_wp2
      go_ret
      exact ⟨rfl, HB.out⟩

theorem wordAt_full (bs : List Int) (t i : Nat) (h : 4 * i + 4 ≤ t) : wordAt bs t i = wordAt bs (4 * i + 4) i := by
  simp (disch := omega) only [wordAt, if_pos]
theorem wordAt_all (bs : List Int) (hb : Bts bs) (i : Nat) : 0 ≤ wordAt bs (4 * i + 4) i ∧ wordAt bs (4 * i + 4) i < 4294967296 := by
  have h0 := hb (4 * i + 0)
  have h1 := hb (4 * i + 1)
  have h2 := hb (4 * i + 2)
  have h3 := hb (4 * i + 3)
  simp (disch := omega) only [wordAt, if_pos]
  omega
theorem wordsD_take (bs : List Int) (n k : Nat) (h : k < n) : (wordsD bs n).take (k + 1) = (wordsD bs n).take k ++ [wordAt bs (4 * k + 4) k] := by
  have hl : (wordsD bs n).length = n := partW_length _ _ _
  rw [List.take_succ_eq_append_getElem (by omega)]
  congr 2
  simp only [wordsD, partW, List.getElem_map, List.getElem_range]
  exact wordAt_full bs _ k (by omega)
theorem rwords_long (W : World) (ao : Option Addr) (N cap : Nat) (h : 1048576 < N) (hN : N ≤ 140737488351232) :
    Calls Tryd.prog 40 #[.slice ao N cap] W fun e W' => e = .returned (.tuple #[.slice none 0 0, .int .i64 2]) ∧ W = W' := by
  go_enter Tryd.func40, Tryd.ntmps40
  go_wp2
  go_ret2
  exact ⟨rfl, rfl⟩
theorem rwords_part (W : World) (ao : Option Addr) (N cap : Nat) (h : N ≤ 1048576) (h4 : N % 4 ≠ 0) :
    Calls Tryd.prog 40 #[.slice ao N cap] W fun e W' => e = .returned (.tuple #[.slice none 0 0, .int .i64 11]) ∧ W = W' := by
  have h' : ((N : Int) % 4 != 0) = true := by simp; omega
  go_enter Tryd.func40, Tryd.ntmps40
  go_wp2
  go_ret2
  exact ⟨rfl, rfl⟩
set_option maxRecDepth 20000 in
set_option maxHeartbeats 1000000 in
theorem rwords_any (W : World) (ao : Option Addr) (n cap : Nat) (bs : List Int) (hl : bs.length = 4 * n) (hbs : Bts bs) (h1 : At W .u8 ao bs) (hn : 4 * n ≤ 1048576) :
    Calls Tryd.prog 40 #[.slice ao (4 * n) cap] W fun e W' => ∃ v, e = .returned (.tuple #[v, .int .i64 0]) ∧ Holds W W' .u32 22 v (wordsD bs n) := by
  obtain ⟨i0, hi, hz0, hz1, hz2⟩ := info_parts Tryd.info22
  have h4 : (((4 * n : Nat) : Int) % 4 != 0) = false := by simp
  have hwl : (wordsD bs n).length = n := partW_length _ _ _
  go_enter Tryd.func40, Tryd.ntmps40
  go_wp2
  go_loopw [4, 5] (fun v i wr => ∃ k : Nat, k ≤ n ∧ i = .int .i64 ((4 * k : Nat) : Int) ∧ Holds W wr .u32 22 v ((wordsD bs n).take k)) (fun _ i _ => 4 * n - (intOf i).toNat)
  case atStart => exact ⟨0, Nat.zero_le _, rfl, Holds.start _ _ _⟩
  case round =>
    obtain ⟨k, hk, rfl, F⟩ := hrel
    by_cases hlt : k < n
    · rcases h1 with rfl | ⟨b, off, rfl, hb, h1⟩
      · simp at hl; omega
      have r1 := h1.below F.below hb
      have ho := F.own
      have hbl := F.below
      have hv : ∀ g, u4.ownBlock = some g → W.heap.size ≤ g := fun g hg => (ho.lt g hg).1
      have hkl : ((wordsD bs n).take k).length = k := by rw [List.length_take]; omega
      rw [hkl] at ho
      have HV : Hid _ := hv
      have HO : Hid (wr.ownsRow W.heap.size 22 1 u4 k (((wordsD bs n).take k).map (Value.int .u32))) := ho
      have HT : Hid _ := wordsD_take bs n k hlt
      obtain ⟨y0, y1⟩ := wordAt_all bs hbs k
      clear F hv ho h1
      go_wp2
      go_loop [6, 7] (fun x j => ∃ t : Nat, t ≤ 4 ∧ j = .int .i64 t ∧ x = .int .i64 (wordAt bs (4 * k + t) k)) (fun _ j => 4 - (intOf j).toNat)
      case atStart => exact ⟨0, by decide, rfl, by simp (disch := omega) only [wordAt, if_neg]⟩
      case round =>
        obtain ⟨t, ht, rfl, rfl⟩ := hrel
        by_cases htl : t < 4
        · have hc := r1 (4 * k + t) (by omega)
          obtain ⟨c0, c1⟩ := hbs (4 * k + t)
          obtain ⟨z0, z1⟩ := wordAt_bound bs hbs k t htl
          have HS : Hid _ := wordAt_step bs k t htl
          generalize bs.getD (4 * k + t) 0 = c at *
          generalize wordAt bs (4 * k + t) k = z at *
          have HS' : Hid (∀ q, q = 256 * z + c → q = wordAt bs (4 * k + t + 1) k) := fun q hq => by rw [HS.out, hq]; omega
          clear HS
          go_wp2
          go_round
          case rel => exact ⟨t + 1, by omega, by go_num, by rw [HS'.out _ rfl]; rfl⟩
          case measure => simp [intOf]; omega
        · obtain rfl : t = 4 := by omega
          generalize wordAt bs (4 * k + 4) k = y at *
          have h63 : k + 1 ≤ maxLen := by unfold maxLen; omega
          have hby : (k + 1) * 4 ≤ 140737488355328 := by omega
          have hba : W.heap.size ≤ (wr.alloc (.cells #[.int .u32 y] 22)).heap.size := by have := hbl.size; simp; omega
          go_wp2_with (first | (at_builtin; refine wpList_append_own _ rfl _ _ 32 rfl W.heap.size 22 i0 (.int .u32 0) 1 4 Tryd.underlying32 hi hz0 hz1 hz2 rfl (by decide) u4 k _ rfl (HO.out.alloc _) ⟨wr.heap.size, 0, none⟩ 1 1 [.int .u32 y] rfl rfl (cell_one_new _ _ _) (ints_oneCell .u32 [y]) h63 hby hba ?_))
          intro v' w1 hown1 hgrow _
          have HH : Hid (Holds W w1 .u32 22 v' ((wordsD bs n).take (k + 1))) := by
            rw [HT.out]
            exact Holds.grow (hbl.alloc hbl.size _) HV.out hown1 hgrow (by simp; omega) (by simp)
          clear hown1 hgrow HO h63 hby hba
          go_wp2
          go_roundw
          case rel => exact ⟨k + 1, by omega, by go_num, HH.out⟩
          case measure => simp [intOf]; omega
    · obtain rfl : k = n := by omega
      have HH : Hid (Holds W wr .u32 22 u4 (wordsD bs k)) := by
        rw [List.take_of_length_le (by omega)] at F
        exact F
      clear F
      go_wp2
      go_ret2
      exact ⟨_, rfl, HH.out⟩
end Go.Proofs.YtlfnpllojinjdaaDoor
