import Derived.Test.YtbpdmkohihgnjaaGreatDoorP02
import Derived.Deep.RegionHeld3
import Derived.Deep.RegionWith
import Derived.Deep.AppendLies
import Derived.Lib.AppendStr
namespace Go.Proofs.YtbpdmkohihgnjaaGreatDoor.V
open Go.RowKit

theorem digit_const (k : Nat) (h : k < 16) (hp : k < (⟨#[48, 49, 50, 51, 52, 53, 54, 55, 56, 57, 97, 98, 99, 100, 101, 102]⟩ : ByteArray).size) : (((⟨#[48, 49, 50, 51, 52, 53, 54, 55, 56, 57, 97, 98, 99, 100, 101, 102]⟩ : ByteArray)[k]'hp).toNat : Int) = dig (k : Int) := by
  exact dig_at (k : Int) (by omega) (by omega) hp
set_option maxRecDepth 20000 in
set_option maxHeartbeats 400000 in
theorem rdigit_any (W : World) (c : Int) :
    Calls Tryz.prog 96 #[.int .u8 c] W fun e W' => e = .returned (.int .i64 (dv c)) ∧ W = W' := by
  go_enter Tryz.func96, Tryz.ntmps96
  go_wp2
  go_loop [3] (fun i => ∃ k : Nat, k ≤ 16 ∧ i = .int .i64 k ∧ ∀ j : Nat, j < k → dig (j : Int) ≠ c) (fun i => 16 - (intOf i).toNat)
  case atStart => exact ⟨0, by decide, rfl, fun j hj => by omega⟩
  case round =>
    obtain ⟨k, hk, rfl, hall⟩ := hrel
    have HA : Hid _ := hall
    clear hall
    by_cases hlt : k < 16
    · have hb := digit_const k hlt hlt
      by_cases hd : dig (k : Int) = c
      · have hd' : (dig (k : Int) == c) = true := by simp [hd]
        have HR : Hid ((k : Int) = dv c) := by show _ = _; rw [← hd, dv_dig _ (by omega) (by omega)]
        clear hd
        go_wp2
        go_ret
        exact ⟨ret_int HR.out, rfl⟩
      · have hd' : (dig (k : Int) == c) = false := by simp [hd]
        have HA' : Hid (∀ j : Nat, j < k + 1 → dig (j : Int) ≠ c) := fun j hj => by
          by_cases e : j = k
          · subst e; exact hd
          · exact HA.out j (by omega)
        clear hd HA
        go_wp2
        go_round
        case rel => exact ⟨k + 1, by omega, by go_num, HA'.out⟩
        case measure => simp [intOf]; omega
    · obtain rfl : k = 16 := by omega
      have HR : Hid (-1 = dv c) := by
        show _ = _
        have h1 := dv_bounds c
        rcases (show dv c = -1 ∨ 0 ≤ dv c by omega) with e | e
        · exact e.symm
        · exact absurd (by rw [Int.toNat_of_nonneg e]; exact dig_dv c e) (HA.out (dv c).toNat (by omega))
      go_wp2
      go_ret
      exact ⟨ret_int HR.out, rfl⟩

set_option maxHeartbeats 400000 in
theorem rparseHex_eight (W : World) (s : ByteArray) (h : s.size = 8) :
    Calls Tryz.prog 80 #[.string s] W fun e W' => e = pvAns (pv (strL s) 0 8) ∧ W = W' := by
  have h' : ((s.size : Int) != 8) = false := by simp; omega
  have H : Hid (s.size = 8) := h
  have HL : Hid (∀ k (hk : k < s.size), (strL s).getD (0 + k) 0 = (s[k].toNat : Int)) := fun k hk => by rw [Nat.zero_add]; exact strL_at s k hk
  have hs : 8 ≤ s.size := by omega
  clear h
  generalize strL s = l at *
  go_enter Tryz.func80, Tryz.ntmps80
  go_wp2
  go_loop [4, 5] (fun x i => ∃ (k : Nat) (n : Int), k ≤ 8 ∧ i = .int .i64 k ∧ x = .int .i64 n ∧ pv l 0 k = some n) (fun _ i => 8 - (intOf i).toNat)
  case atStart => exact ⟨0, 0, by decide, rfl, rfl, rfl⟩
  case round =>
    obtain ⟨k, n, hk, rfl, rfl, hp⟩ := hrel
    have HP : Hid (pv l 0 k = some n) := hp
    obtain ⟨n0, n1⟩ := pv_bound l 0 k n hp
    clear hp
    have n2 : n < 4294967296 := by
      have : (16 : Int) ^ k ≤ 16 ^ 8 := by
        have := Nat.pow_le_pow_right (n := 16) (by decide) (show k ≤ 8 by omega)
        have e : ∀ j : Nat, ((16 ^ j : Nat) : Int) = 16 ^ j := fun j => by push_cast; rfl
        have e1 := e k
        have e2 := e 8
        omega
      have e : (16 : Int) ^ 8 = 4294967296 := by decide
      omega
    clear n1
    by_cases hlt : k < 8
    · have hl := HL.out k (by omega)
      have hks : k < s.size := by omega
      have db := dv_bounds (s[k].toNat : Int)
      by_cases hd : 0 ≤ dv (l.getD (0 + k) 0)
      · have HS := pv_step HP.out hd
        rw [hl] at hd HS
        have HS' : Hid (∀ y, y = 16 * n + dv (s[k].toNat : Int) → pv l 0 (k + 1) = some y) := fun y hy => by rw [hy, HS]; congr 1; omega
        clear HS hl
        go_wp2_with (first | (go_at_call 96; refine (rdigit_any _ _).mono ?_; rintro e w' ⟨rfl, rfl⟩))
        go_round
        case rel => exact ⟨k + 1, _, by omega, by go_num, rfl, HS'.out _ rfl⟩
        case measure => simp [intOf]; omega
      · have hd' : dv (l.getD (0 + k) 0) < 0 := by omega
        have HS := pv_stop HP.out hd'
        have HN : Hid (pv l 0 8 = none) := by
          have := pv_none l 0 (k + 1) HS (7 - k)
          rwa [show k + 1 + (7 - k) = 8 by omega] at this
        rw [hl] at hd'
        clear HS hl hd
        go_wp2_with (first | (go_at_call 96; refine (rdigit_any _ _).mono ?_; rintro e w' ⟨rfl, rfl⟩))
        go_ret2
        exact ⟨by rw [HN.out]; rfl, rfl⟩
    · obtain rfl : k = 8 := by omega
      have HN : Hid (n % 4294967296 = n) := Int.emod_eq_of_lt n0 n2
      go_wp2
      go_ret2
      exact ⟨by rw [HP.out]; first | rfl | exact ret_two HN.out, rfl⟩

theorem strOfNums_append (xs ys : List Int) : strOfNums xs ++ strOfNums ys = strOfNums (xs ++ ys) := by
  unfold strOfNums
  rw [List.map_append]
  apply ByteArray.ext
  simp
theorem digit_slice (d : Int) (h0 : 0 ≤ d) (h1 : d < 16) : (⟨#[48, 49, 50, 51, 52, 53, 54, 55, 56, 57, 97, 98, 99, 100, 101, 102]⟩ : ByteArray).extract d.toNat (d.toNat + 1) = strOfNums [dig d] := by
  obtain ⟨m, rfl⟩ := Int.eq_ofNat_of_zero_le h0
  have hm : m < 16 := by omega
  match m, hm with
  | 0, _ | 1, _ | 2, _ | 3, _ | 4, _ | 5, _ | 6, _ | 7, _ | 8, _ | 9, _ | 10, _ | 11, _ | 12, _ | 13, _ | 14, _ | 15, _ => decide
theorem hexW_drop (w : Int) (k : Nat) (hk : k < 8) : (hexW w).drop (8 - (k + 1)) = dig (w / 2 ^ (4 * k) % 16) :: (hexW w).drop (8 - k) := by
  match k, hk with
  | 0, _ | 1, _ | 2, _ | 3, _ | 4, _ | 5, _ | 6, _ | 7, _ => rfl
theorem div16 (w : Int) (k : Nat) : w / 2 ^ (4 * k) / 16 = w / 2 ^ (4 * (k + 1)) := by
  rw [show 4 * (k + 1) = 4 * k + 4 by omega, M.div_div]; rfl
set_option maxHeartbeats 400000 in
theorem rhex_any (W : World) (w : Int) (w0 : 0 ≤ w) (w1 : w < 4294967296) :
    Calls Tryz.prog 84 #[.int .u32 w] W fun e W' => e = .returned (.string (strOfNums (hexW w))) ∧ W = W' := by
  go_enter Tryz.func84, Tryz.ntmps84
  go_wp2
  go_loop [3, 4, 5] (fun x n i => ∃ k : Nat, k ≤ 8 ∧ i = .int .i64 k ∧ n = .int .i64 (w / 2 ^ (4 * k)) ∧ x = .string (strOfNums ((hexW w).drop (8 - k)))) (fun _ _ i => 8 - (intOf i).toNat)
  case atStart => exact ⟨0, by decide, rfl, by simp, rfl⟩
  case round =>
    obtain ⟨k, hk, rfl, rfl, rfl⟩ := hrel
    by_cases hlt : k < 8
    · obtain ⟨q0, q1⟩ := M.div_bounds w (4 * k) w0 w1
      have HD : Hid _ := hexW_drop w k hlt
      have HN : Hid _ := div16 w k
      have hsz : (strOfNums ((hexW w).drop (8 - k))).size ≤ 8 := by rw [strOfNums_size]; simp [hexW]
      generalize w / 2 ^ (4 * k) = q at *
      have HX : Hid _ := digit_slice (q % 16) (by omega) (by omega)
      have HS : Hid (∀ y, y = strOfNums [dig (q % 16)] → y ++ strOfNums ((hexW w).drop (8 - k)) = strOfNums ((hexW w).drop (8 - (k + 1)))) := fun y hy => by rw [hy, strOfNums_append, HD.out]; rfl
      generalize strOfNums ((hexW w).drop (8 - k)) = t at *
      go_wp2
      go_round
      case rel => exact ⟨k + 1, by omega, by go_num, by rw [HN.out], by rw [HS.out _ (by rw [show (q % 16 + 1).toNat = (q % 16).toNat + 1 by omega]; exact HX.out)]⟩
      case measure => simp [intOf]; omega
    · obtain rfl : k = 8 := by omega
      go_wp2
      go_ret
      exact ⟨rfl, rfl⟩
end Go.Proofs.YtbpdmkohihgnjaaGreatDoor.V
namespace Go.Proofs.YtbpdmkohihgnjaaGreatDoor.V
open Go.RowKit

def At (W : World) (k : IntKind) (ao : Option Addr) (xs : List Int) : Prop := xs = [] ∨ ∃ b off, ao = some ⟨b, off, none⟩ ∧ b < W.heap.size ∧ Row W k b off xs
theorem At.below {W w : World} {k : IntKind} {ao : Option Addr} {xs : List Int} (h : At W k ao xs) (hb : Below W.heap.size W w) : At w k ao xs := by
  rcases h with h | ⟨b, off, h1, h2, h3⟩
  · exact .inl h
  · exact .inr ⟨b, off, h1, by have := hb.size; omega, h3.below hb h2⟩
structure Holds (W wr : World) (k : IntKind) (e : TypeId) (v : Value) (L : List Int) : Prop where
  own : wr.ownsRow W.heap.size e 1 v L.length (L.map (Value.int k))
  below : Below W.heap.size W wr
theorem Holds.start (W : World) (k : IntKind) (e : TypeId) : Holds W W k e (.slice none 0 0) [] := ⟨World.ownsRow_nil _ _ _ _, Below.refl _ _⟩
theorem Holds.at {W wr : World} {k : IntKind} {e : TypeId} {v : Value} {L : List Int} (h : Holds W wr k e v L) : ∃ ao cap, v = .slice ao L.length cap ∧ At wr k ao L := by
  rcases h.own.2 with ⟨rfl, h0⟩ | ⟨g, cap, cur, rfl, hg, hh, hn, hm, hs, ht⟩
  · exact ⟨none, 0, by rw [h0], .inl (List.eq_nil_of_length_eq_zero h0)⟩
  · refine ⟨some ⟨g, 0, none⟩, cap, rfl, .inr ⟨g, 0, rfl, ?_, ?_⟩⟩
    · exact (h.own.lt g rfl).2
    · intro i hi
      rw [Nat.zero_add, h.own.cellAt i (by omega)]
      simp [List.getD_eq_getElem?_getD, hi]
theorem Holds.grow {W wr w1 : World} {k : IntKind} {e : TypeId} {v v' : Value} {L' : List Int} {n : Nat} {news : List Value} (hb : Below W.heap.size W wr) (hv : ∀ g, v.ownBlock = some g → W.heap.size ≤ g) (hown : w1.ownsRow W.heap.size e 1 v' n news) (hg : wr.grownBy w1 v.ownBlock) (hn : n = L'.length) (hnews : news = L'.map (Value.int k)) : Holds W w1 k e v' L' := by
  subst hn hnews
  exact ⟨hown, hb.grown hg hb.size hv⟩

end Go.Proofs.YtbpdmkohihgnjaaGreatDoor.V
namespace Go.Proofs.YtbpdmkohihgnjaaGreatDoor.V
open Go.RowKit

theorem hexD_take (xs : List Int) (k : Nat) (h : k < xs.length) : hexD (xs.take (k + 1)) = hexD (xs.take k) ++ hexW (xs.getD k 0) := by
  unfold hexD
  rw [List.take_succ_eq_append_getElem h, List.map_append, List.flatten_append]
  simp [List.getD_eq_getElem?_getD, h]
theorem hexW_bts (x : Int) : Bts (hexW x) := by
  have := hexD_bts [x]
  rwa [show hexD [x] = hexW x by simp [hexD]] at this
theorem strCells_of (L : List Int) (h : Bts L) : Lib.strCells (strOfNums L) = L.map (Value.int .u8) := by
  have e := strL_strOfNums L h
  have : Lib.strCells (strOfNums L) = (strL (strOfNums L)).map (Value.int .u8) := by
    simp [Lib.strCells, strL]
  rw [this, e]
set_option maxRecDepth 20000 in
set_option maxHeartbeats 1000000 in
theorem rhexAll_any (W : World) (ao : Option Addr) (n cap : Nat) (xs : List Int) (hx : xs.length = n) (wx : Wds xs) (h1 : At W .u32 ao xs) (hn : n ≤ 1048576) :
    Calls Tryz.prog 63 #[.slice ao n cap] W fun e W' => e = .returned (.string (strOfNums (hexD xs))) ∧ Below W.heap.size W W' := by
  obtain ⟨i0, hi, hz0, hz1, hz2⟩ := info_parts Tryz.info5
  go_enter Tryz.func63, Tryz.ntmps63
  go_wp2
  go_loopw [3, 4] (fun v i wr => ∃ k : Nat, k ≤ n ∧ i = .int .i64 k ∧ Holds W wr .u8 5 v (hexD (xs.take k))) (fun _ i _ => n - (intOf i).toNat)
  case atStart => exact ⟨0, Nat.zero_le _, rfl, Holds.start _ _ _⟩
  case round =>
    obtain ⟨k, hk, rfl, F⟩ := hrel
    by_cases hlt : k < n
    · rcases h1 with rfl | ⟨b, off, rfl, hb, h1⟩
      · simp at hx; omega
      have hc := h1.below F.below hb k (by omega)
      obtain ⟨q0, q1⟩ := wx k
      have HT : Hid _ := hexD_take xs k (by omega)
      have hlen : (hexD (xs.take k)).length = 8 * k := by rw [hexD_length, List.length_take]; omega
      generalize xs.getD k 0 = x at *
      generalize hexD (xs.take k) = L at *
      have ho := F.own
      have hbl := F.below
      have hv : ∀ g, u3.ownBlock = some g → W.heap.size ≤ g := fun g hg => (ho.lt g hg).1
      rw [hlen] at ho
      have HV : Hid _ := hv
      have hsz : (strOfNums (hexW x)).size = 8 := by rw [strOfNums_size]; rfl
      have HC : Hid _ := strCells_of (hexW x) (hexW_bts x)
      clear F hv h1 wx
      go_wp2_with (first | (go_at_call 84; refine (rhex_any _ _ q0 q1).mono ?_; rintro e w' ⟨rfl, rfl⟩) | (at_builtin; refine Lib.wpList_append_own_string _ rfl _ _ 124 9 rfl W.heap.size 5 i0 Tryz.underlying124 Tryz.underlying9 hi hz0 hz1 hz2 _ _ _ rfl ho _ rfl ?c1 ?c2 ?c3 ?_))
      case c1 => unfold maxLen; omega
      case c2 => omega
      case c3 => exact hbl.size
      intro v' w1 hown1 hgrow _
      have HH : Hid (Holds W w1 .u8 5 v' (hexD (xs.take (k + 1)))) := by
        rw [HT.out]
        rw [HC.out] at hown1
        exact Holds.grow hbl HV.out hown1 hgrow (by simp [hlen]; rfl) (by simp)
      clear hown1 hgrow ho
      go_wp2
      go_roundw
      case rel => exact ⟨k + 1, by omega, by go_num, HH.out⟩
      case measure => simp [intOf]; omega
    · obtain rfl : k = n := by omega
      rw [List.take_of_length_le (by omega)] at F
      obtain ⟨ao', cap', hv, hat⟩ := F.at
      have HB : Hid _ := F.below
      have hcv : (convert 124 9 u3).run Tryz.prog wr = .ok (.string (strOfNums (hexD xs))) wr := by
        rw [hv]
        rcases hat with h0 | ⟨b, off, rfl, _, hr⟩
        · rw [h0]
          rcases ao' with _ | a
          · exact (run_convert_bytes_nil (P := Tryz.prog) wr 124 5 Tryz.underlying124 Tryz.underlying5 0 cap' 9 Tryz.underlying9).trans rfl
          · show (convert 124 9 (.slice (some a) 0 cap')).run Tryz.prog wr = _
            rw [run_convert_bytes_string (P := Tryz.prog) wr 124 9 5 _ 0 cap' Tryz.underlying124 Tryz.underlying5 Tryz.underlying9, run_bytesToString wr a 0 cap' [] (run_loadCells_list (P := Tryz.prog) wr a [] (fun j v hj => by simp at hj))]
            rfl
        · exact run_convert_bytes_arg (P := Tryz.prog) wr 124 5 Tryz.underlying124 Tryz.underlying5 b off _ cap' (hexD xs) rfl hr 9 Tryz.underlying9
      clear F hv hat h1 wx
      go_wp2
      go_ret
      exact ⟨rfl, HB.out⟩

end Go.Proofs.YtbpdmkohihgnjaaGreatDoor.V
namespace Go.Proofs.YtbpdmkohihgnjaaGreatDoor.V
open Go.RowKit

theorem hexWs_take (l : List Int) (n k : Nat) (h : k < n) : (hexWs l n).take (k + 1) = (hexWs l n).take k ++ [(pv l (8 * k) 8).getD 0] := by
  have hl := hexWs_length l n
  rw [List.take_succ_eq_append_getElem (by omega)]
  congr 2
  simp only [hexWs, List.getElem_map, List.getElem_range]
theorem rparseAll_long (W : World) (s : ByteArray) (h : 2097152 < s.size) (h2 : s.size ≤ 281474976710656) :
    Calls Tryz.prog 55 #[.string s] W fun e W' => e = .returned (.tuple #[.slice none 0 0, .int .i64 2]) ∧ W = W' := by
  go_enter Tryz.func55, Tryz.ntmps55
  go_wp2
  go_ret2
  exact ⟨rfl, rfl⟩
theorem rparseAll_part (W : World) (s : ByteArray) (h : s.size ≤ 2097152) (h8 : s.size % 8 ≠ 0) :
    Calls Tryz.prog 55 #[.string s] W fun e W' => e = .returned (.tuple #[.slice none 0 0, .int .i64 10]) ∧ W = W' := by
  have h' : ((s.size : Int) % 8 != 0) = true := by simp; omega
  go_enter Tryz.func55, Tryz.ntmps55
  go_wp2
  go_ret2
  exact ⟨rfl, rfl⟩
set_option maxRecDepth 20000 in
set_option maxHeartbeats 1000000 in
theorem rparseAll_any (W : World) (s : ByteArray) (n : Nat) (hs : s.size = 8 * n) (hn : 8 * n ≤ 2097152) :
    Calls Tryz.prog 55 #[.string s] W fun e W' =>
      ((∀ i, i < n → pv (strL s) (8 * i) 8 ≠ none) ∧ ∃ v, e = .returned (.tuple #[v, .int .i64 0]) ∧ Holds W W' .u32 25 v (hexWs (strL s) n)) ∨
      ((∃ i, i < n ∧ pv (strL s) (8 * i) 8 = none) ∧ e = .returned (.tuple #[.slice none 0 0, .int .i64 10]) ∧ Below W.heap.size W W') := by
  obtain ⟨i0, hi, hz0, hz1, hz2⟩ := info_parts Tryz.info25
  have h4 : ((s.size : Int) % 8 != 0) = false := by simp; omega
  have hN : s.size ≤ 2097152 := by omega
  have HSZ : Hid (s.size = 8 * n) := hs
  have hsN : (s.size : Int) ≤ 8 * (n : Int) := by omega
  have hsN2 : 8 * (n : Int) ≤ (s.size : Int) := by omega
  clear hs
  have hLL := hexWs_length (strL s) n
  go_enter Tryz.func55, Tryz.ntmps55
  go_wp2
  go_loopw [4, 5] (fun v i wr => ∃ k : Nat, k ≤ n ∧ i = .int .i64 ((8 * k : Nat) : Int) ∧ Holds W wr .u32 25 v ((hexWs (strL s) n).take k) ∧ ∀ j, j < k → pv (strL s) (8 * j) 8 ≠ none) (fun _ i _ => 8 * n - (intOf i).toNat)
  case atStart => exact ⟨0, Nat.zero_le _, rfl, Holds.start _ _ _, fun j hj => by omega⟩
  case round =>
    obtain ⟨i, hin, rfl, F, hall⟩ := hrel
    have HA : Hid (∀ j, j < i → pv (strL s) (8 * j) 8 ≠ none) := hall
    clear hall
    by_cases hlt : i < n
    · have hsz : (s.extract (8 * i) (8 * i + 8)).size = 8 := by rw [ByteArray.size_extract]; have := HSZ.out; omega
      have HX : pv (strL (s.extract (8 * i) (8 * i + 8))) 0 8 = pv (strL s) (8 * i) 8 := by have := HSZ.out; exact pv_extract s (8 * i) (by omega)
      have P := fun w => rparseHex_eight w (s.extract (8 * i) (8 * i + 8)) hsz
      rw [HX] at P
      have hle : 8 * i + 8 ≤ s.size := by have := HSZ.out; omega
      have HT := hexWs_take (strL s) n i hlt
      have ho := F.own
      have hbl := F.below
      have hkl : ((hexWs (strL s) n).take i).length = i := by rw [List.length_take]; omega
      have HV : Hid (∀ g, u4.ownBlock = some g → W.heap.size ≤ g) := fun g hg => (ho.lt g hg).1
      rw [hkl] at ho
      have HO : Hid (wr.ownsRow W.heap.size 25 1 u4 i (((hexWs (strL s) n).take i).map (Value.int .u32))) := ho
      clear ho F
      cases hp : pv (strL s) (8 * i) 8 with
      | some x =>
        rw [hp] at P HT
        have HT' : Hid ((hexWs (strL s) n).take (i + 1) = (hexWs (strL s) n).take i ++ [x]) := HT
        have HA' : Hid (∀ j, j < i + 1 → pv (strL s) (8 * j) 8 ≠ none) := fun j hj => by
          by_cases e : j = i
          · subst e; rw [hp]; exact fun h => by cases h
          · exact HA.out j (by omega)
        have P' : Hid (∀ w, Calls Tryz.prog 80 #[.string (s.extract (8 * i) (8 * i + 8))] w fun e W' => e = .returned (.tuple #[.int .u32 x, .int .i64 0]) ∧ w = W') := P
        clear P HX hp HA HT
        have h63 : i + 1 ≤ maxLen := by unfold maxLen; omega
        have hby : (i + 1) * 4 ≤ 140737488355328 := by omega
        have hba : W.heap.size ≤ (wr.alloc (.cells #[.int .u32 x] 25)).heap.size := by have := hbl.size; simp; omega
        go_wp2_with (first | (go_at_call 80; refine (P'.out _).mono ?_; rintro e w' ⟨rfl, rfl⟩) | (at_builtin; refine wpList_append_own _ rfl _ _ 127 rfl W.heap.size 25 i0 (.int .u32 0) 1 4 Tryz.underlying127 hi hz0 hz1 hz2 rfl (by decide) u4 i _ rfl (HO.out.alloc _) ⟨wr.heap.size, 0, none⟩ 1 1 [.int .u32 x] rfl rfl (cell_one_new _ _ _) (ints_oneCell .u32 [x]) h63 hby hba ?_))
        intro v' w1 hown1 hgrow _
        have HH : Hid (Holds W w1 .u32 25 v' ((hexWs (strL s) n).take (i + 1))) := by
          rw [HT'.out]
          exact Holds.grow (hbl.alloc hbl.size _) HV.out hown1 hgrow (by simp; omega) (by simp)
        clear hown1 hgrow HO h63 hby hba
        go_wp2
        go_roundw
        case rel => exact ⟨i + 1, by omega, by go_num, HH.out, HA'.out⟩
        case measure => simp [intOf]; omega
      | none =>
        rw [hp] at P
        have HN : Hid (∃ i, i < n ∧ pv (strL s) (8 * i) 8 = none) := ⟨i, hlt, hp⟩
        have P' : Hid (∀ w, Calls Tryz.prog 80 #[.string (s.extract (8 * i) (8 * i + 8))] w fun e W' => e = .returned (.tuple #[.int .u32 0, .int .i64 10]) ∧ w = W') := P
        have HB : Hid _ := hbl
        clear P HX hp HA HT HO HV hbl
        go_wp2_with (first | (go_at_call 80; refine (P'.out _).mono ?_; rintro e w' ⟨rfl, rfl⟩))
        go_ret2
        exact Or.inr ⟨HN.out, rfl, HB.out⟩
    · obtain rfl : i = n := by omega
      have HH : Hid (Holds W wr .u32 25 u4 (hexWs (strL s) i)) := by
        rw [List.take_of_length_le (by omega)] at F
        exact F
      clear F
      go_wp2
      go_ret2
      exact Or.inl ⟨HA.out, _, rfl, HH.out⟩

end Go.Proofs.YtbpdmkohihgnjaaGreatDoor.V
