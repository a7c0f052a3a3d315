import Derived.Test.YtlfnpllojinjdaaDoorLists
import Derived.Deep.DeepCutAuto
import Derived.Deep.RegionHeld3
namespace Go.Proofs.YtlfnpllojinjdaaDoor
open Go.RowKit

set_option maxRecDepth 100000 in
set_option maxHeartbeats 4000000 in
theorem back_any (W : World) (hT : Tab W) (h0 : 0 < W.heap.size) (ao : Option Addr) (n cap : Nat) (xs : List Int) (hx : xs.length = n) (wx : Wds xs) (h1 : At W .u32 ao xs) (hn : 4 * n ≤ 140737488351232) (s : ByteArray) (hs : s.size ≤ 140737488351232) :
    Calls Tryd.prog 4 #[.slice ao n cap, .string s] W fun e W' => e = .returned (.bool true) ∧ Below W.heap.size W W' := by
  go_enter Tryd.func4, Tryd.ntmps4
  go_wp2_with fail
  refine (head_any _ hT h0).mono ?_
  rintro e w1 ⟨rfl, hb1⟩
  have hT1 := hT.below hb1 h0
  have at1 := h1.below hb1
  go_wp2_with fail
  refine (bytes_at _ hT1 ao n cap xs hx wx at1 hn (by have := hb1.size; omega)).mono ?_
  rintro e w2 ⟨rfl, ow2⟩
  have hb2 := hb1.trans (ow2.below.mono hb1.size)
  have hT2 := hT.below hb2 h0
  have at2 := h1.below hb2
  have rb2 := ow2.row
  have lt2 := ow2.lt
  clear ow2
  go_wp2_with fail
  refine (hexAll_at _ hT2 ao n cap xs hx wx at2 hn (by have := hb2.size; omega)).mono ?_
  rintro e w3 ⟨rfl, hb3'⟩
  have hb3 := hb2.trans (hb3'.mono hb2.size)
  have hT3 := hT.below hb3 h0
  have at3 := h1.below hb3
  have rb3 := rb2.below hb3' lt2
  have lt3 : w1.heap.size < w3.heap.size := by have := hb3'.size; omega
  clear rb2 lt2 at2 hT2 at1 hT1 hb3'
  have hsz : (strOfNums (hexD xs)).size = 8 * n := by rw [strOfNums_size, hexD_length, hx]
  go_upto_if 42 with fail
  go_cut [] (fun w => Tab w ∧ Below W.heap.size W w)
  case first =>
    by_cases hlen : n ≤ 262144
    · have hbb := bytesD_bts xs
      have hbl : (bytesD xs).length = 4 * n := by rw [bytesD_length, hx]
      have hwb : wordsD (bytesD xs) n = xs := by rw [← hx]; exact words_bytes xs wx
      go_wp2_with fail
      refine (words_any _ w1.heap.size 0 n (4 * n) (bytesD xs) hbl hbb rb3 (by omega) lt3).mono ?_
      rintro e w4 ⟨rfl, ow4⟩
      rw [hwb] at ow4
      have hb4 := hb3.trans (ow4.below.mono hb3.size)
      have at4 := at3.below ow4.below
      have rb4 := rb3.below ow4.below lt3
      have rl4 := ow4.row
      have lt4 := ow4.lt
      have HPA : Hid (∀ w, _) := fun w => parseAll_any w (strOfNums (hexD xs)) n hsz (by omega)
      have hsl : strL (strOfNums (hexD xs)) = hexD xs := strL_strOfNums _ (hexD_bts xs)
      have hww : hexWs (strL (strOfNums (hexD xs))) n = xs := by rw [hsl, ← hx]; exact hexWs_hexD xs wx
      have HNN : Hid (∀ i, i < n → pv (strL (strOfNums (hexD xs))) (8 * i) 8 ≠ none) := fun i hi => by
        rw [hsl, pv_hexD xs wx i (by omega)]; exact fun h => by cases h
      clear ow4
      go_wp2_with fail
      refine (HPA.out _).mono ?_
      rintro e w5 (⟨_, rfl, ow⟩ | ⟨⟨i, hi, hno⟩, _, _⟩)
      · rw [hww] at ow
        have hb5 := hb4.trans (ow.below.mono hb4.size)
        have at5 := at4.below ow.below
        have rb5 := rb4.below ow.below (by omega)
        have rl5 := rl4.below ow.below lt4
        have rm5 := ow.row
        have lt5 := ow.lt
        have hT5 := hT.below hb5 h0
        clear ow
        clear at4 rb4 rl4 at3 rb3 hT3 hT hb4 hb3 hb2 hb1 HPA HNN hwb hww
        go_wp2_with fail
        refine (lawSame_yes _ _ _ n _ _ xs hx (.inr ⟨w3.heap.size, 0, rfl, by omega, rl5⟩) at5 (by omega)).mono ?_
        rintro e w5' ⟨rfl, d1, rfl⟩
        go_wp2_with fail
        refine (lawSame_yes _ _ _ n _ _ xs hx (.inr ⟨w4.heap.size, 0, rfl, by simp; omega, rm5.drewN _⟩) (at5.drewN _) (by omega)).mono ?_
        rintro e w5' ⟨rfl, d2, rfl⟩
        go_wp2_with fail
        go_loopw [11] (fun i wr => ∃ k : Nat, k ≤ n ∧ i = .int .i64 k ∧ Below w5.heap.size w5 wr) (fun i _ => n - (intOf i).toNat)
        case atStart => exact ⟨0, Nat.zero_le _, rfl, below_drewN (Below.refl _ _) _⟩
        case round =>
          obtain ⟨k, hk, rfl, hbr⟩ := hrel
          by_cases hlt : k < n
          · rcases at5 with rfl | ⟨b, off, rfl, hb, ra5⟩
            · simp at hx; omega
            have hc := ra5.below hbr hb k (by omega)
            obtain ⟨x0, x1⟩ := wx k
            have hr0 := rb5.below hbr (by omega) (4 * k) (by omega)
            have hr3 := rb5.below hbr (by omega) (4 * k + 3) (by omega)
            rw [Nat.zero_add, show 4 * k = 4 * k + 0 from rfl, bytesD_at xs k 0 (by omega) (by decide)] at hr0
            rw [Nat.zero_add, bytesD_at xs k 3 (by omega) (by decide)] at hr3
            have hTr := hT5.below hbr (by omega)
            have hpx : pv (strL ((strOfNums (hexD xs)).extract (8 * k) (8 * k + 8))) 0 8 = some (xs.getD k 0) := by
              rw [pv_extract _ _ (by omega), hsl, pv_hexD xs wx k (by omega)]
            have hes : ((strOfNums (hexD xs)).extract (8 * k) (8 * k + 8)).size = 8 := by rw [ByteArray.size_extract]; omega
            have hee : strOfNums (hexW (xs.getD k 0)) = (strOfNums (hexD xs)).extract (8 * k) (8 * k + 8) := by
              have h1 : hexWs (strL ((strOfNums (hexD xs)).extract (8 * k) (8 * k + 8))) 1 = [xs.getD k 0] := by simp only [hexWs, List.range_one, List.map_cons, List.map_nil, Nat.mul_zero, hpx]; rfl
              have h2 := hexD_hexWs (strL ((strOfNums (hexD xs)).extract (8 * k) (8 * k + 8))) 1 (by rw [strL_length]; exact hes) (fun i hi => by
                obtain rfl : i = 0 := by omega
                rw [Nat.mul_zero, hpx]; exact fun h => by cases h)
              rw [h1] at h2
              have h3 : hexD [xs.getD k 0] = hexW (xs.getD k 0) := by simp [hexD]
              rw [← h3, h2, strOfNums_strL]
            have P := fun w => parseHex_eight w _ hes
            rw [hpx] at P
            generalize xs.getD k 0 = x at *
            have HP : Hid (∀ w, Calls Tryd.prog 19 #[.string ((strOfNums (hexD xs)).extract (8 * k) (8 * k + 8))] w fun e W' => e = .returned (.tuple #[.int .u32 x, .int .i64 0]) ∧ w = W') := P
            have HE : Hid _ := hee
            have HX : Hid (Calls Tryd.prog 20 #[.int .u32 x] wr.drew fun e w' => e = .returned (.string ((strOfNums (hexD xs)).extract (8 * k) (8 * k + 8))) ∧ Below w5.heap.size w5 w' ∧ w'.cell? ⟨b, off + k, none⟩ = some (.int .u32 x) ∧ w'.cell? ⟨w1.heap.size, 4 * k, none⟩ = some (.int .u8 (x / 16777216)) ∧ w'.cell? ⟨w1.heap.size, 4 * k + 3, none⟩ = some (.int .u8 (x % 256))) := by
              refine (hex_any wr.drew (hTr.drewN 1) x x0 x1 (by have := hbr.size; show 0 < wr.heap.size; omega)).mono ?_
              rintro e w' ⟨rfl, hb'⟩
              have hlt' : w1.heap.size < wr.drew.heap.size := by have := hbr.size; show w1.heap.size < wr.heap.size; omega
              refine ⟨by rw [HE.out], (hbr.drew).trans (hb'.mono hbr.size), (hb'.cell (p := ⟨b, off + k, none⟩) (by have := hbr.size; show b < wr.heap.size; omega)).trans hc, ?_, ?_⟩
              · refine (hb'.cell (p := ⟨w1.heap.size, 4 * k, none⟩) hlt').trans (hr0.trans ?_)
                simp only [M.Fld]
                congr 2
                omega
              · refine (hb'.cell (p := ⟨w1.heap.size, 4 * k + 3, none⟩) hlt').trans (hr3.trans ?_)
                simp only [M.Fld]
                congr 2
                omega
            have g0 : wr.cell? ⟨w1.heap.size, 4 * k, none⟩ = some (.int .u8 (x / 16777216)) := hr0.trans (by simp only [M.Fld]; congr 2; omega)
            have g3 : wr.cell? ⟨w1.heap.size, 4 * k + 3, none⟩ = some (.int .u8 (x % 256)) := hr3.trans (by simp only [M.Fld]; congr 2; omega)
            clear P hee hpx hsl hr0 hr3
            clear rb5 rl5 rm5 ra5 hbb hbl hT5 hTr h1
            have hkz : (0 : Int) ≤ (k : Int) := by omega
            have hkn : (k : Int) < (n : Int) := by omega
            have hq0 : (0 : Int) ≤ 8 * (k : Int) := by omega
            have hq1 : (0 : Int) ≤ 8 * (k : Int) + 8 := by omega
            have hq2 : 8 * (k : Int) + 8 ≤ ((strOfNums (hexD xs)).size : Int) := by omega
            have hq3 : (0 : Int) ≤ 4 * (k : Int) + 3 := by omega
            have hq4 : 4 * (k : Int) + 3 < 4 * (n : Int) := by omega
            have hq5 : (0 : Int) ≤ 4 * (k : Int) := by omega
            have hq6 : 4 * (k : Int) < 4 * (n : Int) := by omega
            have HSZ : Hid _ := hsz
            clear hsz hes
            generalize strOfNums (hexD xs) = hh at *
            have hrs : ∀ w, (Instr.slice 9 (.string hh) (some (.int .i64 (8 * (k : Int)))) (some (.int .i64 (8 * (k : Int) + 8))) none).run Tryd.prog w = .ok (.string (hh.extract (8 * k) (8 * k + 8))) w := fun w => by
              rw [run_slice_string w 9 hh .i64 .i64 _ _ Tryd.underlying9 hq0 (by omega) hq2, show (8 * (k : Int)).toNat = 8 * k by omega, show (8 * (k : Int) + 8).toNat = 8 * k + 8 by omega]
            have ht3 : (4 * (k : Int) + 3).toNat = 4 * k + 3 := by omega
            have ht0 : (4 * (k : Int)).toNat = 4 * k := by omega
            have hv1 : IntKind.u8.wrap x = x % 256 := IntKind.wrap_u8 x
            have hv2 : IntKind.u8.wrap (x / 16777216) = x / 16777216 := by rw [IntKind.wrap_u8]; omega
            have hv3 : IntKind.u32.wrap (x / 16777216) = x / 16777216 := by rw [IntKind.wrap_u32]; omega
            have hv4 : x.tdiv 16777216 = x / 16777216 := Int.tdiv_eq_ediv_of_nonneg x0
            have hw1 : IntKind.i64.wrap (8 * (k : Int)) = 8 * (k : Int) := by rw [IntKind.wrap_i64]; omega
            have hw2 : IntKind.i64.wrap (8 * (k : Int) + 8) = 8 * (k : Int) + 8 := by rw [IntKind.wrap_i64]; omega
            have hw3 : IntKind.i64.wrap (4 * (k : Int)) = 4 * (k : Int) := by rw [IntKind.wrap_i64]; omega
            have hw4 : IntKind.i64.wrap (4 * (k : Int) + 3) = 4 * (k : Int) + 3 := by rw [IntKind.wrap_i64]; omega
            go_wp2_with (first | (go_at_call 19; refine (HP.out _).mono ?_; rintro e w' ⟨rfl, rfl⟩))
            clear HP HE
            go_region_held3 (fun w' => w'.cell? ⟨b, off + k, none⟩ = some (.int .u32 x) ∧ w'.cell? ⟨w1.heap.size, 4 * k, none⟩ = some (.int .u8 (x / 16777216)) ∧ w'.cell? ⟨w1.heap.size, 4 * k + 3, none⟩ = some (.int .u8 (x % 256))) (go_keep) (first | (go_at_call 20; refine HX.out.mono ?_; rintro e w6 ⟨rfl, hb6, cc, c0, c3⟩))
            go_wp2
            go_roundw
            case rel => exact ⟨k + 1, by omega, by go_num, hb6⟩
            case measure => simp [intOf]; omega
          · obtain rfl : k = n := by omega
            have hTr := hT5.below hbr (by omega)
            have hbW := hb5.trans (hbr.mono hb5.size)
            clear rb5 rl5 rm5 hbb hbl hT5 at5
            by_cases hz : k = 0
            · subst hz
              go_wp2
              go_meet
              case rel => exact ⟨hTr, hbW⟩
            · have hz' : (0 : Int) < 4 * (k : Int) := by omega
              go_wp2_with (first | (go_at_call 16; refine (words_part _ _ (4 * k - 1) _ (by omega) (by omega)).mono ?_; rintro e w' ⟨rfl, rfl⟩))
              go_meet
              case rel => exact ⟨hTr, hbW⟩
      · exact absurd hno (HNN.out i hi)
    · go_wp2
      go_meet
      case rel => exact ⟨hT3, hb3⟩
  case rest =>
    obtain ⟨hTc, hbc⟩ := hcut
    have hzc : 0 < wc.heap.size := by have := hbc.size; omega
    clear hb1 hb2 hb3 hT3 at3 rb3 lt3 hsz hT h1 hn wx hx h0
    by_cases h8 : s.size = 8
    · cases hp : pv (strL s) 0 8 with
      | some x =>
        have P := fun w => parseHex_eight w s h8
        rw [hp] at P
        have A := fun w => parseAll_any w s 1 h8 (by decide)
        have hall : ∀ i, i < 1 → pv (strL s) (8 * i) 8 ≠ none := fun i hi => by
          obtain rfl : i = 0 := by omega
          rw [Nat.mul_zero, hp]; exact fun h => by cases h
        have hws : hexWs (strL s) 1 = [x] := by simp [hexWs, hp]
        have heq : strOfNums (hexD [x]) = s := by
          rw [← hws, hexD_hexWs (strL s) 1 (by rw [strL_length]; exact h8) hall, strOfNums_strL]
        have heq1 : strOfNums (hexW x) = s := by rw [← heq]; simp [hexD]
        have hb := pv_bound _ _ 8 x hp
        rw [show (16 : Int) ^ 8 = 4294967296 by decide] at hb
        obtain ⟨x0, x1⟩ := hb
        rw [hws] at A
        have HP : Hid (∀ w, Calls Tryd.prog 19 #[.string s] w fun e W' => e = .returned (.tuple #[.int .u32 x, .int .i64 0]) ∧ w = W') := P
        have HA : Hid _ := A
        have HE : Hid _ := heq
        have HE1 : Hid _ := heq1
        have HAL : Hid _ := hall
        clear P A heq heq1 hall hws hp
        go_wp2_with (first | (go_at_call 19; refine (HP.out _).mono ?_; rintro e w' ⟨rfl, rfl⟩))
        refine (HA.out _).mono ?_
        rintro e w4 (⟨_, rfl, ow⟩ | ⟨⟨i, hi, hn⟩, rfl, hb⟩)
        · have hb4 := hbc.trans (ow.below.mono hbc.size)
          have r4 := ow.row
          have hT4 := hTc.below ow.below hzc
          have lt4 := ow.lt
          clear ow
          go_wp2_with fail
          refine (hex_any _ hT4 x x0 x1 (by omega)).mono ?_
          rintro e w5 ⟨rfl, hb5'⟩
          rw [HE1.out]
          have hb5 := hb4.trans (hb5'.mono hb4.size)
          have r5 := r4.below hb5' lt4
          have hT5 := hT4.below hb5' (by omega)
          have lt5 : wc.heap.size < w5.heap.size := by have := hb5'.size; omega
          have k5 := r5 0 (by simp)
          rw [Nat.zero_add] at k5
          simp only [List.getD_cons_zero] at k5
          clear hb5' r4 hT4 lt4 hb4
          go_wp2_with fail
          refine (hexAll_any _ hT5 wc.heap.size 0 1 1 [x] rfl (wds_one x0 x1) r5 (by simp) lt5 (by omega)).mono ?_
          rintro e w6 ⟨rfl, hb6⟩
          rw [HE.out]
          have hb7 := hb5.trans (hb6.mono hb5.size)
          clear hb6 r5 hT5 k5 hb5
          go_wp2
          go_ret
          exact ⟨rfl, hb7⟩
        · exact absurd hn (HAL.out i hi)
      | none =>
        have P := fun w => parseHex_eight w s h8
        rw [hp] at P
        have HA : Hid (∀ w, _) := fun w => parseAll_any w s 1 h8 (by decide)
        have HP : Hid (∀ w, Calls Tryd.prog 19 #[.string s] w fun e W' => e = .returned (.tuple #[.int .u32 0, .int .i64 10]) ∧ w = W') := P
        have HN : Hid _ := hp
        clear P hp
        go_wp2_with (first | (go_at_call 19; refine (HP.out _).mono ?_; rintro e w' ⟨rfl, rfl⟩))
        refine (HA.out _).mono ?_
        rintro e w4 (⟨hall, rfl, ow⟩ | ⟨_, rfl, hb⟩)
        · exact absurd HN.out (hall 0 (by decide))
        · have hb4 := hbc.trans (hb.mono hbc.size)
          clear hb
          go_wp2
          go_ret
          exact ⟨rfl, hb4⟩
    · by_cases hlong : 2097152 < s.size
      · go_wp2_with (first | (go_at_call 19; refine (parseHex_size _ s h8).mono ?_; rintro e w' ⟨rfl, rfl⟩) | (go_at_call 17; refine (parseAll_long _ s hlong (by omega)).mono ?_; rintro e w' ⟨rfl, rfl⟩))
        go_ret
        exact ⟨rfl, hbc⟩
      · by_cases hpart : s.size % 8 = 0
        · obtain ⟨m, hm⟩ : ∃ m, s.size = 8 * m := ⟨s.size / 8, by omega⟩
          have HA : Hid (∀ w, _) := fun w => parseAll_any w s m hm (by omega)
          have HEQ : Hid ((∀ i, i < m → pv (strL s) (8 * i) 8 ≠ none) → strOfNums (hexD (hexWs (strL s) m)) = s) := fun hall => by
            rw [hexD_hexWs (strL s) m (by rw [strL_length]; exact hm) hall, strOfNums_strL]
          have HM : Hid _ := hm
          have hm1 : m ≤ 262144 := by omega
          clear hm hpart
          go_wp2_with (first | (go_at_call 19; refine (parseHex_size _ s h8).mono ?_; rintro e w' ⟨rfl, rfl⟩))
          refine (HA.out _).mono ?_
          rintro e w4 (⟨hall, rfl, ow⟩ | ⟨_, rfl, hb⟩)
          · have hb4 := hbc.trans (ow.below.mono hbc.size)
            have r4 := ow.row
            have hT4 := hTc.below ow.below hzc
            have lt4 := ow.lt
            have HE : Hid _ := HEQ.out hall
            clear ow hall
            go_wp2_with fail
            refine (hexAll_any _ hT4 wc.heap.size 0 m m (hexWs (strL s) m) (hexWs_length _ _) (hexWs_wds _ _) r4 (by omega) lt4 (by omega)).mono ?_
            rintro e w6 ⟨rfl, hb6⟩
            rw [HE.out]
            have hb7 := hb4.trans (hb6.mono hb4.size)
            clear hb6 r4 hT4 hb4
            go_wp2
            go_ret
            exact ⟨rfl, hb7⟩
          · have hb4 := hbc.trans (hb.mono hbc.size)
            clear hb
            go_wp2
            go_ret
            exact ⟨rfl, hb4⟩
        · go_wp2_with (first | (go_at_call 19; refine (parseHex_size _ s h8).mono ?_; rintro e w' ⟨rfl, rfl⟩) | (go_at_call 17; refine (parseAll_part _ s (by omega) hpart).mono ?_; rintro e w' ⟨rfl, rfl⟩))
          go_ret
          exact ⟨rfl, hbc⟩
end Go.Proofs.YtlfnpllojinjdaaDoor
