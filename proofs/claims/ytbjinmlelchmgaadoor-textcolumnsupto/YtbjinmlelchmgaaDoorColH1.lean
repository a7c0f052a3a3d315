/- TextColumns (4): the rows are put together; the law. -/
import Derived.Test.YtbjinmlelchmgaaDoorColH0
import Derived.Test.YtbjinmlelchmgaaDoorColT
namespace Go.Proofs.YtbjinmlelchmgaaDoor
open Go.RowKit
set_option maxRecDepth 40000 in
set_option maxHeartbeats 8000000 in
theorem columns_law (W : World) (htab : PowTab W) (ao : Option Addr) (n c : Nat) (tab : List (List Nat)) (hl : tab.length = n) (hn : n ≤ 1048576) (hu : ∀ l ∈ tab, l.length ≤ 1048576 ∧ ∀ u ∈ l, u ≤ 4294967295) (hat : TabAt W ao tab) (hT : (T.columns (T.rowsOf tab)).length ≤ 100000000) :
    Calls Tryd.prog 4 #[.slice ao n c] W fun e W' => e = .returned (.bool true) ∧ Below W.heap.size W W' := by
  obtain ⟨i3, hi3, hza, hzb, hzc⟩ := info_parts Tryd.info3
  obtain ⟨i9, hi9, hzd, hze, hzf⟩ := info_parts Tryd.info9
  obtain ⟨i39, hi39, hzg, hzh, hzi⟩ := info_parts Tryd.info39
  have b1 : (n : Int) ≤ 1048576 := by omega
  have HP : Hid (PowTab W) := htab
  have HA : Hid (TabAt W ao tab) := hat
  have HU : Hid (∀ l ∈ tab, l.length ≤ 1048576 ∧ ∀ u ∈ l, u ≤ 4294967295) := hu
  have HLN : Hid (tab.length = n) := hl
  have HTT : Hid ((T.columns (T.rowsOf tab)).length ≤ 100000000) := hT
  clear htab hat hu hl hT
  go_enter Tryd.func4, Tryd.ntmps4
  go_wp2_with fail
  refine (head_any W HP.out).mono ?_
  rintro e w1 ⟨rfl, hb1⟩
  go_wp2_with fail
  go_loopw [3, 4, 5, 6, 7, 8] (fun v3 v4 v5 i _ _ wr => ∃ k : Nat, k ≤ n ∧ i = .int .i64 k ∧ Out W wr v3 v4 v5 (T.widths ((T.rowsOf tab).take k)).length ((T.rowsOf tab).take k)) (fun _ _ _ i _ _ _ => n - (intOf i).toNat)
  case atStart => exact ⟨0, Nat.zero_le _, rfl, ⟨[], World.ownsRow_nil w1 _ 39 1, fun i h => by simp at h⟩, nums_nil hb1⟩
  case round =>
    clear hb1
    obtain ⟨k, hk, rfl, O⟩ := hrel
    by_cases hlt : k < n
    · have c1 : (k : Int) < (n : Int) := by omega
      have hkl : k < tab.length := by rw [HLN.out]; exact hlt
      rcases HA.out with h0 | ⟨b, off, rfl, hb, hc⟩
      · rw [h0] at hkl; simp at hkl
      · obtain ⟨ai, ci, hck, hs⟩ := hc k hkl
        have hub := HU.out tab[k] (List.getElem_mem _)
        have HTK : Hid ((T.rowsOf tab).take (k + 1) = (T.rowsOf tab).take k ++ [tab[k].map Lib.decDigits]) := hid (by
          rw [T.rowsOf, List.take_succ_eq_append_getElem (by simpa using hkl), List.getElem_map])
        have HCK : Hid (∀ w, Below W.heap.size W w → w.cell? ⟨b, off + k, none⟩ = some (.slice ai tab[k].length ci)) := hid (fun w h => by rw [h.cell (p := ⟨b, off + k, none⟩) hb]; exact hck)
        have HS : Hid (U32sAt W ai tab[k]) := hs
        have HUB : Hid (∀ u ∈ tab[k], u ≤ 4294967295) := hub.2
        have hm1 := hub.1
        clear hc hs hck hub
        generalize tab[k] = l at *
        generalize hM : (T.widths ((T.rowsOf tab).take k)).length = M at *
        obtain ⟨m, hm⟩ : ∃ m, l.length = m := ⟨_, rfl⟩
        rw [hm] at HCK hm1
        have HMN : Hid ((T.widths ((T.rowsOf tab).take (k + 1))).length = max M m) := hid (by rw [HTK.out, T.widths_snoc, T.mrg_length, List.length_map, hM, hm])
        have HML : Hid (l.length = m) := hm
        have b2 : (m : Int) ≤ 1048576 := by omega
        have HI0 := O.begin
        clear hM hm
        go_wp2_with fail
        go_loopw [4, 5, 7, 8] (fun v4 v5 v7 j wx => ∃ t : Nat, t ≤ m ∧ j = .int .i64 t ∧ In W wr wx v4 v5 v7 (max M t) (max M t) ((l.map Lib.decDigits).take t)) (fun _ _ _ j _ => m - (intOf j).toNat)
        case atStart => exact ⟨0, Nat.zero_le _, rfl, by rw [Nat.max_zero]; exact HI0⟩
        case round =>
          clear HI0
          obtain ⟨t, ht, rfl, I⟩ := hrel
          have hck := HCK.out _ I.nums.b.below
          by_cases htm : t < m
          · have c2 : (t : Int) < (m : Int) := by omega
            have htl : t < l.length := by rw [HML.out]; exact htm
            rcases HS.out with h0 | ⟨b2, off2, rfl, hb2, hc2⟩
            · rw [h0] at htl; simp at htl
            · have hct := hc2 t htl
              rw [← I.nums.b.below.cell (p := ⟨b2, off2 + t, none⟩) hb2] at hct
              have HNX : Hid ((l.map Lib.decDigits).take (t + 1) = (l.map Lib.decDigits).take t ++ [Lib.decDigits l[t]]) := hid (take_map_dec l t htl)
              have HTN : Hid (Calls Tryd.prog 10 #[.int .u32 (l[t] : Int)] wr fun e w' => e = .returned (.string ⟨(Lib.decDigits l[t]).toArray⟩) ∧ Below wr.heap.size wr w') := hid (tens_text l[t] (HUB.out _ (List.getElem_mem _)) _ (HP.out.on I.nums.b.below))
              have HCL : Hid (((l.map Lib.decDigits).take t).length = t) := hid (by rw [List.length_take, List.length_map, HML.out]; omega)
              generalize l[t] = u at *
              generalize (l.map Lib.decDigits).take t = cells at *
              clear hc2 htl hkl hb2
              rcases Nat.lt_or_ge t M with hMt | hMt
              · rw [show max M t = M from by omega] at I
                have HMX : Hid (max M (t + 1) = M) := hid (by omega)
                obtain ⟨a4, c4, rfl⟩ := I.form4
                obtain ⟨a5, c5, rfl⟩ := I.symm.form4
                have hne : ((t : Int) == (M : Int)) = false := by simp only [beq_eq_false_iff_ne, ne_eq]; omega
                clear hMt
                go_wp2_with fail
                refine HTN.out.mono ?_
                rintro e w2 ⟨rfl, hb3⟩
                have I2 := I.on hb3
                clear I hct hck
                go_wp2_with (first | (at_builtin; refine wpList_append_raw rfl _ _ 39 9 rfl i9 _ 16 Tryd.underlying39 hi9 hzd hze hzf rfl _ _ _ _ rfl (I2.alloc _).own7 (I2.alloc _).sz _ _ _ rfl (cell_new _ _ _) rfl (by rw [HCL.out]; omega) (by decide) ?_))
                intro v7' w3 h1 h2 _
                have I3 := (I2.alloc _).more h1 h2
                clear h1 h2 I2
                go_wp2_with fail
                exact ⟨⟨t + 1, by omega, by go_num, by rw [HNX.out, HMX.out]; exact I3⟩, by simp [intOf]; omega⟩
              · rw [show max M t = t from by omega] at I
                have HMX : Hid (max M (t + 1) = t + 1) := hid (by omega)
                obtain ⟨a4, c4, rfl⟩ := I.form4
                obtain ⟨a5, c5, rfl⟩ := I.symm.form4
                clear hMt
                go_wp2_with fail
                refine HTN.out.mono ?_
                rintro e w2 ⟨rfl, hb3⟩
                have I2 := I.on hb3
                clear I hct hck
                go_wp2_with (first | (at_builtin; refine wpList_append_raw rfl _ _ 39 9 rfl i9 _ 16 Tryd.underlying39 hi9 hzd hze hzf rfl _ _ _ _ rfl (I2.alloc _).own7 (I2.alloc _).sz _ _ _ rfl (cell_new _ _ _) rfl (by rw [HCL.out]; omega) (by decide) ?_))
                intro v7' w3 h1 h2 _
                have I3 := (I2.alloc _).more h1 h2
                clear h1 h2 I2
                go_wp2_with (first | (at_builtin; refine wpList_append_raw rfl _ _ 38 3 rfl i3 _ 8 Tryd.underlying38 hi3 hza hzb hzc rfl _ _ _ _ rfl (I3.alloc _).own4 (I3.alloc _).nums.b.below.size _ _ _ rfl (cell_new _ _ _) rfl (by omega) (by decide) ?_))
                intro v4' w4 h1 h2 h3
                have I4 := (I3.alloc _).wide h1 h2 (h3.imp id fun h g hg => by have := h g hg; simpa using this)
                clear h1 h2 h3 I3
                go_wp2_with (first | (at_builtin; refine wpList_append_raw rfl _ _ 38 3 rfl i3 _ 8 Tryd.underlying38 hi3 hza hzb hzc rfl _ _ _ _ rfl (I4.alloc _).symm.own4 (I4.alloc _).nums.b.below.size _ _ _ rfl (cell_new _ _ _) rfl (by omega) (by decide) ?_))
                intro v5' w5 h1 h2 h3
                have I5 := ((I4.alloc _).symm.wide h1 h2 (h3.imp id fun h g hg => by have := h g hg; simpa using this)).symm
                clear h1 h2 h3 I4
                go_wp2_with fail
                exact ⟨⟨t + 1, by omega, by go_num, by rw [HNX.out, HMX.out]; exact I5⟩, by simp [intOf]; omega⟩
          · obtain rfl : t = m := by omega
            rw [List.take_of_length_le (by rw [List.length_map, HML.out]; exact Nat.le_refl _)] at I
            have HCL : Hid ((l.map Lib.decDigits).length = t) := hid (by rw [List.length_map, HML.out])
            have HRL : Hid (((T.rowsOf tab).take k).length = k) := hid (by rw [List.length_take, T.rowsOf, List.length_map, HLN.out]; omega)
            obtain ⟨a7, c7, rfl, hst⟩ := I.rowT HCL.out
            have OV := (O.over I).on (w' := wr.alloc (.cells #[.slice a7 t c7] 39)) ((Below.refl _ wr).alloc (Nat.le_refl _) _)
            have hst' := hst.keep (K3.on (w' := wr.alloc (.cells #[.slice a7 t c7] 39)) ((Below.refl _ wr).alloc (Nat.le_refl _) _))
            obtain ⟨xs, own3, hx⟩ := OV.rows
            have HNM : Hid _ := hid OV.nums
            have HX : Hid _ := hid hx
            clear hst O I OV hx hkl hb
            go_wp2_with (first | (at_builtin; refine wpList_append_raw rfl _ _ 37 39 rfl i39 _ 24 Tryd.underlying37 hi39 hzg hzh hzi rfl _ _ _ _ rfl own3 (Nat.le_trans HNM.out.b.below.size (Nat.le_refl _)) _ _ _ rfl (cell_new _ _ _) rfl (by rw [HRL.out]; omega) (by decide) ?_))
            intro v3' w3 h1 h2 _
            have HO : Hid (Out W w3 v3' u4 u5 (T.widths ((T.rowsOf tab).take (k + 1))).length ((T.rowsOf tab).take (k + 1))) := hid (by
              rw [HMN.out, HTK.out]
              exact Out.snoc own3 HX.out HNM.out _ a7 c7 hst' (by rw [HCL.out, List.length_take]; exact h1) h2)
            clear h1 h2 hst' own3
            go_wp2_with fail
            exact ⟨⟨k + 1, by omega, by go_num, HO.out⟩, by simp [intOf]; omega⟩
    · obtain rfl : n = k := by omega
      have hall : (T.rowsOf tab).take n = T.rowsOf tab := List.take_of_length_le (by rw [T.rowsOf, List.length_map, HLN.out]; exact Nat.le_refl _)
      rw [hall] at O
      clear hall
      have hrl : (T.rowsOf tab).length = n := by rw [T.rowsOf, List.length_map, HLN.out]
      obtain ⟨ao3, c3, rfl, RT⟩ := O.rowsT hrl
      have NM := O.nums
      have hrb : ∀ r ∈ T.rowsOf tab, r.length ≤ 1048576 ∧ ∀ x ∈ r, x.length ≤ 10 := by
        intro r hr
        obtain ⟨l, hl, rfl⟩ := List.mem_map.1 hr
        refine ⟨by rw [List.length_map]; exact (HU.out l hl).1, fun x hx => ?_⟩
        obtain ⟨u, hu1, rfl⟩ := List.mem_map.1 hx
        exact T.dec_le u ((HU.out l hl).2 u hu1)
      have HFT : Hid (∀ r ∈ T.rowsOf tab, T.Fits (T.widths (T.rowsOf tab)) r) := hid (fun r hr => fits_rows tab r hr)
      have H10 : Hid (∀ i, (T.widths (T.rowsOf tab)).getD i 0 ≤ 10) := hid (fun i => wide_rows tab (fun l hl => (HU.out l hl).2) i)
      have HMT : Hid (∀ q, q < (T.widths (T.rowsOf tab)).length → ∃ r ∈ T.rowsOf tab, q < r.length ∧ (r.getD q []).length = (T.widths (T.rowsOf tab)).getD q 0) := hid (fun q hq => met_rows tab q hq)
      have HLE : Hid (∀ r ∈ T.rowsOf tab, r.length ≤ (T.widths (T.rowsOf tab)).length) := hid (fun r hr => (T.widths_ge _ r hr).1)
      have HN6 : Hid ((T.widths (T.rowsOf tab)).length ≤ 1048576) := hid ((T.widths_le (T.rowsOf tab) 1048576 (fun r hr => ⟨(hrb r hr).1, fun x hx => by have := (hrb r hr).2 x hx; omega⟩)).1)
      have HCO : Hid (Calls Tryd.prog 12 #[.slice ao3 n c3] wr fun e w' => e = .returned (.string ⟨(T.columns (T.rowsOf tab)).toArray⟩) ∧ Below wr.heap.size wr w') := hid (columns_any wr ao3 n c3 (T.rowsOf tab) hrl (by omega) (fun r hr => ⟨by have := (hrb r hr).1; omega, fun x hx => by have := (hrb r hr).2 x hx; omega⟩) RT.at (by have := HTT.out; omega))
      have HCU : Hid (∀ w, Calls Tryd.prog 11 #[.string ⟨(T.columns (T.rowsOf tab)).toArray⟩] w fun e w' => ∃ v, e = .returned (.tuple #[v, .bool true]) ∧ HV w w' 9 v (strs ((T.rowsOf tab).map (T.line (T.widths (T.rowsOf tab)))))) := hid (fun w => by
        have h1 := cut_any w (T.columns (T.rowsOf tab)) (by have := HTT.out; omega)
        rw [show T.columns (T.rowsOf tab) = T.table (T.rowsOf tab) (T.widths (T.rowsOf tab)) from rfl] at h1 ⊢
        rw [T.cutS_table _ _ (fun r hr => T.line_no10 (HFT.out r hr))] at h1
        simpa using h1)
      have HRL : Hid ((T.rowsOf tab).length = n) := hrl
      generalize T.rowsOf tab = rows at *
      generalize hws : T.widths rows = ws at *
      have HWS : Hid (T.widths rows = ws) := hws
      generalize hN : ws.length = N at *
      have HN : Hid (ws.length = N) := hN
      obtain ⟨a4, c4, rfl⟩ := NM.b.anyN (n := N) (by rw [ints_length, List.length_replicate])
      obtain ⟨a5, c5, rfl⟩ := NM.c.anyN (n := N) (by rw [ints_length, List.length_replicate])
      clear O hrb hrl hws hN
      go_upto_region 18 with fail
      go_cut [9, 10] (fun p q w => ∃ a9 c9, p = .slice a9 n c9 ∧ q = .bool true ∧ RowsT w ao3 rows ∧ Nums W w (.slice a4 N c4) (.slice a5 N c5) (List.replicate N 0) (List.replicate N 0) ∧ HV W w 9 (.slice a9 n c9) (strs (rows.map (T.line ws))))
      case first =>
        generalize T.columns rows = txt at *
        go_wp2_with fail
        refine HCO.out.mono ?_
        rintro e w2 ⟨rfl, hb2⟩
        go_wp2_with fail
        refine (HCU.out _).mono ?_
        rintro e w3 ⟨v9, rfl, LV⟩
        obtain ⟨a9, c9, rfl⟩ := LV.anyN (n := n) (by rw [strs_length, List.length_map, HRL.out])
        have RT3 := (RT.on hb2).on LV.below
        have NM3 := (NM.on hb2).on LV.below
        have LV3 := LV.wide (NM.on hb2).b.below
        clear RT NM LV
        go_wp2_with fail
        go_meet
        exact ⟨a9, c9, rfl, rfl, RT3, NM3, LV3⟩
      case rest =>
        obtain ⟨a9, c9, rfl, rfl, RT3, NM3, LV3⟩ := hcut
        exact (‹∀ (a : Act) (w : World), Code.wp Tryd.prog _ _ a w → _› _ _ (colT W _ rows ws n N ao3 a4 a5 a9 c3 c4 c5 c9 RT3 NM3 LV3 HRL.out (by omega) (by have := HN6.out; omega) HFT.out (by rw [HWS.out]; exact HN.out) HLE.out H10.out HMT.out))
end Go.Proofs.YtbjinmlelchmgaaDoor
