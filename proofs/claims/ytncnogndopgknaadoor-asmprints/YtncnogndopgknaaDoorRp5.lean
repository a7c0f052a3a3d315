/- The document's Print (5). -/
import Derived.Test.YtncnogndopgknaaDoorApp6
namespace Go.Proofs.YtncnogndopgknaaDoor
open Go.RowKit
theorem rtarget_ws (W : World) (hT : TR W) (ws : List Nat) (p n : Nat) (hl : ws.length = n) (hn : n ≤ 2048) (hp : p < n) (hw : ∀ x ∈ ws, x < 4294967296) :
    Calls Tryd.prog 14 #[.int .u32 ((ws.getD p 0 : Nat) : Int), .int .i64 (p : Int), .int .i64 (n : Int)] W fun e w' => e = .returned (.int .i64 (A.tgtM (A.tg ws p))) ∧ Below W.heap.size W w' := by
  have h0 : ws.getD p 0 < 4294967296 := by
    rw [List.getD_eq_getElem?_getD, List.getElem?_eq_getElem (by omega), Option.getD_some]
    exact hw _ (List.getElem_mem _)
  have := rtarget_any W hT ((ws.getD p 0 : Nat) : Int) (by omega) (by omega) p n (by omega) (by omega)
  unfold A.tg
  rw [hl]
  exact this
set_option maxRecDepth 40000 in
set_option maxHeartbeats 2000000 in
theorem rprint_any (W : World) (hT : TR W) (ao : Option Addr) (n c : Nat) (ws : List Nat) (hl : ws.length = n) (hat : AtW W ao ws) (hw : ∀ x ∈ ws, x < 4294967296) (base : Int) :
    Calls Tryd.prog 5 #[.slice ao n c, .int .u32 base] W fun e w' => e = .returned (.tuple #[.string ⟨(A.prt ws).toArray⟩, .int .i64 (A.prtE ws)]) ∧ Below W.heap.size W w' := by
  by_cases hn : n ≤ 2048
  · have HR : Hid (A.prt ws = A.txt ws (n + 1) ∧ A.prtE ws = 0) := hid (by unfold A.prt A.prtE; rw [hl, if_pos hn, if_pos hn]; exact ⟨rfl, rfl⟩)
    rw [HR.out.1, HR.out.2]
    obtain ⟨i9, hi9, hz9, hs9, hb9⟩ := info_parts Tryd.info9
    obtain ⟨i0, hi, hz0, hz1, hz2⟩ := info_parts Tryd.info5
    have n1 : (n : Int) ≤ 2048 := by omega
    have HT : Hid (∀ x, Below W.heap.size W x → TR x) := hid (fun x hx => hT.on hx)
    have HA : Hid (AtW W ao ws) := hat
    have HLN : Hid (ws.length = n) := hl
    have HW : Hid (∀ x ∈ ws, x < 4294967296) := hw
    have HTW : Hid (∀ x p, Below W.heap.size W x → p < n → Calls Tryd.prog 14 #[.int .u32 ((ws.getD p 0 : Nat) : Int), .int .i64 (p : Int), .int .i64 (n : Int)] x fun e w' => e = .returned (.int .i64 (A.tgtM (A.tg ws p))) ∧ Below x.heap.size x w') := hid (fun x p hx hp => rtarget_ws x (HT.out x hx) ws p n hl hn hp hw)
    have HTL : Hid (∀ k, k ≤ n + 1 → (A.txt ws k).length ≤ 210000) := hid (fun k hk => by have := A.txt_len ws (by omega) k (by omega); omega)
    clear hT hat hl hw HR
    go_enter Tryd.func5, Tryd.ntmps5
    go_wp2_with (at_make; refine wpList_make_full _ rfl _ _ 32 rfl W.heap.size 9 i9 (.string ⟨#[]⟩) 1 Tryd.underlying32 hi9 hz9 hs9 .i64 .i64 _ _ (n + 1) rfl rfl (by push_cast; rfl) (by push_cast; rfl) (by rw [hb9]; omega) (by unfold maxLen; omega) (Nat.le_refl _) ?_; intro w1 ho1 hg1)
    have HC1 : Hid (Cel w1 W.heap.size 9 (A.rnms ws 0 0) ∧ Below W.heap.size W w1) := hid ⟨by
      have := (cel_of_own ho1).1
      rw [show (Value.string ⟨#[]⟩).cells = #[.string ⟨#[]⟩] from rfl, made_list] at this
      rw [A.rnms_zero, HLN.out]
      exact this, bl_grown (Below.refl _ W) hg1⟩
    clear ho1 hg1
    generalize hgn : W.heap.size = g at HC1 ⊢
    have HGN : Hid (W.heap.size = g) := hgn
    clear hgn
    go_loopw [8, 9] (fun i _ wr => ∃ k : Nat, k ≤ n ∧ i = .int .i64 k ∧ Hid (Cel wr g 9 (A.rnms ws k 0) ∧ Below W.heap.size W wr)) (fun i _ _ => n - (intOf i).toNat)
    case atStart => exact ⟨0, Nat.zero_le _, rfl, hid ⟨HC1.out.1, by rw [HGN.out]; exact HC1.out.2⟩⟩
    case round =>
      clear HC1
      obtain ⟨k, hk, rfl, HC⟩ := hrel
      by_cases hlt : k < n
      · have c1 : (k : Int) < (n : Int) := by omega
        have hkl : k < ws.length := by rw [HLN.out]; exact hlt
        rcases HA.out with h0 | ⟨b, o, rfl, hb, hc⟩
        · rw [h0] at hkl; simp at hkl
        have hck : wr.cell? ⟨b, o + k, none⟩ = some (.int .u32 ((ws.getD k 0 : Nat) : Int)) := by
          rw [HC.out.2.cell (p := ⟨b, o + k, none⟩) hb, hc k hkl, List.getD_eq_getElem?_getD, List.getElem?_eq_getElem hkl, Option.getD_some]
        have H14 := hid (HTW.out wr k HC.out.2 hlt)
        clear hc
        cases htg : A.tg ws k with
        | none =>
          have HM : Hid (A.rnms ws (k + 1) 0 = A.rnms ws k 0) := hid (A.rnms_unmark ws k htg)
          rw [htg] at H14
          simp only [A.tgtM] at H14
          clear hkl
          generalize ws.getD k 0 = u at *
          go_wp2_with (go_at_call 14; refine H14.out.mono ?_; rintro e w2 ⟨rfl, hb2⟩)
          go_roundw
          case measure => simp [intOf] <;> omega
          case rel => exact ⟨k + 1, by omega, by go_num, hid ⟨by rw [HM.out]; exact HC.out.1.on hb2, below_on HC.out.2 hb2⟩⟩
        | some t =>
          have HM : Hid (A.rnms ws (k + 1) 0 = (A.rnms ws k 0).set t (.string ⟨#[108]⟩)) := hid (A.rnms_mark ws k t htg)
          have ht : t ≤ n := by have := A.tg_le htg; rw [HLN.out] at this; exact this
          have c2 : (t : Int) ≤ (n : Int) := by omega
          obtain ⟨ov, hov⟩ : ∃ ov, (A.rnms ws k 0)[t]? = some (.string ov) := ⟨_, A.rnms_at ws k 0 t (by rw [HLN.out]; exact ht)⟩
          have HMA : Hid ((A.rnms ws k 0)[t]? = some (.string ov)) := hov
          rw [htg] at H14
          simp only [A.tgtM] at H14
          clear hkl hov
          generalize ws.getD k 0 = u at *
          go_wp2_with (go_at_call 14; refine H14.out.mono ?_; rintro e w2 ⟨rfl, hb2⟩; have hmc : w2.cell? ⟨g, t, none⟩ = some (.string ov) := ((HC.out.1.on hb2).cell t).trans HMA.out; have hmf := (HC.out.1.on hb2).free t)
          go_roundw
          case measure => simp [intOf] <;> omega
          case rel => exact ⟨k + 1, by omega, by go_num, hid ⟨by rw [HM.out]; exact (HC.out.1.on hb2).setCell t _, (below_on HC.out.2 hb2).setCell (p := ⟨g, t, none⟩) (by rw [HGN.out]; exact Nat.le_refl _) _⟩⟩
      · obtain rfl : k = n := by omega
        clear hlt hk
        have HC1 : Hid (Cel wr g 9 (A.rnms ws k 0) ∧ Below W.heap.size W wr) := HC
        clear HC
        go_wp2_with fail
        go_loopw [10, 11] (fun ct i wr => ∃ j : Nat, j ≤ k + 1 ∧ i = .int .i64 j ∧ ct = .int .i64 (A.cnt ws j : Nat) ∧ Hid (Cel wr g 9 (A.rnms ws k j) ∧ Below W.heap.size W wr)) (fun _ i _ => k + 1 - (intOf i).toNat)
        case atStart => exact ⟨0, Nat.zero_le _, rfl, rfl, HC1⟩
        case round =>
          clear HC1
          obtain ⟨j, hj, rfl, rfl, HC⟩ := hrel
          by_cases hlt : j < k + 1
          · have c1 : (j : Int) ≤ (k : Int) := by omega
            have hmc : wr.cell? ⟨g, j, none⟩ = some (.string ⟨(if A.met ws k j then [108] else []).toArray⟩) := (HC.out.1.cell j).trans (by rw [A.rnms_at ws k j j (by rw [HLN.out]; omega), if_neg (by omega)])
            have hcn := A.cnt_succ ws j
            have hcl := A.cnt_le ws j
            rw [HLN.out] at hcn
            cases hm : A.met ws k j with
            | false =>
              have HN : Hid (A.rnms ws k (j + 1) = A.rnms ws k j) := hid (by have := A.rnms_no ws j (by rw [HLN.out]; exact hm); rw [HLN.out] at this; exact this)
              rw [hm] at hmc hcn
              have hmc2 : wr.cell? ⟨g, j, none⟩ = some (.string ⟨#[]⟩) := by simpa using hmc
              have HCN : Hid (A.cnt ws (j + 1) = A.cnt ws j) := hid (by simpa using hcn)
              clear hcn hmc
              go_wp2_with fail
              go_roundw
              case measure => simp [intOf] <;> omega
              case rel => exact ⟨j + 1, by omega, by go_num, by rw [HCN.out], hid ⟨by rw [HN.out]; exact HC.out.1, HC.out.2⟩⟩
            | true =>
              have HN : Hid (A.rnms ws k (j + 1) = (A.rnms ws k j).set j (.string ⟨(108 :: Lib.decDigits (A.cnt ws j)).toArray⟩)) := hid (by have := A.rnms_yes ws j; rw [A.nmAt, HLN.out, hm, if_pos rfl] at this; exact this)
              rw [hm] at hmc hcn
              have hmc2 : wr.cell? ⟨g, j, none⟩ = some (.string ⟨#[108]⟩) := by simpa using hmc
              have HCN : Hid (A.cnt ws (j + 1) = A.cnt ws j + 1) := hid (by simpa using hcn)
              have hnf := HC.out.1.free j
              have HTn := hid (rTens_any wr (A.cnt ws j) (by omega))
              have hz := dec_len (A.cnt ws j) (by omega)
              have x2 := bapp 108 (Lib.decDigits (A.cnt ws j))
              have c2 : ((A.cnt ws j : Nat) : Int) ≤ 2049 := by omega
              clear hcn hcl hm hmc
              generalize Lib.decDigits (A.cnt ws j) = dd at *
              generalize hq : A.cnt ws j = q at *
              go_wp2_with (go_at_call 15; refine HTn.out.mono ?_; rintro e w2 ⟨rfl, rfl⟩)
              go_roundw
              case measure => simp [intOf] <;> omega
              case rel => exact ⟨j + 1, by omega, by go_num, by rw [HCN.out]; simp, hid ⟨by rw [HN.out]; exact HC.out.1.setCell j _, HC.out.2.setCell (p := ⟨g, j, none⟩) (by rw [HGN.out]; exact Nat.le_refl _) _⟩⟩
          · obtain rfl : j = k + 1 := by omega
            clear hlt hj
            have HV : Hid (Cel wr g 9 (A.nms ws (k + 1)) ∧ Below W.heap.size W wr) := hid ⟨by have := HC.out.1; rw [show A.rnms ws k (k + 1) = A.nms ws (k + 1) by have := A.rnms_end ws; rw [HLN.out] at this; exact this] at this; exact this, HC.out.2⟩
            clear HC
            generalize wr = V at *
            go_wp2_with fail
            go_loopw [12, 13, 14, 15] (fun out i _ _ wr => ∃ j : Nat, j ≤ k + 1 ∧ i = .int .i64 j ∧ Hid (HB V wr out (A.txt ws j))) (fun _ i _ _ _ => k + 1 - (intOf i).toNat)
            case atStart => exact ⟨0, Nat.zero_le _, rfl, hid (HB.start V)⟩
            case round =>
              obtain ⟨j, hj, rfl, HF⟩ := hrel
              by_cases hlt : j < k + 1
              · have c1 : (j : Int) ≤ (k : Int) := by omega
                have HNC : Hid (∀ x, Below V.heap.size V x → x.cell? ⟨g, j, none⟩ = some (.string ⟨(A.nmAt ws j).toArray⟩)) := hid (fun x hx => by
                  rw [(HV.out.1.on hx).cell j, A.nms_at ws (k + 1) j (by rw [HLN.out]; omega), if_pos hlt])
                have hnc := HNC.out _ HF.out.below
                have hnl := A.nmAt_len ws j (by omega)
                have HTX : Hid (A.txt ws (j + 1) = A.txt ws j ++ A.row ws j) := hid (A.txt_succ ws j)
                have HLK := hid (HTL.out j hj)
                have HRW : Hid (A.row ws j = (if A.nmAt ws j = [] then [] else A.nmAt ws j ++ [58, 10]) ++ (if j < k then A.lin (ws.getD j 0 : Nat) (A.lab ws j) ++ [10] else [])) := hid (by unfold A.row; rw [HLN.out])
                by_cases hkn : j < k
                · have c2 : (j : Int) < (k : Int) := by omega
                  have hkl : j < ws.length := by rw [HLN.out]; exact hkn
                  rcases HA.out with h0 | ⟨b, o, rfl, hb, hc⟩
                  · rw [h0] at hkl; simp at hkl
                  have HU : Hid (∀ x, Below V.heap.size V x → x.cell? ⟨b, o + j, none⟩ = some (.int .u32 ((ws.getD j 0 : Nat) : Int))) := hid (fun x hx => by
                    rw [(HV.out.2.trans (hx.mono HV.out.2.size)).cell (p := ⟨b, o + j, none⟩) hb, hc j hkl, List.getD_eq_getElem?_getD, List.getElem?_eq_getElem hkl, Option.getD_some])
                  have hu : ws.getD j 0 < 4294967296 := by
                    rw [List.getD_eq_getElem?_getD, List.getElem?_eq_getElem hkl, Option.getD_some]
                    exact HW.out _ (List.getElem_mem _)
                  have H14 : Hid (∀ x, Below V.heap.size V x → Calls Tryd.prog 14 #[.int .u32 ((ws.getD j 0 : Nat) : Int), .int .i64 (j : Int), .int .i64 (k : Int)] x fun e w' => e = .returned (.int .i64 (A.tgtM (A.tg ws j))) ∧ Below x.heap.size x w') := hid (fun x hx => HTW.out x j (HV.out.2.trans (hx.mono HV.out.2.size)) hkn)
                  have H16 : Hid (∀ x, Below V.heap.size V x → Calls Tryd.prog 16 #[.int .u32 ((ws.getD j 0 : Nat) : Int), .string ⟨(A.lab ws j).toArray⟩] x fun e w' => e = .returned (.string ⟨(A.lin (ws.getD j 0 : Nat) (A.lab ws j)).toArray⟩) ∧ Below x.heap.size x w') := hid (fun x hx => rtext_any x (HT.out x (HV.out.2.trans (hx.mono HV.out.2.size))) _ (by omega) (by omega) _ (A.lab_len ws j (by rw [HLN.out]; omega)))
                  have hll := A.lin_len (ws.getD j 0 : Nat) (A.lab ws j) (A.lab_len ws j (by rw [HLN.out]; omega))
                  rw [if_pos hkn] at HRW
                  have HLB : Hid ((A.tg ws j = none ∧ A.lab ws j = []) ∨ ∃ t, t ≤ k ∧ A.tg ws j = some t ∧ ∀ x, Below V.heap.size V x → x.cell? ⟨g, t, none⟩ = some (.string ⟨(A.lab ws j).toArray⟩)) := hid (by
                    unfold A.lab
                    cases ht : A.tg ws j with
                    | none => exact .inl ⟨rfl, rfl⟩
                    | some t =>
                      have ht' : t ≤ k := by have := A.tg_le ht; rw [HLN.out] at this; exact this
                      refine .inr ⟨t, ht', rfl, fun x hx => ?_⟩
                      rw [(HV.out.1.on hx).cell t, A.nms_at ws (k + 1) t (by rw [HLN.out]; exact ht'), if_pos (by omega)])
                  clear hc hkl hu HTW
                  generalize A.lin (ws.getD j 0 : Nat) (A.lab ws j) = ln at *
                  generalize A.lab ws j = lb at *
                  generalize ws.getD j 0 = u at *
                  generalize A.row ws j = rw6 at *
                  have hsz := sz ln
                  rcases HLB.out with ⟨htg, hlb⟩ | ⟨t, ht, htg, htc⟩
                  · rw [htg] at H14
                    simp only [A.tgtM] at H14
                    subst hlb
                    clear HLB htg
                    by_cases hnm : A.nmAt ws j = []
                    · rw [hnm] at hnc HRW
                      rw [if_pos rfl, List.nil_append] at HRW
                      have HLL : Hid ((A.txt ws j).length + ln.length + 1 ≤ 210200) := hid (by have := HLK.out; omega)
                      have HFin : Hid (A.txt ws (j + 1) = A.txt ws j ++ (ln ++ [10])) := hid (by rw [HTX.out, HRW.out])
                      clear HLK HTX HRW hnl
                      generalize A.txt ws j = tx at *
                      have hu2 := HU.out _ HF.out.below
                      go_wp2_with (first | (go_at_call 14; refine (H14.out _ HF.out.below).mono ?_; rintro e w7 ⟨rfl, hb7⟩; have HF7 : Hid (HB V w7 _ tx) := hid (HF.out.on hb7); have hu7 := HU.out w7 HF7.out.below) | (go_at_call 16; refine (H16.out _ HF7.out.below).mono ?_; rintro e w8 ⟨rfl, hb8⟩) | (at_builtin; refine wpList_append_text rfl _ _ 35 9 rfl i0 Tryd.underlying35 Tryd.underlying9 hi hz0 hz1 hz2 _ _ rfl (HF7.out.on hb8) _ rfl (by have := HLL.out; simp only [sz]; omega) ?_; intro v9 w9 F9) | (at_builtin; refine wpList_append_bytes rfl _ _ _ rfl i0 Tryd.underlying35 hi hz0 hz1 hz2 _ _ rfl (F9.alloc _) _ _ _ [10] rfl rfl (cells_new _ _ _ _ rfl) (by have := HLL.out; simp only [List.length_append]; simp; omega) ?_; intro v10 w10 F10))
                      go_roundw
                      case measure => simp [intOf] <;> omega
                      case rel => exact ⟨j + 1, by omega, by go_num, hid (by rw [HFin.out]; simpa using F10)⟩
                    · have q : (A.nmAt ws j).isEmpty = false := by cases h : A.nmAt ws j with | nil => exact absurd h hnm | cons a b => rfl
                      rw [if_neg hnm] at HRW
                      have hsn := sz (A.nmAt ws j)
                      have HL0 : Hid ((A.txt ws j).length + (A.nmAt ws j).length + 2 ≤ 210100) := hid (by have := HLK.out; omega)
                      have HLL : Hid ((A.txt ws j ++ A.nmAt ws j ++ [58, 10]).length + ln.length + 1 ≤ 210200) := hid (by have := HLK.out; simp only [List.length_append, List.length_cons, List.length_nil]; omega)
                      have HFin : Hid (A.txt ws (j + 1) = (A.txt ws j ++ A.nmAt ws j ++ [58, 10]) ++ (ln ++ [10])) := hid (by rw [HTX.out, HRW.out]; simp)
                      clear HLK HTX HRW hnm
                      generalize A.txt ws j = tx at *
                      generalize A.nmAt ws j = nm at *
                      go_wp2_with (first | (at_builtin; refine wpList_append_text rfl _ _ 35 9 rfl i0 Tryd.underlying35 Tryd.underlying9 hi hz0 hz1 hz2 _ _ rfl F3 _ rfl (by have := HL0.out; simp only [sz, List.length_append, List.length_cons, List.length_nil]; omega) ?_; intro v4 w4 F4; have hu4 := HU.out _ F4.below) | (at_builtin; refine wpList_append_text rfl _ _ 35 9 rfl i0 Tryd.underlying35 Tryd.underlying9 hi hz0 hz1 hz2 _ _ rfl HF.out _ rfl (by have := HL0.out; simp only [sz]; omega) ?_; intro v3 w3 F3; have hn3 := HNC.out _ F3.below) | fail)
                      have HF4 : Hid (HB V w4 v4 (tx ++ nm ++ [58, 10])) := hid (by simpa using F4)
                      clear F3 F4 hn3 hnc HF HL0 hnl hsn q
                      generalize tx ++ nm ++ [58, 10] = tx2 at *
                      refine (H14.out _ HF4.out.below).mono ?_
                      rintro e w7 ⟨rfl, hb7⟩
                      have HF7 : Hid (HB V w7 v4 tx2) := hid (HF4.out.on hb7)
                      have hu7 := HU.out w7 HF7.out.below
                      go_wp2_with (first | (go_at_call 16; refine (H16.out _ HF7.out.below).mono ?_; rintro e w8 ⟨rfl, hb8⟩) | (at_builtin; refine wpList_append_text rfl _ _ 35 9 rfl i0 Tryd.underlying35 Tryd.underlying9 hi hz0 hz1 hz2 _ _ rfl (HF7.out.on hb8) _ rfl (by have := HLL.out; simp only [sz]; omega) ?_; intro v9 w9 F9) | (at_builtin; refine wpList_append_bytes rfl _ _ _ rfl i0 Tryd.underlying35 hi hz0 hz1 hz2 _ _ rfl (F9.alloc _) _ _ _ [10] rfl rfl (cells_new _ _ _ _ rfl) (by have := HLL.out; simp only [List.length_append]; simp; omega) ?_; intro v10 w10 F10))
                      go_roundw
                      case measure => simp [intOf] <;> omega
                      case rel => exact ⟨j + 1, by omega, by go_num, hid (by rw [HFin.out]; simpa using F10)⟩
                  · rw [htg] at H14
                    simp only [A.tgtM] at H14
                    have c3 : (t : Int) ≤ (k : Int) := by omega
                    have t0 : (0 : Int) ≤ (t : Int) := by omega
                    clear HLB htg
                    by_cases hnm : A.nmAt ws j = []
                    · rw [hnm] at hnc HRW
                      rw [if_pos rfl, List.nil_append] at HRW
                      have HLL : Hid ((A.txt ws j).length + ln.length + 1 ≤ 210200) := hid (by have := HLK.out; omega)
                      have HFin : Hid (A.txt ws (j + 1) = A.txt ws j ++ (ln ++ [10])) := hid (by rw [HTX.out, HRW.out])
                      clear HLK HTX HRW hnl
                      generalize A.txt ws j = tx at *
                      have hu2 := HU.out _ HF.out.below
                      go_wp2_with (first | (go_at_call 14; refine (H14.out _ HF.out.below).mono ?_; rintro e w7 ⟨rfl, hb7⟩; have HF7 : Hid (HB V w7 _ tx) := hid (HF.out.on hb7); have hu7 := HU.out w7 HF7.out.below; have htc2 := htc w7 HF7.out.below) | (go_at_call 16; refine (H16.out _ HF7.out.below).mono ?_; rintro e w8 ⟨rfl, hb8⟩) | (at_builtin; refine wpList_append_text rfl _ _ 35 9 rfl i0 Tryd.underlying35 Tryd.underlying9 hi hz0 hz1 hz2 _ _ rfl (HF7.out.on hb8) _ rfl (by have := HLL.out; simp only [sz]; omega) ?_; intro v9 w9 F9) | (at_builtin; refine wpList_append_bytes rfl _ _ _ rfl i0 Tryd.underlying35 hi hz0 hz1 hz2 _ _ rfl (F9.alloc _) _ _ _ [10] rfl rfl (cells_new _ _ _ _ rfl) (by have := HLL.out; simp only [List.length_append]; simp; omega) ?_; intro v10 w10 F10))
                      go_roundw
                      case measure => simp [intOf] <;> omega
                      case rel => exact ⟨j + 1, by omega, by go_num, hid (by rw [HFin.out]; simpa using F10)⟩
                    · have q : (A.nmAt ws j).isEmpty = false := by cases h : A.nmAt ws j with | nil => exact absurd h hnm | cons a b => rfl
                      rw [if_neg hnm] at HRW
                      have hsn := sz (A.nmAt ws j)
                      have HL0 : Hid ((A.txt ws j).length + (A.nmAt ws j).length + 2 ≤ 210100) := hid (by have := HLK.out; omega)
                      have HLL : Hid ((A.txt ws j ++ A.nmAt ws j ++ [58, 10]).length + ln.length + 1 ≤ 210200) := hid (by have := HLK.out; simp only [List.length_append, List.length_cons, List.length_nil]; omega)
                      have HFin : Hid (A.txt ws (j + 1) = (A.txt ws j ++ A.nmAt ws j ++ [58, 10]) ++ (ln ++ [10])) := hid (by rw [HTX.out, HRW.out]; simp)
                      clear HLK HTX HRW hnm
                      generalize A.txt ws j = tx at *
                      generalize A.nmAt ws j = nm at *
                      go_wp2_with (first | (at_builtin; refine wpList_append_text rfl _ _ 35 9 rfl i0 Tryd.underlying35 Tryd.underlying9 hi hz0 hz1 hz2 _ _ rfl F3 _ rfl (by have := HL0.out; simp only [sz, List.length_append, List.length_cons, List.length_nil]; omega) ?_; intro v4 w4 F4; have hu4 := HU.out _ F4.below) | (at_builtin; refine wpList_append_text rfl _ _ 35 9 rfl i0 Tryd.underlying35 Tryd.underlying9 hi hz0 hz1 hz2 _ _ rfl HF.out _ rfl (by have := HL0.out; simp only [sz]; omega) ?_; intro v3 w3 F3; have hn3 := HNC.out _ F3.below) | fail)
                      have HF4 : Hid (HB V w4 v4 (tx ++ nm ++ [58, 10])) := hid (by simpa using F4)
                      clear F3 F4 hn3 hnc HF HL0 hnl hsn q
                      generalize tx ++ nm ++ [58, 10] = tx2 at *
                      refine (H14.out _ HF4.out.below).mono ?_
                      rintro e w7 ⟨rfl, hb7⟩
                      have HF7 : Hid (HB V w7 v4 tx2) := hid (HF4.out.on hb7)
                      have hu7 := HU.out w7 HF7.out.below
                      have htc2 := htc w7 HF7.out.below
                      go_wp2_with (first | (go_at_call 16; refine (H16.out _ HF7.out.below).mono ?_; rintro e w8 ⟨rfl, hb8⟩) | (at_builtin; refine wpList_append_text rfl _ _ 35 9 rfl i0 Tryd.underlying35 Tryd.underlying9 hi hz0 hz1 hz2 _ _ rfl (HF7.out.on hb8) _ rfl (by have := HLL.out; simp only [sz]; omega) ?_; intro v9 w9 F9) | (at_builtin; refine wpList_append_bytes rfl _ _ _ rfl i0 Tryd.underlying35 hi hz0 hz1 hz2 _ _ rfl (F9.alloc _) _ _ _ [10] rfl rfl (cells_new _ _ _ _ rfl) (by have := HLL.out; simp only [List.length_append]; simp; omega) ?_; intro v10 w10 F10))
                      go_roundw
                      case measure => simp [intOf] <;> omega
                      case rel => exact ⟨j + 1, by omega, by go_num, hid (by rw [HFin.out]; simpa using F10)⟩
                · obtain rfl : j = k := by omega
                  have c2 : ¬ ((j : Int) < (j : Int)) := by omega
                  rw [if_neg hkn, List.append_nil] at HRW
                  by_cases hnm : A.nmAt ws j = []
                  · rw [hnm] at hnc HRW
                    rw [if_pos rfl] at HRW
                    have HFin : Hid (A.txt ws (j + 1) = A.txt ws j) := hid (by rw [HTX.out, HRW.out, List.append_nil])
                    clear HLK HTX HRW hnl hkn
                    go_wp2_with fail
                    go_roundw
                    case measure => simp [intOf] <;> omega
                    case rel => exact ⟨j + 1, by omega, by go_num, hid (by rw [HFin.out]; exact HF.out)⟩
                  · have q : (A.nmAt ws j).isEmpty = false := by cases h : A.nmAt ws j with | nil => exact absurd h hnm | cons a b => rfl
                    rw [if_neg hnm] at HRW
                    have hsn := sz (A.nmAt ws j)
                    have HL0 : Hid ((A.txt ws j).length + (A.nmAt ws j).length + 2 ≤ 210100) := hid (by have := HLK.out; omega)
                    have HFin : Hid (A.txt ws (j + 1) = A.txt ws j ++ A.nmAt ws j ++ [58, 10]) := hid (by rw [HTX.out, HRW.out]; simp)
                    clear HLK HTX HRW hnm hkn
                    generalize A.txt ws j = tx at *
                    generalize A.nmAt ws j = nm at *
                    go_wp2_with (first | (at_builtin; refine wpList_append_text rfl _ _ 35 9 rfl i0 Tryd.underlying35 Tryd.underlying9 hi hz0 hz1 hz2 _ _ rfl F3 _ rfl (by have := HL0.out; simp only [sz, List.length_append, List.length_cons, List.length_nil]; omega) ?_; intro v4 w4 F4) | (at_builtin; refine wpList_append_text rfl _ _ 35 9 rfl i0 Tryd.underlying35 Tryd.underlying9 hi hz0 hz1 hz2 _ _ rfl HF.out _ rfl (by have := HL0.out; simp only [sz]; omega) ?_; intro v3 w3 F3; have hn3 := HNC.out _ F3.below))
                    go_roundw
                    case measure => simp [intOf] <;> omega
                    case rel => exact ⟨j + 1, by omega, by go_num, hid (by rw [HFin.out]; simpa using F4)⟩
              · obtain rfl : j = k + 1 := by omega
                clear hlt hj HTL HTW
                obtain ⟨a9, c9, rfl, hcv⟩ := HF.out.conv
                go_wp2_with fail
                go_ret2
                exact ⟨rfl, HV.out.2.trans (HF.out.below.mono HV.out.2.size)⟩
  · have HR : Hid (A.prt ws = [] ∧ A.prtE ws = 66) := hid (by unfold A.prt A.prtE; rw [hl, if_neg hn, if_neg hn]; exact ⟨rfl, rfl⟩)
    rw [HR.out.1, HR.out.2]
    have n1 : (2048 : Int) < (n : Int) := by omega
    clear hT hat hl hw HR hn
    go_enter Tryd.func5, Tryd.ntmps5
    go_wp2_with fail
    go_ret2
    exact ⟨rfl, Below.refl _ _⟩
end Go.Proofs.YtncnogndopgknaaDoor
