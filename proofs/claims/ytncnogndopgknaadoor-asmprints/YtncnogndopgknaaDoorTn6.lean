/- asm's targetNames (9), labelOf (12). -/
import Derived.Test.YtncnogndopgknaaDoorPm6
namespace Go.Proofs.YtncnogndopgknaaDoor
open Go.RowKit
theorem Tryd.info4 : (Tryd.prog.info? 4).map (fun i => (i.zero, i.size, i.bytes)) = some (some (.bool false), 1, 1) := by kernel_rfl
theorem Tryd.info9 : (Tryd.prog.info? 9).map (fun i => (i.zero, i.size, i.bytes)) = some (some (.string ⟨#[]⟩), 1, 16) := by kernel_rfl
theorem bl_grown {W w w' : World} (h : Below W.heap.size W w) (hg : w.grownBy w' none) : Below W.heap.size W w' := h.grown hg h.size (fun g hg => by cases hg)
theorem cel_grown {w w' : World} {g : Nat} {t : TypeId} {cs : List Value} (h : Cel w g t cs) (hg : w.grownBy w' none) : Cel w' g t cs := (hg.block g h.lt (by simp)).trans h
/-- What targetOf tells, in the words of the list. -/
theorem target_ws (W : World) (hT : TB W) (ws : List Nat) (p n : Nat) (hl : ws.length = n) (hn : n ≤ 2048) (hp : p < n) (hw : ∀ x ∈ ws, x < 4294967296) :
    Calls Tryd.prog 17 #[.int .u32 ((ws.getD p 0 : Nat) : Int), .int .i64 (p : Int), .int .i64 (n : Int)] W fun e w' => (∃ x : Int, e = .returned (.tuple #[.int .i64 x, .bool (A.tg ws p).isSome]) ∧ ∀ t, A.tg ws p = some t → x = (t : Int)) ∧ Below W.heap.size W w' := by
  have h0 : ws.getD p 0 < 4294967296 := by
    rw [List.getD_eq_getElem?_getD, List.getElem?_eq_getElem (by omega), Option.getD_some]
    exact hw _ (List.getElem_mem _)
  have := targetOf_any W hT ((ws.getD p 0 : Nat) : Int) (by omega) (by omega) p n (by omega) (by omega)
  unfold A.tg
  rw [hl]
  exact this
set_option maxRecDepth 40000 in
set_option maxHeartbeats 2000000 in
theorem targetNames_any (W : World) (hT : TB W) (ao : Option Addr) (n c : Nat) (ws : List Nat) (hl : ws.length = n) (hn : n ≤ 2048) (hat : AtW W ao ws) (hw : ∀ x ∈ ws, x < 4294967296) :
    Calls Tryd.prog 9 #[.slice ao n c] W fun e w' => (∃ g, e = .returned (.slice (some ⟨g, 0, none⟩) (n + 1) (n + 1)) ∧ W.heap.size ≤ g ∧ Cel w' g 9 (A.nms ws (n + 1))) ∧ Below W.heap.size W w' := by
  obtain ⟨i4, hi4, hz4, hs4, hb4⟩ := info_parts Tryd.info4
  obtain ⟨i9, hi9, hz9, hs9, hb9⟩ := info_parts Tryd.info9
  have HT : Hid (∀ x, Below W.heap.size W x → TB x) := hid (fun x hx => hT.on hx)
  have n1 : (n : Int) ≤ 2048 := by omega
  have HA : Hid (AtW W ao ws) := hat
  have HLN : Hid (ws.length = n) := hl
  have HTW : Hid (∀ x p, Below W.heap.size W x → p < n → Calls Tryd.prog 17 #[.int .u32 ((ws.getD p 0 : Nat) : Int), .int .i64 (p : Int), .int .i64 (n : Int)] x fun e w' => (∃ x : Int, e = .returned (.tuple #[.int .i64 x, .bool (A.tg ws p).isSome]) ∧ ∀ t, A.tg ws p = some t → x = (t : Int)) ∧ Below x.heap.size x w') := hid (fun x p hx hp => target_ws x (HT.out x hx) ws p n hl hn hp hw)
  clear hT hat hl hw
  go_enter Tryd.func9, Tryd.ntmps9
  go_wp2_with (at_make; refine wpList_make_full _ rfl _ _ 46 rfl W.heap.size 4 i4 (.bool false) 1 Tryd.underlying46 hi4 hz4 hs4 .i64 .i64 _ _ (n + 1) rfl rfl (by push_cast; rfl) (by push_cast; rfl) (by rw [hb4]; omega) (by unfold maxLen; omega) (Nat.le_refl _) ?_; intro w1 ho1 hg1)
  have HC1 : Hid (Cel w1 W.heap.size 4 (A.mets ws 0) ∧ Below W.heap.size W w1) := hid ⟨by
    have := (cel_of_own ho1).1
    rw [show (Value.bool false).cells = #[.bool false] from rfl, made_list] at this
    rw [A.mets_zero, HLN.out]
    exact this, bl_grown (Below.refl _ W) hg1⟩
  clear ho1 hg1
  generalize hgm : W.heap.size = gm at HC1 ⊢
  have HGM : Hid (W.heap.size = gm) := hgm
  clear hgm
  go_loopw [4, 5, 6, 7, 17] (fun _ _ _ _ i wr => ∃ k : Nat, k ≤ n ∧ i = .int .i64 k ∧ Hid (Cel wr gm 4 (A.mets ws k) ∧ Below W.heap.size W wr)) (fun _ _ _ _ i _ => n - (intOf i).toNat)
  case atStart => exact ⟨0, Nat.zero_le _, rfl, hid ⟨HC1.out.1, by rw [HGM.out]; exact HC1.out.2⟩⟩
  case round =>
    clear HC1
    obtain ⟨k, hk, rfl, HC⟩ := hrel
    by_cases hlt : k < n
    · have c1 : (k : Int) < (n : Int) := by omega
      have hkl : k < ws.length := by rw [HLN.out]; exact hlt
      rcases HA.out with h0 | ⟨b, o, rfl, hb, hc⟩
      · rw [h0] at hkl; simp at hkl
      have hck : wr.cell? ⟨b, o + k, none⟩ = some (.int .u32 ((ws.getD k 0 : Nat) : Int)) := by
        rw [HC.out.2.cell (p := ⟨b, o + k, none⟩) hb, hc k hkl, List.getD_eq_getElem?_getD, List.getElem?_eq_getElem hkl, Option.getD_some]
      have H17 := hid (HTW.out wr k HC.out.2 hlt)
      clear hc
      cases htg : A.tg ws k with
      | none =>
        have HM : Hid (A.mets ws (k + 1) = A.mets ws k) := hid (A.mets_no ws k htg)
        rw [htg] at H17
        clear hkl
        generalize ws.getD k 0 = u at *
        go_wp2_with (go_at_call 17; refine H17.out.mono ?_; rintro e w2 ⟨⟨x, rfl, hx⟩, hb2⟩)
        go_roundw
        case measure => simp [intOf]; omega
        case rel => exact ⟨k + 1, by omega, by go_num, hid ⟨by rw [HM.out]; exact HC.out.1.on hb2, below_on HC.out.2 hb2⟩⟩
      | some t =>
        have HM : Hid (A.mets ws (k + 1) = (A.mets ws k).set t (.bool true)) := hid (A.mets_yes ws k t htg)
        have ht : t ≤ n := by have := A.tg_le htg; rw [HLN.out] at this; exact this
        have c2 : (t : Int) ≤ (n : Int) := by omega
        have HMA : Hid ((A.mets ws k)[t]? = some (.bool (A.met ws k t))) := hid (A.mets_at ws k t (by rw [HLN.out]; exact ht))
        rw [htg] at H17
        clear hkl
        generalize ws.getD k 0 = u at *
        go_wp2_with (go_at_call 17; refine H17.out.mono ?_; rintro e w2 ⟨⟨x, rfl, hx⟩, hb2⟩; obtain rfl := hx t rfl; have hmc : w2.cell? ⟨gm, t, none⟩ = some (.bool (A.met ws k t)) := ((HC.out.1.on hb2).cell t).trans HMA.out; have hmf := (HC.out.1.on hb2).free t)
        go_roundw
        case measure => simp [intOf]; omega
        case rel => exact ⟨k + 1, by omega, by go_num, hid ⟨by rw [HM.out]; exact (HC.out.1.on hb2).setCell t _, (below_on HC.out.2 hb2).setCell (p := ⟨gm, t, none⟩) (by rw [HGM.out]; exact Nat.le_refl _) _⟩⟩
    · obtain rfl : k = n := by omega
      clear hlt hk HTW HA
      have HBZ : Hid (Below W.heap.size W wr ∧ gm < wr.heap.size) := hid ⟨HC.out.2, HC.out.1.lt⟩
      go_wp2_with (at_make; refine wpList_make_full _ rfl _ _ 32 rfl wr.heap.size 9 i9 (.string ⟨#[]⟩) 1 Tryd.underlying32 hi9 hz9 hs9 .i64 .i64 _ _ (k + 1) rfl rfl (by push_cast; rfl) (by push_cast; rfl) (by rw [hb9]; omega) (by unfold maxLen; omega) (Nat.le_refl _) ?_; intro w1 ho1 hg1)
      have HC1 : Hid (Cel w1 wr.heap.size 9 (A.nms ws 0) ∧ Cel w1 gm 4 (A.mets ws k) ∧ Below W.heap.size W w1) := hid ⟨by
        have := (cel_of_own ho1).1
        rw [show (Value.string ⟨#[]⟩).cells = #[.string ⟨#[]⟩] from rfl, made_list] at this
        rw [A.nms_zero, HLN.out]
        exact this, cel_grown HC.out.1 hg1, bl_grown HC.out.2 hg1⟩
      have HGN : Hid (W.heap.size ≤ wr.heap.size ∧ wr.heap.size ≠ gm) := hid ⟨HBZ.out.1.size, by have := HBZ.out.2; omega⟩
      clear ho1 hg1 HC HBZ
      generalize wr.heap.size = gn at *
      go_loopw [9, 10, 41] (fun ct _ i wr => ∃ j : Nat, j ≤ k + 1 ∧ i = .int .i64 j ∧ ct = .int .u32 (A.cnt ws j : Nat) ∧ Hid (Cel wr gn 9 (A.nms ws j) ∧ Cel wr gm 4 (A.mets ws k) ∧ Below W.heap.size W wr)) (fun _ _ i _ => k + 1 - (intOf i).toNat)
      case atStart => exact ⟨0, Nat.zero_le _, rfl, rfl, HC1⟩
      case round =>
        clear HC1
        obtain ⟨j, hj, rfl, rfl, HC⟩ := hrel
        by_cases hlt : j < k + 1
        · have c1 : (j : Int) < (k : Int) + 1 := by omega
          have hmc : wr.cell? ⟨gm, j, none⟩ = some (.bool (A.met ws k j)) := (HC.out.2.1.cell j).trans (A.mets_at ws k j (by rw [HLN.out]; omega))
          have hcn := A.cnt_succ ws j
          have hcl := A.cnt_le ws j
          rw [HLN.out] at hcn
          cases hm : A.met ws k j with
          | false =>
            have HN : Hid (A.nms ws (j + 1) = A.nms ws j) := hid (A.nms_no ws j (by rw [HLN.out]; exact hm))
            rw [hm] at hmc hcn
            have HCN : Hid (A.cnt ws (j + 1) = A.cnt ws j) := hid (by simpa using hcn)
            clear hcn
            go_wp2_with fail
            go_roundw
            case measure => simp [intOf]; omega
            case rel => exact ⟨j + 1, by omega, by go_num, by rw [HCN.out], hid ⟨by rw [HN.out]; exact HC.out.1, HC.out.2⟩⟩
          | true =>
            have HN : Hid (A.nms ws (j + 1) = (A.nms ws j).set j (.string ⟨(108 :: Lib.decDigits (A.cnt ws j)).toArray⟩)) := hid (by rw [A.nms_yes, A.nmAt, HLN.out, hm, if_pos rfl])
            rw [hm] at hmc hcn
            have HCN : Hid (A.cnt ws (j + 1) = A.cnt ws j + 1) := hid (by simpa using hcn)
            have hnc : wr.cell? ⟨gn, j, none⟩ = some (.string ⟨#[]⟩) := (HC.out.1.cell j).trans (by rw [A.nms_at ws j j (by rw [HLN.out]; omega)]; simp)
            have HTn := hid (tens_text (A.cnt ws j) (by omega) wr (HT.out wr HC.out.2.2).p)
            have hz := dec_len (A.cnt ws j) (by omega)
            have x2 := bapp 108 (Lib.decDigits (A.cnt ws j))
            have c2 : ((A.cnt ws j : Nat) : Int) ≤ 2049 := by omega
            have e1 : (((A.cnt ws j : Nat) : Int) + 1) % 4294967296 = ((A.cnt ws j : Nat) : Int) + 1 := by omega
            clear hcn hcl hm
            generalize Lib.decDigits (A.cnt ws j) = dd at *
            generalize hq : A.cnt ws j = q at *
            go_wp2_with (go_at_call 18; refine HTn.out.mono ?_; rintro e w2 ⟨rfl, hb2⟩; rw [← hb2.cell (p := ⟨gn, j, none⟩) HC.out.1.lt] at hnc; have hnf := (HC.out.1.on hb2).free j)
            go_roundw
            case measure => simp [intOf]; omega
            case rel => exact ⟨j + 1, by omega, by go_num, by rw [HCN.out]; simp, hid ⟨by rw [HN.out]; exact (HC.out.1.on hb2).setCell j _, (HC.out.2.1.on hb2).setOther HGN.out.2 j _, (below_on HC.out.2.2 hb2).setCell (p := ⟨gn, j, none⟩) HGN.out.1 _⟩⟩
        · obtain rfl : j = k + 1 := by omega
          clear hlt hj
          go_wp2_with fail
          go_ret
          exact ⟨⟨gn, rfl, HGN.out.1, HC.out.1⟩, HC.out.2.2⟩
end Go.Proofs.YtncnogndopgknaaDoor
