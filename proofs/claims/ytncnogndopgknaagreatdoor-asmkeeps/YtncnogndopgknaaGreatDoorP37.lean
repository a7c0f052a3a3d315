import Derived.Test.YtncnogndopgknaaGreatDoorP36
import Derived.OwnWalk
import Derived.Test.YtncnogndopgknaaGreatDoorP11
namespace Go.Proofs.YtncnogndopgknaaGreatDoor
open Go.RowKit
namespace A
theorem met_succ (ws : List Nat) (k j : Nat) : met ws (k + 1) j = (met ws k j || (tg ws k == some j)) := by simp [met, List.range_succ]
theorem met_zero (ws : List Nat) (j : Nat) : met ws 0 j = false := by simp [met]
theorem nmAt_len (ws : List Nat) (j : Nat) (h : j ≤ 4294967295) : (nmAt ws j).length ≤ 11 := by
  unfold nmAt
  split
  · have := dec_len (cnt ws j) (by have := cnt_le ws j; omega)
    simp only [List.length_cons]
    omega
  · simp
theorem lab_len (ws : List Nat) (p : Nat) (h : ws.length ≤ 1000000000) : (lab ws p).length ≤ 20 := by
  unfold lab
  split
  · rename_i t ht
    have := nmAt_len ws t (by have := tg_le ht; omega)
    omega
  · simp
theorem row_len (ws : List Nat) (p : Nat) (h : ws.length ≤ 1000000000) (hp : p ≤ ws.length) : (row ws p).length ≤ 100 := by
  have h1 := nmAt_len ws p (by omega)
  have h2 := lin_len (ws.getD p 0 : Nat) (lab ws p) (lab_len ws p h)
  unfold row
  rw [List.length_append]
  have e1 : (if nmAt ws p = [] then ([] : List UInt8) else nmAt ws p ++ [58, 10]).length ≤ 13 := by
    split
    · simp
    · simp only [List.length_append, List.length_cons, List.length_nil]; omega
  have e2 : (if p < ws.length then lin (ws.getD p 0 : Nat) (lab ws p) ++ [10] else ([] : List UInt8)).length ≤ 81 := by
    split
    · simp only [List.length_append, List.length_cons, List.length_nil]; omega
    · simp
  omega
theorem txt_len (ws : List Nat) (h : ws.length ≤ 1000000000) : ∀ k, k ≤ ws.length + 1 → (txt ws k).length ≤ 100 * k
  | 0, _ => by simp [txt]
  | k + 1, hk => by
    have ih := txt_len ws h k (by omega)
    have := row_len ws k h (by omega)
    rw [txt_succ, List.length_append]
    omega
def mets (ws : List Nat) (k : Nat) : List Value := (List.range (ws.length + 1)).map fun j => .bool (met ws k j)
def nms (ws : List Nat) (k : Nat) : List Value := (List.range (ws.length + 1)).map fun j => .string ⟨(if j < k then nmAt ws j else []).toArray⟩
def rnms (ws : List Nat) (m k : Nat) : List Value := (List.range (ws.length + 1)).map fun j => .string ⟨(if j < k then nmAt ws j else if met ws m j then [108] else []).toArray⟩
theorem range_map_set (f g : Nat → Value) (n t : Nat) (v : Value) (h1 : g t = v) (h2 : ∀ j, j < n → j ≠ t → g j = f j) : (List.range n).map g = ((List.range n).map f).set t v := by
  apply List.ext_getElem?
  intro i
  rw [List.getElem?_set, List.getElem?_map, List.getElem?_map]
  by_cases hi : i < n
  · by_cases ht : t = i
    · subst ht
      simp [hi, h1]
    · rw [if_neg ht]
      simp [hi, h2 i hi (Ne.symm ht)]
  · have : (List.range n)[i]? = none := by simp; omega
    rw [this]
    by_cases ht : t = i
    · subst ht; simp [hi]
    · simp [ht]
theorem mets_yes (ws : List Nat) (k t : Nat) (h : tg ws k = some t) : mets ws (k + 1) = (mets ws k).set t (.bool true) :=
  range_map_set _ _ _ _ _ (by simp [met_succ, h]) (fun j _ hj => by
    have : (some t == some j) = false := by simp; omega
    simp [met_succ, h, this])
theorem mets_no (ws : List Nat) (k : Nat) (h : tg ws k = none) : mets ws (k + 1) = mets ws k := by simp [mets, met_succ, h]
theorem nms_yes (ws : List Nat) (k : Nat) : nms ws (k + 1) = (nms ws k).set k (.string ⟨(nmAt ws k).toArray⟩) :=
  range_map_set _ _ _ _ _ (by simp) (fun j _ hj => by
    by_cases h : j < k
    · simp [h, show j < k + 1 by omega]
    · simp [h, show ¬ j < k + 1 by omega])
theorem nms_no (ws : List Nat) (k : Nat) (h : met ws ws.length k = false) : nms ws (k + 1) = nms ws k := by
  unfold nms
  apply List.map_congr_left
  intro j _
  by_cases h1 : j < k
  · simp [h1, show j < k + 1 by omega]
  · by_cases h2 : j = k
    · subst h2; simp [nmAt, h]
    · simp [h1, show ¬ j < k + 1 by omega]
theorem mets_at (ws : List Nat) (k j : Nat) (h : j ≤ ws.length) : (mets ws k)[j]? = some (.bool (met ws k j)) := by simp [mets, show j < ws.length + 1 by omega]
theorem nms_at (ws : List Nat) (k j : Nat) (h : j ≤ ws.length) : (nms ws k)[j]? = some (.string ⟨(if j < k then nmAt ws j else []).toArray⟩) := by simp [nms, show j < ws.length + 1 by omega]
theorem mets_zero (ws : List Nat) : mets ws 0 = List.replicate (ws.length + 1) (.bool false) := by
  unfold mets
  rw [List.eq_replicate_iff]
  exact ⟨by simp, fun v hv => by obtain ⟨j, _, rfl⟩ := List.mem_map.1 hv; rw [met_zero]⟩
theorem nms_zero (ws : List Nat) : nms ws 0 = List.replicate (ws.length + 1) (.string ⟨#[]⟩) := by
  unfold nms
  rw [List.eq_replicate_iff]
  exact ⟨by simp, fun v hv => by obtain ⟨j, _, rfl⟩ := List.mem_map.1 hv; simp⟩
end A
theorem cel_of_own {w : World} {B g n : Nat} {e : TypeId} {xs : List Value} (h : w.ownsRow B e 1 (.slice (some ⟨g, 0, none⟩) n n) n xs) : Cel w g e xs ∧ B ≤ g := by
  rcases h.2 with ⟨h0, _⟩ | ⟨g', cap, cur, h1, h2, h3, h4, h5, h6, h7⟩
  · cases h0
  · injection h1 with a1 a2 a3
    injection a1 with a1
    injection a1 with a1
    subst a1 a3
    rw [Nat.mul_one] at h6 h7
    have hx : xs = cur.toList := by rw [← h7, List.take_of_length_le (by simp; omega)]
    refine ⟨?_, h2⟩
    unfold Cel
    rw [h3, hx]
theorem made_list (z : Value) (n : Nat) : (madeCells #[z] (n * 1)).toList = List.replicate n z := by
  rw [List.eq_replicate_iff]
  refine ⟨by simp [madeCells], fun v hv => ?_⟩
  simp only [madeCells, Array.toList_map, List.mem_map] at hv
  obtain ⟨j, _, rfl⟩ := hv
  simp [Nat.mod_one]
theorem Cel.setCell {w : World} {g : Nat} {t : TypeId} {cs : List Value} (h : Cel w g t cs) (j : Nat) (v : Value) : Cel (w.setCell ⟨g, j, none⟩ v) g t (cs.set j v) := by
  unfold Cel
  rw [heap_setCell_same w g j _ t _ h]
  simp
theorem Cel.setOther {w : World} {g g' : Nat} {t : TypeId} {cs : List Value} (h : Cel w g t cs) (hne : g' ≠ g) (j : Nat) (v : Value) : Cel (w.setCell ⟨g', j, none⟩ v) g t cs := by
  unfold Cel
  rw [heap_setCell_other w ⟨g', j, none⟩ g v (Ne.symm hne)]
  exact h
theorem Cel.free {w : World} {g : Nat} {t : TypeId} {cs : List Value} (h : Cel w g t cs) (j : Nat) : w.frozen? ⟨g, j, none⟩ = false := Lib.frozen_of_heap h j
def AtW (w : World) (ao : Option Addr) (l : List Nat) : Prop := l = [] ∨ ∃ b o, ao = some ⟨b, o, none⟩ ∧ b < w.heap.size ∧ ∀ i (h : i < l.length), w.cell? ⟨b, o + i, none⟩ = some (.int .u32 (l[i] : Nat))
theorem AtW.on {W w : World} {ao : Option Addr} {l : List Nat} (h : AtW W ao l) (hb : Below W.heap.size W w) : AtW w ao l := by
  rcases h with h0 | ⟨b, o, e, hlt, hc⟩
  · exact .inl h0
  · exact .inr ⟨b, o, e, Nat.lt_of_lt_of_le hlt hb.size, fun i hi => by rw [hb.cell (p := ⟨b, o + i, none⟩) hlt]; exact hc i hi⟩
end Go.Proofs.YtncnogndopgknaaGreatDoor
namespace Go.Proofs.YtncnogndopgknaaGreatDoor
open Go.RowKit
theorem Tryz.info4 : (Tryz.prog.info? 4).map (fun i => (i.zero, i.size, i.bytes)) = some (some (.bool false), 1, 1) := by kernel_rfl
theorem Tryz.info9 : (Tryz.prog.info? 9).map (fun i => (i.zero, i.size, i.bytes)) = some (some (.string ⟨#[]⟩), 1, 16) := by kernel_rfl
theorem bl_grown {W w w' : World} (h : Below W.heap.size W w) (hg : w.grownBy w' none) : Below W.heap.size W w' := h.grown hg h.size (fun g hg => by cases hg)
theorem cel_grown {w w' : World} {g : Nat} {t : TypeId} {cs : List Value} (h : Cel w g t cs) (hg : w.grownBy w' none) : Cel w' g t cs := (hg.block g h.lt (by simp)).trans h
theorem target_ws (W : World) (hT : TB W) (ws : List Nat) (p n : Nat) (hl : ws.length = n) (hn : n ≤ 2048) (hp : p < n) (hw : ∀ x ∈ ws, x < 4294967296) :
    Calls Tryz.prog 50 #[.int .u32 ((ws.getD p 0 : Nat) : Int), .int .i64 (p : Int), .int .i64 (n : Int)] W fun e w' => (∃ x : Int, e = .returned (.tuple #[.int .i64 x, .bool (A.tg ws p).isSome]) ∧ ∀ t, A.tg ws p = some t → x = (t : Int)) ∧ Below W.heap.size W w' := by
  have h0 : ws.getD p 0 < 4294967296 := by
    rw [List.getD_eq_getElem?_getD, List.getElem?_eq_getElem (by omega), Option.getD_some]
    exact hw _ (List.getElem_mem _)
  have := targetOf_any W hT ((ws.getD p 0 : Nat) : Int) (by omega) (by omega) p n (by omega) (by omega)
  unfold A.tg
  rw [hl]
  exact this
set_option maxRecDepth 40000 in
set_option maxHeartbeats 2000000 in
theorem targetNames_any (W : World) (hT : TB W) (ao : Option Addr) (n c : Nat) (ws : List Nat) (hl : ws.length = n) (hn : n ≤ 2048) (hat : AtW W ao ws) (hw : ∀ x ∈ ws, x < 4294967296) :
    Calls Tryz.prog 30 #[.slice ao n c] W fun e w' => (∃ g, e = .returned (.slice (some ⟨g, 0, none⟩) (n + 1) (n + 1)) ∧ W.heap.size ≤ g ∧ Cel w' g 9 (A.nms ws (n + 1))) ∧ Below W.heap.size W w' := by
  obtain ⟨i4, hi4, hz4, hs4, hb4⟩ := info_parts Tryz.info4
  obtain ⟨i9, hi9, hz9, hs9, hb9⟩ := info_parts Tryz.info9
  have HT : Hid (∀ x, Below W.heap.size W x → TB x) := hid (fun x hx => hT.on hx)
  have n1 : (n : Int) ≤ 2048 := by omega
  have HA : Hid (AtW W ao ws) := hat
  have HLN : Hid (ws.length = n) := hl
  have HTW : Hid (∀ x p, Below W.heap.size W x → p < n → Calls Tryz.prog 50 #[.int .u32 ((ws.getD p 0 : Nat) : Int), .int .i64 (p : Int), .int .i64 (n : Int)] x fun e w' => (∃ x : Int, e = .returned (.tuple #[.int .i64 x, .bool (A.tg ws p).isSome]) ∧ ∀ t, A.tg ws p = some t → x = (t : Int)) ∧ Below x.heap.size x w') := hid (fun x p hx hp => target_ws x (HT.out x hx) ws p n hl hn hp hw)
  clear hT hat hl hw
  go_enter Tryz.func30, Tryz.ntmps30
  go_wp2_with (at_make; refine wpList_make_full _ rfl _ _ 132 rfl W.heap.size 4 i4 (.bool false) 1 Tryz.underlying132 hi4 hz4 hs4 .i64 .i64 _ _ (n + 1) rfl rfl (by push_cast; rfl) (by push_cast; rfl) (by rw [hb4]; omega) (by unfold maxLen; omega) (Nat.le_refl _) ?_; intro w1 ho1 hg1)
  have HC1 : Hid (Cel w1 W.heap.size 4 (A.mets ws 0) ∧ Below W.heap.size W w1) := hid ⟨by
    have := (cel_of_own ho1).1
    rw [show (Value.bool false).cells = #[.bool false] from rfl, made_list] at this
    rw [A.mets_zero, HLN.out]
    exact this, bl_grown (Below.refl _ W) hg1⟩
  clear ho1 hg1
  generalize hgm : W.heap.size = gm at HC1 ⊢
  have HGM : Hid (W.heap.size = gm) := hgm
  clear hgm
  go_loopw [4, 5, 6, 7, 17] (fun _ _ _ _ i wr => ∃ k : Nat, k ≤ n ∧ i = .int .i64 k ∧ Hid (Cel wr gm 4 (A.mets ws k) ∧ Below W.heap.size W wr)) (fun _ _ _ _ i _ => n - (intOf i).toNat)
  case atStart => exact ⟨0, Nat.zero_le _, rfl, hid ⟨HC1.out.1, by rw [HGM.out]; exact HC1.out.2⟩⟩
  case round =>
    clear HC1
    obtain ⟨k, hk, rfl, HC⟩ := hrel
    by_cases hlt : k < n
    · have c1 : (k : Int) < (n : Int) := by omega
      have hkl : k < ws.length := by rw [HLN.out]; exact hlt
      rcases HA.out with h0 | ⟨b, o, rfl, hb, hc⟩
      · rw [h0] at hkl; simp at hkl
      have hck : wr.cell? ⟨b, o + k, none⟩ = some (.int .u32 ((ws.getD k 0 : Nat) : Int)) := by
        rw [HC.out.2.cell (p := ⟨b, o + k, none⟩) hb, hc k hkl, List.getD_eq_getElem?_getD, List.getElem?_eq_getElem hkl, Option.getD_some]
      have H17 := hid (HTW.out wr k HC.out.2 hlt)
      clear hc
      cases htg : A.tg ws k with
      | none =>
        have HM : Hid (A.mets ws (k + 1) = A.mets ws k) := hid (A.mets_no ws k htg)
        rw [htg] at H17
        clear hkl
        generalize ws.getD k 0 = u at *
        go_wp2_with (go_at_call 50; refine H17.out.mono ?_; rintro e w2 ⟨⟨x, rfl, hx⟩, hb2⟩)
        go_roundw
        case measure => simp [intOf]; omega
        case rel => exact ⟨k + 1, by omega, by go_num, hid ⟨by rw [HM.out]; exact HC.out.1.on hb2, below_on HC.out.2 hb2⟩⟩
      | some t =>
        have HM : Hid (A.mets ws (k + 1) = (A.mets ws k).set t (.bool true)) := hid (A.mets_yes ws k t htg)
        have ht : t ≤ n := by have := A.tg_le htg; rw [HLN.out] at this; exact this
        have c2 : (t : Int) ≤ (n : Int) := by omega
        have HMA : Hid ((A.mets ws k)[t]? = some (.bool (A.met ws k t))) := hid (A.mets_at ws k t (by rw [HLN.out]; exact ht))
        rw [htg] at H17
        clear hkl
        generalize ws.getD k 0 = u at *
        go_wp2_with (go_at_call 50; refine H17.out.mono ?_; rintro e w2 ⟨⟨x, rfl, hx⟩, hb2⟩; obtain rfl := hx t rfl; have hmc : w2.cell? ⟨gm, t, none⟩ = some (.bool (A.met ws k t)) := ((HC.out.1.on hb2).cell t).trans HMA.out; have hmf := (HC.out.1.on hb2).free t)
        go_roundw
        case measure => simp [intOf]; omega
        case rel => exact ⟨k + 1, by omega, by go_num, hid ⟨by rw [HM.out]; exact (HC.out.1.on hb2).setCell t _, (below_on HC.out.2 hb2).setCell (p := ⟨gm, t, none⟩) (by rw [HGM.out]; exact Nat.le_refl _) _⟩⟩
    · obtain rfl : k = n := by omega
      clear hlt hk HTW HA
      have HBZ : Hid (Below W.heap.size W wr ∧ gm < wr.heap.size) := hid ⟨HC.out.2, HC.out.1.lt⟩
      go_wp2_with (at_make; refine wpList_make_full _ rfl _ _ 88 rfl wr.heap.size 9 i9 (.string ⟨#[]⟩) 1 Tryz.underlying88 hi9 hz9 hs9 .i64 .i64 _ _ (k + 1) rfl rfl (by push_cast; rfl) (by push_cast; rfl) (by rw [hb9]; omega) (by unfold maxLen; omega) (Nat.le_refl _) ?_; intro w1 ho1 hg1)
      have HC1 : Hid (Cel w1 wr.heap.size 9 (A.nms ws 0) ∧ Cel w1 gm 4 (A.mets ws k) ∧ Below W.heap.size W w1) := hid ⟨by
        have := (cel_of_own ho1).1
        rw [show (Value.string ⟨#[]⟩).cells = #[.string ⟨#[]⟩] from rfl, made_list] at this
        rw [A.nms_zero, HLN.out]
        exact this, cel_grown HC.out.1 hg1, bl_grown HC.out.2 hg1⟩
      have HGN : Hid (W.heap.size ≤ wr.heap.size ∧ wr.heap.size ≠ gm) := hid ⟨HBZ.out.1.size, by have := HBZ.out.2; omega⟩
      clear ho1 hg1 HC HBZ
      generalize wr.heap.size = gn at *
      go_loopw [9, 10, 41] (fun ct _ i wr => ∃ j : Nat, j ≤ k + 1 ∧ i = .int .i64 j ∧ ct = .int .u32 (A.cnt ws j : Nat) ∧ Hid (Cel wr gn 9 (A.nms ws j) ∧ Cel wr gm 4 (A.mets ws k) ∧ Below W.heap.size W wr)) (fun _ _ i _ => k + 1 - (intOf i).toNat)
      case atStart => exact ⟨0, Nat.zero_le _, rfl, rfl, HC1⟩
      case round =>
        clear HC1
        obtain ⟨j, hj, rfl, rfl, HC⟩ := hrel
        by_cases hlt : j < k + 1
        · have c1 : (j : Int) < (k : Int) + 1 := by omega
          have hmc : wr.cell? ⟨gm, j, none⟩ = some (.bool (A.met ws k j)) := (HC.out.2.1.cell j).trans (A.mets_at ws k j (by rw [HLN.out]; omega))
          have hcn := A.cnt_succ ws j
          have hcl := A.cnt_le ws j
          rw [HLN.out] at hcn
          cases hm : A.met ws k j with
          | false =>
            have HN : Hid (A.nms ws (j + 1) = A.nms ws j) := hid (A.nms_no ws j (by rw [HLN.out]; exact hm))
            rw [hm] at hmc hcn
            have HCN : Hid (A.cnt ws (j + 1) = A.cnt ws j) := hid (by simpa using hcn)
            clear hcn
            go_wp2_with fail
            go_roundw
            case measure => simp [intOf]; omega
            case rel => exact ⟨j + 1, by omega, by go_num, by rw [HCN.out], hid ⟨by rw [HN.out]; exact HC.out.1, HC.out.2⟩⟩
          | true =>
            have HN : Hid (A.nms ws (j + 1) = (A.nms ws j).set j (.string ⟨(108 :: Lib.decDigits (A.cnt ws j)).toArray⟩)) := hid (by rw [A.nms_yes, A.nmAt, HLN.out, hm, if_pos rfl])
            rw [hm] at hmc hcn
            have HCN : Hid (A.cnt ws (j + 1) = A.cnt ws j + 1) := hid (by simpa using hcn)
            have hnc : wr.cell? ⟨gn, j, none⟩ = some (.string ⟨#[]⟩) := (HC.out.1.cell j).trans (by rw [A.nms_at ws j j (by rw [HLN.out]; omega)]; simp)
            have HTn := hid (tens_text (A.cnt ws j) (by omega) wr (HT.out wr HC.out.2.2).p)
            have hz := dec_len (A.cnt ws j) (by omega)
            have x2 := bapp 108 (Lib.decDigits (A.cnt ws j))
            have c2 : ((A.cnt ws j : Nat) : Int) ≤ 2049 := by omega
            have e1 : (((A.cnt ws j : Nat) : Int) + 1) % 4294967296 = ((A.cnt ws j : Nat) : Int) + 1 := by omega
            clear hcn hcl hm
            generalize Lib.decDigits (A.cnt ws j) = dd at *
            generalize hq : A.cnt ws j = q at *
            go_wp2_with (go_at_call 25; refine HTn.out.mono ?_; rintro e w2 ⟨rfl, hb2⟩; rw [← hb2.cell (p := ⟨gn, j, none⟩) HC.out.1.lt] at hnc; have hnf := (HC.out.1.on hb2).free j)
            go_roundw
            case measure => simp [intOf]; omega
            case rel => exact ⟨j + 1, by omega, by go_num, by rw [HCN.out]; simp, hid ⟨by rw [HN.out]; exact (HC.out.1.on hb2).setCell j _, (HC.out.2.1.on hb2).setOther HGN.out.2 j _, (below_on HC.out.2.2 hb2).setCell (p := ⟨gn, j, none⟩) HGN.out.1 _⟩⟩
        · obtain rfl : j = k + 1 := by omega
          clear hlt hj
          go_wp2_with fail
          go_ret
          exact ⟨⟨gn, rfl, HGN.out.1, HC.out.1⟩, HC.out.2.2⟩
end Go.Proofs.YtncnogndopgknaaGreatDoor
namespace Go.Proofs.YtncnogndopgknaaGreatDoor
open Go.RowKit
theorem labelOf_any (W : World) (hT : TB W) (ao : Option Addr) (n c g : Nat) (ws : List Nat) (hl : ws.length = n) (hn : n ≤ 2048) (hat : AtW W ao ws) (hw : ∀ x ∈ ws, x < 4294967296) (hc : Cel W g 9 (A.nms ws (n + 1))) (p : Nat) (hp : p < n) :
    Calls Tryz.prog 33 #[.slice ao n c, .int .i64 (p : Int), .slice (some ⟨g, 0, none⟩) (n + 1) (n + 1)] W fun e w' => e = .returned (.string ⟨(A.lab ws p).toArray⟩) ∧ Below W.heap.size W w' := by
  have H17 := hid (target_ws W hT ws p n hl hn hp hw)
  have n1 : (n : Int) ≤ 2048 := by omega
  have p1 : (p : Int) < (n : Int) := by omega
  rcases hat with h0 | ⟨b, o, rfl, hb, hcc⟩
  · rw [h0] at hl; simp at hl; omega
  have hck : W.cell? ⟨b, o + p, none⟩ = some (.int .u32 ((ws.getD p 0 : Nat) : Int)) := by
    rw [hcc p (by omega), List.getD_eq_getElem?_getD, List.getElem?_eq_getElem (by omega), Option.getD_some]
  have HC : Hid (Cel W g 9 (A.nms ws (n + 1))) := hc
  clear hT hw hcc hc
  cases htg : A.tg ws p with
  | none =>
    have HL : Hid (A.lab ws p = []) := hid (by unfold A.lab; rw [htg])
    rw [HL.out]
    rw [htg] at H17
    generalize ws.getD p 0 = u at *
    clear hl htg
    go_enter Tryz.func33, Tryz.ntmps33
    go_wp2_with (go_at_call 50; refine H17.out.mono ?_; rintro e w2 ⟨⟨x, rfl, hx⟩, hb2⟩)
    go_ret
    exact ⟨rfl, hb2⟩
  | some t =>
    have ht : t ≤ n := by have := A.tg_le htg; rw [hl] at this; exact this
    have c2 : (t : Int) ≤ (n : Int) := by omega
    have HL : Hid (A.lab ws p = A.nmAt ws t) := hid (by unfold A.lab; rw [htg])
    rw [HL.out]
    have HNC : Hid (∀ w, Below W.heap.size W w → w.cell? ⟨g, t, none⟩ = some (.string ⟨(A.nmAt ws t).toArray⟩)) := hid (fun w hw => by
      rw [(HC.out.on hw).cell t, A.nms_at ws (n + 1) t (by omega), if_pos (by omega)])
    rw [htg] at H17
    generalize ws.getD p 0 = u at *
    generalize A.nmAt ws t = q at *
    clear hl htg HC
    go_enter Tryz.func33, Tryz.ntmps33
    go_wp2_with (go_at_call 50; refine H17.out.mono ?_; rintro e w2 ⟨⟨x, rfl, hx⟩, hb2⟩; obtain rfl := hx t rfl; have hnc := HNC.out w2 hb2)
    go_ret
    exact ⟨rfl, hb2⟩
end Go.Proofs.YtncnogndopgknaaGreatDoor
namespace Go.Proofs
open Go.Shelf
def Tryz.lays166_ren : Go.Shelf.Ren := ⟨fun | 166 => 31 | 240 => 51 | 276 => 73 | n => n, fun | 0 => 0 | 3 => 3 | 4 => 4 | 5 => 5 | 9 => 9 | 20 => 20 | 37 => 91 | 70 => 90 | 72 => 93 | 75 => 70 | 164 => 157 | 80 => 98 | n => n, fun | n => n⟩
theorem Tryz.lays166 : Go.Proofs.Lays.n166 Tryz.prog Tryz.lays166_ren := {
  mixed := by kernel_rfl
  f166 := Tryz.func31.trans (congrArg some (by kernel_rfl))
  f240 := Tryz.func51.trans (congrArg some (by kernel_rfl))
  f276 := Tryz.func73.trans (congrArg some (by kernel_rfl))
  t0 := Tryz.underlying0
  a0 := Tryz.isAgg0
  z0 := Tryz.sizeOf0
  v0 := Tryz.zeroValue0
  t3 := Tryz.underlying3
  a3 := Tryz.isAgg3
  z3 := Tryz.sizeOf3
  v3 := Tryz.zeroValue3
  t4 := Tryz.underlying4
  a4 := Tryz.isAgg4
  z4 := Tryz.sizeOf4
  v4 := Tryz.zeroValue4
  t9 := Tryz.underlying9
  a9 := Tryz.isAgg9
  z9 := Tryz.sizeOf9
  v9 := Tryz.zeroValue9
  t20 := Tryz.underlying20
  a20 := Tryz.isAgg20
  z20 := Tryz.sizeOf20
  v20 := Tryz.zeroValue20
  t37 := Tryz.underlying91
  a37 := Tryz.isAgg91
  z37 := Tryz.sizeOf91
  v37 := Tryz.zeroValue91
  t70 := Tryz.underlying90
  a70 := Tryz.isAgg90
  z70 := Tryz.sizeOf90
  v70 := Tryz.zeroValue90
  t72 := Tryz.underlying93
  a72 := Tryz.isAgg93
  z72 := Tryz.sizeOf93
  v72 := Tryz.zeroValue93
  t75 := Tryz.underlying70
  a75 := Tryz.isAgg70
  z75 := Tryz.sizeOf70
  v75 := Tryz.zeroValue70
  t164 := Tryz.underlying157
  a164 := Tryz.isAgg157
  z164 := Tryz.sizeOf157
  v164 := Tryz.zeroValue157 }
theorem Tryz.Builder_Extra_166 : Builder.Extra Tryz.prog Tryz.lays166_ren := {
  sizeBuilder := by kernel_rfl
  liesBuilder := by kernel_rfl
  t5 := Tryz.underlying5
  a5 := Tryz.isAgg5
  z5 := Tryz.sizeOf5
  v5 := Tryz.zeroValue5
  infoByte := by kernel_rfl
  cellsByte := by kernel_rfl
  sizeByte := by kernel_rfl
  neB5 := by decide }
open Go.RowKit in
theorem Tryz.Builder_WriteString_k (B b : Nat) (bs : List Value) (s : ByteArray) (w : World) (h : Lib.IsBuilderF 93 5 B b bs w) (hlen : bs.length + s.size ≤ 140737488355328) (hBw : B ≤ w.heap.size) :
    Calls Tryz.prog 31 #[.pointer (some ⟨b, 0, none⟩), .string s] w fun e w' => e = .returned (.tuple #[.int .i64 s.size, .nilIface]) ∧ (Lib.BuilderAtF 93 5 B b (.pointer (some ⟨b, 0, none⟩)) (bs ++ Lib.strCells s) w' ∧ Below B w w' ∧ Lib.OthersKept 5 (some b) w w') :=
  Any.Builder_WriteString_k Tryz.lays166 Tryz.Builder_Extra_166 B b bs s w h hlen hBw
end Go.Proofs
namespace Go.Proofs.YtncnogndopgknaaGreatDoor
open Go.RowKit

structure BL (V w : World) (b : Nat) (l : List UInt8) : Prop where
  bld : Lib.IsBuilderF 93 5 V.heap.size b (Lib.byteCells l) w
  below : Below V.heap.size V w
theorem builderAtF_on {B b : Nat} {p : Value} {bs : List Value} {w w' : World} (h : Lib.BuilderAtF 93 5 B b p bs w) (hb : Below w.heap.size w w') : Lib.BuilderAtF 93 5 B b p bs w' := by
  obtain ⟨hB, v, hbk, hown, hne⟩ := h
  refine ⟨hB, v, by rw [hb.block b (Array.getElem?_eq_some_iff.1 hbk).1]; exact hbk, ⟨hown.1, ?_⟩, hne⟩
  exact hown.2.imp id fun ⟨g, cap, cur, fz, hv, hbg, hg, r⟩ => ⟨g, cap, cur, fz, hv, hbg, by rw [hb.block g (Array.getElem?_eq_some_iff.1 hg).1]; exact hg, r⟩
theorem BL.on {V w w' : World} {b : Nat} {l : List UInt8} (h : BL V w b l) (hb : Below w.heap.size w w') : BL V w' b l :=
  ⟨h.bld.imp (fun x => builderAtF_on x hb) (fun x => builderAtF_on x hb), h.below.trans (hb.mono h.below.size)⟩
theorem BL.drew {V w : World} {b : Nat} {l : List UInt8} (h : BL V w b l) : BL V w.drew b l := h.on ((Below.refl _ _).drew)
theorem BL.fresh (w : World) : BL w (w.alloc (.cells #[.pointer none, .slice none 0 0] 93)) w.heap.size [] :=
  ⟨(Lib.fresh_isBuilder 93 5 w).imp (fun x => Lib.BuilderAtF.of x) (fun x => Lib.BuilderAtF.of x), (Below.refl _ w).alloc (Nat.le_refl _) _⟩
theorem write_any (V w : World) (b : Nat) (l s : List UInt8) (h : BL V w b l) (hlen : l.length + s.length ≤ 140737488355328) :
    Calls Tryz.prog 31 #[.pointer (some ⟨b, 0, none⟩), .string ⟨s.toArray⟩] w fun e w' => e = .returned (.tuple #[.int .i64 (s.length : Int), .nilIface]) ∧ BL V w' b (l ++ s) := by
  refine (Tryz.Builder_WriteString_k V.heap.size b _ ⟨s.toArray⟩ w h.bld (by rw [Lib.byteCells_length, sz]; exact hlen) h.below.size).mono ?_
  rintro e w' ⟨rfl, h1, h2, _⟩
  rw [sz]
  refine ⟨rfl, .inr ?_, h.below.trans h2⟩
  rw [Lib.byteCells_append]
  exact h1
theorem string_any (V w : World) (b : Nat) (l : List UInt8) (h : BL V w b l) :
    Calls Tryz.prog 34 #[.pointer (some ⟨b, 0, none⟩)] w fun e w' => e = .returned (.string ⟨l.toArray⟩) ∧ Below V.heap.size V w' := by
  refine (Tryz.Builder_String_any_k V.heap.size b l w h.bld h.below.size).mono ?_
  rintro e w' ⟨rfl, _, h2, _⟩
  exact ⟨rfl, h.below.trans h2⟩
end Go.Proofs.YtncnogndopgknaaGreatDoor
