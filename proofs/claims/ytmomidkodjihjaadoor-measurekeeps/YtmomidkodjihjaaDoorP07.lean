import Derived.Test.YtmomidkodjihjaaDoorP06
namespace Go.Proofs.YtmomidkodjihjaaDoor.H
open Go.RowKit

theorem splice_state (A M : List Int) (n : Nat) (q : List Int) (hA : A.length = 8) (hM : M.length = 8) : splice (digC A n q) 0 (M.map (Value.int .u32)) = digC M n q := by
  unfold splice digC
  simp [hM]
  rw [List.drop_append]
  simp [hA]
theorem cel_count {w : World} {g : Nat} {M : List Int} {n : Nat} {q : List Int} (hM : M.length = 8) (h : Cel w g 121 (digC M n q)) (k : Nat) : Cel (w.setCell ⟨g, 8, none⟩ (.int .i64 (k : Int))) g 121 (digC M k q) := by
  unfold Cel at h ⊢
  rw [heap_setCell_same w g 8 _ 121 _ h, List.setIfInBounds_toArray]
  congr 3
  unfold digC
  rw [List.set_append_right _ _ (by simp [hM])]
  simp [hM]
theorem splice_wait (M : List Int) (n : Nat) (q y : List Int) (hM : M.length = 8) : splice (digC M n q) 9 (y.map (Value.int .u32)) = digC M n (y ++ q.drop y.length) := by
  unfold splice digC
  rw [List.take_append, List.drop_append]
  simp [hM, show 9 + y.length - 8 = y.length + 1 by omega]
  rw [List.drop_eq_nil_of_le (by simp [hM]; omega), List.take_of_length_le (by simp [hM])]
  simp
theorem splice_clear (M : List Int) (n : Nat) (y q : List Int) (hM : M.length = 8) (hy : (y ++ q).length = 16) : splice (digC M n (y ++ q)) (9 + y.length) ((List.replicate (16 - y.length) (0 : Int)).map (Value.int .u32)) = digC M n (y ++ List.replicate (16 - y.length) 0) := by
  have hq : q.length = 16 - y.length := by simp at hy; omega
  unfold splice digC
  rw [List.take_append, List.drop_append]
  simp [hM, show 9 + y.length - 8 = y.length + 1 by omega, show 9 + y.length + (16 - y.length) - 8 = 17 by simp at hy; omega]
  rw [List.drop_eq_nil_of_le (by simp [hM]; omega), List.take_of_length_le (by simp [hM]; omega)]
  simp at hy
  simp
  omega

attribute [-simp] Tryd.isAgg44 Tryd.sizeOf44 Tryd.zeroValue44
set_option maxRecDepth 20000 in
set_option maxHeartbeats 4000000 in
theorem add_fits (W : World) (hT : Tab W) (h2 : 1 < W.heap.size) (g : Nat) (A : List Int) (n : Nat) (p : List Int) (D : Dig W g A n p) (ao : Option Addr) (m c : Nat) (xs : List Int) (hx : xs.length = m) (hat : At W .u32 ao xs) (hm : m ≤ 35184372087808) (h : n + m ≤ 36028797018963968) :
    Calls Tryd.prog 44 #[.pointer (some ⟨g, 0, none⟩), .slice ao m c] W fun e W' => e = .returned (.tuple #[]) ∧ Dig W' g (S.run A (p ++ xs) ((n % 16 + m) / 16)) (n + m) ((p ++ xs).drop (16 * ((n % 16 + m) / 16))) ∧ But g W W' := by
  obtain ⟨i0, hi, hz0, hz1, hz2⟩ := info_parts Tryd.info24
  have cn := D.cellN
  have hgl := D.lt
  have i1 : (n : Int) ≤ 36028797018963968 := by have := D.nl; omega
  have i2 : ((m : Int) ≤ (36028797018963968 : Int) - (n : Int)) := by omega
  have i3 : (m : Int) ≤ 35184372087808 := by omega
  obtain ⟨Z, hZ⟩ : ∃ Z : List Int, Z = List.replicate 8 0 := ⟨_, rfl⟩
  have hZl : Z.length = 8 := by rw [hZ]; simp
  have hz : ∀ w, (zeroValue 44).run Tryd.prog w = .ok (.agg (Z.map (Value.int .u32)).toArray) w := fun w => by rw [Tryd.zeroValue44, hZ]; rfl
  clear hZ
  obtain ⟨t, ht⟩ : ∃ t, n % 16 = t := ⟨_, rfl⟩
  have hpl := D.pl
  rw [ht] at hpl ⊢
  have htl : t < 16 := by omega
  have hall : (p ++ xs).length = t + m := by simp [hpl, hx]
  have WT : Hid (∀ w, Below W.heap.size W w → Calls Tryd.prog 60 #[.pointer (some ⟨g, 0, none⟩)] w fun e W' => e = .returned (.slice (some ⟨g, 9, none⟩) t t) ∧ w = W') := fun w hw => by
    have := waiting_any w g A n p (D.below hw hgl)
    rwa [ht] at this
  have AP : Hid (∀ w, Below W.heap.size W w → ∀ ty, ∃ ao' cap' w', (Builtin.append_ #[22, 22] ty #[.slice (some ⟨g, 9, none⟩) t t, .slice ao m c]).run Tryd.prog w = .ok (.slice ao' (t + m) cap') w' ∧ (t + m ≤ cap' ∧ (∃ bb lo, (bb = g ∨ w.heap.size ≤ bb) ∧ (bb = g → 9 ≤ lo) ∧ AtB w' .u32 bb lo ao' (p ++ xs)) ∧ Below w.heap.size w w' ∧ Below W.heap.size W w')) := fun w hw ty => by
    obtain ⟨ao', cap', w2, hap, hcap, ⟨bb, lo, hbb, hat2⟩, hb2⟩ := append_full (P := Tryd.prog) (w := w) Tryd.underlying22 hi hz0 hz1 hz2 rfl ty g 9 t p hpl (by have := hw.size; omega) (D.below hw hgl).rowP ao m c xs hx (hat.below hw) (by unfold maxLen; omega) (by omega)
    have hws := hw.size
    exact ⟨ao', cap', w2, hap, hcap, ⟨bb, lo, by omega, by omega, hat2⟩, hb2, hw.trans (hb2.mono hw.size)⟩
  have hrest : ((p ++ xs).drop (16 * ((t + m) / 16))).length = (t + m) % 16 := by rw [List.length_drop, hall]; omega
  have hMl := run_length A (p ++ xs) D.al ((t + m) / 16)
  have hnm : (n + m) % 16 = (t + m) % 16 := by omega
  obtain ⟨N, hN⟩ : ∃ N : Nat, N = 8 := ⟨_, rfl⟩
  have a27 := Tryd.isAgg44
  have z27 := Tryd.sizeOf44
  rw [← hN] at z27
  have hN0 : ¬ N = 0 := by omega
  have rA := D.rowA
  have ld1 : ∀ w, Below W.heap.size W w → (loadCellsFrom ⟨g, 0, none⟩ 0 N #[]).run Tryd.prog w = .ok (A.map (Value.int .u32)).toArray w := fun w hw => cells_row (rA.below hw hgl) N (by rw [D.al, hN])
  have BL : Hid (∀ w ao' cap' bb lo, Below W.heap.size W w → t + m ≤ cap' → AtB w .u32 bb lo ao' (p ++ xs) → Calls Tryd.prog 61 #[.agg (A.map (Value.int .u32)).toArray, .slice ao' (t + m) cap'] w fun en w3 => ∃ ao'' cap'', en = .returned (.tuple #[.agg ((S.run A (p ++ xs) ((t + m) / 16)).map (Value.int .u32)).toArray, .slice ao'' ((t + m) % 16) cap'']) ∧ AtB w3 .u32 bb lo ao'' ((p ++ xs).drop (16 * ((t + m) / 16))) ∧ Below w.heap.size w w3 ∧ Below W.heap.size W w3) := fun w ao' cap' bb lo hw hc' ha => by
    have hsz := hw.size
    refine (blocks_atb w (hT.below hw h2) (by omega) A (p ++ xs) D.al ao' (t + m) cap' hall hc' bb lo ha (by omega)).mono ?_
    rintro en w3 ⟨ao'', cap'', rfl, hc'', hat3, hb3⟩
    exact ⟨ao'', cap'', rfl, hat3.below hb3, hb3, hw.trans (hb3.mono hsz)⟩
  have HR0 : Hid (p ++ xs = [] → (p ++ xs).drop (16 * ((t + m) / 16)) = []) := fun h0 => by rw [h0]; simp
  obtain ⟨al, nl, pl, r, hr, hc⟩ := D
  generalize S.run A (p ++ xs) ((t + m) / 16) = M at *
  generalize (p ++ xs).drop (16 * ((t + m) / 16)) = R at *
  obtain ⟨rs, hrs⟩ : ∃ rs, (t + m) % 16 = rs := ⟨_, rfl⟩
  rw [hrs] at hrest hnm BL
  have hrs16 : rs < 16 := by omega
  have HCD : Hid (∀ w, Below W.heap.size W w → Cel w g 121 (digC A n (p ++ r))) := fun w hw => hc.below hw hgl
  have SS : Hid (∀ w, Cel w g 121 (splice (digC A n (p ++ r)) 0 (M.map (Value.int .u32))) → w.cell? ⟨g, 8, none⟩ = some (.int .i64 (n : Int)) ∧ w.frozen? ⟨g, 8, none⟩ = false ∧ Cel (w.setCell ⟨g, 8, none⟩ (.int .i64 ((n : Int) + (m : Int)))) g 121 (digC M (n + m) (p ++ r)) ∧ But g w (w.setCell ⟨g, 8, none⟩ (.int .i64 ((n : Int) + (m : Int))))) := fun w hw => by
    rw [splice_state A M n (p ++ r) al hMl] at hw
    have := cel_count hMl hw (n + m)
    push_cast at this
    exact ⟨by rw [hw.cell, digC_n _ _ _ hMl], hw.free 8, this, but_setCell _ _ _ _⟩
  have zM : (Tryd.prog.info? 44).map (·.size) = some M.length := by rw [hMl]; exact size27
  have hMN : M.length = N := by rw [hMl, hN]
  have BW0 : Hid (Below W.heap.size W W.drew) := (Below.refl _ _).drew
  have BW1 : Hid (Below W.heap.size W (W.alloc (Obj.cells (List.map (Value.int IntKind.u32) Z).toArray 44)).drew) := (below_one _ _).drew
  have BZ1 : Hid (Blk (W.alloc (Obj.cells (List.map (Value.int IntKind.u32) Z).toArray 44)).drew W.heap.size .u32 44 Z) := Blk.new W .u32 44 Z
  have FN : Hid (∀ w gz ao'' bb lo, Blk w gz .u32 44 Z → W.heap.size ≤ gz → Below W.heap.size W w → AtB w .u32 bb lo ao'' R → (R = [] ∨ bb ≠ gz) → (storeCells ⟨gz, 0, none⟩ (M.map (Value.int .u32)) 0).run Tryd.prog w = .ok () (w.setRow gz (M.map (Value.int .u32)).toArray) ∧ Hid (Blk (w.setRow gz (M.map (Value.int .u32)).toArray) gz .u32 44 M ∧ Cel (w.setRow gz (M.map (Value.int .u32)).toArray) g 121 (digC A n (p ++ r)) ∧ AtB (w.setRow gz (M.map (Value.int .u32)).toArray) .u32 bb lo ao'' R ∧ Below W.heap.size W (w.setRow gz (M.map (Value.int .u32)).toArray))) := fun w gz ao'' bb lo hz' hgz hw ha hne => by
    refine ⟨storeCells_blk hz' (by rw [hZl, hMl]), hz'.setRow M, (hc.below hw hgl).but (but_setRow w gz _) (by omega), ?_, below_setRow hw hgz _⟩
    rcases hne with h0 | hne
    · exact .inl h0
    · exact ha.but (but_setRow w gz _) hne
  have N1 : Hid (∀ bb, (bb = g ∨ W.heap.size + 1 ≤ bb) → R = [] ∨ bb ≠ W.heap.size) := fun bb h => .inr (by omega)
  have N2 : Hid (∀ (w : World) bb lo ao', AtB w .u32 bb lo ao' (p ++ xs) → R = [] ∨ bb ≠ w.heap.size) := fun w bb lo ao' h => by
    rcases h with h0 | ⟨_, _, _, hlt, _⟩
    · exact .inl (HR0.out h0)
    · exact .inr (by omega)
  have N3 : Hid (∀ (w : World) bb lo ao', AtB w .u32 bb lo ao' R → R = [] ∨ bb ≠ w.heap.size) := fun w bb lo ao' h => by
    rcases h with h0 | ⟨_, _, _, hlt, _⟩
    · exact .inl h0
    · exact .inr (by omega)
  have ATW : Hid (∀ w4 w6 bb lo ao'', AtB w4 .u32 bb lo ao'' R → (bb = g → 9 ≤ lo) → Cel w4 g 121 (digC A n (p ++ r)) → Cel w6 g 121 (digC M (n + m) (p ++ r)) → But g w4 w6 → At w6 .u32 ao'' R) := fun w4 w6 bb lo ao'' ha hl c4 c6 hb => by
    rcases ha with h0 | ⟨off, h1, h2', h3, h4⟩
    · exact .inl h0
    · refine .inr ⟨bb, off, h1, by have := hb.size; omega, ?_⟩
      by_cases hbg : bb = g
      · have := hl hbg
        subst hbg
        exact row_behind al hMl c4 c6 (by omega) h4
      · exact hb.row h4 h3 hbg
  have FIN : Hid (∀ w, Cel w g 121 (splice (splice (digC M (n + m) (p ++ r)) 9 (R.map (Value.int .u32))) (9 + rs) ((List.replicate (16 - rs) (0 : Int)).map (Value.int .u32))) → Dig w g M (n + m) R) := fun w hw => by
    have hR2 : ((R ++ (p ++ r).drop R.length)).length = 16 := by rw [List.length_append, List.length_drop, hr, hrest]; omega
    rw [splice_wait M (n + m) (p ++ r) R hMl, ← hrest, splice_clear M (n + m) R _ hMl hR2] at hw
    exact ⟨hMl, h, by rw [hrest, hnm], _, by simp; omega, hw⟩
  have L1 : Hid (0 + M.length ≤ (digC A n (p ++ r)).length) := by rw [digC_length _ _ _ al hr, hMl]; show _ ≤ _; omega
  have L2 : Hid (9 + R.length ≤ (digC M (n + m) (p ++ r)).length) := by rw [digC_length _ _ _ hMl hr, hrest]; show _ ≤ _; omega
  have L3 : Hid (9 + rs + (16 - rs) ≤ (splice (digC M (n + m) (p ++ r)) 9 (R.map (Value.int .u32))).length) := by
    rw [length_splice _ _ _ (by simp [digC_length _ _ _ hMl hr, hrest]; omega), digC_length _ _ _ hMl hr]; show _ ≤ _; omega
  have HML : Hid (M.length = 8) := hMl
  have HZL : Hid (Z.length = 8) := hZl
  clear hc hat hall hN hMl hZl hpl hr ht h hm
  go_enter Tryd.func44, Tryd.ntmps44
  go_wp2
  go_region_held3 (fun w => Below W.heap.size W w) (first | (exact BW0.out) | (exact BW1.out) | (exact hw3) | (exact hw2) | (exact hw3.alloc hw3.size _) | (exact hw2.alloc hw2.size _) | (exact F.out.2.2.2)) (first | (go_at_call 60; refine (WT.out _ (by first | exact BW0.out | exact BW1.out)).mono ?_; rintro en w' ⟨rfl, rfl⟩) | (refine step_append_at (by rfl) _ _ 22 (by rfl) _ _ (by rfl) (by rfl) (AP.out _ (by first | exact BW0.out | exact BW1.out)) ?_; rintro ao' cap' w2 ⟨hcap, ⟨bb, lo, hbb, hlo, hat2⟩, hb2, hw2⟩) | (go_at_call 61; (first | (refine (BL.out _ _ _ _ _ hw2 hcap hat2).mono ?_) | (refine (BL.out _ _ _ _ _ (hw2.alloc hw2.size _) hcap (hat2.below (below_one _ _))).mono ?_)); rintro en w3 ⟨ao'', cap'', rfl, at3, hb3, hw3⟩; (first | (obtain ⟨hst, F⟩ := FN.out _ _ _ _ _ ((BZ1.out.below hb2 (by simp)).below hb3 (by have := hb2.size; simp at this; omega)) (Nat.le_refl _) hw3 at3 (N1.out _ (by simpa using hbb))) | (obtain ⟨hst, F⟩ := FN.out _ _ _ _ _ ((Blk.new w2 .u32 44 Z).below hb3 (by simp)) hw2.size hw3 at3 (N2.out _ _ _ _ hat2)) | (obtain ⟨hst, F⟩ := FN.out _ _ _ _ _ (Blk.new w3 .u32 44 Z) hw3.size (hw3.alloc hw3.size _) (at3.below (below_one _ _)) (N3.out _ _ _ _ at3)))))
  all_goals
    obtain ⟨bM, cD, at4, hb4⟩ := F.out
    have HLO : Hid _ := hlo
    clear F hst hb3 hw3 hb2 hw2 hat2 at3 hbb hlo hcap
    generalize World.setRow _ _ _ = w4 at *
    have BM : Hid (Blk w4 _ .u32 44 M) := bM
    have CD : Hid (Cel w4 g 121 (digC A n (p ++ r))) := cD
    have AT4 : Hid (AtB w4 .u32 bb lo ao'' R) := at4
    have HB4 : Hid (Below W.heap.size W w4) := hb4
    have i4 : (rs : Int) ≤ 16 := by omega
    have i5 : ¬ 16 = rs := by omega
    have i6 : ¬ rs = 16 := by omega
    clear bM cD at4 hb4 WT AP BL FN N1 N2 N3 BW0 BW1 BZ1
    go_wp2_with (first | (refine wpList_load_blk rfl 44 _ rfl _ M rfl BM.out Tryd.underlying44 zM ?_) | (refine wpList_store_part rfl 44 _ _ rfl g 0 M rfl rfl CD.out zM L1.out ?_; intro w5 cD5 bt5 sz5; obtain ⟨c8, f8, cD6, bt6⟩ := SS.out _ cD5; have CD6 : Hid (Cel _ g 121 (digC M (n + m) (p ++ r))) := cD6; have AT6 : Hid (At _ .u32 ao'' R) := ATW.out _ _ _ _ _ AT4.out HLO.out CD.out cD6 (bt5.trans bt6); have BT6 : Hid (But g w4 _) := bt5.trans bt6; clear cD5 cD6 bt5 bt6) | (refine wpList_copy_but rfl _ _ 22 22 rfl 24 Tryd.underlying22 size26 g 9 _ 16 16 rs _ rfl rfl CD6.out R hrest AT6.out (by omega) L2.out ?_; intro w7 cD7 bt7 sz7; have CD7 : Hid (Cel w7 g 121 _) := cD7; have BT7 : Hid (But g _ w7) := bt7; clear cD7 bt7 sz7) | (refine wpList_clear_but rfl _ 22 rfl 24 .u32 Tryd.underlying22 Tryd.zeroValue24 g (9 + rs) (16 - rs) _ rfl (by omega) CD7.out L3.out ?_; intro w8 cD8 bt8 sz8; have HD : Hid (Dig w8 g M (n + m) R) := FIN.out _ cD8; have BT8 : Hid (But g _ w8) := bt8; clear cD8 bt8 sz8))
    refine bodyPost_end (results_none rfl _ _ _) rfl ⟨rfl, HD.out, ?_⟩
    exact (Below.but HB4.out).trans (BT6.out.trans (BT7.out.trans BT8.out))
end Go.Proofs.YtmomidkodjihjaaDoor.H
