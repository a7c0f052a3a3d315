import Derived.Test.YtjkkelkblccolaaDoorBLoads
namespace Go.Proofs.YtjkkelkblccolaaDoor
open Go.RowKit
attribute [-simp] Tryd.isAgg59 Tryd.sizeOf59 Tryd.zeroValue59 Tryd.isAgg27 Tryd.sizeOf27 Tryd.zeroValue27 Tryd.isAgg62 Tryd.sizeOf62 Tryd.zeroValue62 Tryd.isAgg40 Tryd.sizeOf40 Tryd.zeroValue40
set_option maxRecDepth 20000 in
set_option maxHeartbeats 8000000 in
theorem step3 (W w0 : World) (hT : Tab W) (hR : TabR W) (h2 : 2 < W.heap.size) (gb : Nat) (ps : List Value) (rs : List (List Value)) (B0 : Ben W w0 gb 6 ps rs) (d nn : Int) (aw : Option Addr) (m cw : Nat) (xs : List Int) (hx : xs.length = m) (wx : Wds xs) (hat : At W .u32 aw xs) (hm : 4 * m ≤ 140737488351232) :
    Calls Tryd.prog 35 #[.pointer (some ⟨gb, 0, none⟩), .agg #[.int .i64 3, .int .i64 d, .int .i64 nn, .slice aw m cw]] w0 fun e w => e = .returned (.bool true) ∧ ∃ ps' rs', Ben W w gb 6 ps' rs' := by
  have HX : Hid (At W .u32 aw xs) := hat
  have HWX : Hid (Wds xs) := wx
  have i1 : (m : Int) ≤ 35184372087808 := by omega
  have z59 := Tryd.sizeOf59
  obtain ⟨k, hkd⟩ : ∃ k, k = sl d := ⟨_, rfl⟩
  have hk : k < 6 := by rw [hkd]; exact sl_lt d
  obtain ⟨j, hjd⟩ : ∃ j, j = sl nn := ⟨_, rfl⟩
  have hj : j < 6 := by rw [hjd]; exact sl_lt nn
  have i2 : (k : Int) < 6 := by omega
  have i3 : (j : Int) < 6 := by omega
  have HKD : Hid (k = sl d) := hkd
  have HJD : Hid (j = sl nn) := hjd
  have S1 : Hid (∀ w, Calls Tryd.prog 49 #[.int .i64 d] w fun e w' => e = .returned (.int .i64 (k : Int)) ∧ w = w') := fun w => by rw [hkd]; exact slot_any w d
  have S2 : Hid (∀ w, Calls Tryd.prog 49 #[.int .i64 nn] w fun e w' => e = .returned (.int .i64 (j : Int)) ∧ w = w') := fun w => by rw [hjd]; exact slot_any w nn
  clear hat wx hkd hjd
  obtain ⟨w1, hw1⟩ : ∃ w1, w1 = w0.alloc (Obj.cells #[.int .i64 3, .int .i64 d, .int .i64 nn, .slice aw m cw] 65) := ⟨_, rfl⟩
  obtain ⟨go, hgo⟩ : ∃ go, go = w0.heap.size := ⟨_, rfl⟩
  have CO : Cel w1 go 65 [.int .i64 3, .int .i64 d, .int .i64 nn, .slice aw m cw] := by rw [hw1, hgo]; exact heap_alloc_new _ _
  have hb01 : Below w0.heap.size w0 w1 := by rw [hw1]; exact below_one _ _
  have B := B0.below hb01
  have BD := B.pl
  have HB : Hid (Ben W w1 gb 6 ps rs) := B
  have HCO : Hid (Cel w1 go 65 [.int .i64 3, .int .i64 d, .int .i64 nn, .slice aw m cw]) := CO
  have HG0 : Hid (Below w0.heap.size w0 w1 ∧ go = w0.heap.size) := ⟨hb01, hgo⟩
  have o0 := CO.cell 0
  have o1 := CO.cell 1
  have o2 := CO.cell 2
  have o3 := CO.cell 3
  simp only [List.getElem?_cons_zero, List.getElem?_cons_succ] at o0 o1 o2 o3
  go_enter Tryd.func35, Tryd.ntmps35
  go_wp2_with fail
  rw [← hw1, ← hgo]
  clear hb01 B CO hw1 hgo
  refine (S1.out _).mono ?_
  rintro e w' ⟨rfl, rfl⟩
  go_wp2_with fail
  refine (S2.out _).mono ?_
  rintro e w' ⟨rfl, rfl⟩
  obtain ⟨g, A, n, p, ao, c, hp, D, hr, hc, wat, wp⟩ := HB.out.slot k hk
  have hgl := HB.out.cel.lt
  have cp : ∀ w, Below w1.heap.size w1 w → w.cell? ⟨gb, k, none⟩ = some (.pointer (some ⟨g, 0, none⟩)) := fun w hw => by
    rw [(HB.out.cel.below hw hgl).cell k, ben_ptr HB.out.pl k hk, hp]
  have rR : Hid (∀ w, Below w1.heap.size w1 w → w.rangeAt gb (6 + k * 10) (rdC A (.slice ao p.length c) (n : Int))) := fun w hw j v hv => by
    have hj : j < 10 := by
      rcases Nat.lt_or_ge j 10 with h | h
      · exact h
      · rw [List.getElem?_eq_none (by rw [rdC_length _ _ _ D.al]; exact h)] at hv; cases hv
    rw [(HB.out.cel.below hw hgl).cell, show 6 + k * 10 + j = 6 + 10 * k + j by omega, ben_range HB.out.pl HB.out.ten k _ hr j hj, hv]
  have hwk : p.length < 16 := by rw [D.pl]; omega
  have TW : Hid (∀ w, Below w1.heap.size w1 w → Tab w ∧ TabR w ∧ 2 < w.heap.size) := fun w hw => tabBoth hT hR h2 (HB.out.low.trans (hw.mono HB.out.low.size))
  have BX : Hid (Below w1.heap.size w1 w1.drew) := (Below.refl _ _).drew
  have HD : Hid (Dig w1 g A n p) := D
  have HWT : Hid (Wat w1 ao p) := wat
  have HWP : Hid (Wds p) := wp.1
  have Dal := D.al
  have Dnl := D.nl
  have cN : ∀ w, Below w1.heap.size w1 w → w.cell? ⟨gb, 6 + k * 10 + 9, none⟩ = some (.int .i64 (n : Int)) := fun w hw => rR.out w hw 9 _ (by rw [rdC, List.getElem?_append_right (by simp [Dal])]; simp [Dal])
  have L20 : Hid (∀ w, Below w1.heap.size w1 w → Calls Tryd.prog 20 #[.pointer (some ⟨g, 0, none⟩)] w fun e w' => e = .returned (.int .i64 (n : Int)) ∧ w = w') := fun w hw => len_any w g A n p (HD.out.below hw HD.out.lt)
  clear D wat wp hp hr
  go_wp2_with fail
  clear o0 o1 o2 o3
  go_region_held3 (fun w => Below w1.heap.size w1 w) (exact BX.out) (first | (go_at_call 20; refine (L20.out _ BX.out).mono ?_; rintro en w' ⟨rfl, rfl⟩))
  have HH : Hid (∃ ps' rs', Ben W w1.drew gb 6 ps' rs') := ⟨ps, rs, HB.out.below BX.out⟩
  go_wp2
  go_ret
  exact ⟨rfl, HH.out⟩
end Go.Proofs.YtjkkelkblccolaaDoor
