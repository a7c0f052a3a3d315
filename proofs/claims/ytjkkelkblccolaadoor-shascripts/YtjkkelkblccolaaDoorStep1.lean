import Derived.Test.YtjkkelkblccolaaDoorBLoads
namespace Go.Proofs.YtjkkelkblccolaaDoor
open Go.RowKit
attribute [-simp] Tryd.isAgg59 Tryd.sizeOf59 Tryd.zeroValue59 Tryd.isAgg27 Tryd.sizeOf27 Tryd.zeroValue27 Tryd.isAgg62 Tryd.sizeOf62 Tryd.zeroValue62 Tryd.isAgg40 Tryd.sizeOf40 Tryd.zeroValue40
set_option maxRecDepth 20000 in
set_option maxHeartbeats 8000000 in
theorem step1 (W w0 : World) (_ : Tab W) (_ : TabR W) (_ : 2 < W.heap.size) (gb : Nat) (ps : List Value) (rs : List (List Value)) (m0 m1 : Nat) (B0 : Ben W w0 gb m0 ps rs) (d nn : Int) (aw : Option Addr) (m cw : Nat) (xs : List Int) (_ : xs.length = m) (wx : Wds xs) (hat : At W .u32 aw xs) (_ : 4 * m ≤ 140737488351232) (hmm : ∀ i, i < m1 → i = sl d ∨ i < m0) :
    Calls Tryd.prog 35 #[.pointer (some ⟨gb, 0, none⟩), .agg #[.int .i64 1, .int .i64 d, .int .i64 nn, .slice aw m cw]] w0 fun e w => e = .returned (.bool true) ∧ ∃ ps' rs', Ben W w gb m1 ps' rs' := by
  have HX : Hid (At W .u32 aw xs) := hat
  have HWX : Hid (Wds xs) := wx
  have HMM : Hid (∀ i, i < m1 → i = sl d ∨ i < m0) := hmm
  have z59 := Tryd.sizeOf59
  obtain ⟨k, hkd⟩ : ∃ k, k = sl d := ⟨_, rfl⟩
  have hk : k < 6 := by rw [hkd]; exact sl_lt d
  obtain ⟨j, hjd⟩ : ∃ j, j = sl nn := ⟨_, rfl⟩
  have hj : j < 6 := by rw [hjd]; exact sl_lt nn
  have i2 : (k : Int) < 6 := by omega
  have i3 : (j : Int) < 6 := by omega
  have HKD : Hid (k = sl d) := hkd
  have HJD : Hid (j = sl nn) := hjd
  have S1 : Hid (∀ w, Calls Tryd.prog 49 #[.int .i64 d] w fun e w' => e = .returned (.int .i64 (k : Int)) ∧ w = w') := fun w => by rw [hkd]; exact slot_any w d
  have S2 : Hid (∀ w, Calls Tryd.prog 49 #[.int .i64 nn] w fun e w' => e = .returned (.int .i64 (j : Int)) ∧ w = w') := fun w => by rw [hjd]; exact slot_any w nn
  clear hat wx hkd hjd hmm
  obtain ⟨w1, hw1⟩ : ∃ w1, w1 = w0.alloc (Obj.cells #[.int .i64 1, .int .i64 d, .int .i64 nn, .slice aw m cw] 65) := ⟨_, rfl⟩
  obtain ⟨go, hgo⟩ : ∃ go, go = w0.heap.size := ⟨_, rfl⟩
  have CO : Cel w1 go 65 [.int .i64 1, .int .i64 d, .int .i64 nn, .slice aw m cw] := by rw [hw1, hgo]; exact heap_alloc_new _ _
  have hb01 : Below w0.heap.size w0 w1 := by rw [hw1]; exact below_one _ _
  have B := B0.below hb01
  have BD := B.pl
  have HB : Hid (Ben W w1 gb m0 ps rs) := B
  have HCO : Hid (Cel w1 go 65 [.int .i64 1, .int .i64 d, .int .i64 nn, .slice aw m cw]) := CO
  have HG0 : Hid (Below w0.heap.size w0 w1 ∧ go = w0.heap.size) := ⟨hb01, hgo⟩
  have o0 := CO.cell 0
  have o1 := CO.cell 1
  have o2 := CO.cell 2
  have o3 := CO.cell 3
  simp only [List.getElem?_cons_zero, List.getElem?_cons_succ] at o0 o1 o2 o3
  go_enter Tryd.func35, Tryd.ntmps35
  go_wp2_with fail
  rw [← hw1, ← hgo]
  clear hb01 B CO hw1 hgo
  refine (S1.out _).mono ?_
  rintro e w' ⟨rfl, rfl⟩
  go_wp2_with fail
  refine (S2.out _).mono ?_
  rintro e w' ⟨rfl, rfl⟩
  obtain ⟨pk, hpk⟩ : ∃ pk, ps[k]? = some pk := ⟨_, List.getElem?_eq_getElem (by rw [HB.out.pl]; exact hk)⟩
  have AFT : Hid (∀ w, Below w1.heap.size w1 w → w.cell? ⟨gb, k, none⟩ = some pk) := fun w hw => by
    rw [(HB.out.cel.below hw HB.out.cel.lt).cell k, ben_ptr HB.out.pl k hk, hpk]
  have BX : Hid (But gb w1 w1.drew) := Below.but (Below.refl _ _).drew
  clear hpk
  go_wp2_with fail
  clear o0 o1 o2 o3
  refine wp_region_held_drew (S := fun w => But gb w1 w) (by kernel_rfl) BX.out (fun hHeld => ?_)
  refine wpAnyH_take (i := 0) (oi := { dst := some 21, op := Op.move (Operand.tmp 0), type := 56, pos := "law.go:134", after := #[], guard := none }) (v := .pointer (some ⟨gb, 0, none⟩)) rfl (by kernel_rfl) (by kernel_rfl) (by kernel_rfl) (fun _ _ _ h => h) (Or.inl ⟨by rfl, by intro w hSw; go_simp⟩) (by assumption) ?_
  simp only [Act.put, List.setIfInBounds_toArray, List.set_cons_zero, List.set_cons_succ]
  refine wpAnyH_take (i := 1) (oi := { dst := some 22, op := Op.move (Operand.tmp 5), type := 3, pos := "law.go:134", after := #[], guard := none }) (v := .int .i64 (k : Int)) rfl (by kernel_rfl) (by kernel_rfl) (by kernel_rfl) (fun _ _ _ h => h) (Or.inl ⟨by rfl, by intro w hSw; go_simp⟩) (by assumption) ?_
  simp only [Act.put, List.setIfInBounds_toArray, List.set_cons_zero, List.set_cons_succ]
  refine wpAnyH_take (i := 3) (oi := { dst := some 24, op := Op.nilCheck (Operand.tmp 21), type := 0, pos := "law.go:134", after := #[{ on := 0, ground := Ground.data }], guard := none }) (v := .pointer (some ⟨gb, 0, none⟩)) rfl (by kernel_rfl) (by kernel_rfl) (by kernel_rfl) (fun _ _ _ h => h) (Or.inl ⟨by rfl, by intro w hSw; go_simp⟩) (by assumption) ?_
  simp only [Act.put, List.setIfInBounds_toArray, List.set_cons_zero, List.set_cons_succ]
  refine wpAnyH_take (i := 4) (oi := { dst := some 25, op := Op.fieldAddr 62 (Operand.tmp 24) 0, type := 0, pos := "law.go:134", after := #[{ on := 3, ground := Ground.data }], guard := none }) (v := .pointer (some ⟨gb, 0, none⟩)) rfl (by kernel_rfl) (by kernel_rfl) (by kernel_rfl) (fun _ _ _ h => h) (Or.inl ⟨by rfl, by intro w hSw; go_simp⟩) (by assumption) ?_
  simp only [Act.put, List.setIfInBounds_toArray, List.set_cons_zero, List.set_cons_succ]
  refine wpAnyH_ready (rs := [2]) (by kernel_rfl) (by simp) (AllReadyH.cons (o := { dst := some 23, op := Op.call { callee := Callee.value (Operand.func 15), args := #[], argTypes := #[] }, type := 33, pos := "law.go:134", after := #[], guard := none }) rfl (fun K hK => ?_) AllReadyH.nil)
  go_simp
  refine (new_any w1.drew).mono ?_
  rintro en wa ⟨g, hg, rfl, Da, hwa⟩
  have hwa' : Below w1.heap.size w1 wa := (Below.refl _ _).drew.trans hwa
  go_wp2_with fail
  refine hK.out _ _ (Below.but hwa') (fun hHeld => ?_)
  clear hK K
  try simp only [Act.put, List.setIfInBounds_toArray, List.set_cons_zero, List.set_cons_succ]
  refine wpAnyH_take (i := 5) (oi := { dst := some 26, op := Op.indexAddr 57 (Operand.tmp 25) (Operand.tmp 22), type := 0, pos := "law.go:134", after := #[{ on := 4, ground := Ground.data }, { on := 1, ground := Ground.data }, { on := 0, ground := Ground.phase }, { on := 1, ground := Ground.phase }, { on := 2, ground := Ground.phase }], guard := none }) (v := .pointer (some ⟨gb, k, none⟩)) rfl (by kernel_rfl) (by kernel_rfl) (by kernel_rfl) (fun _ _ _ h => h) (Or.inl ⟨by rfl, by intro w hSw; go_simp⟩) (by assumption) ?_
  simp only [Act.put, List.setIfInBounds_toArray, List.set_cons_zero, List.set_cons_succ]
  have Ba := HB.out.below hwa'
  have cpa := AFT.out wa hwa'
  have fpa := Ba.cel.free k
  refine wpAnyH_ready (rs := [6]) (by kernel_rfl) (by simp) (AllReadyH.cons (o := { dst := none, op := Op.store 33 (Operand.tmp 26) (Operand.tmp 23), type := 0, pos := "law.go:134", after := #[{ on := 5, ground := Ground.data }, { on := 2, ground := Ground.data }, { on := 2, ground := Ground.chain }, { on := 0, ground := Ground.phase }, { on := 1, ground := Ground.phase }, { on := 2, ground := Ground.phase }], guard := none }) rfl (fun K hK => ?_) AllReadyH.nil)
  go_simp
  refine hK.out _ _ ((Below.but hwa').trans (but_setCell _ _ _ _)) (fun hHeld => ?_)
  clear hK K
  skip
  refine wpAnyH_done (by kernel_rfl) ?_ _
  have C2 : Cel (wa.setCell ⟨gb, k, none⟩ (.pointer (some ⟨g, 0, none⟩))) gb 62 (benC (ps.set k (.pointer (some ⟨g, 0, none⟩))) rs) := by
    rw [← ben_setp Ba.pl k hk]
    exact Ba.cel.set k _
  have HC2 : Hid (Cel (wa.setCell ⟨gb, k, none⟩ (.pointer (some ⟨g, 0, none⟩))) gb 62 (benC (ps.set k (.pointer (some ⟨g, 0, none⟩))) rs)) := C2
  have HBA : Hid (Ben W wa gb m0 ps rs) := Ba
  have HDA : Hid (Dig wa g S.First 0 []) := Da
  have hg1 : w1.heap.size ≤ g := hg
  have HBUT : Hid (But gb wa (wa.setCell ⟨gb, k, none⟩ (.pointer (some ⟨g, 0, none⟩)))) := but_setCell _ _ _ _
  clear Ba Da C2 hwa hwa' cpa fpa hHeld hg
  generalize wa.setCell ⟨gb, k, none⟩ (.pointer (some ⟨g, 0, none⟩)) = w2 at *
  go_wp2_with fail
  obtain ⟨R, hR⟩ : ∃ R, R = rdC S.First (.slice none 0 0) 0 := ⟨_, rfl⟩
  have hRl : R.length = 10 := by rw [hR]; rfl
  have HR1 : Hid (∀ u ∈ R, u.oneCell' = true) := by unfold Hid; rw [hR]; exact rdC_one _ none 0 0 0
  have BX2 : Hid (But gb w2 w2.drew) := Below.but (Below.refl _ _).drew
  have hben := ben_length (ps := ps.set k (.pointer (some ⟨g, 0, none⟩))) (rs := rs) (by rw [List.length_set]; exact HBA.out.pl) HBA.out.ten HBA.out.rl
  have C50 : Hid (Calls Tryd.prog 50 #[] w2.drew fun e w => e = .returned (.agg R.toArray) ∧ Below w2.heap.size w2 w ∧ Cel w gb 62 (benC (ps.set k (.pointer (some ⟨g, 0, none⟩))) rs)) := by
    refine (rnew_any w2.drew).mono ?_
    rintro e w ⟨rfl, hb⟩
    have hb' : Below w2.heap.size w2 w := (Below.refl _ _).drew.trans hb
    rw [hR]
    exact ⟨rfl, hb', HC2.out.below hb' HC2.out.lt⟩
  have HRR : Hid (R = rdC S.First (.slice none 0 0) 0) := hR
  clear hR
  refine wp_region_held_drew (S := fun w => But gb w2 w) (by kernel_rfl) BX2.out (fun hHeld => ?_)
  refine wpAnyH_take (i := 0) (oi := { dst := some 27, op := Op.move (Operand.tmp 0), type := 56, pos := "law.go:135", after := #[], guard := none }) (v := .pointer (some ⟨gb, 0, none⟩)) rfl (by kernel_rfl) (by kernel_rfl) (by kernel_rfl) (fun _ _ _ h => h) (Or.inl ⟨by rfl, by intro w hSw; go_simp⟩) (by assumption) ?_
  simp only [Act.put, List.setIfInBounds_toArray, List.set_cons_zero, List.set_cons_succ]
  refine wpAnyH_take (i := 1) (oi := { dst := some 28, op := Op.move (Operand.tmp 5), type := 3, pos := "law.go:135", after := #[], guard := none }) (v := .int .i64 (k : Int)) rfl (by kernel_rfl) (by kernel_rfl) (by kernel_rfl) (fun _ _ _ h => h) (Or.inl ⟨by rfl, by intro w hSw; go_simp⟩) (by assumption) ?_
  simp only [Act.put, List.setIfInBounds_toArray, List.set_cons_zero, List.set_cons_succ]
  refine wpAnyH_take (i := 3) (oi := { dst := some 30, op := Op.nilCheck (Operand.tmp 27), type := 0, pos := "law.go:135", after := #[{ on := 0, ground := Ground.data }], guard := none }) (v := .pointer (some ⟨gb, 0, none⟩)) rfl (by kernel_rfl) (by kernel_rfl) (by kernel_rfl) (fun _ _ _ h => h) (Or.inl ⟨by rfl, by intro w hSw; go_simp⟩) (by assumption) ?_
  simp only [Act.put, List.setIfInBounds_toArray, List.set_cons_zero, List.set_cons_succ]
  refine wpAnyH_take (i := 4) (oi := { dst := some 31, op := Op.fieldAddr 62 (Operand.tmp 30) 1, type := 0, pos := "law.go:135", after := #[{ on := 3, ground := Ground.data }], guard := none }) (v := .pointer (some ⟨gb, 6, none⟩)) rfl (by kernel_rfl) (by kernel_rfl) (by kernel_rfl) (fun _ _ _ h => h) (Or.inl ⟨by rfl, by intro w hSw; go_simp⟩) (by assumption) ?_
  simp only [Act.put, List.setIfInBounds_toArray, List.set_cons_zero, List.set_cons_succ]
  refine wpAnyH_ready (rs := [2]) (by kernel_rfl) (by simp) (AllReadyH.cons (o := { dst := some 29, op := Op.call { callee := Callee.value (Operand.func 50), args := #[], argTypes := #[] }, type := 59, pos := "law.go:135", after := #[], guard := none }) rfl (fun K hK => ?_) AllReadyH.nil)
  go_simp
  refine C50.out.mono ?_
  rintro en wb ⟨rfl, hwb, hcb⟩
  go_wp2_with fail
  refine hK.out _ _ (Below.but hwb) (fun hHeld => ?_)
  clear hK K
  try simp only [Act.put, List.setIfInBounds_toArray, List.set_cons_zero, List.set_cons_succ]
  refine wpAnyH_take (i := 5) (oi := { dst := some 32, op := Op.indexAddr 60 (Operand.tmp 31) (Operand.tmp 28), type := 0, pos := "law.go:135", after := #[{ on := 4, ground := Ground.data }, { on := 1, ground := Ground.data }, { on := 0, ground := Ground.phase }, { on := 1, ground := Ground.phase }, { on := 2, ground := Ground.phase }], guard := none }) (v := .pointer (some ⟨gb, 6 + k * 10, none⟩)) rfl (by kernel_rfl) (by kernel_rfl) (by kernel_rfl) (fun _ _ _ h => h) (Or.inl ⟨by rfl, by intro w hSw; go_simp⟩) (by assumption) ?_
  simp only [Act.put, List.setIfInBounds_toArray, List.set_cons_zero, List.set_cons_succ]
  refine wpAnyH_ready (rs := [6]) (by kernel_rfl) (by simp) (AllReadyH.cons (o := { dst := none, op := Op.store 59 (Operand.tmp 32) (Operand.tmp 29), type := 0, pos := "law.go:135", after := #[{ on := 5, ground := Ground.data }, { on := 2, ground := Ground.data }, { on := 2, ground := Ground.chain }, { on := 0, ground := Ground.phase }, { on := 1, ground := Ground.phase }, { on := 2, ground := Ground.phase }], guard := none }) rfl (fun K hK => ?_) AllReadyH.nil)
  rw [if_pos (by rfl)]
  refine wp_store_vals 59 _ _ rfl gb (6 + k * 10) R rfl rfl hcb (by rw [hRl]; exact size59) (by rw [hRl, hben]; omega) HR1.out ?_
  refine hK.out _ _ ((Below.but hwb).trans (but_setRow _ _ _)) (fun hHeld => ?_)
  clear hK K
  simp only [Act.put]
  refine wpAnyH_done (by kernel_rfl) ?_ _
  have C4 := ben_store (R := R) hcb (by rw [List.length_set]; exact HBA.out.pl) HBA.out.rl HBA.out.ten hk hRl
  rw [show 6 + 10 * k = 6 + k * 10 by omega] at C4
  have HBN : Hid (∃ ps' rs', Ben W (wb.setRow gb (splice (benC (ps.set k (.pointer (some ⟨g, 0, none⟩))) rs) (6 + k * 10) R).toArray) gb m1 ps' rs') := by
    refine ⟨_, _, HBA.out.put hk (fun i hi => by have := HMM.out i hi; rwa [← HKD.out] at this) HDA.out (by have := HB.out.low.size; omega) (fun i hi _ => HB.out.fresh g hg1 i hi) (c := 0) (ao := none) (Nat.le_refl _) (.inl rfl) ⟨fun i => by simp, wds_first⟩ ((HBUT.out.trans (Below.but hwb)).trans (but_setRow _ _ _)) ?_⟩
    rw [HRR.out] at C4 ⊢
    exact C4
  have ck := C4.cell k
  rw [ben_ptr (by rw [List.length_set]; exact HBA.out.pl) k hk, List.getElem?_set, if_pos rfl, if_pos (by rw [HBA.out.pl]; exact hk)] at ck
  clear hcb hwb hHeld C4
  generalize wb.setRow gb _ = w5 at *
  go_wp2
  go_ret
  exact ⟨rfl, HBN.out⟩
end Go.Proofs.YtjkkelkblccolaaDoor
