import Derived.Test.YtjkkelkblccolaaDoorBLoads
namespace Go.Proofs.YtjkkelkblccolaaDoor
open Go.RowKit
attribute [-simp] Tryd.isAgg59 Tryd.sizeOf59 Tryd.zeroValue59 Tryd.isAgg27 Tryd.sizeOf27 Tryd.zeroValue27 Tryd.isAgg62 Tryd.sizeOf62 Tryd.zeroValue62 Tryd.isAgg40 Tryd.sizeOf40 Tryd.zeroValue40
set_option maxRecDepth 20000 in
set_option maxHeartbeats 8000000 in
theorem step5 (W w0 : World) (_ : Tab W) (_ : TabR W) (_ : 2 < W.heap.size) (gb : Nat) (ps : List Value) (rs : List (List Value)) (B0 : Ben W w0 gb 6 ps rs) (d nn : Int) (aw : Option Addr) (m cw : Nat) (xs : List Int) (_ : xs.length = m) (wx : Wds xs) (hat : At W .u32 aw xs) (_ : 4 * m ≤ 140737488351232) :
    Calls Tryd.prog 35 #[.pointer (some ⟨gb, 0, none⟩), .agg #[.int .i64 5, .int .i64 d, .int .i64 nn, .slice aw m cw]] w0 fun e w => e = .returned (.bool true) ∧ ∃ ps' rs', Ben W w gb 6 ps' rs' := by
  have HX : Hid (At W .u32 aw xs) := hat
  have HWX : Hid (Wds xs) := wx
  have z59 := Tryd.sizeOf59
  obtain ⟨k, hkd⟩ : ∃ k, k = sl d := ⟨_, rfl⟩
  have hk : k < 6 := by rw [hkd]; exact sl_lt d
  obtain ⟨j, hjd⟩ : ∃ j, j = sl nn := ⟨_, rfl⟩
  have hj : j < 6 := by rw [hjd]; exact sl_lt nn
  have i2 : (k : Int) < 6 := by omega
  have i3 : (j : Int) < 6 := by omega
  have HKD : Hid (k = sl d) := hkd
  have HJD : Hid (j = sl nn) := hjd
  have S1 : Hid (∀ w, Calls Tryd.prog 49 #[.int .i64 d] w fun e w' => e = .returned (.int .i64 (k : Int)) ∧ w = w') := fun w => by rw [hkd]; exact slot_any w d
  have S2 : Hid (∀ w, Calls Tryd.prog 49 #[.int .i64 nn] w fun e w' => e = .returned (.int .i64 (j : Int)) ∧ w = w') := fun w => by rw [hjd]; exact slot_any w nn
  clear hat wx hkd hjd
  obtain ⟨w1, hw1⟩ : ∃ w1, w1 = w0.alloc (Obj.cells #[.int .i64 5, .int .i64 d, .int .i64 nn, .slice aw m cw] 65) := ⟨_, rfl⟩
  obtain ⟨go, hgo⟩ : ∃ go, go = w0.heap.size := ⟨_, rfl⟩
  have CO : Cel w1 go 65 [.int .i64 5, .int .i64 d, .int .i64 nn, .slice aw m cw] := by rw [hw1, hgo]; exact heap_alloc_new _ _
  have hb01 : Below w0.heap.size w0 w1 := by rw [hw1]; exact below_one _ _
  have B := B0.below hb01
  have BD := B.pl
  have HB : Hid (Ben W w1 gb 6 ps rs) := B
  have HCO : Hid (Cel w1 go 65 [.int .i64 5, .int .i64 d, .int .i64 nn, .slice aw m cw]) := CO
  have HG0 : Hid (Below w0.heap.size w0 w1 ∧ go = w0.heap.size) := ⟨hb01, hgo⟩
  have o0 := CO.cell 0
  have o1 := CO.cell 1
  have o2 := CO.cell 2
  have o3 := CO.cell 3
  simp only [List.getElem?_cons_zero, List.getElem?_cons_succ] at o0 o1 o2 o3
  go_enter Tryd.func35, Tryd.ntmps35
  go_wp2_with fail
  rw [← hw1, ← hgo]
  clear hb01 B CO hw1 hgo
  refine (S1.out _).mono ?_
  rintro e w' ⟨rfl, rfl⟩
  go_wp2_with fail
  refine (S2.out _).mono ?_
  rintro e w' ⟨rfl, rfl⟩
  obtain ⟨pk, hpk⟩ : ∃ pk, ps[k]? = some pk := ⟨_, List.getElem?_eq_getElem (by rw [HB.out.pl]; exact hk)⟩
  obtain ⟨g, A, n, p, ao, c, hp, D, hr, hc, wat, wp⟩ := HB.out.slot j hj
  have AFT : Hid (∀ w, Below w1.heap.size w1 w → w.cell? ⟨gb, k, none⟩ = some pk) := fun w hw => by
    rw [(HB.out.cel.below hw HB.out.cel.lt).cell k, ben_ptr HB.out.pl k hk, hpk]
  have cpj : w1.cell? ⟨gb, j, none⟩ = some (.pointer (some ⟨g, 0, none⟩)) := by
    rw [HB.out.cel.cell j, ben_ptr HB.out.pl j hj, hp]
  have BX : Hid (But gb w1 w1.drew) := Below.but (Below.refl _ _).drew
  have HD : Hid (Dig w1.drew g A n p) := D.below (Below.refl _ _).drew D.lt
  have HWT : Hid (Wat w1 ao p ∧ (Wds p ∧ Wds A) ∧ p.length ≤ c) := ⟨wat, wp, hc⟩
  have HRJ : Hid (rs[j]? = some (rdC A (.slice ao p.length c) (n : Int))) := hr
  have Dal := D.al
  clear hpk D wat wp hc hr hp
  go_wp2_with fail
  clear o0 o1 o2 o3
  refine wp_region_held_drew (S := fun w => But gb w1 w) (by kernel_rfl) BX.out (fun hHeld => ?_)
  refine wpAnyH_take (i := 0) (oi := { dst := some 121, op := Op.move (Operand.tmp 0), type := 56, pos := "law.go:151", after := #[], guard := none }) (v := .pointer (some ⟨gb, 0, none⟩)) rfl (by kernel_rfl) (by kernel_rfl) (by kernel_rfl) (fun _ _ _ h => h) (Or.inl ⟨by rfl, by intro w hSw; go_simp⟩) (by assumption) ?_
  simp only [Act.put, List.setIfInBounds_toArray, List.set_cons_zero, List.set_cons_succ]
  refine wpAnyH_take (i := 1) (oi := { dst := some 122, op := Op.move (Operand.tmp 5), type := 3, pos := "law.go:151", after := #[], guard := none }) (v := .int .i64 (k : Int)) rfl (by kernel_rfl) (by kernel_rfl) (by kernel_rfl) (fun _ _ _ h => h) (Or.inl ⟨by rfl, by intro w hSw; go_simp⟩) (by assumption) ?_
  simp only [Act.put, List.setIfInBounds_toArray, List.set_cons_zero, List.set_cons_succ]
  refine wpAnyH_take (i := 2) (oi := { dst := some 123, op := Op.move (Operand.tmp 0), type := 56, pos := "law.go:151", after := #[], guard := none }) (v := .pointer (some ⟨gb, 0, none⟩)) rfl (by kernel_rfl) (by kernel_rfl) (by kernel_rfl) (fun _ _ _ h => h) (Or.inl ⟨by rfl, by intro w hSw; go_simp⟩) (by assumption) ?_
  simp only [Act.put, List.setIfInBounds_toArray, List.set_cons_zero, List.set_cons_succ]
  refine wpAnyH_take (i := 3) (oi := { dst := some 124, op := Op.move (Operand.tmp 6), type := 3, pos := "law.go:151", after := #[], guard := none }) (v := .int .i64 (j : Int)) rfl (by kernel_rfl) (by kernel_rfl) (by kernel_rfl) (fun _ _ _ h => h) (Or.inl ⟨by rfl, by intro w hSw; go_simp⟩) (by assumption) ?_
  simp only [Act.put, List.setIfInBounds_toArray, List.set_cons_zero, List.set_cons_succ]
  refine wpAnyH_take (i := 4) (oi := { dst := some 125, op := Op.nilCheck (Operand.tmp 123), type := 0, pos := "law.go:151", after := #[{ on := 2, ground := Ground.data }], guard := none }) (v := .pointer (some ⟨gb, 0, none⟩)) rfl (by kernel_rfl) (by kernel_rfl) (by kernel_rfl) (fun _ _ _ h => h) (Or.inl ⟨by rfl, by intro w hSw; go_simp⟩) (by assumption) ?_
  simp only [Act.put, List.setIfInBounds_toArray, List.set_cons_zero, List.set_cons_succ]
  refine wpAnyH_take (i := 5) (oi := { dst := some 126, op := Op.fieldAddr 62 (Operand.tmp 125) 0, type := 0, pos := "law.go:151", after := #[{ on := 4, ground := Ground.data }], guard := none }) (v := .pointer (some ⟨gb, 0, none⟩)) rfl (by kernel_rfl) (by kernel_rfl) (by kernel_rfl) (fun _ _ _ h => h) (Or.inl ⟨by rfl, by intro w hSw; go_simp⟩) (by assumption) ?_
  simp only [Act.put, List.setIfInBounds_toArray, List.set_cons_zero, List.set_cons_succ]
  refine wpAnyH_take (i := 6) (oi := { dst := some 127, op := Op.indexAddr 57 (Operand.tmp 126) (Operand.tmp 124), type := 0, pos := "law.go:151", after := #[{ on := 5, ground := Ground.data }, { on := 3, ground := Ground.data }], guard := none }) (v := .pointer (some ⟨gb, j, none⟩)) rfl (by kernel_rfl) (by kernel_rfl) (by kernel_rfl) (fun _ _ _ h => h) (Or.inl ⟨by rfl, by intro w hSw; go_simp⟩) (by assumption) ?_
  simp only [Act.put, List.setIfInBounds_toArray, List.set_cons_zero, List.set_cons_succ]
  refine wpAnyH_take (i := 9) (oi := { dst := some 130, op := Op.nilCheck (Operand.tmp 121), type := 0, pos := "law.go:151", after := #[{ on := 0, ground := Ground.data }], guard := none }) (v := .pointer (some ⟨gb, 0, none⟩)) rfl (by kernel_rfl) (by kernel_rfl) (by kernel_rfl) (fun _ _ _ h => h) (Or.inl ⟨by rfl, by intro w hSw; go_simp⟩) (by assumption) ?_
  simp only [Act.put, List.setIfInBounds_toArray, List.set_cons_zero, List.set_cons_succ]
  refine wpAnyH_take (i := 10) (oi := { dst := some 131, op := Op.fieldAddr 62 (Operand.tmp 130) 0, type := 0, pos := "law.go:151", after := #[{ on := 9, ground := Ground.data }], guard := none }) (v := .pointer (some ⟨gb, 0, none⟩)) rfl (by kernel_rfl) (by kernel_rfl) (by kernel_rfl) (fun _ _ _ h => h) (Or.inl ⟨by rfl, by intro w hSw; go_simp⟩) (by assumption) ?_
  simp only [Act.put, List.setIfInBounds_toArray, List.set_cons_zero, List.set_cons_succ]
  refine wpAnyH_ready (rs := [7]) (by kernel_rfl) (by simp) (AllReadyH.cons (o := { dst := some 128, op := Op.load 33 (Operand.tmp 127), type := 33, pos := "law.go:151", after := #[{ on := 6, ground := Ground.data }], guard := none }) rfl (fun K hK => ?_) AllReadyH.nil)
  go_simp
  refine hK.out _ _ BX.out (fun hHeld => ?_)
  clear hK K
  try simp only [Act.put, List.setIfInBounds_toArray, List.set_cons_zero, List.set_cons_succ]
  refine wpAnyH_ready (rs := [8]) (by kernel_rfl) (by simp) (AllReadyH.cons (o := { dst := some 129, op := Op.call { callee := Callee.value (Operand.func 19), args := #[Operand.tmp 128], argTypes := #[33] }, type := 33, pos := "law.go:151", after := #[{ on := 7, ground := Ground.data }], guard := none }) rfl (fun K hK => ?_) AllReadyH.nil)
  go_simp
  refine (copy_any w1.drew g A n p HD.out).mono ?_
  rintro en wa ⟨g', hg, rfl, Da, hwa⟩
  have hwa' : Below w1.heap.size w1 wa := (Below.refl _ _).drew.trans hwa
  go_wp2_with fail
  refine hK.out _ _ (Below.but hwa') (fun hHeld => ?_)
  clear hK K
  try simp only [Act.put, List.setIfInBounds_toArray, List.set_cons_zero, List.set_cons_succ]
  refine wpAnyH_take (i := 11) (oi := { dst := some 132, op := Op.indexAddr 57 (Operand.tmp 131) (Operand.tmp 122), type := 0, pos := "law.go:151", after := #[{ on := 10, ground := Ground.data }, { on := 1, ground := Ground.data }, { on := 0, ground := Ground.phase }, { on := 1, ground := Ground.phase }, { on := 2, ground := Ground.phase }, { on := 3, ground := Ground.phase }, { on := 4, ground := Ground.phase }, { on := 5, ground := Ground.phase }, { on := 6, ground := Ground.phase }, { on := 7, ground := Ground.phase }, { on := 8, ground := Ground.phase }], guard := none }) (v := .pointer (some ⟨gb, k, none⟩)) rfl (by kernel_rfl) (by kernel_rfl) (by kernel_rfl) (fun _ _ _ h => h) (Or.inl ⟨by rfl, by intro w hSw; go_simp⟩) (by assumption) ?_
  simp only [Act.put, List.setIfInBounds_toArray, List.set_cons_zero, List.set_cons_succ]
  have Ba := HB.out.below hwa'
  have cpa := AFT.out wa hwa'
  have fpa := Ba.cel.free k
  refine wpAnyH_ready (rs := [12]) (by kernel_rfl) (by simp) (AllReadyH.cons (o := { dst := none, op := Op.store 33 (Operand.tmp 132) (Operand.tmp 129), type := 0, pos := "law.go:151", after := #[{ on := 11, ground := Ground.data }, { on := 8, ground := Ground.data }, { on := 8, ground := Ground.chain }, { on := 0, ground := Ground.phase }, { on := 1, ground := Ground.phase }, { on := 2, ground := Ground.phase }, { on := 3, ground := Ground.phase }, { on := 4, ground := Ground.phase }, { on := 5, ground := Ground.phase }, { on := 6, ground := Ground.phase }, { on := 7, ground := Ground.phase }, { on := 8, ground := Ground.phase }], guard := none }) rfl (fun K hK => ?_) AllReadyH.nil)
  go_simp
  refine hK.out _ _ ((Below.but hwa').trans (but_setCell _ _ _ _)) (fun hHeld => ?_)
  clear hK K
  skip
  refine wpAnyH_done (by kernel_rfl) ?_ _
  have C2 : Cel (wa.setCell ⟨gb, k, none⟩ (.pointer (some ⟨g', 0, none⟩))) gb 62 (benC (ps.set k (.pointer (some ⟨g', 0, none⟩))) rs) := by
    rw [← ben_setp Ba.pl k hk]
    exact Ba.cel.set k _
  have HC2 : Hid (Cel (wa.setCell ⟨gb, k, none⟩ (.pointer (some ⟨g', 0, none⟩))) gb 62 (benC (ps.set k (.pointer (some ⟨g', 0, none⟩))) rs)) := C2
  have HBA : Hid (Ben W wa gb 6 ps rs) := Ba
  have HDA : Hid (Dig wa g' A n p) := Da
  have HWA : Hid (Wat wa ao p) := HWT.out.1.below hwa'
  have hg1 : w1.heap.size ≤ g' := hg
  have HBUT : Hid (But gb wa (wa.setCell ⟨gb, k, none⟩ (.pointer (some ⟨g', 0, none⟩)))) := but_setCell _ _ _ _
  clear Ba Da C2 hwa hwa' cpa fpa hHeld hg cpj
  generalize wa.setCell ⟨gb, k, none⟩ (.pointer (some ⟨g', 0, none⟩)) = w2 at *
  go_wp2_with fail
  obtain ⟨R, hR⟩ : ∃ R, R = rdC A (.slice ao p.length c) (n : Int) := ⟨_, rfl⟩
  have hRl : R.length = 10 := by rw [hR]; exact rdC_length _ _ _ Dal
  have HR1 : Hid (∀ u ∈ R, u.oneCell' = true) := by unfold Hid; rw [hR]; exact rdC_one _ _ _ _ _
  have BX2 : Hid (But gb w2 w2.drew) := Below.but (Below.refl _ _).drew
  have hben := ben_length (ps := ps.set k (.pointer (some ⟨g', 0, none⟩))) (rs := rs) (by rw [List.length_set]; exact HBA.out.pl) HBA.out.ten HBA.out.rl
  have HC2' : Hid (Cel w2.drew gb 62 (benC (ps.set k (.pointer (some ⟨g', 0, none⟩))) rs)) := HC2.out
  have RJ : Hid (w2.drew.rangeAt gb (6 + j * 10) R) := fun t v hv => by
    have ht : t < 10 := by
      rcases Nat.lt_or_ge t 10 with h | h
      · exact h
      · rw [List.getElem?_eq_none (by rw [hRl]; exact h)] at hv; cases hv
    rw [HC2'.out.cell, show 6 + j * 10 + t = 6 + 10 * j + t by omega, ben_range (by rw [List.length_set]; exact HBA.out.pl) HBA.out.ten j _ HRJ.out t ht, ← hR, hv]
  have HRR : Hid (R = rdC A (.slice ao p.length c) (n : Int)) := hR
  clear hR
  refine wp_region_held_drew (S := fun w => But gb w2 w) (by kernel_rfl) BX2.out (fun hHeld => ?_)
  refine wpAnyH_take (i := 0) (oi := { dst := some 133, op := Op.move (Operand.tmp 0), type := 56, pos := "law.go:152", after := #[], guard := none }) (v := .pointer (some ⟨gb, 0, none⟩)) rfl (by kernel_rfl) (by kernel_rfl) (by kernel_rfl) (fun _ _ _ h => h) (Or.inl ⟨by rfl, by intro w hSw; go_simp⟩) (by assumption) ?_
  simp only [Act.put, List.setIfInBounds_toArray, List.set_cons_zero, List.set_cons_succ]
  refine wpAnyH_take (i := 1) (oi := { dst := some 134, op := Op.move (Operand.tmp 5), type := 3, pos := "law.go:152", after := #[], guard := none }) (v := .int .i64 (k : Int)) rfl (by kernel_rfl) (by kernel_rfl) (by kernel_rfl) (fun _ _ _ h => h) (Or.inl ⟨by rfl, by intro w hSw; go_simp⟩) (by assumption) ?_
  simp only [Act.put, List.setIfInBounds_toArray, List.set_cons_zero, List.set_cons_succ]
  refine wpAnyH_take (i := 2) (oi := { dst := some 135, op := Op.move (Operand.tmp 0), type := 56, pos := "law.go:152", after := #[], guard := none }) (v := .pointer (some ⟨gb, 0, none⟩)) rfl (by kernel_rfl) (by kernel_rfl) (by kernel_rfl) (fun _ _ _ h => h) (Or.inl ⟨by rfl, by intro w hSw; go_simp⟩) (by assumption) ?_
  simp only [Act.put, List.setIfInBounds_toArray, List.set_cons_zero, List.set_cons_succ]
  refine wpAnyH_take (i := 3) (oi := { dst := some 136, op := Op.move (Operand.tmp 6), type := 3, pos := "law.go:152", after := #[], guard := none }) (v := .int .i64 (j : Int)) rfl (by kernel_rfl) (by kernel_rfl) (by kernel_rfl) (fun _ _ _ h => h) (Or.inl ⟨by rfl, by intro w hSw; go_simp⟩) (by assumption) ?_
  simp only [Act.put, List.setIfInBounds_toArray, List.set_cons_zero, List.set_cons_succ]
  refine wpAnyH_take (i := 4) (oi := { dst := some 137, op := Op.nilCheck (Operand.tmp 135), type := 0, pos := "law.go:152", after := #[{ on := 2, ground := Ground.data }], guard := none }) (v := .pointer (some ⟨gb, 0, none⟩)) rfl (by kernel_rfl) (by kernel_rfl) (by kernel_rfl) (fun _ _ _ h => h) (Or.inl ⟨by rfl, by intro w hSw; go_simp⟩) (by assumption) ?_
  simp only [Act.put, List.setIfInBounds_toArray, List.set_cons_zero, List.set_cons_succ]
  refine wpAnyH_take (i := 5) (oi := { dst := some 138, op := Op.fieldAddr 62 (Operand.tmp 137) 1, type := 0, pos := "law.go:152", after := #[{ on := 4, ground := Ground.data }], guard := none }) (v := .pointer (some ⟨gb, 6, none⟩)) rfl (by kernel_rfl) (by kernel_rfl) (by kernel_rfl) (fun _ _ _ h => h) (Or.inl ⟨by rfl, by intro w hSw; go_simp⟩) (by assumption) ?_
  simp only [Act.put, List.setIfInBounds_toArray, List.set_cons_zero, List.set_cons_succ]
  refine wpAnyH_take (i := 6) (oi := { dst := some 139, op := Op.indexAddr 60 (Operand.tmp 138) (Operand.tmp 136), type := 0, pos := "law.go:152", after := #[{ on := 5, ground := Ground.data }, { on := 3, ground := Ground.data }], guard := none }) (v := .pointer (some ⟨gb, 6 + j * 10, none⟩)) rfl (by kernel_rfl) (by kernel_rfl) (by kernel_rfl) (fun _ _ _ h => h) (Or.inl ⟨by rfl, by intro w hSw; go_simp⟩) (by assumption) ?_
  simp only [Act.put, List.setIfInBounds_toArray, List.set_cons_zero, List.set_cons_succ]
  refine wpAnyH_take (i := 8) (oi := { dst := some 141, op := Op.nilCheck (Operand.tmp 133), type := 0, pos := "law.go:152", after := #[{ on := 0, ground := Ground.data }], guard := none }) (v := .pointer (some ⟨gb, 0, none⟩)) rfl (by kernel_rfl) (by kernel_rfl) (by kernel_rfl) (fun _ _ _ h => h) (Or.inl ⟨by rfl, by intro w hSw; go_simp⟩) (by assumption) ?_
  simp only [Act.put, List.setIfInBounds_toArray, List.set_cons_zero, List.set_cons_succ]
  refine wpAnyH_take (i := 9) (oi := { dst := some 142, op := Op.fieldAddr 62 (Operand.tmp 141) 1, type := 0, pos := "law.go:152", after := #[{ on := 8, ground := Ground.data }], guard := none }) (v := .pointer (some ⟨gb, 6, none⟩)) rfl (by kernel_rfl) (by kernel_rfl) (by kernel_rfl) (fun _ _ _ h => h) (Or.inl ⟨by rfl, by intro w hSw; go_simp⟩) (by assumption) ?_
  simp only [Act.put, List.setIfInBounds_toArray, List.set_cons_zero, List.set_cons_succ]
  refine wpAnyH_ready (rs := [7]) (by kernel_rfl) (by simp) (AllReadyH.cons (o := { dst := some 140, op := Op.load 59 (Operand.tmp 139), type := 59, pos := "law.go:152", after := #[{ on := 6, ground := Ground.data }], guard := none }) rfl (fun K hK => ?_) AllReadyH.nil)
  rw [if_pos (by rfl)]
  refine wp_load_mid 59 _ rfl gb (6 + j * 10) rfl R _ RJ.out Tryd.underlying59 rfl (by rw [hRl]; exact size59) ?_
  refine hK.out _ _ BX2.out (fun hHeld => ?_)
  clear hK K
  try simp only [Act.put, List.setIfInBounds_toArray, List.set_cons_zero, List.set_cons_succ]
  refine wpAnyH_take (i := 10) (oi := { dst := some 143, op := Op.indexAddr 60 (Operand.tmp 142) (Operand.tmp 134), type := 0, pos := "law.go:152", after := #[{ on := 9, ground := Ground.data }, { on := 1, ground := Ground.data }, { on := 0, ground := Ground.phase }, { on := 1, ground := Ground.phase }, { on := 2, ground := Ground.phase }, { on := 3, ground := Ground.phase }, { on := 4, ground := Ground.phase }, { on := 5, ground := Ground.phase }, { on := 6, ground := Ground.phase }, { on := 7, ground := Ground.phase }], guard := none }) (v := .pointer (some ⟨gb, 6 + k * 10, none⟩)) rfl (by kernel_rfl) (by kernel_rfl) (by kernel_rfl) (fun _ _ _ h => h) (Or.inl ⟨by rfl, by intro w hSw; go_simp⟩) (by assumption) ?_
  simp only [Act.put, List.setIfInBounds_toArray, List.set_cons_zero, List.set_cons_succ]
  refine wpAnyH_ready (rs := [11]) (by kernel_rfl) (by simp) (AllReadyH.cons (o := { dst := none, op := Op.store 59 (Operand.tmp 143) (Operand.tmp 140), type := 0, pos := "law.go:152", after := #[{ on := 10, ground := Ground.data }, { on := 7, ground := Ground.data }, { on := 0, ground := Ground.phase }, { on := 1, ground := Ground.phase }, { on := 2, ground := Ground.phase }, { on := 3, ground := Ground.phase }, { on := 4, ground := Ground.phase }, { on := 5, ground := Ground.phase }, { on := 6, ground := Ground.phase }, { on := 7, ground := Ground.phase }], guard := none }) rfl (fun K hK => ?_) AllReadyH.nil)
  rw [if_pos (by rfl)]
  refine wp_store_vals 59 _ _ rfl gb (6 + k * 10) R rfl rfl HC2'.out (by rw [hRl]; exact size59) (by rw [hRl, hben]; omega) HR1.out ?_
  refine hK.out _ _ (BX2.out.trans (but_setRow _ _ _)) (fun hHeld => ?_)
  clear hK K
  simp only [Act.put]
  refine wpAnyH_done (by kernel_rfl) ?_ _
  have C4 := ben_store (R := R) HC2'.out (by rw [List.length_set]; exact HBA.out.pl) HBA.out.rl HBA.out.ten hk hRl
  rw [show 6 + 10 * k = 6 + k * 10 by omega] at C4
  have HBN : Hid (∃ ps' rs', Ben W (w2.drew.setRow gb (splice (benC (ps.set k (.pointer (some ⟨g', 0, none⟩))) rs) (6 + k * 10) R).toArray) gb 6 ps' rs') := by
    refine ⟨_, _, HBA.out.put hk (fun i hi => .inr hi) HDA.out (by have := HB.out.low.size; omega) (fun i hi _ => HB.out.fresh g' hg1 i hi) HWT.out.2.2 HWA.out HWT.out.2.1 ((HBUT.out.trans BX2.out).trans (but_setRow _ _ _)) ?_⟩
    rw [HRR.out] at C4 ⊢
    exact C4
  have ck := C4.cell k
  rw [ben_ptr (by rw [List.length_set]; exact HBA.out.pl) k hk, List.getElem?_set, if_pos rfl, if_pos (by rw [HBA.out.pl]; exact hk)] at ck
  clear hHeld C4
  generalize w2.drew.setRow gb _ = w5 at *
  go_wp2
  go_ret
  exact ⟨rfl, HBN.out⟩
end Go.Proofs.YtjkkelkblccolaaDoor
