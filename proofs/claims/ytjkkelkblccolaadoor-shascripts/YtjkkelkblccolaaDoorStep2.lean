import Derived.Test.YtjkkelkblccolaaDoorBLoads
namespace Go.Proofs.YtjkkelkblccolaaDoor
open Go.RowKit
theorem wds_runA {A : List Int} (hA : Wds A) (L : List Int) (k : Nat) : Wds (S.run A L k) := by
  cases k with
  | zero => exact hA
  | succ k => exact wds_block _ _
theorem Wat.frame {w w' : World} {ao : Option Addr} {p : List Int} {g gb : Nat} {ds cs : List Value} (h : Wat w ao p) (hg : Cel w g 73 ds) (hb : Cel w gb 62 cs) (F : ∀ b, b < w.heap.size → b ≠ g → b ≠ gb → w'.heap[b]? = w.heap[b]?) : Wat w' ao p := by
  rcases h with h | ⟨b, off, es, h1, h2, h3⟩
  · exact .inl h
  · have hh := F b h2.lt (cel_ne h2 hg (by decide)) (cel_ne h2 hb (by decide))
    exact .inr ⟨b, off, es, h1, hh.trans h2, fun t ht => (World.cell?_of_block (w := w) (a := ⟨b, off + t, none⟩) hh).trans (h3 t ht)⟩
attribute [-simp] Tryd.isAgg59 Tryd.sizeOf59 Tryd.zeroValue59 Tryd.isAgg27 Tryd.sizeOf27 Tryd.zeroValue27 Tryd.isAgg62 Tryd.sizeOf62 Tryd.zeroValue62 Tryd.isAgg40 Tryd.sizeOf40 Tryd.zeroValue40
set_option maxRecDepth 20000 in
set_option maxHeartbeats 8000000 in
theorem step2 (W w0 : World) (hT : Tab W) (hR : TabR W) (h2 : 2 < W.heap.size) (gb : Nat) (ps : List Value) (rs : List (List Value)) (B0 : Ben W w0 gb 6 ps rs) (d nn : Int) (aw : Option Addr) (m cw : Nat) (xs : List Int) (hx : xs.length = m) (wx : Wds xs) (hat : At W .u32 aw xs) (hm : 4 * m ≤ 140737488351232) :
    Calls Tryd.prog 35 #[.pointer (some ⟨gb, 0, none⟩), .agg #[.int .i64 2, .int .i64 d, .int .i64 nn, .slice aw m cw]] w0 fun e w => e = .returned (.bool true) ∧ ∃ ps' rs', Ben W w gb 6 ps' rs' := by
  have HX : Hid (At W .u32 aw xs) := hat
  have HWX : Hid (Wds xs) := wx
  have i1 : (m : Int) ≤ 35184372087808 := by omega
  have z59 := Tryd.sizeOf59
  obtain ⟨k, hkd⟩ : ∃ k, k = sl d := ⟨_, rfl⟩
  have hk : k < 6 := by rw [hkd]; exact sl_lt d
  obtain ⟨j, hjd⟩ : ∃ j, j = sl nn := ⟨_, rfl⟩
  have hj : j < 6 := by rw [hjd]; exact sl_lt nn
  have i2 : (k : Int) < 6 := by omega
  have i3 : (j : Int) < 6 := by omega
  have HKD : Hid (k = sl d) := hkd
  have HJD : Hid (j = sl nn) := hjd
  have S1 : Hid (∀ w, Calls Tryd.prog 49 #[.int .i64 d] w fun e w' => e = .returned (.int .i64 (k : Int)) ∧ w = w') := fun w => by rw [hkd]; exact slot_any w d
  have S2 : Hid (∀ w, Calls Tryd.prog 49 #[.int .i64 nn] w fun e w' => e = .returned (.int .i64 (j : Int)) ∧ w = w') := fun w => by rw [hjd]; exact slot_any w nn
  clear hat wx hkd hjd
  obtain ⟨w1, hw1⟩ : ∃ w1, w1 = w0.alloc (Obj.cells #[.int .i64 2, .int .i64 d, .int .i64 nn, .slice aw m cw] 65) := ⟨_, rfl⟩
  obtain ⟨go, hgo⟩ : ∃ go, go = w0.heap.size := ⟨_, rfl⟩
  have CO : Cel w1 go 65 [.int .i64 2, .int .i64 d, .int .i64 nn, .slice aw m cw] := by rw [hw1, hgo]; exact heap_alloc_new _ _
  have hb01 : Below w0.heap.size w0 w1 := by rw [hw1]; exact below_one _ _
  have B := B0.below hb01
  have BD := B.pl
  have HB : Hid (Ben W w1 gb 6 ps rs) := B
  have HCO : Hid (Cel w1 go 65 [.int .i64 2, .int .i64 d, .int .i64 nn, .slice aw m cw]) := CO
  have HG0 : Hid (Below w0.heap.size w0 w1 ∧ go = w0.heap.size) := ⟨hb01, hgo⟩
  have o0 := CO.cell 0
  have o1 := CO.cell 1
  have o2 := CO.cell 2
  have o3 := CO.cell 3
  simp only [List.getElem?_cons_zero, List.getElem?_cons_succ] at o0 o1 o2 o3
  go_enter Tryd.func35, Tryd.ntmps35
  go_wp2_with fail
  rw [← hw1, ← hgo]
  clear hb01 B CO hw1 hgo
  refine (S1.out _).mono ?_
  rintro e w' ⟨rfl, rfl⟩
  go_wp2_with fail
  refine (S2.out _).mono ?_
  rintro e w' ⟨rfl, rfl⟩
  obtain ⟨g, A, n, p, ao, c, hp, D, hr, hc, wat, wp⟩ := HB.out.slot k hk
  have ADD : ∃ A' n' p', (∀ w al cl, Below W.heap.size W w → Dig w g A n p → At w .u32 al xs → Calls Tryd.prog 18 #[.pointer (some ⟨g, 0, none⟩), .slice al m cl] w fun e w' => e = .returned (.tuple #[]) ∧ Dig w' g A' n' p' ∧ But g w w') ∧
      (∀ w, Below W.heap.size W w → At w .u32 ao p → Calls Tryd.prog 51 #[.agg (rdC A (.slice ao p.length c) (n : Int)).toArray, .slice aw m cw] w fun e w' => ∃ ao' c', e = .returned (.agg (rdC A' (.slice ao' p'.length c') (n' : Int)).toArray) ∧ p'.length ≤ c' ∧ (WatN w.heap.size w' ao' p' ∨ (ao' = ao ∧ p' = p)) ∧ Below w.heap.size w w') ∧ Wds p' ∧ Wds A' := by
    have hk16 : p.length < 16 := by rw [D.pl]; omega
    by_cases hfit : n + m ≤ 36028797018963968
    · refine ⟨S.run A (p ++ xs) ((n % 16 + m) / 16), n + m, (p ++ xs).drop (16 * ((n % 16 + m) / 16)), ?_, ?_, wds_drop (wds_append wp.1 HWX.out) _, wds_runA wp.2 _ _⟩
      · intro w al cl hw Dw ha
        have := hw.size
        exact add_fits w (hT.below hw h2) (by omega) g A n p Dw al m cl xs hx ha (by omega) hfit
      · intro w hw ha
        have := hw.size
        rw [← D.pl]
        refine (radd_fits w (hR.below hw (by omega)) (by omega) A D.al ao p.length c n p rfl hk16 ha aw m cw xs hx (HX.out.below hw) (by omega) hfit).mono ?_
        rintro e w' ⟨ao', c', rfl, h1, h2, h3⟩
        exact ⟨ao', c', rfl, h1, .inl h2, h3⟩
    · refine ⟨A, n, p, ?_, ?_, wp⟩
      · intro w al cl _ Dw _
        refine (add_over w g A n p Dw al m cl (by omega) (by omega)).mono ?_
        rintro e w' ⟨rfl, rfl⟩
        exact ⟨rfl, Dw, ⟨rfl, rfl, rfl, Nat.le_refl _, fun _ _ _ => rfl⟩⟩
      · intro w _ _
        refine (radd_over w A D.al ao p.length c n D.nl aw m cw (by omega) (by omega)).mono ?_
        rintro e w' ⟨rfl, hb⟩
        exact ⟨ao, c, rfl, hc, .inr ⟨rfl, rfl⟩, hb⟩
  obtain ⟨A', n', p', A18, A51, wp'⟩ := ADD
  have H18 : Hid (∀ w al cl, Below W.heap.size W w → Dig w g A n p → At w .u32 al xs → Calls Tryd.prog 18 #[.pointer (some ⟨g, 0, none⟩), .slice al m cl] w fun e w' => e = .returned (.tuple #[]) ∧ Dig w' g A' n' p' ∧ But g w w') := A18
  have H51 : Hid (∀ w, Below W.heap.size W w → At w .u32 ao p → Calls Tryd.prog 51 #[.agg (rdC A (.slice ao p.length c) (n : Int)).toArray, .slice aw m cw] w fun e w' => ∃ ao' c', e = .returned (.agg (rdC A' (.slice ao' p'.length c') (n' : Int)).toArray) ∧ p'.length ≤ c' ∧ (WatN w.heap.size w' ao' p' ∨ (ao' = ao ∧ p' = p)) ∧ Below w.heap.size w w') := A51
  have HWP : Hid (Wds p' ∧ Wds A') := wp'
  have HP : Hid (ps[k]? = some (.pointer (some ⟨g, 0, none⟩))) := hp
  have HD1 : Hid (Dig w1 g A n p ∧ Wat w1 ao p ∧ rs[k]? = some (rdC A (.slice ao p.length c) (n : Int)) ∧ W.heap.size ≤ g) := ⟨D, wat, hr, HB.out.own k g hk hp⟩
  have Dal := D.al
  clear A18 A51 wp' D wat hr hc wp hp
  go_wp2_with fail
  refine (lent_mine w1 aw m cw xs hx (HX.out.below HB.out.low) hm).mono ?_
  rintro e w2 ⟨gl, cl, rfl, hcl, hgl, M2, hb2⟩
  obtain ⟨D1, wat1, hr1, hgW⟩ := HD1.out
  obtain ⟨ds1, hds1⟩ := D1.cel
  have B1 := HB.out
  have CB2 := B1.cel.below hb2 B1.cel.lt
  have CO2 := HCO.out.below hb2 HCO.out.lt
  have D2 := D1.below hb2 D1.lt
  obtain ⟨ds2, hds2⟩ := D2.cel
  have hW2 := B1.low.trans (hb2.mono B1.low.size)
  obtain ⟨ms2, hms2⟩ := M2.cel
  have hne_gb : gb ≠ g := cel_ne CB2 hds2 (by decide)
  have hne_go : go ≠ g := cel_ne CO2 hds2 (by decide)
  have hne_gl : gl ≠ g := cel_ne hms2 hds2 (by decide)
  have hne_gogb : go ≠ gb := cel_ne CO2 CB2 (by decide)
  have hne_glgb : gl ≠ gb := cel_ne hms2 CB2 (by decide)
  have c1 : (m : Int) ≤ (cl : Int) := by omega
  have BX2 : Hid (But g w2 w2.drew) := Below.but (Below.refl _ _).drew
  have HWD : Hid (Below W.heap.size W w2.drew) := hW2.drew
  have HD2 : Hid (Dig w2.drew g A n p) := D2.below (Below.refl _ _).drew D2.lt
  have HAT2 : Hid (At w2.drew .u32 (some ⟨gl, 0, none⟩) xs) := (M2.on (Below.refl _ _).drew).head
  have cpk : ∀ w, But g w2 w → w.cell? ⟨gb, k, none⟩ = some (.pointer (some ⟨g, 0, none⟩)) := fun w hw => by
    rw [(CB2.but hw hne_gb).cell k, ben_ptr B1.pl k hk, HP.out]
  have co3 : ∀ w, But g w2 w → w.cell? ⟨go, 3, none⟩ = some (.slice aw m cw) := fun w hw => by
    rw [(CO2.but hw hne_go).cell 3]; rfl
  have F2 : Hid (Mine w2 gl .u32 26 (xs ++ markW 120) ∧ Cel w2 gb 62 (benC ps rs) ∧ Cel w2 go 65 [.int .i64 2, .int .i64 d, .int .i64 nn, .slice aw m cw] ∧ Below W.heap.size W w2 ∧ Below w1.heap.size w1 w2) := ⟨M2, CB2, CO2, hW2, hb2⟩
  clear M2 CB2 CO2 hW2 hb2 D2 D1 wat1 hr1 hds1 hds2 hms2 B1 o0 o1 o2 o3
  go_wp2_with fail
  refine wp_region_held_drew (S := fun w => But g w2 w) (by kernel_rfl) BX2.out (fun hHeld => ?_)
  refine wpAnyH_take (i := 0) (oi := { dst := some 45, op := Op.move (Operand.tmp 0), type := 56, pos := "law.go:139", after := #[], guard := none }) (v := .pointer (some ⟨gb, 0, none⟩)) rfl (by kernel_rfl) (by kernel_rfl) (by kernel_rfl) (fun _ _ _ h => h) (Or.inl ⟨by rfl, by intro w hSw; go_simp⟩) (by assumption) ?_
  simp only [Act.put, List.setIfInBounds_toArray, List.set_cons_zero, List.set_cons_succ]
  refine wpAnyH_take (i := 1) (oi := { dst := some 46, op := Op.move (Operand.tmp 5), type := 3, pos := "law.go:139", after := #[], guard := none }) (v := .int .i64 (k : Int)) rfl (by kernel_rfl) (by kernel_rfl) (by kernel_rfl) (fun _ _ _ h => h) (Or.inl ⟨by rfl, by intro w hSw; go_simp⟩) (by assumption) ?_
  simp only [Act.put, List.setIfInBounds_toArray, List.set_cons_zero, List.set_cons_succ]
  refine wpAnyH_take (i := 2) (oi := { dst := some 47, op := Op.nilCheck (Operand.tmp 45), type := 0, pos := "law.go:139", after := #[{ on := 0, ground := Ground.data }], guard := none }) (v := .pointer (some ⟨gb, 0, none⟩)) rfl (by kernel_rfl) (by kernel_rfl) (by kernel_rfl) (fun _ _ _ h => h) (Or.inl ⟨by rfl, by intro w hSw; go_simp⟩) (by assumption) ?_
  simp only [Act.put, List.setIfInBounds_toArray, List.set_cons_zero, List.set_cons_succ]
  refine wpAnyH_take (i := 3) (oi := { dst := some 48, op := Op.fieldAddr 62 (Operand.tmp 47) 0, type := 0, pos := "law.go:139", after := #[{ on := 2, ground := Ground.data }], guard := none }) (v := .pointer (some ⟨gb, 0, none⟩)) rfl (by kernel_rfl) (by kernel_rfl) (by kernel_rfl) (fun _ _ _ h => h) (Or.inl ⟨by rfl, by intro w hSw; go_simp⟩) (by assumption) ?_
  simp only [Act.put, List.setIfInBounds_toArray, List.set_cons_zero, List.set_cons_succ]
  refine wpAnyH_take (i := 4) (oi := { dst := some 49, op := Op.indexAddr 57 (Operand.tmp 48) (Operand.tmp 46), type := 0, pos := "law.go:139", after := #[{ on := 3, ground := Ground.data }, { on := 1, ground := Ground.data }], guard := none }) (v := .pointer (some ⟨gb, k, none⟩)) rfl (by kernel_rfl) (by kernel_rfl) (by kernel_rfl) (fun _ _ _ h => h) (Or.inl ⟨by rfl, by intro w hSw; go_simp⟩) (by assumption) ?_
  simp only [Act.put, List.setIfInBounds_toArray, List.set_cons_zero, List.set_cons_succ]
  refine wpAnyH_take (i := 5) (oi := { dst := some 50, op := Op.load 33 (Operand.tmp 49), type := 33, pos := "law.go:139", after := #[{ on := 4, ground := Ground.data }], guard := none }) (v := .pointer (some ⟨g, 0, none⟩)) rfl (by kernel_rfl) (by kernel_rfl) (by kernel_rfl) (fun _ _ _ h => h) (Or.inl ⟨by rfl, by intro w hSw; go_simp⟩) (by assumption) ?_
  simp only [Act.put, List.setIfInBounds_toArray, List.set_cons_zero, List.set_cons_succ]
  refine wpAnyH_take (i := 6) (oi := { dst := some 51, op := Op.move (Operand.tmp 7), type := 23, pos := "law.go:139", after := #[], guard := none }) (v := .slice (some ⟨gl, 0, none⟩) (m + 120) cl) rfl (by kernel_rfl) (by kernel_rfl) (by kernel_rfl) (fun _ _ _ h => h) (Or.inl ⟨by rfl, by intro w hSw; go_simp⟩) (by assumption) ?_
  simp only [Act.put, List.setIfInBounds_toArray, List.set_cons_zero, List.set_cons_succ]
  refine wpAnyH_take (i := 7) (oi := { dst := some 52, op := Op.fieldAddr 65 (Operand.tmp 3) 3, type := 0, pos := "law.go:139", after := #[], guard := none }) (v := .pointer (some ⟨go, 3, none⟩)) rfl (by kernel_rfl) (by kernel_rfl) (by kernel_rfl) (fun _ _ _ h => h) (Or.inl ⟨by rfl, by intro w hSw; go_simp⟩) (by assumption) ?_
  simp only [Act.put, List.setIfInBounds_toArray, List.set_cons_zero, List.set_cons_succ]
  refine wpAnyH_take (i := 8) (oi := { dst := some 53, op := Op.load 23 (Operand.tmp 52), type := 23, pos := "law.go:139", after := #[{ on := 7, ground := Ground.data }], guard := none }) (v := .slice aw m cw) rfl (by kernel_rfl) (by kernel_rfl) (by kernel_rfl) (fun _ _ _ h => h) (Or.inl ⟨by rfl, by intro w hSw; go_simp⟩) (by assumption) ?_
  simp only [Act.put, List.setIfInBounds_toArray, List.set_cons_zero, List.set_cons_succ]
  refine wpAnyH_take (i := 9) (oi := { dst := some 54, op := Op.call { callee := Callee.builtin Builtin.len, args := #[Operand.tmp 53], argTypes := #[23] }, type := 3, pos := "law.go:139", after := #[{ on := 8, ground := Ground.data }], guard := none }) (v := .int .i64 (m : Int)) rfl (by kernel_rfl) (by kernel_rfl) (by kernel_rfl) (fun _ _ _ h => h) (Or.inl ⟨by rfl, by intro w hSw; go_simp⟩) (by assumption) ?_
  simp only [Act.put, List.setIfInBounds_toArray, List.set_cons_zero, List.set_cons_succ]
  refine wpAnyH_take (i := 10) (oi := { dst := some 55, op := Op.slice 23 (Operand.tmp 51) none (some (Operand.tmp 54)) none, type := 23, pos := "law.go:139", after := #[{ on := 6, ground := Ground.data }, { on := 9, ground := Ground.data }], guard := none }) (v := .slice (some ⟨gl, 0, none⟩) m cl) rfl (by kernel_rfl) (by kernel_rfl) (by kernel_rfl) (fun _ _ _ h => h) (Or.inl ⟨by rfl, by intro w hSw; go_simp⟩) (by assumption) ?_
  simp only [Act.put, List.setIfInBounds_toArray, List.set_cons_zero, List.set_cons_succ]
  refine wpAnyH_ready (rs := [11]) (by kernel_rfl) (by simp) (AllReadyH.cons (o := { dst := some 56, op := Op.call { callee := Callee.value (Operand.func 18), args := #[Operand.tmp 50, Operand.tmp 55], argTypes := #[33, 23] }, type := 0, pos := "law.go:139", after := #[{ on := 5, ground := Ground.data }, { on := 10, ground := Ground.data }], guard := none }) rfl (fun K hK => ?_) AllReadyH.nil)
  go_simp
  refine (H18.out w2.drew (some ⟨gl, 0, none⟩) cl HWD.out HD2.out HAT2.out).mono ?_
  rintro en w3 ⟨rfl, D3, hb3⟩
  have hb23 : But g w2 w3 := BX2.out.trans hb3
  go_wp2_with fail
  refine hK.out _ _ hb23 (fun hHeld => ?_)
  clear hK K
  try simp only [Act.put, List.setIfInBounds_toArray, List.set_cons_zero, List.set_cons_succ]
  refine wpAnyH_done (by kernel_rfl) ?_ _
  obtain ⟨M2, CB2, CO2, hW2, hb2⟩ := F2.out
  have M3 := M2.but hb23 hne_gl
  have CB3 := CB2.but hb23 hne_gb
  have CO3 := CO2.but hb23 hne_go
  have hW3 : Below W.heap.size W w3 := hW2.trans (hb23.below hgW hW2.size)
  have D3' : Hid (Dig w3 g A' n' p') := D3
  have HB23 : Hid (But g w2 w3) := hb23
  have co3' : w3.cell? ⟨go, 3, none⟩ = some (.slice aw m cw) := by rw [CO3.cell 3]; rfl
  clear D3 hb23 hb3 hHeld M2 CB2 CO2 hW2 hb2 cpk co3 BX2 HWD HD2 HAT2
  go_wp2_with fail
  have BX3 : Hid (But gb w3 w3.drew) := Below.but (Below.refl _ _).drew
  have hben := ben_length (ps := ps) (rs := rs) HB.out.pl HB.out.ten HB.out.rl
  obtain ⟨R, hRe⟩ : ∃ R, R = rdC A (.slice ao p.length c) (n : Int) := ⟨_, rfl⟩
  have hRl : R.length = 10 := by rw [hRe]; exact rdC_length _ _ _ Dal
  have RK : Hid (w3.drew.rangeAt gb (6 + k * 10) R) := fun t v hv => by
    have ht : t < 10 := by
      rcases Nat.lt_or_ge t 10 with h | h
      · exact h
      · rw [List.getElem?_eq_none (by rw [hRl]; exact h)] at hv; cases hv
    have hCd : Cel w3.drew gb 62 (benC ps rs) := CB3
    rw [hCd.cell, show 6 + k * 10 + t = 6 + 10 * k + t by omega, ben_range HB.out.pl HB.out.ten k _ HD1.out.2.2.1 t ht, ← hRe, hv]
  have co4 : ∀ w, But gb w3 w → w.cell? ⟨go, 3, none⟩ = some (.slice aw m cw) := fun w hw => by
    rw [(CO3.but hw hne_gogb).cell 3]; rfl
  have C51 : Hid (Calls Tryd.prog 51 #[.agg R.toArray, .slice aw m cw] w3.drew fun e w' => ∃ ao' c', e = .returned (.agg (rdC A' (.slice ao' p'.length c') (n' : Int)).toArray) ∧ p'.length ≤ c' ∧ (WatN w3.heap.size w' ao' p' ∨ (ao' = ao ∧ p' = p)) ∧ Below w3.heap.size w3 w' ∧ Cel w' gb 62 (benC ps rs)) := by
    rw [hRe]
    have wat3 : Wat w3 ao p := by
      obtain ⟨ds, hds⟩ := (HD1.out.1.below F2.out.2.2.2.2 HD1.out.1.lt).cel
      exact (HD1.out.2.1.below F2.out.2.2.2.2).but hds (by decide) HB23.out
    refine (H51.out w3.drew hW3.drew (wat3.at.below (Below.refl _ _).drew)).mono ?_
    rintro e w' ⟨ao', c', rfl, h1, h2, h3⟩
    have h3' : Below w3.heap.size w3 w' := (Below.refl _ _).drew.trans h3
    exact ⟨ao', c', rfl, h1, h2, h3', CB3.below h3' CB3.lt⟩
  have F3 : Hid (Mine w3 gl .u32 26 (xs ++ markW 120) ∧ Cel w3 gb 62 (benC ps rs) ∧ Cel w3 go 65 [.int .i64 2, .int .i64 d, .int .i64 nn, .slice aw m cw] ∧ Below W.heap.size W w3) := ⟨M3, CB3, CO3, hW3⟩
  clear hRe M3 CB3 CO3 hW3 co3'
  refine wp_region_held_drew (S := fun w => But gb w3 w) (by kernel_rfl) BX3.out (fun hHeld => ?_)
  refine wpAnyH_take (i := 0) (oi := { dst := some 57, op := Op.move (Operand.tmp 0), type := 56, pos := "law.go:140", after := #[], guard := none }) (v := .pointer (some ⟨gb, 0, none⟩)) rfl (by kernel_rfl) (by kernel_rfl) (by kernel_rfl) (fun _ _ _ h => h) (Or.inl ⟨by rfl, by intro w hSw; go_simp⟩) (by assumption) ?_
  simp only [Act.put, List.setIfInBounds_toArray, List.set_cons_zero, List.set_cons_succ]
  refine wpAnyH_take (i := 1) (oi := { dst := some 58, op := Op.move (Operand.tmp 5), type := 3, pos := "law.go:140", after := #[], guard := none }) (v := .int .i64 (k : Int)) rfl (by kernel_rfl) (by kernel_rfl) (by kernel_rfl) (fun _ _ _ h => h) (Or.inl ⟨by rfl, by intro w hSw; go_simp⟩) (by assumption) ?_
  simp only [Act.put, List.setIfInBounds_toArray, List.set_cons_zero, List.set_cons_succ]
  refine wpAnyH_take (i := 2) (oi := { dst := some 59, op := Op.move (Operand.tmp 0), type := 56, pos := "law.go:140", after := #[], guard := none }) (v := .pointer (some ⟨gb, 0, none⟩)) rfl (by kernel_rfl) (by kernel_rfl) (by kernel_rfl) (fun _ _ _ h => h) (Or.inl ⟨by rfl, by intro w hSw; go_simp⟩) (by assumption) ?_
  simp only [Act.put, List.setIfInBounds_toArray, List.set_cons_zero, List.set_cons_succ]
  refine wpAnyH_take (i := 3) (oi := { dst := some 60, op := Op.move (Operand.tmp 5), type := 3, pos := "law.go:140", after := #[], guard := none }) (v := .int .i64 (k : Int)) rfl (by kernel_rfl) (by kernel_rfl) (by kernel_rfl) (fun _ _ _ h => h) (Or.inl ⟨by rfl, by intro w hSw; go_simp⟩) (by assumption) ?_
  simp only [Act.put, List.setIfInBounds_toArray, List.set_cons_zero, List.set_cons_succ]
  refine wpAnyH_take (i := 4) (oi := { dst := some 61, op := Op.nilCheck (Operand.tmp 59), type := 0, pos := "law.go:140", after := #[{ on := 2, ground := Ground.data }], guard := none }) (v := .pointer (some ⟨gb, 0, none⟩)) rfl (by kernel_rfl) (by kernel_rfl) (by kernel_rfl) (fun _ _ _ h => h) (Or.inl ⟨by rfl, by intro w hSw; go_simp⟩) (by assumption) ?_
  simp only [Act.put, List.setIfInBounds_toArray, List.set_cons_zero, List.set_cons_succ]
  refine wpAnyH_take (i := 5) (oi := { dst := some 62, op := Op.fieldAddr 62 (Operand.tmp 61) 1, type := 0, pos := "law.go:140", after := #[{ on := 4, ground := Ground.data }], guard := none }) (v := .pointer (some ⟨gb, 6, none⟩)) rfl (by kernel_rfl) (by kernel_rfl) (by kernel_rfl) (fun _ _ _ h => h) (Or.inl ⟨by rfl, by intro w hSw; go_simp⟩) (by assumption) ?_
  simp only [Act.put, List.setIfInBounds_toArray, List.set_cons_zero, List.set_cons_succ]
  refine wpAnyH_take (i := 6) (oi := { dst := some 63, op := Op.indexAddr 60 (Operand.tmp 62) (Operand.tmp 60), type := 0, pos := "law.go:140", after := #[{ on := 5, ground := Ground.data }, { on := 3, ground := Ground.data }], guard := none }) (v := .pointer (some ⟨gb, 6 + k * 10, none⟩)) rfl (by kernel_rfl) (by kernel_rfl) (by kernel_rfl) (fun _ _ _ h => h) (Or.inl ⟨by rfl, by intro w hSw; go_simp⟩) (by assumption) ?_
  simp only [Act.put, List.setIfInBounds_toArray, List.set_cons_zero, List.set_cons_succ]
  refine wpAnyH_take (i := 8) (oi := { dst := some 65, op := Op.fieldAddr 65 (Operand.tmp 3) 3, type := 0, pos := "law.go:140", after := #[], guard := none }) (v := .pointer (some ⟨go, 3, none⟩)) rfl (by kernel_rfl) (by kernel_rfl) (by kernel_rfl) (fun _ _ _ h => h) (Or.inl ⟨by rfl, by intro w hSw; go_simp⟩) (by assumption) ?_
  simp only [Act.put, List.setIfInBounds_toArray, List.set_cons_zero, List.set_cons_succ]
  refine wpAnyH_take (i := 9) (oi := { dst := some 66, op := Op.load 23 (Operand.tmp 65), type := 23, pos := "law.go:140", after := #[{ on := 8, ground := Ground.data }], guard := none }) (v := .slice aw m cw) rfl (by kernel_rfl) (by kernel_rfl) (by kernel_rfl) (fun _ _ _ h => h) (Or.inl ⟨by rfl, by intro w hSw; go_simp⟩) (by assumption) ?_
  simp only [Act.put, List.setIfInBounds_toArray, List.set_cons_zero, List.set_cons_succ]
  refine wpAnyH_take (i := 11) (oi := { dst := some 68, op := Op.nilCheck (Operand.tmp 57), type := 0, pos := "law.go:140", after := #[{ on := 0, ground := Ground.data }], guard := none }) (v := .pointer (some ⟨gb, 0, none⟩)) rfl (by kernel_rfl) (by kernel_rfl) (by kernel_rfl) (fun _ _ _ h => h) (Or.inl ⟨by rfl, by intro w hSw; go_simp⟩) (by assumption) ?_
  simp only [Act.put, List.setIfInBounds_toArray, List.set_cons_zero, List.set_cons_succ]
  refine wpAnyH_take (i := 12) (oi := { dst := some 69, op := Op.fieldAddr 62 (Operand.tmp 68) 1, type := 0, pos := "law.go:140", after := #[{ on := 11, ground := Ground.data }], guard := none }) (v := .pointer (some ⟨gb, 6, none⟩)) rfl (by kernel_rfl) (by kernel_rfl) (by kernel_rfl) (fun _ _ _ h => h) (Or.inl ⟨by rfl, by intro w hSw; go_simp⟩) (by assumption) ?_
  simp only [Act.put, List.setIfInBounds_toArray, List.set_cons_zero, List.set_cons_succ]
  refine wpAnyH_ready (rs := [7]) (by kernel_rfl) (by simp) (AllReadyH.cons (o := { dst := some 64, op := Op.load 59 (Operand.tmp 63), type := 59, pos := "law.go:140", after := #[{ on := 6, ground := Ground.data }], guard := none }) rfl (fun K hK => ?_) AllReadyH.nil)
  rw [if_pos (by rfl)]
  refine wp_load_mid 59 _ rfl gb (6 + k * 10) rfl R _ RK.out Tryd.underlying59 rfl (by rw [hRl]; exact size59) ?_
  refine hK.out _ _ BX3.out (fun hHeld => ?_)
  clear hK K
  try simp only [Act.put, List.setIfInBounds_toArray, List.set_cons_zero, List.set_cons_succ]
  refine wpAnyH_ready (rs := [10]) (by kernel_rfl) (by simp) (AllReadyH.cons (o := { dst := some 67, op := Op.call { callee := Callee.value (Operand.func 51), args := #[Operand.tmp 64, Operand.tmp 66], argTypes := #[59, 23] }, type := 59, pos := "law.go:140", after := #[{ on := 7, ground := Ground.data }, { on := 9, ground := Ground.data }], guard := none }) rfl (fun K hK => ?_) AllReadyH.nil)
  go_simp
  refine C51.out.mono ?_
  rintro en w4 ⟨ao', c', rfl, hc', wat4, hb4, hcb4⟩
  go_wp2_with fail
  refine hK.out _ _ (Below.but hb4) (fun hHeld => ?_)
  clear hK K
  try simp only [Act.put, List.setIfInBounds_toArray, List.set_cons_zero, List.set_cons_succ]
  refine wpAnyH_take (i := 13) (oi := { dst := some 70, op := Op.indexAddr 60 (Operand.tmp 69) (Operand.tmp 58), type := 0, pos := "law.go:140", after := #[{ on := 12, ground := Ground.data }, { on := 1, ground := Ground.data }, { on := 0, ground := Ground.phase }, { on := 1, ground := Ground.phase }, { on := 2, ground := Ground.phase }, { on := 3, ground := Ground.phase }, { on := 4, ground := Ground.phase }, { on := 5, ground := Ground.phase }, { on := 6, ground := Ground.phase }, { on := 7, ground := Ground.phase }, { on := 8, ground := Ground.phase }, { on := 9, ground := Ground.phase }, { on := 10, ground := Ground.phase }], guard := none }) (v := .pointer (some ⟨gb, 6 + k * 10, none⟩)) rfl (by kernel_rfl) (by kernel_rfl) (by kernel_rfl) (fun _ _ _ h => h) (Or.inl ⟨by rfl, by intro w hSw; go_simp⟩) (by assumption) ?_
  simp only [Act.put, List.setIfInBounds_toArray, List.set_cons_zero, List.set_cons_succ]
  obtain ⟨R', hR2⟩ : ∃ R', R' = rdC A' (.slice ao' p'.length c') (n' : Int) := ⟨_, rfl⟩
  have hRl' : R'.length = 10 := by rw [hR2]; exact rdC_length _ _ _ D3'.out.al
  have HR1 : Hid (∀ u ∈ R', u.oneCell' = true) := by unfold Hid; rw [hR2]; exact rdC_one _ _ _ _ _
  have HRR : Hid (R' = rdC A' (.slice ao' p'.length c') (n' : Int)) := hR2
  rw [← hR2]
  clear hR2
  refine wpAnyH_ready (rs := [14]) (by kernel_rfl) (by simp) (AllReadyH.cons (o := { dst := none, op := Op.store 59 (Operand.tmp 70) (Operand.tmp 67), type := 0, pos := "law.go:140", after := #[{ on := 13, ground := Ground.data }, { on := 10, ground := Ground.data }, { on := 10, ground := Ground.chain }, { on := 0, ground := Ground.phase }, { on := 1, ground := Ground.phase }, { on := 2, ground := Ground.phase }, { on := 3, ground := Ground.phase }, { on := 4, ground := Ground.phase }, { on := 5, ground := Ground.phase }, { on := 6, ground := Ground.phase }, { on := 7, ground := Ground.phase }, { on := 8, ground := Ground.phase }, { on := 9, ground := Ground.phase }, { on := 10, ground := Ground.phase }], guard := none }) rfl (fun K hK => ?_) AllReadyH.nil)
  rw [if_pos (by rfl)]
  refine wp_store_vals 59 _ _ rfl gb (6 + k * 10) R' rfl rfl hcb4 (by rw [hRl']; exact size59) (by rw [hRl', hben]; omega) HR1.out ?_
  refine hK.out _ _ ((Below.but hb4).trans (but_setRow _ _ _)) (fun hHeld => ?_)
  clear hK K
  simp only [Act.put]
  refine wpAnyH_done (by kernel_rfl) ?_ _
  obtain ⟨M3, CB3, CO3, hW3⟩ := F3.out
  have C5 := ben_store (R := R') hcb4 HB.out.pl HB.out.rl HB.out.ten hk hRl'
  rw [show 6 + 10 * k = 6 + k * 10 by omega] at C5
  have hb45 : But gb w4 (w4.setRow gb (splice (benC ps rs) (6 + k * 10) R').toArray) := but_setRow _ _ _
  have M4 := M3.on hb4
  have CO4 := CO3.below hb4 CO3.lt
  have D4 := D3'.out.below hb4 D3'.out.lt
  have hW4 := hW3.trans (hb4.mono hW3.size)
  generalize w4.setRow gb (splice (benC ps rs) (6 + k * 10) R').toArray = w5 at *
  have M5 := M4.but hb45 hne_glgb
  have CO5 := CO4.but hb45 hne_gogb
  have D5 := D4.but hb45 (Ne.symm hne_gb)
  have hW5 : Below W.heap.size W w5 := hW4.trans (hb45.below HB.out.new hW4.size)
  have co5 : w5.cell? ⟨go, 3, none⟩ = some (.slice aw m cw) := by rw [CO5.cell 3]; rfl
  have hgl3 : gl < w3.heap.size := M3.lt
  have wat5 : WatN w3.heap.size w5 ao' p' ∨ (ao' = ao ∧ p' = p) := wat4.imp (fun h => h.but hb45 (.inr ⟨62, _, hcb4, by decide⟩)) id
  have F5 : Hid (Mine w5 gl .u32 26 (xs ++ markW 120) ∧ Cel w5 gb 62 (benC ps (rs.set k R')) ∧ Dig w5 g A' n' p' ∧ Below W.heap.size W w5 ∧ (WatN w3.heap.size w5 ao' p' ∨ (ao' = ao ∧ p' = p)) ∧ But gb w4 w5 ∧ Below w3.heap.size w3 w4) := ⟨M5, C5, D5, hW5, wat5, hb45, hb4⟩
  clear M3 CB3 CO3 hW3 M4 CO4 D4 hW4 M5 CO5 D5 hW5 wat5 wat4 hb45 hb4 hcb4 C5 hHeld co4
  go_wp2_with fail
  refine (whole_yes w5 (some ⟨gl, 0, none⟩) cl aw m cw xs hx F5.out.1.at (HX.out.below F5.out.2.2.2.1) hm).mono ?_
  rintro e w6 ⟨rfl, hb6⟩
  have hlen : (xs ++ markW 120).length = m + 120 := by rw [List.length_append, hx, markW_length]
  have M6 := F5.out.1.on hb6
  generalize xs ++ markW 120 = L0 at *
  have M6' : Hid (Mine w6 gl .u32 26 L0) := M6
  have HB6 : Hid (Below w5.heap.size w5 w6) := hb6
  clear M6 hb6 co5
  go_wp2_with fail
  go_loopw [9] (fun i wr => ∃ (t : Nat) (L : List Int), t ≤ m + 120 ∧ i = .int .i64 (t : Int) ∧ L.length = m + 120 ∧ Mine wr gl .u32 26 L ∧ But gl w6 wr) (fun i _ => m + 120 - (intOf i).toNat)
  case atStart => exact ⟨0, L0, Nat.zero_le _, rfl, hlen, M6'.out, ⟨rfl, rfl, rfl, Nat.le_refl _, fun _ _ _ => rfl⟩⟩
  case round =>
    clear M6'
    obtain ⟨t, L, ht, rfl, hLl, M, hb⟩ := hrel
    by_cases hlt : t < m + 120
    · have ct := M.cell t (by omega)
      have ft := M.free t
      have MN : Hid (Mine (wr.setCell ⟨gl, t, none⟩ (.int .u32 9)) gl .u32 26 (L.set t 9)) := M.set t 9
      have BN : Hid (But gl w6 (wr.setCell ⟨gl, t, none⟩ (.int .u32 9))) := hb.trans (but_setCell _ _ _ _)
      have q0 : (t : Int) < (m : Int) + 120 := by omega
      clear M hb
      go_wp2
      go_roundw
      case rel => exact ⟨t + 1, _, by omega, by go_num, by rw [List.length_set]; exact hLl, MN.out, BN.out⟩
      case measure => simp [intOf]; omega
    · obtain rfl : t = m + 120 := by omega
      have BN : Hid (∃ ps' rs', Ben W wr gb 6 ps' rs') := by
        obtain ⟨_, C5, D5, hW5, wat5, hb45, hb34⟩ := F5.out
        have hb6 := HB6.out
        have h1 : w1.heap.size ≤ gl := hgl
        have s2 := F2.out.2.2.2.2.size
        have s23 := HB23.out.size
        have s34 := hb34.size
        have s45 := hb45.size
        have s56 := hb6.size
        have Fr : ∀ b, b < w1.heap.size → b ≠ g → b ≠ gb → wr.heap[b]? = w1.heap[b]? := fun b hb1 hbg hbb => by
          rw [hb.block b (by omega) (by omega), hb6.block b (by omega), hb45.block b (by omega) hbb, hb34.block b (by omega), HB23.out.block b (by omega) hbg, F2.out.2.2.2.2.block b hb1]
        obtain ⟨ds, hds⟩ := HD1.out.1.cel
        have D6 := D5.below hb6 D5.lt
        have C6 := C5.below hb6 C5.lt
        have hlow : Below W.heap.size W wr := (hW5.trans (hb6.mono hW5.size)).trans (hb.below (by have := HB.out.low.size; omega) (by have := HB.out.low.size; omega))
        have watr : Wat wr ao' p' := by
          rcases wat5 with h | ⟨rfl, rfl⟩
          · exact ((h.below hb6).but hb (.inl hgl3)).wat
          · exact HD1.out.2.1.frame hds HB.out.cel Fr
        refine ⟨_, _, HB.out.turn hk HP.out hds hlow Fr (D6.but hb (Ne.symm hne_gl)) hc' watr HWP.out ?_⟩
        have := C6.but hb (Ne.symm hne_glgb)
        rw [HRR.out] at this
        exact this
      clear M hb
      go_wp2
      go_ret
      exact ⟨rfl, BN.out⟩
end Go.Proofs.YtjkkelkblccolaaDoor
