/- MacPieces, the walk. -/
import Derived.Test.YtialckmoigcdeaaDoorP1
namespace Go.Proofs.YtialckmoigcdeaaDoor
open Go.RowKit


structure PBase (W w : World) (gB gk gw : Nat) (cs : List Value) (KB H : List Int) : Prop where
  below : Below W.heap.size W w
  tabs : Tabs w
  box : Cel w gB 39 cs
  kb : Blk w gk .u8 5 KB
  wb : Blk w gw .u32 26 H
theorem PBase.on {W w w' : World} {gB gk gw : Nat} {cs : List Value} {KB H : List Int} (h : PBase W w gB gk gw cs KB H) (hb : Below w.heap.size w w') : PBase W w' gB gk gw cs KB H := ⟨h.below.trans (hb.mono h.below.size), h.tabs.on hb, h.box.below hb h.box.lt, h.kb.on hb, h.wb.on hb⟩
theorem PBase.but {W w w' : World} {g gB gk gw : Nat} {cs : List Value} {KB H : List Int} (h : PBase W w gB gk gw cs KB H) (hb : But g w w') (h0 : W.heap.size ≤ g) (h3 : 3 ≤ g) (h1 : gB ≠ g) (h2 : gk ≠ g) (h4 : gw ≠ g) : PBase W w' gB gk gw cs KB H := ⟨h.below.trans (hb.below h0 h.below.size), h.tabs.but hb h3, h.box.but hb h1, hb.blk h.kb h2, hb.blk h.wb h4⟩

attribute [-simp] Tryd.isAgg26 Tryd.sizeOf26 Tryd.zeroValue26
set_option maxRecDepth 20000 in
set_option maxHeartbeats 4000000 in
theorem macPieces_any (W : World) (hT : Tabs W) (ka : Option Addr) (kn kc : Nat) (ks : List Int) (hkl : ks.length = kn) (wk : Wds ks) (hka : At W .u32 ka ks) (hks : Sl ka kc) (hkn : 4 * kn ≤ 140737488351232)
    (ma : Option Addr) (mn mc : Nat) (xs : List Int) (hml : xs.length = mn) (wm : Wds xs) (hma : At W .u32 ma xs) (hms : Sl ma mc) (hmc : mn ≤ mc) (hmn : 4 * mn ≤ 140737488351232) (hmc' : mc ≤ 9223372036854775807)
    (aa : Option Addr) (an ac : Nat) (zs : List Int) (hal : zs.length = an) (haa : At W .i64 aa zs) (han : an ≤ 9223372036854775807) :
    Calls Tryd.prog 4 #[.agg #[.slice ka kn kc, .slice ma mn mc, .slice aa an ac]] W fun e W' => e = .returned (.bool true) ∧ Below W.heap.size W W' := by
  obtain ⟨V, hV⟩ : ∃ V : List Int, V = List.replicate 8 0 := ⟨_, rfl⟩
  have hVl : V.length = 8 := by rw [hV]; simp
  have hv : ∀ w, (zeroValue 26).run Tryd.prog w = .ok (.agg (V.map (Value.int .u32)).toArray) w := fun w => by rw [Tryd.zeroValue26, hV]; rfl
  clear hV
  have i1 : (kn : Int) ≤ 35184372087808 := by omega
  have i2 : (mn : Int) ≤ 35184372087808 := by omega
  have i3 : (mn : Int) ≤ (mc : Int) := by omega
  have i4 : (mc : Int) ≤ 9223372036854775807 := by omega
  have i5 : (an : Int) ≤ 9223372036854775807 := by omega
  obtain ⟨X, hX⟩ : ∃ X, X = W.alloc (Obj.cells #[.slice ka kn kc, .slice ma mn mc, .slice aa an ac] 39) := ⟨_, rfl⟩
  have CX : Hid (Cel X W.heap.size 39 [.slice ka kn kc, .slice ma mn mc, .slice aa an ac]) := by rw [hX]; exact heap_alloc_new _ _
  have HB : Hid (Below W.heap.size W X) := by rw [hX]; exact below_one _ _
  have TX : Hid (Tabs X) := hT.on HB.out
  have hsz := hT.sz
  obtain ⟨cs, hcs⟩ : ∃ cs : List Value, cs = [.slice ka kn kc, .slice ma mn mc, .slice aa an ac] := ⟨_, rfl⟩
  have HC : Hid (cs[0]? = some (.slice ka kn kc) ∧ cs[1]? = some (.slice ma mn mc) ∧ cs[2]? = some (.slice aa an ac)) := by rw [hcs]; exact ⟨rfl, rfl, rfl⟩
  rw [← hcs] at CX
  clear hcs
  have AK : Hid (∀ w, Below W.heap.size W w → At w .u32 ka ks) := fun w hb => hka.below hb
  have AM : Hid (∀ w, Below W.heap.size W w → At w .u32 ma xs) := fun w hb => hma.below hb
  have SK : Hid (Sl ka kc) := hks
  have SM : Hid (Sl ma mc) := hms
  clear hT hka hma hks hms
  have c0 : X.cell? ⟨W.heap.size, 0, none⟩ = some (.slice ka kn kc) := by rw [CX.out.cell]; exact HC.out.1
  go_enter Tryd.func4, Tryd.ntmps4
  go_wp2_with fail
  rw [← hX]
  clear hX
  refine (bytes_blk X TX.out ka kn kc ks hkl wk (AK.out X HB.out) hkn).mono ?_
  rintro e w1 ⟨rfl, b1, hb1⟩
  have CX1 : Hid (Cel w1 W.heap.size 39 cs) := CX.out.below hb1 CX.out.lt
  have BK1 : Hid (Blk w1 X.heap.size .u8 5 (bytesD ks)) := b1
  have zX := CX.out.lt
  replace HB : Hid (Below W.heap.size W w1) := HB.out.trans (hb1.mono (by omega))
  replace TX : Hid (Tabs w1) := TX.out.on hb1
  clear c0 hb1 b1 CX
  generalize X.heap.size = gk at *
  have z1 := BK1.out.lt
  have c1 : w1.cell? ⟨W.heap.size, 1, none⟩ = some (.slice ma mn mc) := by rw [CX1.out.cell]; exact HC.out.2.1
  go_wp2_with fail
  refine (bytes_blk w1 TX.out ma mn mc xs hml wm (AM.out w1 HB.out) hmn).mono ?_
  rintro e w2 ⟨rfl, b2, hb2⟩
  have CX2 : Hid (Cel w2 W.heap.size 39 cs) := CX1.out.below hb2 CX1.out.lt
  have BK2 : Hid (Blk w2 gk .u8 5 (bytesD ks)) := BK1.out.on hb2
  have BM2 : Hid (Blk w2 w1.heap.size .u8 5 (bytesD xs)) := b2
  replace HB : Hid (Below W.heap.size W w2) := HB.out.trans (hb2.mono HB.out.size)
  replace TX : Hid (Tabs w2) := TX.out.on hb2
  clear c1 hb2 b2 CX1 BK1
  have hKB : (bytesD ks).length = 4 * kn := by rw [bytesD_length, hkl]
  have hMB : (bytesD xs).length = 4 * mn := by rw [bytesD_length, hml]
  have pKB := bytesD_bts ks
  have pMB := bytesD_bts xs
  go_wp2_with fail
  refine (tag_law w2 TX.out _ (4 * kn) (4 * kn) (bytesD ks) hKB pKB BK2.out.at (Nat.le_refl _) (by omega) _ (4 * mn) (4 * mn) (bytesD xs) hMB pMB BM2.out.at (fun h => by cases h) (by omega)).mono ?_
  rintro e w3 ⟨rfl, hb3⟩
  obtain ⟨H, hH⟩ : ∃ H, hmac (bytesD ks) (bytesD xs) = H := ⟨_, rfl⟩
  have HH : Hid (hmac (bytesD ks) (bytesD xs) = H) := hH
  have hHl : H.length = 8 := by rw [← hH]; exact hmac_length _ _
  have hsH : (Tryd.prog.info? 26).map (·.size) = some H.length := by rw [hHl]; exact size26
  rw [hH]
  have CX3 : Hid (Cel w3 W.heap.size 39 cs) := CX2.out.below hb3 CX2.out.lt
  have BK3 : Hid (Blk w3 gk .u8 5 (bytesD ks)) := BK2.out.on hb3
  replace HB : Hid (Below W.heap.size W w3) := HB.out.trans (hb3.mono HB.out.size)
  replace TX : Hid (Tabs w3) := TX.out.on hb3
  clear hb3 CX2 BK2 BM2 hH
  have z3 := BK3.out.lt
  go_wp2_with (first | (refine wpList_store_but rfl 26 _ _ rfl w3.heap.size H rfl rfl (Blk.new w3 .u32 26 V) hsH (hVl.trans hHl.symm) ?_; intro w4 b4 hw4 hs4))
  have hb34 : Below w3.heap.size w3 w4 := (below_one w3 _).trans (hw4.below (Nat.le_refl _) (by simp))
  obtain ⟨KB, hKBe⟩ : ∃ KB, bytesD ks = KB := ⟨_, rfl⟩
  have HKB : Hid (bytesD ks = KB) := hKBe
  rw [hKBe] at BK3 pKB hKB HH
  have PB : Hid (PBase W w4 W.heap.size gk w3.heap.size cs KB H) := ⟨HB.out.trans (hb34.mono HB.out.size), TX.out.on hb34, CX3.out.below hb34 CX3.out.lt, BK3.out.on hb34, b4⟩
  clear hb34 hw4 hs4 b4 HB TX CX3 BK3 hKBe
  generalize w3.heap.size = gw at *
  have g1 : W.heap.size < gk := zX
  have g2 : gk < gw := z3
  have e1 := eq26 H H hHl hHl
  rw [decide_eq_true rfl] at e1
  go_wp2_with fail
  have FB : Hid (∀ w, Below w4.heap.size w4 w → PBase W w W.heap.size gk gw cs KB H) := fun w hb => PB.out.on hb
  have CB0 : Hid (∀ w, Below w4.heap.size w4 w → w.cell? ⟨W.heap.size, 0, none⟩ = some (.slice ka kn kc)) := fun w hb => by rw [(FB.out w hb).box.cell]; exact HC.out.1
  have CB1 : Hid (∀ w, Below w4.heap.size w4 w → w.cell? ⟨W.heap.size, 1, none⟩ = some (.slice ma mn mc)) := fun w hb => by rw [(FB.out w hb).box.cell]; exact HC.out.2.1
  have RH : Hid (∀ w, Below w4.heap.size w4 w → w.rangeAt gw 0 (H.map (Value.int .u32))) := fun w hb => (FB.out w hb).wb.row.range
  have HL4 : Hid (∀ w w', Below w4.heap.size w4 w → Below w.heap.size w w' → Below w4.heap.size w4 w') := fun w w' h h' => h.trans (h'.mono h.size)
  refine wp_region_held_drew (S := fun w => Below w4.heap.size w4 w) (by kernel_rfl) (Below.refl _ _).drew (fun hHeld => ?_)
  refine wpAnyH_ready (rs := [0]) (by kernel_rfl) (by simp) (AllReadyH.cons (o := { dst := some 18, op := Op.call { callee := Callee.value (Operand.func 9), args := #[], argTypes := #[] }, type := 4, pos := "outright.go:43", after := #[], guard := none }) rfl (fun KQ hK => ?_) AllReadyH.nil)
  go_simp
  refine (first_law _ (FB.out _ (Below.refl _ _).drew).tabs).mono ?_
  rintro e w5 ⟨rfl, hb5⟩
  have B5 : Below w4.heap.size w4 w5 := HL4.out _ _ (Below.refl _ _).drew hb5
  go_wp2_with fail
  refine hK.out _ _ B5 (fun hHeld => ?_)
  clear hK KQ
  try simp only [Act.put, List.setIfInBounds_toArray, List.set_cons_zero, List.set_cons_succ]
  refine wpAnyH_take (i := 1) (oi := { dst := some 19, op := Op.unOp UnOp.not 4 (Operand.tmp 18), type := 4, pos := "outright.go:43", after := #[{ on := 0, ground := Ground.data }], guard := none }) (v := .bool false) rfl (by kernel_rfl) (by kernel_rfl) (by kernel_rfl) (fun _ _ _ h => h) (Or.inl ⟨by rfl, by intro w hSw; go_simp⟩) (by assumption) ?_
  simp only [Act.put, List.setIfInBounds_toArray, List.set_cons_zero, List.set_cons_succ]
  refine wpAnyH_take (i := 2) (oi := { dst := some 20, op := Op.move (Operand.tmp 19), type := 4, pos := "outright.go:43", after := #[{ on := 1, ground := Ground.data }, { on := 0, ground := Ground.chain }], guard := none }) (v := .bool false) rfl (by kernel_rfl) (by kernel_rfl) (by kernel_rfl) (fun _ _ _ h => h) (Or.inl ⟨by rfl, by intro w hSw; go_simp⟩) (by assumption) ?_
  simp only [Act.put, List.setIfInBounds_toArray, List.set_cons_zero, List.set_cons_succ]
  refine wpAnyH_take (i := 3) (oi := { dst := some 21, op := Op.fieldAddr 39 (Operand.tmp 1) 0, type := 0, pos := "outright.go:43", after := #[{ on := 2, ground := Ground.guard }], guard := some (2, false) }) (v := .pointer (some ⟨W.heap.size, 0, none⟩)) rfl (by kernel_rfl) (by kernel_rfl) (by kernel_rfl) (fun _ _ _ h => h) (Or.inl ⟨by rfl, by intro w hSw; go_simp⟩) (by assumption) ?_
  simp only [Act.put, List.setIfInBounds_toArray, List.set_cons_zero, List.set_cons_succ]
  refine wpAnyH_take (i := 4) (oi := { dst := some 22, op := Op.load 35 (Operand.tmp 21), type := 35, pos := "outright.go:43", after := #[{ on := 3, ground := Ground.data }, { on := 2, ground := Ground.guard }], guard := some (2, false) }) (v := .slice ka kn kc) rfl (by kernel_rfl) (by kernel_rfl) (by kernel_rfl) (fun _ _ _ h => h) (Or.inl ⟨by rfl, by intro w hSw; have hcc := CB0.out w hSw; go_simp⟩) (by assumption) ?_
  simp only [Act.put, List.setIfInBounds_toArray, List.set_cons_zero, List.set_cons_succ]
  refine wpAnyH_take (i := 6) (oi := { dst := some 24, op := Op.fieldAddr 39 (Operand.tmp 1) 1, type := 0, pos := "outright.go:43", after := #[{ on := 2, ground := Ground.guard }], guard := some (2, false) }) (v := .pointer (some ⟨W.heap.size, 1, none⟩)) rfl (by kernel_rfl) (by kernel_rfl) (by kernel_rfl) (fun _ _ _ h => h) (Or.inl ⟨by rfl, by intro w hSw; go_simp⟩) (by assumption) ?_
  simp only [Act.put, List.setIfInBounds_toArray, List.set_cons_zero, List.set_cons_succ]
  refine wpAnyH_take (i := 7) (oi := { dst := some 25, op := Op.load 35 (Operand.tmp 24), type := 35, pos := "outright.go:43", after := #[{ on := 6, ground := Ground.data }, { on := 2, ground := Ground.guard }], guard := some (2, false) }) (v := .slice ma mn mc) rfl (by kernel_rfl) (by kernel_rfl) (by kernel_rfl) (fun _ _ _ h => h) (Or.inl ⟨by rfl, by intro w hSw; have hcc := CB1.out w hSw; go_simp⟩) (by assumption) ?_
  simp only [Act.put, List.setIfInBounds_toArray, List.set_cons_zero, List.set_cons_succ]
  refine wpAnyH_take (i := 10) (oi := { dst := some 28, op := Op.load 26 (Operand.tmp 4), type := 26, pos := "outright.go:43", after := #[{ on := 2, ground := Ground.guard }], guard := some (2, false) }) (v := .agg (H.map (Value.int .u32)).toArray) rfl (by kernel_rfl) (by kernel_rfl) (by kernel_rfl) (fun _ _ _ h => h) (yieldsIf_load_mid (by rfl) _ _ rfl _ _ rfl _ _ (fun w hSw => RH.out w hSw) Tryd.underlying26 rfl (by rw [List.length_map]; exact hsH)) (by assumption) ?_
  simp only [Act.put, List.setIfInBounds_toArray, List.set_cons_zero, List.set_cons_succ]
  refine wpAnyH_ready (rs := [5]) (by kernel_rfl) (by simp) (AllReadyH.cons (o := { dst := some 23, op := Op.call { callee := Callee.value (Operand.func 15), args := #[Operand.tmp 22], argTypes := #[35] }, type := 35, pos := "outright.go:43", after := #[{ on := 4, ground := Ground.data }, { on := 2, ground := Ground.chain }, { on := 2, ground := Ground.guard }], guard := some (2, false) }) rfl (fun KQ hK => ?_) AllReadyH.nil)
  go_simp
  refine (words_own _ ka kn kc ks hkl (AK.out _ (FB.out _ B5).below) SK.out (by omega)).mono ?_
  rintro e w6 ⟨vo6, vc6, rfl, h6, a6, s6, hb6⟩
  have B6 : Below w4.heap.size w4 w6 := HL4.out _ _ B5 hb6
  go_wp2_with fail
  refine hK.out _ _ B6 (fun hHeld => ?_)
  clear hK KQ
  try simp only [Act.put, List.setIfInBounds_toArray, List.set_cons_zero, List.set_cons_succ]
  refine wpAnyH_ready (rs := [8]) (by kernel_rfl) (by simp) (AllReadyH.cons (o := { dst := some 26, op := Op.call { callee := Callee.value (Operand.func 15), args := #[Operand.tmp 25], argTypes := #[35] }, type := 35, pos := "outright.go:43", after := #[{ on := 7, ground := Ground.data }, { on := 5, ground := Ground.chain }, { on := 2, ground := Ground.guard }], guard := some (2, false) }) rfl (fun KQ hK => ?_) AllReadyH.nil)
  go_simp
  refine (words_own _ ma mn mc xs hml (AM.out _ (FB.out _ B6).below) SM.out (by omega)).mono ?_
  rintro e w7 ⟨vo7, vc7, rfl, h7, a7, s7, hb7⟩
  have B7 : Below w4.heap.size w4 w7 := HL4.out _ _ B6 hb7
  go_wp2_with fail
  refine hK.out _ _ B7 (fun hHeld => ?_)
  clear hK KQ
  try simp only [Act.put, List.setIfInBounds_toArray, List.set_cons_zero, List.set_cons_succ]
  refine wpAnyH_ready (rs := [9]) (by kernel_rfl) (by simp) (AllReadyH.cons (o := { dst := some 27, op := Op.call { callee := Callee.value (Operand.func 14), args := #[Operand.tmp 23, Operand.tmp 26], argTypes := #[35, 35] }, type := 26, pos := "outright.go:43", after := #[{ on := 5, ground := Ground.data }, { on := 8, ground := Ground.data }, { on := 8, ground := Ground.chain }, { on := 2, ground := Ground.guard }], guard := some (2, false) }) rfl (fun KQ hK => ?_) AllReadyH.nil)
  go_simp
  refine (macTag_any _ (FB.out _ B7).tabs vo6 kn vc6 ks hkl wk (a6.below hb7) hkn vo7 mn vc7 xs hml wm a7 hmn).mono ?_
  rintro e w8 ⟨rfl, hb8⟩
  rw [HKB.out, HH.out]
  have B8 : Below w4.heap.size w4 w8 := HL4.out _ _ B7 hb8
  go_wp2_with fail
  refine hK.out _ _ B8 (fun hHeld => ?_)
  clear hK KQ
  try simp only [Act.put, List.setIfInBounds_toArray, List.set_cons_zero, List.set_cons_succ]
  refine wpAnyH_take (i := 11) (oi := { dst := some 29, op := Op.binOp BinOp.neq 26 (Operand.tmp 27) (Operand.tmp 28) 26, type := 4, pos := "outright.go:43", after := #[{ on := 9, ground := Ground.data }, { on := 10, ground := Ground.data }, { on := 2, ground := Ground.guard }], guard := some (2, false) }) (v := .bool false) rfl (by kernel_rfl) (by kernel_rfl) (by kernel_rfl) (fun _ _ _ h => h) (Or.inl ⟨by rfl, by intro w hSw; simp only [Ag]; go_simp⟩) (by assumption) ?_
  simp only [Act.put, List.setIfInBounds_toArray, List.set_cons_zero, List.set_cons_succ]
  refine wpAnyH_take (i := 12) (oi := { dst := some 30, op := Op.pick (Operand.tmp 20) (Operand.const (Value.bool true)) (Operand.tmp 29), type := 4, pos := "outright.go:43", after := #[{ on := 2, ground := Ground.data }, { on := 11, ground := Ground.data }], guard := none }) (v := .bool false) rfl (by kernel_rfl) (by kernel_rfl) (by kernel_rfl) (fun _ _ _ h => h) (Or.inl ⟨by rfl, by intro w hSw; go_simp⟩) (by assumption) ?_
  simp only [Act.put, List.setIfInBounds_toArray, List.set_cons_zero, List.set_cons_succ]
  refine wpAnyH_take (i := 13) (oi := { dst := some 31, op := Op.move (Operand.tmp 30), type := 4, pos := "outright.go:43", after := #[{ on := 12, ground := Ground.data }, { on := 9, ground := Ground.chain }], guard := none }) (v := .bool false) rfl (by kernel_rfl) (by kernel_rfl) (by kernel_rfl) (fun _ _ _ h => h) (Or.inl ⟨by rfl, by intro w hSw; go_simp⟩) (by assumption) ?_
  simp only [Act.put, List.setIfInBounds_toArray, List.set_cons_zero, List.set_cons_succ]
  refine wpAnyH_take (i := 14) (oi := { dst := some 32, op := Op.move (Operand.tmp 3), type := 22, pos := "outright.go:43", after := #[{ on := 13, ground := Ground.guard }], guard := some (13, false) }) (v := .slice (some ⟨gk, 0, none⟩) (4 * kn) (4 * kn)) rfl (by kernel_rfl) (by kernel_rfl) (by kernel_rfl) (fun _ _ _ h => h) (Or.inl ⟨by rfl, by intro w hSw; go_simp⟩) (by assumption) ?_
  simp only [Act.put, List.setIfInBounds_toArray, List.set_cons_zero, List.set_cons_succ]
  refine wpAnyH_take (i := 15) (oi := { dst := some 33, op := Op.fieldAddr 39 (Operand.tmp 1) 1, type := 0, pos := "outright.go:43", after := #[{ on := 13, ground := Ground.guard }], guard := some (13, false) }) (v := .pointer (some ⟨W.heap.size, 1, none⟩)) rfl (by kernel_rfl) (by kernel_rfl) (by kernel_rfl) (fun _ _ _ h => h) (Or.inl ⟨by rfl, by intro w hSw; go_simp⟩) (by assumption) ?_
  simp only [Act.put, List.setIfInBounds_toArray, List.set_cons_zero, List.set_cons_succ]
  refine wpAnyH_take (i := 16) (oi := { dst := some 34, op := Op.load 35 (Operand.tmp 33), type := 35, pos := "outright.go:43", after := #[{ on := 15, ground := Ground.data }, { on := 13, ground := Ground.guard }], guard := some (13, false) }) (v := .slice ma mn mc) rfl (by kernel_rfl) (by kernel_rfl) (by kernel_rfl) (fun _ _ _ h => h) (Or.inl ⟨by rfl, by intro w hSw; have hcc := CB1.out w hSw; go_simp⟩) (by assumption) ?_
  simp only [Act.put, List.setIfInBounds_toArray, List.set_cons_zero, List.set_cons_succ]
  refine wpAnyH_take (i := 19) (oi := { dst := some 37, op := Op.load 26 (Operand.tmp 4), type := 26, pos := "outright.go:43", after := #[{ on := 13, ground := Ground.guard }], guard := some (13, false) }) (v := .agg (H.map (Value.int .u32)).toArray) rfl (by kernel_rfl) (by kernel_rfl) (by kernel_rfl) (fun _ _ _ h => h) (yieldsIf_load_mid (by rfl) _ _ rfl _ _ rfl _ _ (fun w hSw => RH.out w hSw) Tryd.underlying26 rfl (by rw [List.length_map]; exact hsH)) (by assumption) ?_
  simp only [Act.put, List.setIfInBounds_toArray, List.set_cons_zero, List.set_cons_succ]
  refine wpAnyH_ready (rs := [17]) (by kernel_rfl) (by simp) (AllReadyH.cons (o := { dst := some 35, op := Op.call { callee := Callee.value (Operand.func 13), args := #[Operand.tmp 34], argTypes := #[35] }, type := 22, pos := "outright.go:43", after := #[{ on := 16, ground := Ground.data }, { on := 13, ground := Ground.chain }, { on := 13, ground := Ground.guard }], guard := some (13, false) }) rfl (fun KQ hK => ?_) AllReadyH.nil)
  go_simp
  refine (bytes_blk _ (FB.out _ B8).tabs ma mn mc xs hml wm (AM.out _ (FB.out _ B8).below) hmn).mono ?_
  rintro e w9 ⟨rfl, b9, hb9⟩
  have B9 : Below w4.heap.size w4 w9 := HL4.out _ _ B8 hb9
  have M9 : Hid (At w9 .u8 (some ⟨w8.heap.size, 0, none⟩) (bytesD xs)) := b9.at
  generalize w8.heap.size = g9 at *
  go_wp2_with fail
  refine hK.out _ _ B9 (fun hHeld => ?_)
  clear hK KQ
  try simp only [Act.put, List.setIfInBounds_toArray, List.set_cons_zero, List.set_cons_succ]
  refine wpAnyH_ready (rs := [18]) (by kernel_rfl) (by simp) (AllReadyH.cons (o := { dst := some 36, op := Op.call { callee := Callee.value (Operand.func 16), args := #[Operand.tmp 32, Operand.tmp 35], argTypes := #[22, 22] }, type := 26, pos := "outright.go:43", after := #[{ on := 14, ground := Ground.data }, { on := 17, ground := Ground.data }, { on := 17, ground := Ground.chain }, { on := 13, ground := Ground.guard }], guard := some (13, false) }) rfl (fun KQ hK => ?_) AllReadyH.nil)
  go_simp
  refine (tagBytes_any _ (FB.out _ B9).tabs _ (4 * kn) (4 * kn) KB hKB pKB (FB.out _ B9).kb.at (Nat.le_refl _) (by omega) _ (4 * mn) (4 * mn) (bytesD xs) hMB pMB M9.out (fun h => by cases h) (by omega)).mono ?_
  rintro e wA ⟨rfl, hbA⟩
  rw [HH.out]
  have BA : Below w4.heap.size w4 wA := HL4.out _ _ B9 hbA
  go_wp2_with fail
  refine hK.out _ _ BA (fun hHeld => ?_)
  clear hK KQ
  try simp only [Act.put, List.setIfInBounds_toArray, List.set_cons_zero, List.set_cons_succ]
  refine wpAnyH_take (i := 20) (oi := { dst := some 38, op := Op.binOp BinOp.neq 26 (Operand.tmp 36) (Operand.tmp 37) 26, type := 4, pos := "outright.go:43", after := #[{ on := 18, ground := Ground.data }, { on := 19, ground := Ground.data }, { on := 13, ground := Ground.guard }], guard := some (13, false) }) (v := .bool false) rfl (by kernel_rfl) (by kernel_rfl) (by kernel_rfl) (fun _ _ _ h => h) (Or.inl ⟨by rfl, by intro w hSw; simp only [Ag]; go_simp⟩) (by assumption) ?_
  simp only [Act.put, List.setIfInBounds_toArray, List.set_cons_zero, List.set_cons_succ]
  refine wpAnyH_take (i := 21) (oi := { dst := some 39, op := Op.pick (Operand.tmp 31) (Operand.const (Value.bool true)) (Operand.tmp 38), type := 4, pos := "outright.go:43", after := #[{ on := 13, ground := Ground.data }, { on := 20, ground := Ground.data }], guard := none }) (v := .bool false) rfl (by kernel_rfl) (by kernel_rfl) (by kernel_rfl) (fun _ _ _ h => h) (Or.inl ⟨by rfl, by intro w hSw; go_simp⟩) (by assumption) ?_
  simp only [Act.put, List.setIfInBounds_toArray, List.set_cons_zero, List.set_cons_succ]
  refine wpAnyH_done (by kernel_rfl) ?_ _
  have PA : Hid (PBase W wA W.heap.size gk gw cs KB H) := FB.out _ BA
  clear B5 B6 B7 B8 B9 BA a6 a7 s6 s7 h6 h7 hb5 hb6 hb7 hb8 hb9 hbA b9 M9 hHeld FB CB0 CB1 RH HL4 PB
  have c0 : wA.cell? ⟨W.heap.size, 0, none⟩ = some (.slice ka kn kc) := by rw [PA.out.box.cell]; exact HC.out.1
  go_wp2_with fail
  refine (words_own _ ka kn kc ks hkl (AK.out _ PA.out.below) SK.out (by omega)).mono ?_
  rintro e wB ⟨voB, vcB, rfl, hvB, aB, sB, hbB⟩
  have PB : Hid (PBase W wB W.heap.size gk gw cs KB H) := PA.out.on hbB
  have AB : Hid (At wB .u32 voB ks) := aB
  clear c0 hbB PA aB
  go_wp2_with fail
  refine (new_mac wB PB.out.tabs voB kn vcB ks hkl wk AB.out hkn).mono ?_
  rintro e wC ⟨gm, gi, go, hgm, hgi, hgo, rfl, M1, hbC⟩
  rw [HKB.out] at M1
  obtain ⟨K, hK⟩ : ∃ K, keyW KB = K := ⟨_, rfl⟩
  have HK : Hid (keyW KB = K) := hK
  rw [hK] at M1
  have MC : Hid (MacH wC gm gi go K []) := M1
  have PC : Hid (PBase W wC W.heap.size gk gw cs KB H) := PB.out.on hbC
  have hwB := PB.out.wb.lt
  clear M1 hbC AB sB hvB PB hK
  have c1 : wC.cell? ⟨W.heap.size, 1, none⟩ = some (.slice ma mn mc) := by rw [PC.out.box.cell]; exact HC.out.2.1
  go_wp2_with fail
  refine (words_own _ ma mn mc xs hml (AM.out _ PC.out.below) SM.out (by omega)).mono ?_
  rintro e wD ⟨voD, vcD, rfl, hvD, aD, sD, hbD⟩
  have PD : Hid (PBase W wD W.heap.size gk gw cs KB H) := PC.out.on hbD
  have MD : Hid (MacH wD gm gi go K []) := MC.out.on hbD
  have AD : Hid (At wD .u32 voD xs) := aD
  clear c1 hbD PC MC aD
  go_wp2_with fail
  refine (new_mac wD PD.out.tabs voD mn vcD xs hml wm AD.out hmn).mono ?_
  rintro e wE ⟨gm', gi', go', hgm', hgi', hgo', rfl, M2, hbE⟩
  obtain ⟨K', hK'⟩ : ∃ K', keyW (bytesD xs) = K' := ⟨_, rfl⟩
  rw [hK'] at M2
  have OE : Hid (MacH wE gm' gi' go' K' []) := M2
  have ME : Hid (MacH wE gm gi go K []) := MD.out.on hbE
  have PE : Hid (PBase W wE W.heap.size gk gw cs KB H) := PD.out.on hbE
  have g3 : gw < gi := by omega
  have g4 : gm < gm' ∧ gm < gi' ∧ gm < go' ∧ gi < gm' ∧ gi < gi' ∧ gi < go' ∧ go < gm' ∧ go < gi' ∧ go < go' := by
    have a1 := MD.out.cel.lt
    have a2 := MD.out.inner.lt
    have a3 := MD.out.outer.lt
    omega
  obtain ⟨n1, n2, n3, n4, n5, n6, n7, n8, n9⟩ := g4
  clear M2 hbE AD sD hvD PD MD hK' hgm hgi hgo hgm' hgi' hgo' hwB
  have c2 : wE.cell? ⟨W.heap.size, 2, none⟩ = some (.slice aa an ac) := by rw [PE.out.box.cell]; exact HC.out.2.2
  clear c2 e1
  have hgB : 3 ≤ W.heap.size := by omega
  go_wp2_with fail
  go_loopw [7, 8] (fun f i wr => ∃ a k : Nat, a ≤ mn ∧ k ≤ 30 ∧ f = .int .i64 (a : Int) ∧ i = .int .i64 (k : Int) ∧ PBase W wr W.heap.size gk gw cs KB H ∧ MacH wr gm gi go K (xs.take a) ∧ ∃ L2 : List Int, MacH wr gm' gi' go' K' L2 ∧ L2.length ≤ k * 35184372087808) (fun _ i _ => 30 - (intOf i).toNat)
  case atStart => exact ⟨0, 0, Nat.zero_le _, Nat.zero_le _, rfl, rfl, PE.out, by simpa using ME.out, [], OE.out, Nat.zero_le _⟩
  case round =>
    clear PE ME OE
    obtain ⟨a, k, ha, hk, rfl, rfl, P0, M0, L2, O0, hL2⟩ := hrel
    have a1 : (a : Int) ≤ (mn : Int) := by omega
    have c2 : wr.cell? ⟨W.heap.size, 2, none⟩ = some (.slice aa an ac) := by rw [P0.box.cell]; exact HC.out.2.2
    have PW : Hid (PBase W wr W.heap.size gk gw cs KB H) := P0
    have MW : Hid (MacH wr gm gi go K (xs.take a)) := M0
    have OW : Hid (MacH wr gm' gi' go' K' L2) := O0
    clear P0 M0 O0
    by_cases h1 : k < an
    · by_cases h2 : k < 30
      · have j1 : (k : Int) < (an : Int) := by omega
        have j2 : (k : Int) < 30 := by omega
        obtain ⟨ab, af, rfl, hab, hrow⟩ : ∃ b off, aa = some ⟨b, off, none⟩ ∧ b < W.heap.size ∧ Row W .i64 b off zs := by
          rcases haa with h0 | h0
          · rw [h0] at hal; simp at hal; omega
          · exact h0
        go_wp2_with fail
        have CZ : Hid (∀ w, Below wr.heap.size wr w → w.cell? ⟨ab, af + k, none⟩ = some (.int .i64 (zs.getD k 0))) := fun w hb => (hrow.below (PW.out.on hb).below hab) k (by omega)
        generalize zs.getD k 0 = z at *
        have CB1 : Hid (∀ w, Below wr.heap.size wr w → w.cell? ⟨W.heap.size, 1, none⟩ = some (.slice ma mn mc)) := fun w hb => by rw [(PW.out.on hb).box.cell]; exact HC.out.2.1
        have CB2 : Hid (∀ w, Below wr.heap.size wr w → w.cell? ⟨W.heap.size, 2, none⟩ = some (.slice (some ⟨ab, af, none⟩) an ac)) := fun w hb => by rw [(PW.out.on hb).box.cell]; exact HC.out.2.2
        refine wp_region_held_drew (S := fun w => Below wr.heap.size wr w) (by kernel_rfl) (Below.refl _ _).drew (fun hHeld => ?_)
        refine wpAnyH_take (i := 0) (oi := { dst := some 59, op := Op.fieldAddr 39 (Operand.tmp 1) 2, type := 0, pos := "outright.go:50", after := #[], guard := none }) (v := .pointer (some ⟨W.heap.size, 2, none⟩)) rfl (by kernel_rfl) (by kernel_rfl) (by kernel_rfl) (fun _ _ _ h => h) (Or.inl ⟨by rfl, by intro w hSw; go_simp⟩) (by assumption) ?_
        simp only [Act.put, List.setIfInBounds_toArray, List.set_cons_zero, List.set_cons_succ]
        refine wpAnyH_take (i := 1) (oi := { dst := some 60, op := Op.load 37 (Operand.tmp 59), type := 37, pos := "outright.go:50", after := #[{ on := 0, ground := Ground.data }], guard := none }) (v := .slice (some ⟨ab, af, none⟩) an ac) rfl (by kernel_rfl) (by kernel_rfl) (by kernel_rfl) (fun _ _ _ h => h) (Or.inl ⟨by rfl, by intro w hSw; have hcc := CB2.out w hSw; go_simp⟩) (by assumption) ?_
        simp only [Act.put, List.setIfInBounds_toArray, List.set_cons_zero, List.set_cons_succ]
        refine wpAnyH_take (i := 2) (oi := { dst := some 61, op := Op.move (Operand.tmp 8), type := 3, pos := "outright.go:50", after := #[], guard := none }) (v := .int .i64 (k : Int)) rfl (by kernel_rfl) (by kernel_rfl) (by kernel_rfl) (fun _ _ _ h => h) (Or.inl ⟨by rfl, by intro w hSw; go_simp⟩) (by assumption) ?_
        simp only [Act.put, List.setIfInBounds_toArray, List.set_cons_zero, List.set_cons_succ]
        refine wpAnyH_take (i := 3) (oi := { dst := some 62, op := Op.indexAddr 37 (Operand.tmp 60) (Operand.tmp 61), type := 0, pos := "outright.go:50", after := #[{ on := 1, ground := Ground.data }, { on := 2, ground := Ground.data }], guard := none }) (v := .pointer (some ⟨ab, af + k, none⟩)) rfl (by kernel_rfl) (by kernel_rfl) (by kernel_rfl) (fun _ _ _ h => h) (Or.inl ⟨by rfl, by intro w hSw; go_simp⟩) (by assumption) ?_
        simp only [Act.put, List.setIfInBounds_toArray, List.set_cons_zero, List.set_cons_succ]
        refine wpAnyH_take (i := 4) (oi := { dst := some 63, op := Op.load 3 (Operand.tmp 62), type := 3, pos := "outright.go:50", after := #[{ on := 3, ground := Ground.data }], guard := none }) (v := .int .i64 z) rfl (by kernel_rfl) (by kernel_rfl) (by kernel_rfl) (fun _ _ _ h => h) (Or.inl ⟨by rfl, by intro w hSw; have hcc := CZ.out w hSw; go_simp⟩) (by assumption) ?_
        simp only [Act.put, List.setIfInBounds_toArray, List.set_cons_zero, List.set_cons_succ]
        refine wpAnyH_take (i := 5) (oi := { dst := some 64, op := Op.move (Operand.tmp 7), type := 3, pos := "outright.go:50", after := #[], guard := none }) (v := .int .i64 (a : Int)) rfl (by kernel_rfl) (by kernel_rfl) (by kernel_rfl) (fun _ _ _ h => h) (Or.inl ⟨by rfl, by intro w hSw; go_simp⟩) (by assumption) ?_
        simp only [Act.put, List.setIfInBounds_toArray, List.set_cons_zero, List.set_cons_succ]
        refine wpAnyH_take (i := 6) (oi := { dst := some 65, op := Op.fieldAddr 39 (Operand.tmp 1) 1, type := 0, pos := "outright.go:50", after := #[], guard := none }) (v := .pointer (some ⟨W.heap.size, 1, none⟩)) rfl (by kernel_rfl) (by kernel_rfl) (by kernel_rfl) (fun _ _ _ h => h) (Or.inl ⟨by rfl, by intro w hSw; go_simp⟩) (by assumption) ?_
        simp only [Act.put, List.setIfInBounds_toArray, List.set_cons_zero, List.set_cons_succ]
        refine wpAnyH_take (i := 7) (oi := { dst := some 66, op := Op.load 35 (Operand.tmp 65), type := 35, pos := "outright.go:50", after := #[{ on := 6, ground := Ground.data }], guard := none }) (v := .slice ma mn mc) rfl (by kernel_rfl) (by kernel_rfl) (by kernel_rfl) (fun _ _ _ h => h) (Or.inl ⟨by rfl, by intro w hSw; have hcc := CB1.out w hSw; go_simp⟩) (by assumption) ?_
        simp only [Act.put, List.setIfInBounds_toArray, List.set_cons_zero, List.set_cons_succ]
        refine wpAnyH_take (i := 8) (oi := { dst := some 67, op := Op.call { callee := Callee.builtin Builtin.len, args := #[Operand.tmp 66], argTypes := #[35] }, type := 3, pos := "outright.go:50", after := #[{ on := 7, ground := Ground.data }], guard := none }) (v := .int .i64 (mn : Int)) rfl (by kernel_rfl) (by kernel_rfl) (by kernel_rfl) (fun _ _ _ h => h) (Or.inl ⟨by rfl, by intro w hSw; go_simp⟩) (by assumption) ?_
        simp only [Act.put, List.setIfInBounds_toArray, List.set_cons_zero, List.set_cons_succ]
        refine wpAnyH_ready (rs := [9]) (by kernel_rfl) (by simp) (AllReadyH.cons (o := { dst := some 68, op := Op.call { callee := Callee.value (Operand.func 11), args := #[Operand.tmp 63, Operand.tmp 64, Operand.tmp 67], argTypes := #[3, 3, 3] }, type := 3, pos := "outright.go:50", after := #[{ on := 4, ground := Ground.data }, { on := 5, ground := Ground.data }, { on := 8, ground := Ground.data }], guard := none }) rfl (fun KQ hK => ?_) AllReadyH.nil)
        go_simp
        refine (within_any _ z (a : Int) (mn : Int) (by omega) a1 (by omega)).mono ?_
        rintro e w5 ⟨⟨r, hr1, hr2, rfl⟩, rfl⟩
        obtain ⟨b, rfl⟩ := Int.eq_ofNat_of_zero_le (show 0 ≤ r by omega)
        go_wp2_with fail
        refine hK.out _ _ (Below.refl _ _).drew (fun hHeld => ?_)
        clear hK KQ
        try simp only [Act.put, List.setIfInBounds_toArray, List.set_cons_zero, List.set_cons_succ]
        refine wpAnyH_ready (rs := [10]) (by kernel_rfl) (by simp) (AllReadyH.cons (o := { dst := some 9, op := Op.assign (Operand.tmp 68), type := 3, pos := "outright.go:50", after := #[{ on := 9, ground := Ground.data }, { on := 9, ground := Ground.chain }, { on := 0, ground := Ground.phase }, { on := 1, ground := Ground.phase }, { on := 2, ground := Ground.phase }, { on := 3, ground := Ground.phase }, { on := 4, ground := Ground.phase }, { on := 5, ground := Ground.phase }, { on := 6, ground := Ground.phase }, { on := 7, ground := Ground.phase }, { on := 8, ground := Ground.phase }, { on := 9, ground := Ground.phase }], guard := none }) rfl (fun KQ hK => ?_) AllReadyH.nil)
        go_simp
        refine hK.out _ _ (Below.refl _ _).drew (fun hHeld => ?_)
        clear hK KQ
        try simp only [Act.put, List.setIfInBounds_toArray, List.set_cons_zero, List.set_cons_succ]
        refine wpAnyH_done (by kernel_rfl) ?_ _
        have hD : Below wr.heap.size wr wr.drew := (Below.refl _ _).drew
        have P1 : Hid (PBase W wr.drew W.heap.size gk gw cs KB H) := PW.out.on hD
        have M1 : Hid (MacH wr.drew gm gi go K (xs.take a)) := MW.out.on hD
        have O1 : Hid (MacH wr.drew gm' gi' go' K' L2) := OW.out.on hD
        clear hD PW MW OW CZ CB1 CB2 c2 hHeld hrow
        generalize wr.drew = v1 at *
        have hab' : a ≤ b := by omega
        have hbm : b ≤ mn := by omega
        have q1 : (a : Int) ≤ (b : Int) := by omega
        have q2 : (b : Int) ≤ (mn : Int) := by omega
        go_wp2_with fail
        have CG : Hid (∀ w, But gi v1 w → w.cell? ⟨gm, 0, none⟩ = some (.pointer (some ⟨gi, 0, none⟩))) := fun w hb => by rw [(M1.out.cel.but hb M1.out.mi).cell]; rfl
        have CB1 : Hid (∀ w, But gi v1 w → w.cell? ⟨W.heap.size, 1, none⟩ = some (.slice ma mn mc)) := fun w hb => by rw [(P1.out.box.but hb (by omega)).cell]; exact HC.out.2.1
        obtain ⟨sa, hsa⟩ : ∃ sa, (if mc = a then ma else Option.map (fun x => x.add a) ma) = sa := ⟨_, rfl⟩
        have HSA : Hid ((if mc = a then ma else Option.map (fun x => x.add a) ma) = sa) := hsa
        clear hsa
        refine wp_region_held_drew (S := fun w => But gi v1 w) (by kernel_rfl) (Below.but (Below.refl _ _).drew) (fun hHeld => ?_)
        refine wpAnyH_take (i := 0) (oi := { dst := some 69, op := Op.move (Operand.tmp 5), type := 42, pos := "outright.go:51", after := #[], guard := none }) (v := .pointer (some ⟨gm, 0, none⟩)) rfl (by kernel_rfl) (by kernel_rfl) (by kernel_rfl) (fun _ _ _ h => h) (Or.inl ⟨by rfl, by intro w hSw; go_simp⟩) (by assumption) ?_
        simp only [Act.put, List.setIfInBounds_toArray, List.set_cons_zero, List.set_cons_succ]
        refine wpAnyH_take (i := 1) (oi := { dst := some 70, op := Op.nilCheck (Operand.tmp 69), type := 0, pos := "outright.go:51", after := #[{ on := 0, ground := Ground.data }], guard := none }) (v := .pointer (some ⟨gm, 0, none⟩)) rfl (by kernel_rfl) (by kernel_rfl) (by kernel_rfl) (fun _ _ _ h => h) (Or.inl ⟨by rfl, by intro w hSw; go_simp⟩) (by assumption) ?_
        simp only [Act.put, List.setIfInBounds_toArray, List.set_cons_zero, List.set_cons_succ]
        refine wpAnyH_take (i := 2) (oi := { dst := some 71, op := Op.fieldAddr 47 (Operand.tmp 70) 0, type := 0, pos := "outright.go:51", after := #[{ on := 1, ground := Ground.data }], guard := none }) (v := .pointer (some ⟨gm, 0, none⟩)) rfl (by kernel_rfl) (by kernel_rfl) (by kernel_rfl) (fun _ _ _ h => h) (Or.inl ⟨by rfl, by intro w hSw; go_simp⟩) (by assumption) ?_
        simp only [Act.put, List.setIfInBounds_toArray, List.set_cons_zero, List.set_cons_succ]
        refine wpAnyH_take (i := 3) (oi := { dst := some 72, op := Op.load 45 (Operand.tmp 71), type := 45, pos := "outright.go:51", after := #[{ on := 2, ground := Ground.data }], guard := none }) (v := .pointer (some ⟨gi, 0, none⟩)) rfl (by kernel_rfl) (by kernel_rfl) (by kernel_rfl) (fun _ _ _ h => h) (Or.inl ⟨by rfl, by intro w hSw; have hcc := CG.out w hSw; go_simp⟩) (by assumption) ?_
        simp only [Act.put, List.setIfInBounds_toArray, List.set_cons_zero, List.set_cons_succ]
        refine wpAnyH_take (i := 4) (oi := { dst := some 73, op := Op.fieldAddr 39 (Operand.tmp 1) 1, type := 0, pos := "outright.go:51", after := #[], guard := none }) (v := .pointer (some ⟨W.heap.size, 1, none⟩)) rfl (by kernel_rfl) (by kernel_rfl) (by kernel_rfl) (fun _ _ _ h => h) (Or.inl ⟨by rfl, by intro w hSw; go_simp⟩) (by assumption) ?_
        simp only [Act.put, List.setIfInBounds_toArray, List.set_cons_zero, List.set_cons_succ]
        refine wpAnyH_take (i := 5) (oi := { dst := some 74, op := Op.load 35 (Operand.tmp 73), type := 35, pos := "outright.go:51", after := #[{ on := 4, ground := Ground.data }], guard := none }) (v := .slice ma mn mc) rfl (by kernel_rfl) (by kernel_rfl) (by kernel_rfl) (fun _ _ _ h => h) (Or.inl ⟨by rfl, by intro w hSw; have hcc := CB1.out w hSw; go_simp⟩) (by assumption) ?_
        simp only [Act.put, List.setIfInBounds_toArray, List.set_cons_zero, List.set_cons_succ]
        refine wpAnyH_take (i := 6) (oi := { dst := some 75, op := Op.move (Operand.tmp 7), type := 3, pos := "outright.go:51", after := #[], guard := none }) (v := .int .i64 (a : Int)) rfl (by kernel_rfl) (by kernel_rfl) (by kernel_rfl) (fun _ _ _ h => h) (Or.inl ⟨by rfl, by intro w hSw; go_simp⟩) (by assumption) ?_
        simp only [Act.put, List.setIfInBounds_toArray, List.set_cons_zero, List.set_cons_succ]
        refine wpAnyH_take (i := 7) (oi := { dst := some 76, op := Op.move (Operand.tmp 9), type := 3, pos := "outright.go:51", after := #[], guard := none }) (v := .int .i64 (b : Int)) rfl (by kernel_rfl) (by kernel_rfl) (by kernel_rfl) (fun _ _ _ h => h) (Or.inl ⟨by rfl, by intro w hSw; go_simp⟩) (by assumption) ?_
        simp only [Act.put, List.setIfInBounds_toArray, List.set_cons_zero, List.set_cons_succ]
        refine wpAnyH_take (i := 8) (oi := { dst := some 77, op := Op.slice 35 (Operand.tmp 74) (some (Operand.tmp 75)) (some (Operand.tmp 76)) none, type := 35, pos := "outright.go:51", after := #[{ on := 5, ground := Ground.data }, { on := 6, ground := Ground.data }, { on := 7, ground := Ground.data }], guard := none }) (v := .slice sa (b - a) (mc - a)) rfl (by kernel_rfl) (by kernel_rfl) (by kernel_rfl) (fun _ _ _ h => h) (Or.inl ⟨by rfl, by intro w hSw; have q3 : ¬ (mc < b) := (by omega); have q4 : a ≤ b := (by omega); rw [← HSA.out]; go_simp⟩) (by assumption) ?_
        simp only [Act.put, List.setIfInBounds_toArray, List.set_cons_zero, List.set_cons_succ]
        refine wpAnyH_ready (rs := [9]) (by kernel_rfl) (by simp) (AllReadyH.cons (o := { dst := some 78, op := Op.call { callee := Callee.value (Operand.func 15), args := #[Operand.tmp 77], argTypes := #[35] }, type := 35, pos := "outright.go:51", after := #[{ on := 8, ground := Ground.data }], guard := none }) rfl (fun KQ hK => ?_) AllReadyH.nil)
        go_simp
        have PD : Hid (PBase W v1.drew W.heap.size gk gw cs KB H) := P1.out.on (Below.refl _ _).drew
        have AS := (AM.out _ PD.out.below).cut mn mc a (b - a) hml hmc (by omega)
        have SS := sl_cut SM.out a
        rw [HSA.out] at AS SS
        refine (words_own _ sa (b - a) (mc - a) ((xs.drop a).take (b - a)) (by rw [List.length_take, List.length_drop]; omega) AS SS (by omega)).mono ?_
        rintro e w6 ⟨vo6, vc6, rfl, h6, a6, s6, hb6⟩
        have B6 : Below v1.heap.size v1 w6 := (Below.refl v1.heap.size v1).drew.trans (hb6.mono (by simp))
        have U6 : But gi v1 w6 := Below.but B6
        go_wp2_with fail
        refine hK.out _ _ U6 (fun hHeld => ?_)
        clear hK KQ
        try simp only [Act.put, List.setIfInBounds_toArray, List.set_cons_zero, List.set_cons_succ]
        refine wpAnyH_ready (rs := [10]) (by kernel_rfl) (by simp) (AllReadyH.cons (o := { dst := some 79, op := Op.call { callee := Callee.value (Operand.func 18), args := #[Operand.tmp 72, Operand.tmp 78], argTypes := #[45, 35] }, type := 0, pos := "outright.go:51", after := #[{ on := 3, ground := Ground.data }, { on := 9, ground := Ground.data }, { on := 9, ground := Ground.chain }], guard := none }) rfl (fun KQ hK => ?_) AllReadyH.nil)
        go_simp
        refine (addL_any _ (P1.out.on B6).tabs.sha (P1.out.on B6).tabs.sz gi _ (M1.out.on B6).inner vo6 (b - a) vc6 ((xs.drop a).take (b - a)) (by rw [List.length_take, List.length_drop]; omega) a6 (by omega) (by rw [List.length_append, xorL_length, M1.out.kl, List.length_take]; omega)).mono ?_
        rintro e w7 ⟨rfl, D7, bt7⟩
        have U7 : But gi v1 w7 := U6.trans bt7
        go_wp2_with fail
        refine hK.out _ _ U7 (fun hHeld => ?_)
        clear hK KQ
        try simp only [Act.put, List.setIfInBounds_toArray, List.set_cons_zero, List.set_cons_succ]
        refine wpAnyH_done (by kernel_rfl) ?_ _
        have M7 : Hid (MacH w7 gm gi go K (xs.take b)) := (M1.out.on B6).turn bt7 (by rw [List.append_assoc, take_more xs a b hab'] at D7; exact D7)
        have P7 : Hid (PBase W w7 W.heap.size gk gw cs KB H) := (P1.out.on B6).but bt7 (by omega) (by omega) (by omega) (by omega) (by omega)
        have O7 : Hid (MacH w7 gm' gi' go' K' L2) := (O1.out.on B6).but bt7 (by omega) (by omega) (by omega)
        clear B6 U6 U7 D7 bt7 hb6 a6 s6 h6 CG CB1 hHeld P1 M1 O1 PD AS SS HSA
        go_wp2_with fail
        have CG : Hid (∀ w, But gi' w7 w → w.cell? ⟨gm', 0, none⟩ = some (.pointer (some ⟨gi', 0, none⟩))) := fun w hb => by rw [(O7.out.cel.but hb O7.out.mi).cell]; rfl
        have CB0 : Hid (∀ w, But gi' w7 w → w.cell? ⟨W.heap.size, 0, none⟩ = some (.slice ka kn kc)) := fun w hb => by rw [(P7.out.box.but hb (by omega)).cell]; exact HC.out.1
        refine wp_region_held_drew (S := fun w => But gi' w7 w) (by kernel_rfl) (Below.but (Below.refl _ _).drew) (fun hHeld => ?_)
        refine wpAnyH_take (i := 0) (oi := { dst := some 80, op := Op.move (Operand.tmp 6), type := 42, pos := "outright.go:52", after := #[], guard := none }) (v := .pointer (some ⟨gm', 0, none⟩)) rfl (by kernel_rfl) (by kernel_rfl) (by kernel_rfl) (fun _ _ _ h => h) (Or.inl ⟨by rfl, by intro w hSw; go_simp⟩) (by assumption) ?_
        simp only [Act.put, List.setIfInBounds_toArray, List.set_cons_zero, List.set_cons_succ]
        refine wpAnyH_take (i := 1) (oi := { dst := some 81, op := Op.nilCheck (Operand.tmp 80), type := 0, pos := "outright.go:52", after := #[{ on := 0, ground := Ground.data }], guard := none }) (v := .pointer (some ⟨gm', 0, none⟩)) rfl (by kernel_rfl) (by kernel_rfl) (by kernel_rfl) (fun _ _ _ h => h) (Or.inl ⟨by rfl, by intro w hSw; go_simp⟩) (by assumption) ?_
        simp only [Act.put, List.setIfInBounds_toArray, List.set_cons_zero, List.set_cons_succ]
        refine wpAnyH_take (i := 2) (oi := { dst := some 82, op := Op.fieldAddr 47 (Operand.tmp 81) 0, type := 0, pos := "outright.go:52", after := #[{ on := 1, ground := Ground.data }], guard := none }) (v := .pointer (some ⟨gm', 0, none⟩)) rfl (by kernel_rfl) (by kernel_rfl) (by kernel_rfl) (fun _ _ _ h => h) (Or.inl ⟨by rfl, by intro w hSw; go_simp⟩) (by assumption) ?_
        simp only [Act.put, List.setIfInBounds_toArray, List.set_cons_zero, List.set_cons_succ]
        refine wpAnyH_take (i := 3) (oi := { dst := some 83, op := Op.load 45 (Operand.tmp 82), type := 45, pos := "outright.go:52", after := #[{ on := 2, ground := Ground.data }], guard := none }) (v := .pointer (some ⟨gi', 0, none⟩)) rfl (by kernel_rfl) (by kernel_rfl) (by kernel_rfl) (fun _ _ _ h => h) (Or.inl ⟨by rfl, by intro w hSw; have hcc := CG.out w hSw; go_simp⟩) (by assumption) ?_
        simp only [Act.put, List.setIfInBounds_toArray, List.set_cons_zero, List.set_cons_succ]
        refine wpAnyH_take (i := 4) (oi := { dst := some 84, op := Op.fieldAddr 39 (Operand.tmp 1) 0, type := 0, pos := "outright.go:52", after := #[], guard := none }) (v := .pointer (some ⟨W.heap.size, 0, none⟩)) rfl (by kernel_rfl) (by kernel_rfl) (by kernel_rfl) (fun _ _ _ h => h) (Or.inl ⟨by rfl, by intro w hSw; go_simp⟩) (by assumption) ?_
        simp only [Act.put, List.setIfInBounds_toArray, List.set_cons_zero, List.set_cons_succ]
        refine wpAnyH_take (i := 5) (oi := { dst := some 85, op := Op.load 35 (Operand.tmp 84), type := 35, pos := "outright.go:52", after := #[{ on := 4, ground := Ground.data }], guard := none }) (v := .slice ka kn kc) rfl (by kernel_rfl) (by kernel_rfl) (by kernel_rfl) (fun _ _ _ h => h) (Or.inl ⟨by rfl, by intro w hSw; have hcc := CB0.out w hSw; go_simp⟩) (by assumption) ?_
        simp only [Act.put, List.setIfInBounds_toArray, List.set_cons_zero, List.set_cons_succ]
        refine wpAnyH_ready (rs := [6]) (by kernel_rfl) (by simp) (AllReadyH.cons (o := { dst := some 86, op := Op.call { callee := Callee.value (Operand.func 15), args := #[Operand.tmp 85], argTypes := #[35] }, type := 35, pos := "outright.go:52", after := #[{ on := 5, ground := Ground.data }], guard := none }) rfl (fun KQ hK => ?_) AllReadyH.nil)
        go_simp
        have PD : Hid (PBase W w7.drew W.heap.size gk gw cs KB H) := P7.out.on (Below.refl _ _).drew
        refine (words_own _ ka kn kc ks hkl (AK.out _ PD.out.below) SK.out (by omega)).mono ?_
        rintro e w8 ⟨vo8, vc8, rfl, h8, a8, s8, hb8⟩
        have B8 : Below w7.heap.size w7 w8 := (Below.refl w7.heap.size w7).drew.trans (hb8.mono (by simp))
        have U8 : But gi' w7 w8 := Below.but B8
        go_wp2_with fail
        refine hK.out _ _ U8 (fun hHeld => ?_)
        clear hK KQ
        try simp only [Act.put, List.setIfInBounds_toArray, List.set_cons_zero, List.set_cons_succ]
        refine wpAnyH_ready (rs := [7]) (by kernel_rfl) (by simp) (AllReadyH.cons (o := { dst := some 87, op := Op.call { callee := Callee.value (Operand.func 18), args := #[Operand.tmp 83, Operand.tmp 86], argTypes := #[45, 35] }, type := 0, pos := "outright.go:52", after := #[{ on := 3, ground := Ground.data }, { on := 6, ground := Ground.data }, { on := 6, ground := Ground.chain }], guard := none }) rfl (fun KQ hK => ?_) AllReadyH.nil)
        go_simp
        refine (addL_any _ (P7.out.on B8).tabs.sha (P7.out.on B8).tabs.sz gi' _ (O7.out.on B8).inner vo8 kn vc8 ks hkl a8 (by omega) (by rw [List.length_append, xorL_length, O7.out.kl]; omega)).mono ?_
        rintro e w9 ⟨rfl, D9, bt9⟩
        have U9 : But gi' w7 w9 := U8.trans bt9
        go_wp2_with fail
        refine hK.out _ _ U9 (fun hHeld => ?_)
        clear hK KQ
        try simp only [Act.put, List.setIfInBounds_toArray, List.set_cons_zero, List.set_cons_succ]
        refine wpAnyH_done (by kernel_rfl) ?_ _
        have O9 : Hid (MacH w9 gm' gi' go' K' (L2 ++ ks)) := (O7.out.on B8).turn bt9 (by rw [List.append_assoc] at D9; exact D9)
        have hL3 : (L2 ++ ks).length ≤ (k + 1) * 35184372087808 := by rw [List.length_append, hkl]; omega
        have P9 : Hid (PBase W w9 W.heap.size gk gw cs KB H) := (P7.out.on B8).but bt9 (by omega) (by omega) (by omega) (by omega) (by omega)
        have M9 : Hid (MacH w9 gm gi go K (xs.take b)) := (M7.out.on B8).but bt9 (by omega) (by omega) (by omega)
        clear B8 U8 U9 D9 bt9 hb8 a8 s8 h8 CG CB0 hHeld P7 M7 O7 PD
        generalize L2 ++ ks = L3 at *
        have hTl : (xs.take b).length = b := by rw [List.length_take]; omega
        have wT := wds_take wm b
        have TM := tag_math K KB (xs.take b) pKB HK.out.symm wT
        have pT := bytesD_bts (xs.take b)
        have lT : (bytesD (xs.take b)).length = 4 * b := by rw [bytesD_length, hTl]
        obtain ⟨H2, hH2⟩ : ∃ H2, hmac KB (bytesD (xs.take b)) = H2 := ⟨_, rfl⟩
        have hH2l : H2.length = 8 := by rw [← hH2]; exact hmac_length _ _
        rw [hH2] at TM
        have HTM : Hid _ := TM
        have HH2 : Hid (hmac KB (bytesD (xs.take b)) = H2) := hH2
        clear TM hH2
        have e2 := eq26 H2 H2 hH2l hH2l
        rw [decide_eq_true rfl] at e2
        go_wp2_with fail
        have FB : Hid (∀ w, Below w9.heap.size w9 w → PBase W w W.heap.size gk gw cs KB H) := fun w hb => P9.out.on hb
        have CB1 : Hid (∀ w, Below w9.heap.size w9 w → w.cell? ⟨W.heap.size, 1, none⟩ = some (.slice ma mn mc)) := fun w hb => by rw [(FB.out w hb).box.cell]; exact HC.out.2.1
        have HL9 : Hid (∀ w w', Below w9.heap.size w9 w → Below w.heap.size w w' → Below w9.heap.size w9 w') := fun w w' h h' => h.trans (h'.mono h.size)
        refine wp_region_held_drew (S := fun w => Below w9.heap.size w9 w) (by kernel_rfl) (Below.refl _ _).drew (fun hHeld => ?_)
        refine wpAnyH_take (i := 0) (oi := { dst := some 89, op := Op.move (Operand.tmp 5), type := 42, pos := "outright.go:54", after := #[], guard := none }) (v := .pointer (some ⟨gm, 0, none⟩)) rfl (by kernel_rfl) (by kernel_rfl) (by kernel_rfl) (fun _ _ _ h => h) (Or.inl ⟨by rfl, by intro w hSw; go_simp⟩) (by assumption) ?_
        simp only [Act.put, List.setIfInBounds_toArray, List.set_cons_zero, List.set_cons_succ]
        refine wpAnyH_take (i := 2) (oi := { dst := some 91, op := Op.move (Operand.tmp 3), type := 22, pos := "outright.go:54", after := #[], guard := none }) (v := .slice (some ⟨gk, 0, none⟩) (4 * kn) (4 * kn)) rfl (by kernel_rfl) (by kernel_rfl) (by kernel_rfl) (fun _ _ _ h => h) (Or.inl ⟨by rfl, by intro w hSw; go_simp⟩) (by assumption) ?_
        simp only [Act.put, List.setIfInBounds_toArray, List.set_cons_zero, List.set_cons_succ]
        refine wpAnyH_take (i := 3) (oi := { dst := some 92, op := Op.fieldAddr 39 (Operand.tmp 1) 1, type := 0, pos := "outright.go:54", after := #[], guard := none }) (v := .pointer (some ⟨W.heap.size, 1, none⟩)) rfl (by kernel_rfl) (by kernel_rfl) (by kernel_rfl) (fun _ _ _ h => h) (Or.inl ⟨by rfl, by intro w hSw; go_simp⟩) (by assumption) ?_
        simp only [Act.put, List.setIfInBounds_toArray, List.set_cons_zero, List.set_cons_succ]
        refine wpAnyH_take (i := 4) (oi := { dst := some 93, op := Op.load 35 (Operand.tmp 92), type := 35, pos := "outright.go:54", after := #[{ on := 3, ground := Ground.data }], guard := none }) (v := .slice ma mn mc) rfl (by kernel_rfl) (by kernel_rfl) (by kernel_rfl) (fun _ _ _ h => h) (Or.inl ⟨by rfl, by intro w hSw; have hcc := CB1.out w hSw; go_simp⟩) (by assumption) ?_
        simp only [Act.put, List.setIfInBounds_toArray, List.set_cons_zero, List.set_cons_succ]
        refine wpAnyH_take (i := 5) (oi := { dst := some 94, op := Op.move (Operand.tmp 7), type := 3, pos := "outright.go:54", after := #[], guard := none }) (v := .int .i64 (b : Int)) rfl (by kernel_rfl) (by kernel_rfl) (by kernel_rfl) (fun _ _ _ h => h) (Or.inl ⟨by rfl, by intro w hSw; go_simp⟩) (by assumption) ?_
        simp only [Act.put, List.setIfInBounds_toArray, List.set_cons_zero, List.set_cons_succ]
        refine wpAnyH_take (i := 6) (oi := { dst := some 95, op := Op.slice 35 (Operand.tmp 93) none (some (Operand.tmp 94)) none, type := 35, pos := "outright.go:54", after := #[{ on := 4, ground := Ground.data }, { on := 5, ground := Ground.data }], guard := none }) (v := .slice ma b mc) rfl (by kernel_rfl) (by kernel_rfl) (by kernel_rfl) (fun _ _ _ h => h) (Or.inl ⟨by rfl, by intro w hSw; have q3 : ¬ (mc < b) := (by omega); go_simp⟩) (by assumption) ?_
        simp only [Act.put, List.setIfInBounds_toArray, List.set_cons_zero, List.set_cons_succ]
        refine wpAnyH_ready (rs := [1]) (by kernel_rfl) (by simp) (AllReadyH.cons (o := { dst := some 90, op := Op.call { callee := Callee.value (Operand.func 19), args := #[Operand.tmp 89], argTypes := #[42] }, type := 26, pos := "outright.go:54", after := #[{ on := 0, ground := Ground.data }], guard := none }) rfl (fun KQ hK => ?_) AllReadyH.nil)
        go_simp
        refine (tag_mac _ (FB.out _ (Below.refl _ _).drew).tabs gm gi go K (xs.take b) (M9.out.on (Below.refl _ _).drew)).mono ?_
        rintro e wA ⟨rfl, hbA⟩
        rw [HTM.out]
        have BA : Below w9.heap.size w9 wA := HL9.out _ _ (Below.refl _ _).drew hbA
        go_wp2_with fail
        refine hK.out _ _ BA (fun hHeld => ?_)
        clear hK KQ
        try simp only [Act.put, List.setIfInBounds_toArray, List.set_cons_zero, List.set_cons_succ]
        refine wpAnyH_ready (rs := [7]) (by kernel_rfl) (by simp) (AllReadyH.cons (o := { dst := some 96, op := Op.call { callee := Callee.value (Operand.func 13), args := #[Operand.tmp 95], argTypes := #[35] }, type := 22, pos := "outright.go:54", after := #[{ on := 6, ground := Ground.data }, { on := 1, ground := Ground.chain }], guard := none }) rfl (fun KQ hK => ?_) AllReadyH.nil)
        go_simp
        refine (bytes_blk _ (FB.out _ BA).tabs ma b mc (xs.take b) hTl wT ((AM.out _ (FB.out _ BA).below).head b) (by omega)).mono ?_
        rintro e wB ⟨rfl, bB, hbB⟩
        have BB : Below w9.heap.size w9 wB := HL9.out _ _ BA hbB
        have AB : Hid (At wB .u8 (some ⟨wA.heap.size, 0, none⟩) (bytesD (xs.take b))) := bB.at
        generalize wA.heap.size = gb at *
        go_wp2_with fail
        refine hK.out _ _ BB (fun hHeld => ?_)
        clear hK KQ
        try simp only [Act.put, List.setIfInBounds_toArray, List.set_cons_zero, List.set_cons_succ]
        refine wpAnyH_ready (rs := [8]) (by kernel_rfl) (by simp) (AllReadyH.cons (o := { dst := some 97, op := Op.call { callee := Callee.value (Operand.func 10), args := #[Operand.tmp 91, Operand.tmp 96], argTypes := #[22, 22] }, type := 26, pos := "outright.go:54", after := #[{ on := 2, ground := Ground.data }, { on := 7, ground := Ground.data }, { on := 7, ground := Ground.chain }], guard := none }) rfl (fun KQ hK => ?_) AllReadyH.nil)
        go_simp
        refine (tag_law _ (FB.out _ BB).tabs _ (4 * kn) (4 * kn) KB hKB pKB (FB.out _ BB).kb.at (Nat.le_refl _) (by omega) _ (4 * b) (4 * b) (bytesD (xs.take b)) lT pT AB.out (fun h => by cases h) (by omega)).mono ?_
        rintro e wC ⟨rfl, hbC⟩
        rw [HH2.out]
        have BC : Below w9.heap.size w9 wC := HL9.out _ _ BB hbC
        go_wp2_with fail
        refine hK.out _ _ BC (fun hHeld => ?_)
        clear hK KQ
        try simp only [Act.put, List.setIfInBounds_toArray, List.set_cons_zero, List.set_cons_succ]
        refine wpAnyH_take (i := 9) (oi := { dst := some 98, op := Op.binOp BinOp.neq 26 (Operand.tmp 90) (Operand.tmp 97) 26, type := 4, pos := "outright.go:54", after := #[{ on := 1, ground := Ground.data }, { on := 8, ground := Ground.data }], guard := none }) (v := .bool false) rfl (by kernel_rfl) (by kernel_rfl) (by kernel_rfl) (fun _ _ _ h => h) (Or.inl ⟨by rfl, by intro w hSw; simp only [Ag]; go_simp⟩) (by assumption) ?_
        simp only [Act.put, List.setIfInBounds_toArray, List.set_cons_zero, List.set_cons_succ]
        refine wpAnyH_done (by kernel_rfl) ?_ _
        have PC : Hid (PBase W wC W.heap.size gk gw cs KB H) := FB.out _ BC
        have MC : Hid (MacH wC gm gi go K (xs.take b)) := M9.out.on BC
        have OC : Hid (MacH wC gm' gi' go' K' L3) := O9.out.on BC
        clear BA BB BC hbA hbB hbC bB AB hHeld FB CB1 HL9 P9 M9 O9 e2 HTM HH2
        go_wp2_with fail
        go_roundw
        case rel => exact ⟨b, k + 1, hbm, by omega, rfl, by go_num, PC.out, MC.out, L3, OC.out, hL3⟩
        case measure => simp [intOf]; omega
      · have j1 : (k : Int) < (an : Int) := by omega
        have j2 : (30 : Int) ≤ (k : Int) := by omega
        go_wp2_with fail
        clear c2 OW
        obtain ⟨sa, hsa⟩ : ∃ sa, (if mc = a then ma else Option.map (fun x => x.add a) ma) = sa := ⟨_, rfl⟩
        have HSA : Hid ((if mc = a then ma else Option.map (fun x => x.add a) ma) = sa) := hsa
        clear hsa
        have CG : Hid (∀ w, But gi wr w → w.cell? ⟨gm, 0, none⟩ = some (.pointer (some ⟨gi, 0, none⟩))) := fun w hb => by rw [(MW.out.cel.but hb MW.out.mi).cell]; rfl
        have CB1 : Hid (∀ w, But gi wr w → w.cell? ⟨W.heap.size, 1, none⟩ = some (.slice ma mn mc)) := fun w hb => by rw [(PW.out.box.but hb (by omega)).cell]; exact HC.out.2.1
        refine wp_region_held_drew (S := fun w => But gi wr w) (by kernel_rfl) (Below.but (Below.refl _ _).drew) (fun hHeld => ?_)
        refine wpAnyH_take (i := 0) (oi := { dst := some 99, op := Op.move (Operand.tmp 5), type := 42, pos := "outright.go:58", after := #[], guard := none }) (v := .pointer (some ⟨gm, 0, none⟩)) rfl (by kernel_rfl) (by kernel_rfl) (by kernel_rfl) (fun _ _ _ h => h) (Or.inl ⟨by rfl, by intro w hSw; go_simp⟩) (by assumption) ?_
        simp only [Act.put, List.setIfInBounds_toArray, List.set_cons_zero, List.set_cons_succ]
        refine wpAnyH_take (i := 1) (oi := { dst := some 100, op := Op.nilCheck (Operand.tmp 99), type := 0, pos := "outright.go:58", after := #[{ on := 0, ground := Ground.data }], guard := none }) (v := .pointer (some ⟨gm, 0, none⟩)) rfl (by kernel_rfl) (by kernel_rfl) (by kernel_rfl) (fun _ _ _ h => h) (Or.inl ⟨by rfl, by intro w hSw; go_simp⟩) (by assumption) ?_
        simp only [Act.put, List.setIfInBounds_toArray, List.set_cons_zero, List.set_cons_succ]
        refine wpAnyH_take (i := 2) (oi := { dst := some 101, op := Op.fieldAddr 47 (Operand.tmp 100) 0, type := 0, pos := "outright.go:58", after := #[{ on := 1, ground := Ground.data }], guard := none }) (v := .pointer (some ⟨gm, 0, none⟩)) rfl (by kernel_rfl) (by kernel_rfl) (by kernel_rfl) (fun _ _ _ h => h) (Or.inl ⟨by rfl, by intro w hSw; go_simp⟩) (by assumption) ?_
        simp only [Act.put, List.setIfInBounds_toArray, List.set_cons_zero, List.set_cons_succ]
        refine wpAnyH_take (i := 3) (oi := { dst := some 102, op := Op.load 45 (Operand.tmp 101), type := 45, pos := "outright.go:58", after := #[{ on := 2, ground := Ground.data }], guard := none }) (v := .pointer (some ⟨gi, 0, none⟩)) rfl (by kernel_rfl) (by kernel_rfl) (by kernel_rfl) (fun _ _ _ h => h) (Or.inl ⟨by rfl, by intro w hSw; have hcc := CG.out w hSw; go_simp⟩) (by assumption) ?_
        simp only [Act.put, List.setIfInBounds_toArray, List.set_cons_zero, List.set_cons_succ]
        refine wpAnyH_take (i := 4) (oi := { dst := some 103, op := Op.fieldAddr 39 (Operand.tmp 1) 1, type := 0, pos := "outright.go:58", after := #[], guard := none }) (v := .pointer (some ⟨W.heap.size, 1, none⟩)) rfl (by kernel_rfl) (by kernel_rfl) (by kernel_rfl) (fun _ _ _ h => h) (Or.inl ⟨by rfl, by intro w hSw; go_simp⟩) (by assumption) ?_
        simp only [Act.put, List.setIfInBounds_toArray, List.set_cons_zero, List.set_cons_succ]
        refine wpAnyH_take (i := 5) (oi := { dst := some 104, op := Op.load 35 (Operand.tmp 103), type := 35, pos := "outright.go:58", after := #[{ on := 4, ground := Ground.data }], guard := none }) (v := .slice ma mn mc) rfl (by kernel_rfl) (by kernel_rfl) (by kernel_rfl) (fun _ _ _ h => h) (Or.inl ⟨by rfl, by intro w hSw; have hcc := CB1.out w hSw; go_simp⟩) (by assumption) ?_
        simp only [Act.put, List.setIfInBounds_toArray, List.set_cons_zero, List.set_cons_succ]
        refine wpAnyH_take (i := 6) (oi := { dst := some 105, op := Op.move (Operand.tmp 7), type := 3, pos := "outright.go:58", after := #[], guard := none }) (v := .int .i64 (a : Int)) rfl (by kernel_rfl) (by kernel_rfl) (by kernel_rfl) (fun _ _ _ h => h) (Or.inl ⟨by rfl, by intro w hSw; go_simp⟩) (by assumption) ?_
        simp only [Act.put, List.setIfInBounds_toArray, List.set_cons_zero, List.set_cons_succ]
        refine wpAnyH_take (i := 7) (oi := { dst := some 106, op := Op.slice 35 (Operand.tmp 104) (some (Operand.tmp 105)) none none, type := 35, pos := "outright.go:58", after := #[{ on := 5, ground := Ground.data }, { on := 6, ground := Ground.data }], guard := none }) (v := .slice sa (mn - a) (mc - a)) rfl (by kernel_rfl) (by kernel_rfl) (by kernel_rfl) (fun _ _ _ h => h) (Or.inl ⟨by rfl, by intro w hSw; have q3 : ¬ (mc < mn) := (by omega); have q4 : a ≤ mn := (by omega); rw [← HSA.out]; go_simp⟩) (by assumption) ?_
        simp only [Act.put, List.setIfInBounds_toArray, List.set_cons_zero, List.set_cons_succ]
        refine wpAnyH_ready (rs := [8]) (by kernel_rfl) (by simp) (AllReadyH.cons (o := { dst := some 107, op := Op.call { callee := Callee.value (Operand.func 15), args := #[Operand.tmp 106], argTypes := #[35] }, type := 35, pos := "outright.go:58", after := #[{ on := 7, ground := Ground.data }], guard := none }) rfl (fun KQ hK => ?_) AllReadyH.nil)
        go_simp
        have PD : Hid (PBase W wr.drew W.heap.size gk gw cs KB H) := PW.out.on (Below.refl _ _).drew
        have AS := (AM.out _ PD.out.below).cut mn mc a (mn - a) hml hmc (by omega)
        have SS := sl_cut SM.out a
        rw [HSA.out] at AS SS
        refine (words_own _ sa (mn - a) (mc - a) ((xs.drop a).take (mn - a)) (by rw [List.length_take, List.length_drop]; omega) AS SS (by omega)).mono ?_
        rintro e w6 ⟨vo6, vc6, rfl, h6, a6, s6, hb6⟩
        have B6 : Below wr.heap.size wr w6 := (Below.refl wr.heap.size wr).drew.trans (hb6.mono (by simp))
        have U6 : But gi wr w6 := Below.but B6
        go_wp2_with fail
        refine hK.out _ _ U6 (fun hHeld => ?_)
        clear hK KQ
        try simp only [Act.put, List.setIfInBounds_toArray, List.set_cons_zero, List.set_cons_succ]
        refine wpAnyH_ready (rs := [9]) (by kernel_rfl) (by simp) (AllReadyH.cons (o := { dst := some 108, op := Op.call { callee := Callee.value (Operand.func 18), args := #[Operand.tmp 102, Operand.tmp 107], argTypes := #[45, 35] }, type := 0, pos := "outright.go:58", after := #[{ on := 3, ground := Ground.data }, { on := 8, ground := Ground.data }, { on := 8, ground := Ground.chain }], guard := none }) rfl (fun KQ hK => ?_) AllReadyH.nil)
        go_simp
        refine (addL_any _ (PW.out.on B6).tabs.sha (PW.out.on B6).tabs.sz gi _ (MW.out.on B6).inner vo6 (mn - a) vc6 ((xs.drop a).take (mn - a)) (by rw [List.length_take, List.length_drop]; omega) a6 (by omega) (by rw [List.length_append, xorL_length, MW.out.kl, List.length_take]; omega)).mono ?_
        rintro e w7 ⟨rfl, D7, bt7⟩
        have U7 : But gi wr w7 := U6.trans bt7
        go_wp2_with fail
        refine hK.out _ _ U7 (fun hHeld => ?_)
        clear hK KQ
        try simp only [Act.put, List.setIfInBounds_toArray, List.set_cons_zero, List.set_cons_succ]
        refine wpAnyH_done (by kernel_rfl) ?_ _
        have M7 : Hid (MacH w7 gm gi go K xs) := (MW.out.on B6).turn bt7 (by rw [List.append_assoc, take_more xs a mn ha, List.take_of_length_le (by omega)] at D7; exact D7)
        have P7 : Hid (PBase W w7 W.heap.size gk gw cs KB H) := (PW.out.on B6).but bt7 (by omega) (by omega) (by omega) (by omega) (by omega)
        clear B6 U6 U7 D7 bt7 hb6 a6 s6 h6 CG CB1 hHeld PW MW PD AS SS HSA
        have HTM : Hid (sumW (xorL 1549556828 K ++ sumW (xorL 909522486 K ++ xs)) = H) := by have := tag_math K KB xs pKB HK.out.symm wm; rw [HH.out] at this; exact this
        have e1 := eq26 H H hHl hHl
        rw [decide_eq_true rfl] at e1
        go_wp2_with fail
        have FB : Hid (∀ w, Below w7.heap.size w7 w → PBase W w W.heap.size gk gw cs KB H) := fun w hb => P7.out.on hb
        have RH : Hid (∀ w, Below w7.heap.size w7 w → w.rangeAt gw 0 (H.map (Value.int .u32))) := fun w hb => (FB.out w hb).wb.row.range
        have HL7 : Hid (∀ w w', Below w7.heap.size w7 w → Below w.heap.size w w' → Below w7.heap.size w7 w') := fun w w' h h' => h.trans (h'.mono h.size)
        refine wp_region_held_drew (S := fun w => Below w7.heap.size w7 w) (by kernel_rfl) (Below.refl _ _).drew (fun hHeld => ?_)
        refine wpAnyH_take (i := 0) (oi := { dst := some 109, op := Op.move (Operand.tmp 5), type := 42, pos := "outright.go:59", after := #[], guard := none }) (v := .pointer (some ⟨gm, 0, none⟩)) rfl (by kernel_rfl) (by kernel_rfl) (by kernel_rfl) (fun _ _ _ h => h) (Or.inl ⟨by rfl, by intro w hSw; go_simp⟩) (by assumption) ?_
        simp only [Act.put, List.setIfInBounds_toArray, List.set_cons_zero, List.set_cons_succ]
        refine wpAnyH_take (i := 2) (oi := { dst := some 111, op := Op.load 26 (Operand.tmp 4), type := 26, pos := "outright.go:59", after := #[], guard := none }) (v := .agg (H.map (Value.int .u32)).toArray) rfl (by kernel_rfl) (by kernel_rfl) (by kernel_rfl) (fun _ _ _ h => h) (yieldsIf_load_mid (by rfl) _ _ rfl _ _ rfl _ _ (fun w hSw => RH.out w hSw) Tryd.underlying26 rfl (by rw [List.length_map]; exact hsH)) (by assumption) ?_
        simp only [Act.put, List.setIfInBounds_toArray, List.set_cons_zero, List.set_cons_succ]
        refine wpAnyH_ready (rs := [1]) (by kernel_rfl) (by simp) (AllReadyH.cons (o := { dst := some 110, op := Op.call { callee := Callee.value (Operand.func 19), args := #[Operand.tmp 109], argTypes := #[42] }, type := 26, pos := "outright.go:59", after := #[{ on := 0, ground := Ground.data }], guard := none }) rfl (fun KQ hK => ?_) AllReadyH.nil)
        go_simp
        refine (tag_mac _ (FB.out _ (Below.refl _ _).drew).tabs gm gi go K xs (M7.out.on (Below.refl _ _).drew)).mono ?_
        rintro e w8 ⟨rfl, hb8⟩
        rw [HTM.out]
        have B8 : Below w7.heap.size w7 w8 := HL7.out _ _ (Below.refl _ _).drew hb8
        go_wp2_with fail
        refine hK.out _ _ B8 (fun hHeld => ?_)
        clear hK KQ
        try simp only [Act.put, List.setIfInBounds_toArray, List.set_cons_zero, List.set_cons_succ]
        refine wpAnyH_take (i := 3) (oi := { dst := some 112, op := Op.binOp BinOp.eql 26 (Operand.tmp 110) (Operand.tmp 111) 26, type := 4, pos := "outright.go:59", after := #[{ on := 1, ground := Ground.data }, { on := 2, ground := Ground.data }], guard := none }) (v := .bool true) rfl (by kernel_rfl) (by kernel_rfl) (by kernel_rfl) (fun _ _ _ h => h) (Or.inl ⟨by rfl, by intro w hSw; simp only [Ag]; go_simp⟩) (by assumption) ?_
        simp only [Act.put, List.setIfInBounds_toArray, List.set_cons_zero, List.set_cons_succ]
        refine wpAnyH_take (i := 4) (oi := { dst := some 113, op := Op.move (Operand.tmp 112), type := 4, pos := "outright.go:59", after := #[{ on := 3, ground := Ground.data }, { on := 1, ground := Ground.chain }], guard := none }) (v := .bool true) rfl (by kernel_rfl) (by kernel_rfl) (by kernel_rfl) (fun _ _ _ h => h) (Or.inl ⟨by rfl, by intro w hSw; go_simp⟩) (by assumption) ?_
        simp only [Act.put, List.setIfInBounds_toArray, List.set_cons_zero, List.set_cons_succ]
        refine wpAnyH_take (i := 5) (oi := { dst := some 114, op := Op.move (Operand.tmp 5), type := 42, pos := "outright.go:59", after := #[{ on := 4, ground := Ground.guard }], guard := some (4, true) }) (v := .pointer (some ⟨gm, 0, none⟩)) rfl (by kernel_rfl) (by kernel_rfl) (by kernel_rfl) (fun _ _ _ h => h) (Or.inl ⟨by rfl, by intro w hSw; go_simp⟩) (by assumption) ?_
        simp only [Act.put, List.setIfInBounds_toArray, List.set_cons_zero, List.set_cons_succ]
        refine wpAnyH_take (i := 7) (oi := { dst := some 116, op := Op.load 26 (Operand.tmp 4), type := 26, pos := "outright.go:59", after := #[{ on := 4, ground := Ground.guard }], guard := some (4, true) }) (v := .agg (H.map (Value.int .u32)).toArray) rfl (by kernel_rfl) (by kernel_rfl) (by kernel_rfl) (fun _ _ _ h => h) (yieldsIf_load_mid (by rfl) _ _ rfl _ _ rfl _ _ (fun w hSw => RH.out w hSw) Tryd.underlying26 rfl (by rw [List.length_map]; exact hsH)) (by assumption) ?_
        simp only [Act.put, List.setIfInBounds_toArray, List.set_cons_zero, List.set_cons_succ]
        refine wpAnyH_ready (rs := [6]) (by kernel_rfl) (by simp) (AllReadyH.cons (o := { dst := some 115, op := Op.call { callee := Callee.value (Operand.func 19), args := #[Operand.tmp 114], argTypes := #[42] }, type := 26, pos := "outright.go:59", after := #[{ on := 5, ground := Ground.data }, { on := 4, ground := Ground.chain }, { on := 4, ground := Ground.guard }], guard := some (4, true) }) rfl (fun KQ hK => ?_) AllReadyH.nil)
        go_simp
        refine (tag_mac _ (FB.out _ B8).tabs gm gi go K xs (M7.out.on B8)).mono ?_
        rintro e w9 ⟨rfl, hb9⟩
        rw [HTM.out]
        have B9 : Below w7.heap.size w7 w9 := HL7.out _ _ B8 hb9
        go_wp2_with fail
        refine hK.out _ _ B9 (fun hHeld => ?_)
        clear hK KQ
        try simp only [Act.put, List.setIfInBounds_toArray, List.set_cons_zero, List.set_cons_succ]
        refine wpAnyH_take (i := 8) (oi := { dst := some 117, op := Op.binOp BinOp.eql 26 (Operand.tmp 115) (Operand.tmp 116) 26, type := 4, pos := "outright.go:59", after := #[{ on := 6, ground := Ground.data }, { on := 7, ground := Ground.data }, { on := 4, ground := Ground.guard }], guard := some (4, true) }) (v := .bool true) rfl (by kernel_rfl) (by kernel_rfl) (by kernel_rfl) (fun _ _ _ h => h) (Or.inl ⟨by rfl, by intro w hSw; simp only [Ag]; go_simp⟩) (by assumption) ?_
        simp only [Act.put, List.setIfInBounds_toArray, List.set_cons_zero, List.set_cons_succ]
        refine wpAnyH_take (i := 9) (oi := { dst := some 118, op := Op.pick (Operand.tmp 113) (Operand.tmp 117) (Operand.const (Value.bool false)), type := 4, pos := "outright.go:59", after := #[{ on := 4, ground := Ground.data }, { on := 8, ground := Ground.data }], guard := none }) (v := .bool true) rfl (by kernel_rfl) (by kernel_rfl) (by kernel_rfl) (fun _ _ _ h => h) (Or.inl ⟨by rfl, by intro w hSw; go_simp⟩) (by assumption) ?_
        simp only [Act.put, List.setIfInBounds_toArray, List.set_cons_zero, List.set_cons_succ]
        refine wpAnyH_ready (rs := [10]) (by kernel_rfl) (by simp) (AllReadyH.cons (o := { dst := some 2, op := Op.assign (Operand.tmp 118), type := 4, pos := "outright.go:59", after := #[{ on := 9, ground := Ground.data }, { on := 6, ground := Ground.chain }, { on := 0, ground := Ground.phase }, { on := 1, ground := Ground.phase }, { on := 2, ground := Ground.phase }, { on := 3, ground := Ground.phase }, { on := 4, ground := Ground.phase }, { on := 5, ground := Ground.phase }, { on := 6, ground := Ground.phase }, { on := 7, ground := Ground.phase }, { on := 8, ground := Ground.phase }, { on := 9, ground := Ground.phase }], guard := none }) rfl (fun KQ hK => ?_) AllReadyH.nil)
        go_simp
        refine hK.out _ _ B9 (fun hHeld => ?_)
        clear hK KQ
        try simp only [Act.put, List.setIfInBounds_toArray, List.set_cons_zero, List.set_cons_succ]
        refine wpAnyH_done (by kernel_rfl) ?_ _
        have HE : Hid (Below W.heap.size W w9) := (FB.out _ B9).below
        clear B8 B9 hb8 hb9 hHeld FB RH HL7 P7 M7 e1 HTM
        go_wp2_with fail
        go_ret
        exact ⟨rfl, HE.out⟩
    · have j1 : (an : Int) ≤ (k : Int) := by omega
      go_wp2_with fail
      clear c2 OW
      obtain ⟨sa, hsa⟩ : ∃ sa, (if mc = a then ma else Option.map (fun x => x.add a) ma) = sa := ⟨_, rfl⟩
      have HSA : Hid ((if mc = a then ma else Option.map (fun x => x.add a) ma) = sa) := hsa
      clear hsa
      have CG : Hid (∀ w, But gi wr w → w.cell? ⟨gm, 0, none⟩ = some (.pointer (some ⟨gi, 0, none⟩))) := fun w hb => by rw [(MW.out.cel.but hb MW.out.mi).cell]; rfl
      have CB1 : Hid (∀ w, But gi wr w → w.cell? ⟨W.heap.size, 1, none⟩ = some (.slice ma mn mc)) := fun w hb => by rw [(PW.out.box.but hb (by omega)).cell]; exact HC.out.2.1
      refine wp_region_held_drew (S := fun w => But gi wr w) (by kernel_rfl) (Below.but (Below.refl _ _).drew) (fun hHeld => ?_)
      refine wpAnyH_take (i := 0) (oi := { dst := some 99, op := Op.move (Operand.tmp 5), type := 42, pos := "outright.go:58", after := #[], guard := none }) (v := .pointer (some ⟨gm, 0, none⟩)) rfl (by kernel_rfl) (by kernel_rfl) (by kernel_rfl) (fun _ _ _ h => h) (Or.inl ⟨by rfl, by intro w hSw; go_simp⟩) (by assumption) ?_
      simp only [Act.put, List.setIfInBounds_toArray, List.set_cons_zero, List.set_cons_succ]
      refine wpAnyH_take (i := 1) (oi := { dst := some 100, op := Op.nilCheck (Operand.tmp 99), type := 0, pos := "outright.go:58", after := #[{ on := 0, ground := Ground.data }], guard := none }) (v := .pointer (some ⟨gm, 0, none⟩)) rfl (by kernel_rfl) (by kernel_rfl) (by kernel_rfl) (fun _ _ _ h => h) (Or.inl ⟨by rfl, by intro w hSw; go_simp⟩) (by assumption) ?_
      simp only [Act.put, List.setIfInBounds_toArray, List.set_cons_zero, List.set_cons_succ]
      refine wpAnyH_take (i := 2) (oi := { dst := some 101, op := Op.fieldAddr 47 (Operand.tmp 100) 0, type := 0, pos := "outright.go:58", after := #[{ on := 1, ground := Ground.data }], guard := none }) (v := .pointer (some ⟨gm, 0, none⟩)) rfl (by kernel_rfl) (by kernel_rfl) (by kernel_rfl) (fun _ _ _ h => h) (Or.inl ⟨by rfl, by intro w hSw; go_simp⟩) (by assumption) ?_
      simp only [Act.put, List.setIfInBounds_toArray, List.set_cons_zero, List.set_cons_succ]
      refine wpAnyH_take (i := 3) (oi := { dst := some 102, op := Op.load 45 (Operand.tmp 101), type := 45, pos := "outright.go:58", after := #[{ on := 2, ground := Ground.data }], guard := none }) (v := .pointer (some ⟨gi, 0, none⟩)) rfl (by kernel_rfl) (by kernel_rfl) (by kernel_rfl) (fun _ _ _ h => h) (Or.inl ⟨by rfl, by intro w hSw; have hcc := CG.out w hSw; go_simp⟩) (by assumption) ?_
      simp only [Act.put, List.setIfInBounds_toArray, List.set_cons_zero, List.set_cons_succ]
      refine wpAnyH_take (i := 4) (oi := { dst := some 103, op := Op.fieldAddr 39 (Operand.tmp 1) 1, type := 0, pos := "outright.go:58", after := #[], guard := none }) (v := .pointer (some ⟨W.heap.size, 1, none⟩)) rfl (by kernel_rfl) (by kernel_rfl) (by kernel_rfl) (fun _ _ _ h => h) (Or.inl ⟨by rfl, by intro w hSw; go_simp⟩) (by assumption) ?_
      simp only [Act.put, List.setIfInBounds_toArray, List.set_cons_zero, List.set_cons_succ]
      refine wpAnyH_take (i := 5) (oi := { dst := some 104, op := Op.load 35 (Operand.tmp 103), type := 35, pos := "outright.go:58", after := #[{ on := 4, ground := Ground.data }], guard := none }) (v := .slice ma mn mc) rfl (by kernel_rfl) (by kernel_rfl) (by kernel_rfl) (fun _ _ _ h => h) (Or.inl ⟨by rfl, by intro w hSw; have hcc := CB1.out w hSw; go_simp⟩) (by assumption) ?_
      simp only [Act.put, List.setIfInBounds_toArray, List.set_cons_zero, List.set_cons_succ]
      refine wpAnyH_take (i := 6) (oi := { dst := some 105, op := Op.move (Operand.tmp 7), type := 3, pos := "outright.go:58", after := #[], guard := none }) (v := .int .i64 (a : Int)) rfl (by kernel_rfl) (by kernel_rfl) (by kernel_rfl) (fun _ _ _ h => h) (Or.inl ⟨by rfl, by intro w hSw; go_simp⟩) (by assumption) ?_
      simp only [Act.put, List.setIfInBounds_toArray, List.set_cons_zero, List.set_cons_succ]
      refine wpAnyH_take (i := 7) (oi := { dst := some 106, op := Op.slice 35 (Operand.tmp 104) (some (Operand.tmp 105)) none none, type := 35, pos := "outright.go:58", after := #[{ on := 5, ground := Ground.data }, { on := 6, ground := Ground.data }], guard := none }) (v := .slice sa (mn - a) (mc - a)) rfl (by kernel_rfl) (by kernel_rfl) (by kernel_rfl) (fun _ _ _ h => h) (Or.inl ⟨by rfl, by intro w hSw; have q3 : ¬ (mc < mn) := (by omega); have q4 : a ≤ mn := (by omega); rw [← HSA.out]; go_simp⟩) (by assumption) ?_
      simp only [Act.put, List.setIfInBounds_toArray, List.set_cons_zero, List.set_cons_succ]
      refine wpAnyH_ready (rs := [8]) (by kernel_rfl) (by simp) (AllReadyH.cons (o := { dst := some 107, op := Op.call { callee := Callee.value (Operand.func 15), args := #[Operand.tmp 106], argTypes := #[35] }, type := 35, pos := "outright.go:58", after := #[{ on := 7, ground := Ground.data }], guard := none }) rfl (fun KQ hK => ?_) AllReadyH.nil)
      go_simp
      have PD : Hid (PBase W wr.drew W.heap.size gk gw cs KB H) := PW.out.on (Below.refl _ _).drew
      have AS := (AM.out _ PD.out.below).cut mn mc a (mn - a) hml hmc (by omega)
      have SS := sl_cut SM.out a
      rw [HSA.out] at AS SS
      refine (words_own _ sa (mn - a) (mc - a) ((xs.drop a).take (mn - a)) (by rw [List.length_take, List.length_drop]; omega) AS SS (by omega)).mono ?_
      rintro e w6 ⟨vo6, vc6, rfl, h6, a6, s6, hb6⟩
      have B6 : Below wr.heap.size wr w6 := (Below.refl wr.heap.size wr).drew.trans (hb6.mono (by simp))
      have U6 : But gi wr w6 := Below.but B6
      go_wp2_with fail
      refine hK.out _ _ U6 (fun hHeld => ?_)
      clear hK KQ
      try simp only [Act.put, List.setIfInBounds_toArray, List.set_cons_zero, List.set_cons_succ]
      refine wpAnyH_ready (rs := [9]) (by kernel_rfl) (by simp) (AllReadyH.cons (o := { dst := some 108, op := Op.call { callee := Callee.value (Operand.func 18), args := #[Operand.tmp 102, Operand.tmp 107], argTypes := #[45, 35] }, type := 0, pos := "outright.go:58", after := #[{ on := 3, ground := Ground.data }, { on := 8, ground := Ground.data }, { on := 8, ground := Ground.chain }], guard := none }) rfl (fun KQ hK => ?_) AllReadyH.nil)
      go_simp
      refine (addL_any _ (PW.out.on B6).tabs.sha (PW.out.on B6).tabs.sz gi _ (MW.out.on B6).inner vo6 (mn - a) vc6 ((xs.drop a).take (mn - a)) (by rw [List.length_take, List.length_drop]; omega) a6 (by omega) (by rw [List.length_append, xorL_length, MW.out.kl, List.length_take]; omega)).mono ?_
      rintro e w7 ⟨rfl, D7, bt7⟩
      have U7 : But gi wr w7 := U6.trans bt7
      go_wp2_with fail
      refine hK.out _ _ U7 (fun hHeld => ?_)
      clear hK KQ
      try simp only [Act.put, List.setIfInBounds_toArray, List.set_cons_zero, List.set_cons_succ]
      refine wpAnyH_done (by kernel_rfl) ?_ _
      have M7 : Hid (MacH w7 gm gi go K xs) := (MW.out.on B6).turn bt7 (by rw [List.append_assoc, take_more xs a mn ha, List.take_of_length_le (by omega)] at D7; exact D7)
      have P7 : Hid (PBase W w7 W.heap.size gk gw cs KB H) := (PW.out.on B6).but bt7 (by omega) (by omega) (by omega) (by omega) (by omega)
      clear B6 U6 U7 D7 bt7 hb6 a6 s6 h6 CG CB1 hHeld PW MW PD AS SS HSA
      have HTM : Hid (sumW (xorL 1549556828 K ++ sumW (xorL 909522486 K ++ xs)) = H) := by have := tag_math K KB xs pKB HK.out.symm wm; rw [HH.out] at this; exact this
      have e1 := eq26 H H hHl hHl
      rw [decide_eq_true rfl] at e1
      go_wp2_with fail
      have FB : Hid (∀ w, Below w7.heap.size w7 w → PBase W w W.heap.size gk gw cs KB H) := fun w hb => P7.out.on hb
      have RH : Hid (∀ w, Below w7.heap.size w7 w → w.rangeAt gw 0 (H.map (Value.int .u32))) := fun w hb => (FB.out w hb).wb.row.range
      have HL7 : Hid (∀ w w', Below w7.heap.size w7 w → Below w.heap.size w w' → Below w7.heap.size w7 w') := fun w w' h h' => h.trans (h'.mono h.size)
      refine wp_region_held_drew (S := fun w => Below w7.heap.size w7 w) (by kernel_rfl) (Below.refl _ _).drew (fun hHeld => ?_)
      refine wpAnyH_take (i := 0) (oi := { dst := some 109, op := Op.move (Operand.tmp 5), type := 42, pos := "outright.go:59", after := #[], guard := none }) (v := .pointer (some ⟨gm, 0, none⟩)) rfl (by kernel_rfl) (by kernel_rfl) (by kernel_rfl) (fun _ _ _ h => h) (Or.inl ⟨by rfl, by intro w hSw; go_simp⟩) (by assumption) ?_
      simp only [Act.put, List.setIfInBounds_toArray, List.set_cons_zero, List.set_cons_succ]
      refine wpAnyH_take (i := 2) (oi := { dst := some 111, op := Op.load 26 (Operand.tmp 4), type := 26, pos := "outright.go:59", after := #[], guard := none }) (v := .agg (H.map (Value.int .u32)).toArray) rfl (by kernel_rfl) (by kernel_rfl) (by kernel_rfl) (fun _ _ _ h => h) (yieldsIf_load_mid (by rfl) _ _ rfl _ _ rfl _ _ (fun w hSw => RH.out w hSw) Tryd.underlying26 rfl (by rw [List.length_map]; exact hsH)) (by assumption) ?_
      simp only [Act.put, List.setIfInBounds_toArray, List.set_cons_zero, List.set_cons_succ]
      refine wpAnyH_ready (rs := [1]) (by kernel_rfl) (by simp) (AllReadyH.cons (o := { dst := some 110, op := Op.call { callee := Callee.value (Operand.func 19), args := #[Operand.tmp 109], argTypes := #[42] }, type := 26, pos := "outright.go:59", after := #[{ on := 0, ground := Ground.data }], guard := none }) rfl (fun KQ hK => ?_) AllReadyH.nil)
      go_simp
      refine (tag_mac _ (FB.out _ (Below.refl _ _).drew).tabs gm gi go K xs (M7.out.on (Below.refl _ _).drew)).mono ?_
      rintro e w8 ⟨rfl, hb8⟩
      rw [HTM.out]
      have B8 : Below w7.heap.size w7 w8 := HL7.out _ _ (Below.refl _ _).drew hb8
      go_wp2_with fail
      refine hK.out _ _ B8 (fun hHeld => ?_)
      clear hK KQ
      try simp only [Act.put, List.setIfInBounds_toArray, List.set_cons_zero, List.set_cons_succ]
      refine wpAnyH_take (i := 3) (oi := { dst := some 112, op := Op.binOp BinOp.eql 26 (Operand.tmp 110) (Operand.tmp 111) 26, type := 4, pos := "outright.go:59", after := #[{ on := 1, ground := Ground.data }, { on := 2, ground := Ground.data }], guard := none }) (v := .bool true) rfl (by kernel_rfl) (by kernel_rfl) (by kernel_rfl) (fun _ _ _ h => h) (Or.inl ⟨by rfl, by intro w hSw; simp only [Ag]; go_simp⟩) (by assumption) ?_
      simp only [Act.put, List.setIfInBounds_toArray, List.set_cons_zero, List.set_cons_succ]
      refine wpAnyH_take (i := 4) (oi := { dst := some 113, op := Op.move (Operand.tmp 112), type := 4, pos := "outright.go:59", after := #[{ on := 3, ground := Ground.data }, { on := 1, ground := Ground.chain }], guard := none }) (v := .bool true) rfl (by kernel_rfl) (by kernel_rfl) (by kernel_rfl) (fun _ _ _ h => h) (Or.inl ⟨by rfl, by intro w hSw; go_simp⟩) (by assumption) ?_
      simp only [Act.put, List.setIfInBounds_toArray, List.set_cons_zero, List.set_cons_succ]
      refine wpAnyH_take (i := 5) (oi := { dst := some 114, op := Op.move (Operand.tmp 5), type := 42, pos := "outright.go:59", after := #[{ on := 4, ground := Ground.guard }], guard := some (4, true) }) (v := .pointer (some ⟨gm, 0, none⟩)) rfl (by kernel_rfl) (by kernel_rfl) (by kernel_rfl) (fun _ _ _ h => h) (Or.inl ⟨by rfl, by intro w hSw; go_simp⟩) (by assumption) ?_
      simp only [Act.put, List.setIfInBounds_toArray, List.set_cons_zero, List.set_cons_succ]
      refine wpAnyH_take (i := 7) (oi := { dst := some 116, op := Op.load 26 (Operand.tmp 4), type := 26, pos := "outright.go:59", after := #[{ on := 4, ground := Ground.guard }], guard := some (4, true) }) (v := .agg (H.map (Value.int .u32)).toArray) rfl (by kernel_rfl) (by kernel_rfl) (by kernel_rfl) (fun _ _ _ h => h) (yieldsIf_load_mid (by rfl) _ _ rfl _ _ rfl _ _ (fun w hSw => RH.out w hSw) Tryd.underlying26 rfl (by rw [List.length_map]; exact hsH)) (by assumption) ?_
      simp only [Act.put, List.setIfInBounds_toArray, List.set_cons_zero, List.set_cons_succ]
      refine wpAnyH_ready (rs := [6]) (by kernel_rfl) (by simp) (AllReadyH.cons (o := { dst := some 115, op := Op.call { callee := Callee.value (Operand.func 19), args := #[Operand.tmp 114], argTypes := #[42] }, type := 26, pos := "outright.go:59", after := #[{ on := 5, ground := Ground.data }, { on := 4, ground := Ground.chain }, { on := 4, ground := Ground.guard }], guard := some (4, true) }) rfl (fun KQ hK => ?_) AllReadyH.nil)
      go_simp
      refine (tag_mac _ (FB.out _ B8).tabs gm gi go K xs (M7.out.on B8)).mono ?_
      rintro e w9 ⟨rfl, hb9⟩
      rw [HTM.out]
      have B9 : Below w7.heap.size w7 w9 := HL7.out _ _ B8 hb9
      go_wp2_with fail
      refine hK.out _ _ B9 (fun hHeld => ?_)
      clear hK KQ
      try simp only [Act.put, List.setIfInBounds_toArray, List.set_cons_zero, List.set_cons_succ]
      refine wpAnyH_take (i := 8) (oi := { dst := some 117, op := Op.binOp BinOp.eql 26 (Operand.tmp 115) (Operand.tmp 116) 26, type := 4, pos := "outright.go:59", after := #[{ on := 6, ground := Ground.data }, { on := 7, ground := Ground.data }, { on := 4, ground := Ground.guard }], guard := some (4, true) }) (v := .bool true) rfl (by kernel_rfl) (by kernel_rfl) (by kernel_rfl) (fun _ _ _ h => h) (Or.inl ⟨by rfl, by intro w hSw; simp only [Ag]; go_simp⟩) (by assumption) ?_
      simp only [Act.put, List.setIfInBounds_toArray, List.set_cons_zero, List.set_cons_succ]
      refine wpAnyH_take (i := 9) (oi := { dst := some 118, op := Op.pick (Operand.tmp 113) (Operand.tmp 117) (Operand.const (Value.bool false)), type := 4, pos := "outright.go:59", after := #[{ on := 4, ground := Ground.data }, { on := 8, ground := Ground.data }], guard := none }) (v := .bool true) rfl (by kernel_rfl) (by kernel_rfl) (by kernel_rfl) (fun _ _ _ h => h) (Or.inl ⟨by rfl, by intro w hSw; go_simp⟩) (by assumption) ?_
      simp only [Act.put, List.setIfInBounds_toArray, List.set_cons_zero, List.set_cons_succ]
      refine wpAnyH_ready (rs := [10]) (by kernel_rfl) (by simp) (AllReadyH.cons (o := { dst := some 2, op := Op.assign (Operand.tmp 118), type := 4, pos := "outright.go:59", after := #[{ on := 9, ground := Ground.data }, { on := 6, ground := Ground.chain }, { on := 0, ground := Ground.phase }, { on := 1, ground := Ground.phase }, { on := 2, ground := Ground.phase }, { on := 3, ground := Ground.phase }, { on := 4, ground := Ground.phase }, { on := 5, ground := Ground.phase }, { on := 6, ground := Ground.phase }, { on := 7, ground := Ground.phase }, { on := 8, ground := Ground.phase }, { on := 9, ground := Ground.phase }], guard := none }) rfl (fun KQ hK => ?_) AllReadyH.nil)
      go_simp
      refine hK.out _ _ B9 (fun hHeld => ?_)
      clear hK KQ
      try simp only [Act.put, List.setIfInBounds_toArray, List.set_cons_zero, List.set_cons_succ]
      refine wpAnyH_done (by kernel_rfl) ?_ _
      have HE : Hid (Below W.heap.size W w9) := (FB.out _ B9).below
      clear B8 B9 hb8 hb9 hHeld FB RH HL7 P7 M7 e1 HTM
      go_wp2_with fail
      go_ret
      exact ⟨rfl, HE.out⟩
end Go.Proofs.YtialckmoigcdeaaDoor
