/- TextWords (3): its end. -/
import Derived.Test.YtbjinmlelchmgaaDoorStt
import Derived.Test.YtbjinmlelchmgaaDoorSfx
import Derived.Deep.DeepCutAuto
namespace Go.Proofs.YtbjinmlelchmgaaDoor
open Go.RowKit
theorem HB.conv2 {W w : World} {ao : Option Addr} {c : Nat} {l : List UInt8} (h : HB W w (.slice ao l.length c) l) : (convert 24 9 (.slice ao l.length c)).run Tryd.prog w = .ok (.string ⟨l.toArray⟩) w := by
  obtain ⟨ao', c', he, hr⟩ := h.conv
  have h1 : ao = ao' := by injection he
  have h2 : c = c' := by injection he
  rw [h1, h2]
  exact hr
theorem HW.drewN {W wr : World} {v : Value} {ws : List T.Wd} (h : HW W wr v ws) (n : Nat) : HW W (wr.drewN n) v ws := ⟨h.own, below_drewN h.below n⟩
theorem HB.drewN {W wr : World} {v : Value} {l : List UInt8} (h : HB W wr v l) (n : Nat) : HB W (wr.drewN n) v l := ⟨h.own, below_drewN h.below n⟩
theorem data_app (a b : ByteArray) : (a ++ b).data.toList = a.data.toList ++ b.data.toList := by simp
set_option maxRecDepth 40000 in
set_option maxHeartbeats 4000000 in
theorem wordsT {z0 z2 z3 z4 z7 z8 z9 z13 z14 z15 z16 z17 z18 z19 z20 z21 z22 z23 z24 z25 z26 z27 z28 z29 z30 z31 z32 z33 z34 z35 z36 z37 z38 z39 z40 z41 z42 z43 z44 z45 z46 z47 z48 z49 z50 z51 z52 z53 z54 z55 z56 z57 z58 z59 z60 z61 z62 z63 z64 z65 z66 z67 z68 z69 z70 z71 z72 z73 z74 z75 z76 z77 z78 z79 z80 z81 z82 z83 z84 z85 z86 z87 z88 z89 z90 z91 z92 z93 z94 z95 z96 z97 z98 z99 z100 z101 z102 z103 z104 z105 z106 z107 z108 z109 z110 z111 z112 z113 z114 z115 z116 z117 z118 z119 z120 z121 z122 z123 z124 z125 z126 z127 z128 z129 z130 z131 z132 z133 z134 z135 z136 z137 z138 z139 z140 z141 z142 z143 z144 z145 z146 z147 z148 z149 z150 z151 z152 : Value} (W w : World) (L : List UInt8) (ws : List T.Wd) (a5 a6 a7 : Option Addr) (c5 c6 c7 : Nat) (F : HB W w (.slice a5 L.length c5) L) (G : HW W w (.slice a6 ws.length c6) ws) (G2 : HW W w (.slice a7 ws.length c7) ws) (cm : ByteArray) (hcm : cm.size ≤ 1048576) (hL : L.length ≤ 8388608) (hws : ws.length ≤ 1048576)
    (hbad : T.rd (L ++ ([32] ++ (T.quote cm.data.toList ++ [120]))) 0 = .inl (L.length + 1 + (T.quote cm.data.toList).length)) :
    Code.wp Tryd.prog (sfx 6 (Tryd.f3.body.getD .skip)) (bodyPost Tryd.prog Tryd.f3 fun e W' => e = .returned (.bool true) ∧ Below W.heap.size W W') { tmps := #[z0, .string cm, z2, z3, z4, .slice a5 L.length c5, .slice a6 ws.length c6, z7, z8, z9, .slice a7 ws.length c7, .int .i64 0, .int .i64 0, z13, z14, z15, z16, z17, z18, z19, z20, z21, z22, z23, z24, z25, z26, z27, z28, z29, z30, z31, z32, z33, z34, z35, z36, z37, z38, z39, z40, z41, z42, z43, z44, z45, z46, z47, z48, z49, z50, z51, z52, z53, z54, z55, z56, z57, z58, z59, z60, z61, z62, z63, z64, z65, z66, z67, z68, z69, z70, z71, z72, z73, z74, z75, z76, z77, z78, z79, z80, z81, z82, z83, z84, z85, z86, z87, z88, z89, z90, z91, z92, z93, z94, z95, z96, z97, z98, z99, z100, z101, z102, z103, z104, z105, z106, z107, z108, z109, z110, z111, z112, z113, z114, z115, z116, z117, z118, z119, z120, z121, z122, z123, z124, z125, z126, z127, z128, z129, z130, z131, z132, z133, z134, z135, z136, z137, z138, z139, z140, z141, z142, z143, z144, z145, z146, z147, z148, z149, z150, z151, z152], defers := [] } w := by
  have b1 : (ws.length : Int) ≤ 1048576 := by omega
  have b2 : (L.length : Int) ≤ 8388608 := by omega
  have hql := T.quote_length cm.data.toList
  rw [size_list] at hql
  obtain ⟨SL, hSL⟩ : ∃ SL : ByteArray, SL = ⟨L.toArray⟩ := ⟨_, rfl⟩
  obtain ⟨QC, hQC⟩ : ∃ QC : ByteArray, QC = ⟨(T.quote cm.data.toList).toArray⟩ := ⟨_, rfl⟩
  have sL : SL.size = L.length := by rw [hSL, size_of]
  have sQ : QC.size = (T.quote cm.data.toList).length := by rw [hQC, size_of]
  have HCV : Hid (∀ w, HB W w (.slice a5 L.length c5) L → (convert 24 9 (.slice a5 L.length c5)).run Tryd.prog w = .ok (.string SL) w) := hid (fun w h => by rw [hSL]; exact h.conv2)
  have HQ : Hid (∀ w ao c, AtB w ao cm.data.toList → Calls Tryd.prog 8 #[.slice ao cm.size c] w fun e w' => e = .returned (.string QC) ∧ Below w.heap.size w w') := hid (fun w ao c h => by rw [hQC]; exact quote_any w ao cm.size c cm.data.toList (size_list cm) (by omega) h)
  obtain ⟨AT, hAT⟩ : ∃ AT : Int, AT = (L.length : Int) + 2 + (QC.size : Int) := ⟨_, rfl⟩
  have HWD : Hid (∀ w, Calls Tryd.prog 9 #[.string (SL ++ (⟨#[32]⟩ : ByteArray) ++ QC ++ (⟨#[120]⟩ : ByteArray))] w fun e w' => e = .returned (.tuple #[.slice none 0 0, .int .i64 AT, .int .i64 40]) ∧ Below w.heap.size w w') := hid (fun w => by
    have hd : (SL ++ (⟨#[32]⟩ : ByteArray) ++ QC ++ (⟨#[120]⟩ : ByteArray)).data.toList = L ++ ([32] ++ (T.quote cm.data.toList ++ [120])) := by
      rw [data_app, data_app, data_app, hSL, hQC]
      simp
    have hsz : (SL ++ (⟨#[32]⟩ : ByteArray) ++ QC ++ (⟨#[120]⟩ : ByteArray)).size ≤ 1000000000 := by
      have : (SL ++ (⟨#[32]⟩ : ByteArray) ++ QC ++ (⟨#[120]⟩ : ByteArray)).size = (SL ++ (⟨#[32]⟩ : ByteArray) ++ QC ++ (⟨#[120]⟩ : ByteArray)).data.toList.length := rfl
      rw [this, hd]
      simp
      omega
    have := words_any w (SL ++ (⟨#[32]⟩ : ByteArray) ++ QC ++ (⟨#[120]⟩ : ByteArray)) hsz
    rw [hd, hbad] at this
    refine this.mono ?_
    rintro e w' ⟨rfl, hb⟩
    refine ⟨?_, hb⟩
    rw [show ((L.length + 1 + (T.quote cm.data.toList).length + 1 : Nat) : Int) = AT from by rw [hAT, sQ]; omega])
  have HAT2 : Hid (AT = (L.length : Int) + 2 + (QC.size : Int)) := hAT
  have q1 : (QC.size : Int) ≤ 5000000 := by omega
  have e10 : L.length + 1 ≤ 9223372036854775807 := by omega
  have e11 : SL.size + 1 ≤ 9223372036854775807 := by omega
  have e12 : L.length + 1 + QC.size ≤ 9223372036854775807 := by omega
  have e13 : L.length + 1 + QC.size ≤ 9223372036854775806 := by omega
  clear hSL hQC hbad hql sQ hAT
  refine sfx_walk 6 rfl (by simp only [sfx]; rfl) ?_
  go_wp2_with fail
  go_loopw [13] (fun i wr => ∃ k : Nat, k ≤ ws.length ∧ i = .int .i64 k ∧ HB W wr (.slice a5 L.length c5) L ∧ HW W wr (.slice a6 ws.length c6) ws ∧ HW W wr (.slice a7 ws.length c7) ws) (fun i _ => ws.length - (intOf i).toNat)
  case atStart => exact ⟨0, Nat.zero_le _, rfl, F, G, G2⟩
  case round =>
    clear F G G2
    obtain ⟨k, hk, rfl, F, G, G2⟩ := hrel
    by_cases hlt : k < ws.length
    · have c1 : (k : Int) < (ws.length : Int) := by omega
      clear HCV HQ HWD HAT2 e10 e11 e12 e13
      obtain ⟨g6, d6, h6, r0, r1, r2⟩ := G.cells k hlt
      obtain ⟨g7, d7, h7, s0, s1, s2⟩ := G2.cells k hlt
      injection h6 with h61 h62 h63
      injection h7 with h71 h72 h73
      subst h61 h63 h71 h73
      generalize ws[k] = wd at *
      go_wp2_with fail
      go_quiet (fail)
      go_wp2_with fail
      exact ⟨⟨k + 1, by omega, by go_num, F.drewN nq, G.drewN nq, G2.drewN nq⟩, by simp [intOf]; omega⟩
    · obtain rfl : k = ws.length := by omega
      clear G G2
      have F0 : Hid (HB W wr.drew (.slice a5 L.length c5) L) := hid F.drew
      obtain ⟨X, g9, c9, hcb, hbX, hatX⟩ := bytes_of wr.drew cm
      have FX := F0.out.on hbX
      have HAT : Hid (AtB X (some ⟨g9, 0, none⟩) cm.data.toList) := hatX
      clear hatX hbX
      go_wp2_with fail
      refine wp_region_held_drew (S := fun w => HB W w (.slice a5 L.length c5) L) (by kernel_rfl) F0.out (fun hHeld => ?_)
      refine wpAnyH_take (i := 0) (oi := { dst := some 122, op := Op.move (Operand.tmp 5), type := 24, pos := "outright.go:113", after := #[], guard := none }) (v := .slice a5 L.length c5) rfl (by kernel_rfl) (by kernel_rfl) (by kernel_rfl) (fun _ _ _ h => h) (Or.inl ⟨by rfl, by intro w hSw; go_simp⟩) (by assumption) ?_
      simp only [Act.put, List.setIfInBounds_toArray, List.set_cons_zero, List.set_cons_succ]
      refine wpAnyH_take (i := 1) (oi := { dst := some 123, op := Op.convert 24 9 (Operand.tmp 122), type := 9, pos := "outright.go:113", after := #[{ on := 0, ground := Ground.data }], guard := none }) (v := .string SL) rfl (by kernel_rfl) (by kernel_rfl) (by kernel_rfl) (fun _ _ _ h => h) (Or.inl ⟨by rfl, by intro w hSw; have hcv := HCV.out w hSw; go_simp⟩) (by assumption) ?_
      simp only [Act.put, List.setIfInBounds_toArray, List.set_cons_zero, List.set_cons_succ]
      refine wpAnyH_take (i := 2) (oi := { dst := some 124, op := Op.binOp BinOp.add 9 (Operand.tmp 123) (Operand.const (Value.string { data := #[32] })) 9, type := 9, pos := "outright.go:113", after := #[{ on := 1, ground := Ground.data }], guard := none }) (v := .string (SL ++ (⟨#[32]⟩ : ByteArray))) rfl (by kernel_rfl) (by kernel_rfl) (by kernel_rfl) (fun _ _ _ h => h) (Or.inl ⟨by rfl, by intro w hSw; go_simp⟩) (by assumption) ?_
      simp only [Act.put, List.setIfInBounds_toArray, List.set_cons_zero, List.set_cons_succ]
      refine wpAnyH_take (i := 3) (oi := { dst := some 125, op := Op.move (Operand.tmp 1), type := 9, pos := "outright.go:113", after := #[], guard := none }) (v := .string cm) rfl (by kernel_rfl) (by kernel_rfl) (by kernel_rfl) (fun _ _ _ h => h) (Or.inl ⟨by rfl, by intro w hSw; go_simp⟩) (by assumption) ?_
      simp only [Act.put, List.setIfInBounds_toArray, List.set_cons_zero, List.set_cons_succ]
      refine wpAnyH_ready (rs := [4]) (by kernel_rfl) (by simp) (AllReadyH.cons (o := { dst := some 126, op := Op.convert 9 24 (Operand.tmp 125), type := 24, pos := "outright.go:113", after := #[{ on := 3, ground := Ground.data }], guard := none }) rfl (fun KQ hK => ?_) AllReadyH.nil)
      skip
      go_simp
      refine hK.out _ _ FX (fun hHeld => ?_)
      clear hK KQ
      try simp only [Act.put, List.setIfInBounds_toArray, List.set_cons_zero, List.set_cons_succ]
      refine wpAnyH_ready (rs := [5]) (by kernel_rfl) (by simp) (AllReadyH.cons (o := { dst := some 127, op := Op.call { callee := Callee.value (Operand.func 8), args := #[Operand.tmp 126], argTypes := #[24] }, type := 9, pos := "outright.go:113", after := #[{ on := 4, ground := Ground.data }], guard := none }) rfl (fun KQ hK => ?_) AllReadyH.nil)
      go_simp
      refine (HQ.out _ _ _ HAT.out).mono ?_
      rintro en w2 ⟨rfl, hb2⟩
      go_wp2_with fail
      refine hK.out _ _ (FX.on hb2) (fun hHeld => ?_)
      clear hK KQ
      try simp only [Act.put, List.setIfInBounds_toArray, List.set_cons_zero, List.set_cons_succ]
      refine wpAnyH_take (i := 6) (oi := { dst := some 128, op := Op.binOp BinOp.add 9 (Operand.tmp 124) (Operand.tmp 127) 9, type := 9, pos := "outright.go:113", after := #[{ on := 2, ground := Ground.data }, { on := 5, ground := Ground.data }], guard := none }) (v := .string (SL ++ (⟨#[32]⟩ : ByteArray) ++ QC)) rfl (by kernel_rfl) (by kernel_rfl) (by kernel_rfl) (fun _ _ _ h => h) (Or.inl ⟨by rfl, by intro w hSw; go_simp⟩) (by assumption) ?_
      simp only [Act.put, List.setIfInBounds_toArray, List.set_cons_zero, List.set_cons_succ]
      refine wpAnyH_take (i := 7) (oi := { dst := some 129, op := Op.binOp BinOp.add 9 (Operand.tmp 128) (Operand.const (Value.string { data := #[120] })) 9, type := 9, pos := "outright.go:113", after := #[{ on := 6, ground := Ground.data }], guard := none }) (v := .string (SL ++ (⟨#[32]⟩ : ByteArray) ++ QC ++ (⟨#[120]⟩ : ByteArray))) rfl (by kernel_rfl) (by kernel_rfl) (by kernel_rfl) (fun _ _ _ h => h) (Or.inl ⟨by rfl, by intro w hSw; go_simp⟩) (by assumption) ?_
      simp only [Act.put, List.setIfInBounds_toArray, List.set_cons_zero, List.set_cons_succ]
      refine wpAnyH_ready (rs := [8]) (by kernel_rfl) (by simp) (AllReadyH.cons (o := { dst := some 130, op := Op.call { callee := Callee.value (Operand.func 9), args := #[Operand.tmp 129], argTypes := #[9] }, type := 33, pos := "outright.go:113", after := #[{ on := 7, ground := Ground.data }, { on := 5, ground := Ground.chain }], guard := none }) rfl (fun KQ hK => ?_) AllReadyH.nil)
      go_simp
      refine (HWD.out _).mono ?_
      rintro en w3 ⟨rfl, hb3⟩
      go_wp2_with fail
      refine hK.out _ _ ((FX.on hb2).on hb3) (fun hHeld => ?_)
      clear hK KQ
      try simp only [Act.put, List.setIfInBounds_toArray, List.set_cons_zero, List.set_cons_succ]
      refine wpAnyH_take (i := 9) (oi := { dst := some 121, op := Op.move (Operand.tmp 130), type := 33, pos := "outright.go:113", after := #[{ on := 8, ground := Ground.data }], guard := none }) (v := .tuple #[.slice none 0 0, .int .i64 AT, .int .i64 40]) rfl (by kernel_rfl) (by kernel_rfl) (by kernel_rfl) (fun _ _ _ h => h) (Or.inl ⟨by rfl, by intro w hSw; go_simp⟩) (by assumption) ?_
      simp only [Act.put, List.setIfInBounds_toArray, List.set_cons_zero, List.set_cons_succ]
      refine wpAnyH_take (i := 10) (oi := { dst := some 131, op := Op.extract (Operand.tmp 121) 0, type := 25, pos := "outright.go:113", after := #[{ on := 9, ground := Ground.data }], guard := none }) (v := .slice none 0 0) rfl (by kernel_rfl) (by kernel_rfl) (by kernel_rfl) (fun _ _ _ h => h) (Or.inl ⟨by rfl, by intro w hSw; go_simp⟩) (by assumption) ?_
      simp only [Act.put, List.setIfInBounds_toArray, List.set_cons_zero, List.set_cons_succ]
      refine wpAnyH_take (i := 11) (oi := { dst := some 132, op := Op.extract (Operand.tmp 121) 1, type := 3, pos := "outright.go:113", after := #[{ on := 9, ground := Ground.data }, { on := 13, ground := Ground.gcOnly Departure.lateStores }], guard := none }) (v := .int .i64 AT) rfl (by kernel_rfl) (by kernel_rfl) (by kernel_rfl) (fun _ _ _ h => h) (Or.inl ⟨by rfl, by intro w hSw; go_simp⟩) (by assumption) ?_
      simp only [Act.put, List.setIfInBounds_toArray, List.set_cons_zero, List.set_cons_succ]
      refine wpAnyH_take (i := 12) (oi := { dst := some 133, op := Op.extract (Operand.tmp 121) 2, type := 32, pos := "outright.go:113", after := #[{ on := 9, ground := Ground.data }, { on := 14, ground := Ground.gcOnly Departure.lateStores }], guard := none }) (v := .int .i64 40) rfl (by kernel_rfl) (by kernel_rfl) (by kernel_rfl) (fun _ _ _ h => h) (Or.inl ⟨by rfl, by intro w hSw; go_simp⟩) (by assumption) ?_
      simp only [Act.put, List.setIfInBounds_toArray, List.set_cons_zero, List.set_cons_succ]
      refine wpAnyH_ready (rs := [13]) (by kernel_rfl) (by simp) (AllReadyH.cons (o := { dst := some 14, op := Op.assign (Operand.tmp 131), type := 25, pos := "outright.go:113", after := #[{ on := 10, ground := Ground.data }, { on := 8, ground := Ground.chain }, { on := 0, ground := Ground.phase }, { on := 1, ground := Ground.phase }, { on := 2, ground := Ground.phase }, { on := 3, ground := Ground.phase }, { on := 4, ground := Ground.phase }, { on := 5, ground := Ground.phase }, { on := 6, ground := Ground.phase }, { on := 7, ground := Ground.phase }, { on := 8, ground := Ground.phase }, { on := 9, ground := Ground.phase }, { on := 10, ground := Ground.phase }, { on := 11, ground := Ground.textOnly Departure.lateStores }, { on := 12, ground := Ground.textOnly Departure.lateStores }], guard := none }) rfl (fun KQ hK => ?_) AllReadyH.nil)
      go_simp
      refine hK.out _ _ ((FX.on hb2).on hb3) (fun hHeld => ?_)
      clear hK KQ
      try simp only [Act.put, List.setIfInBounds_toArray, List.set_cons_zero, List.set_cons_succ]
      refine wpAnyH_ready (rs := [14]) (by kernel_rfl) (by simp) (AllReadyH.cons (o := { dst := some 15, op := Op.assign (Operand.tmp 132), type := 3, pos := "outright.go:113", after := #[{ on := 11, ground := Ground.data }, { on := 13, ground := Ground.chain }, { on := 0, ground := Ground.phase }, { on := 1, ground := Ground.phase }, { on := 2, ground := Ground.phase }, { on := 3, ground := Ground.phase }, { on := 4, ground := Ground.phase }, { on := 5, ground := Ground.phase }, { on := 6, ground := Ground.phase }, { on := 7, ground := Ground.phase }, { on := 8, ground := Ground.phase }, { on := 9, ground := Ground.phase }, { on := 10, ground := Ground.phase }, { on := 11, ground := Ground.phase }, { on := 12, ground := Ground.textOnly Departure.lateStores }, { on := 13, ground := Ground.phase }], guard := none }) rfl (fun KQ hK => ?_) AllReadyH.nil)
      go_simp
      refine hK.out _ _ ((FX.on hb2).on hb3) (fun hHeld => ?_)
      clear hK KQ
      try simp only [Act.put, List.setIfInBounds_toArray, List.set_cons_zero, List.set_cons_succ]
      refine wpAnyH_ready (rs := [15]) (by kernel_rfl) (by simp) (AllReadyH.cons (o := { dst := some 16, op := Op.assign (Operand.tmp 133), type := 32, pos := "outright.go:113", after := #[{ on := 12, ground := Ground.data }, { on := 14, ground := Ground.chain }, { on := 0, ground := Ground.phase }, { on := 1, ground := Ground.phase }, { on := 2, ground := Ground.phase }, { on := 3, ground := Ground.phase }, { on := 4, ground := Ground.phase }, { on := 5, ground := Ground.phase }, { on := 6, ground := Ground.phase }, { on := 7, ground := Ground.phase }, { on := 8, ground := Ground.phase }, { on := 9, ground := Ground.phase }, { on := 10, ground := Ground.phase }, { on := 11, ground := Ground.phase }, { on := 12, ground := Ground.phase }, { on := 13, ground := Ground.phase }, { on := 14, ground := Ground.phase }], guard := none }) rfl (fun KQ hK => ?_) AllReadyH.nil)
      go_simp
      refine hK.out _ _ ((FX.on hb2).on hb3) (fun hHeld => ?_)
      clear hK KQ
      try simp only [Act.put, List.setIfInBounds_toArray, List.set_cons_zero, List.set_cons_succ]
      refine wpAnyH_done (by kernel_rfl) ?_ _
      have FW := (FX.on hb2).on hb3
      clear hcb
      obtain ⟨X2, g10, c10, hcb2, hbX2, hatX2⟩ := bytes_of w3 cm
      have FW2 := FW.on hbX2
      have HAT3 : Hid (AtB X2 (some ⟨g10, 0, none⟩) cm.data.toList) := hatX2
      have eAT : (AT == (L.length : Int) + 2 + (QC.size : Int)) = true := by rw [HAT2.out]; simp
      clear hatX2 hbX2 FW
      go_wp2_with fail
      refine (HQ.out _ _ _ HAT3.out).mono ?_
      rintro e w4 ⟨rfl, hb4⟩
      go_wp2_with fail
      go_ret
      exact ⟨rfl, (FW2.on hb4).below⟩
end Go.Proofs.YtbjinmlelchmgaaDoor
