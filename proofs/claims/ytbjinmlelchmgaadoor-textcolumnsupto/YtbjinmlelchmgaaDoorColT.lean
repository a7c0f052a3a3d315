/- TextColumns (4): the lines, the columns. -/
import Derived.Test.YtbjinmlelchmgaaDoorColT0
namespace Go.Proofs.YtbjinmlelchmgaaDoor
open Go.RowKit
set_option maxRecDepth 40000 in
set_option maxHeartbeats 8000000 in
theorem colT {z0 z1 z2 z6 z7 z8 z11 z12 z13 z14 z15 z16 z17 z18 z19 z20 z21 z22 z23 z24 z25 z26 z27 z28 z29 z30 z31 z32 z33 z34 z35 z36 z37 z38 z39 z40 z41 z42 z43 z44 z45 z46 z47 z48 z49 z50 z51 z52 z53 z54 z55 z56 z57 z58 z59 z60 z61 z62 z63 z64 z65 z66 z67 z68 z69 z70 z71 z72 z73 z74 z75 z76 z77 z78 z79 z80 z81 z82 z83 z84 z85 z86 z87 z88 z89 z90 z91 z92 z93 z94 z95 z96 z97 z98 z99 z100 z101 z102 z103 z104 z105 z106 z107 z108 z109 z110 z111 z112 z113 z114 z115 z116 z117 z118 z119 z120 z121 z122 z123 z124 z125 z126 z127 z128 z129 z130 z131 z132 z133 z134 z135 z136 z137 z138 z139 z140 z141 z142 z143 z144 z145 z146 z147 z148 z149 z150 z151 z152 z153 z154 z155 z156 z157 z158 z159 z160 z161 z162 z163 z164 z165 z166 z167 z168 z169 z170 z171 z172 z173 z174 z175 z176 z177 z178 z179 z180 z181 z182 z183 z184 z185 z186 z187 z188 z189 z190 z191 z192 z193 z194 z195 z196 z197 z198 z199 z200 z201 z202 z203 z204 z205 z206 z207 z208 z209 z210 z211 z212 z213 z214 z215 z216 z217 z218 z219 z220 z221 z222 z223 z224 z225 z226 z227 z228 z229 z230 z231 z232 z233 z234 z235 z236 z237 z238 z239 z240 z241 z242 z243 z244 z245 z246 : Value} (W w : World) (rows : List (List (List UInt8))) (ws : List Nat) (n N : Nat) (ao a4 a5 a9 : Option Addr) (c3 c4 c5 c9 : Nat) (R : RowsT w ao rows) (NM : Nums W w (.slice a4 N c4) (.slice a5 N c5) (List.replicate N 0) (List.replicate N 0)) (LN : HV W w 9 (.slice a9 n c9) (strs (rows.map (T.line ws)))) (hn : rows.length = n) (hn6 : n ≤ 10000000) (hN6 : N ≤ 10000000) (hfit : ∀ r ∈ rows, T.Fits ws r) (hNw : (T.widths rows).length = N) (hlen : ∀ r ∈ rows, r.length ≤ N) (h10 : ∀ i, ws.getD i 0 ≤ 10) (hat : ∀ q, q < N → ∃ r ∈ rows, q < r.length ∧ (r.getD q []).length = ws.getD q 0) :
    Code.wp Tryd.prog (sfx 7 (Tryd.f4.body.getD .skip)) (bodyPost Tryd.prog Tryd.f4 fun e W' => e = .returned (.bool true) ∧ Below W.heap.size W W') { tmps := #[z0, z1, z2, .slice ao n c3, .slice a4 N c4, .slice a5 N c5, z6, z7, z8, .slice a9 n c9, .bool true, z11, z12, z13, z14, z15, z16, z17, z18, z19, z20, z21, z22, z23, z24, z25, z26, z27, z28, z29, z30, z31, z32, z33, z34, z35, z36, z37, z38, z39, z40, z41, z42, z43, z44, z45, z46, z47, z48, z49, z50, z51, z52, z53, z54, z55, z56, z57, z58, z59, z60, z61, z62, z63, z64, z65, z66, z67, z68, z69, z70, z71, z72, z73, z74, z75, z76, z77, z78, z79, z80, z81, z82, z83, z84, z85, z86, z87, z88, z89, z90, z91, z92, z93, z94, z95, z96, z97, z98, z99, z100, z101, z102, z103, z104, z105, z106, z107, z108, z109, z110, z111, z112, z113, z114, z115, z116, z117, z118, z119, z120, z121, z122, z123, z124, z125, z126, z127, z128, z129, z130, z131, z132, z133, z134, z135, z136, z137, z138, z139, z140, z141, z142, z143, z144, z145, z146, z147, z148, z149, z150, z151, z152, z153, z154, z155, z156, z157, z158, z159, z160, z161, z162, z163, z164, z165, z166, z167, z168, z169, z170, z171, z172, z173, z174, z175, z176, z177, z178, z179, z180, z181, z182, z183, z184, z185, z186, z187, z188, z189, z190, z191, z192, z193, z194, z195, z196, z197, z198, z199, z200, z201, z202, z203, z204, z205, z206, z207, z208, z209, z210, z211, z212, z213, z214, z215, z216, z217, z218, z219, z220, z221, z222, z223, z224, z225, z226, z227, z228, z229, z230, z231, z232, z233, z234, z235, z236, z237, z238, z239, z240, z241, z242, z243, z244, z245, z246], defers := [] } w := by
  have b1 : (n : Int) ≤ 10000000 := by omega
  have b2 : (N : Int) ≤ 10000000 := by omega
  have HLN : Hid (rows.length = n) := hn
  have HFT : Hid (∀ r ∈ rows, T.Fits ws r) := hfit
  have HLE : Hid (∀ r ∈ rows, r.length ≤ N) := hlen
  have HNW : Hid ((T.widths rows).length = N) := hNw
  have H10 : Hid (∀ i, ws.getD i 0 ≤ 10) := h10
  have HAT : Hid (∀ q, q < N → ∃ r ∈ rows, q < r.length ∧ (r.getD q []).length = ws.getD q 0) := hat
  clear hn hfit hlen h10 hat hNw
  refine sfx_walk 7 rfl (by simp only [sfx]; rfl) ?_
  go_wp2_with fail
  go_loopw [11, 12, 13, 14, 15] (fun i _ _ _ _ wr => ∃ k : Nat, k ≤ n ∧ i = .int .i64 k ∧ RowsT wr ao rows ∧ HV W wr 9 (.slice a9 n c9) (strs (rows.map (T.line ws))) ∧ Nums W wr (.slice a4 N c4) (.slice a5 N c5) (T.bsOf ws N (T.widths (rows.take k)).length) (List.replicate N 0)) (fun i _ _ _ _ _ => n - (intOf i).toNat)
  case atStart => exact ⟨0, Nat.zero_le _, rfl, R, LN, by rw [List.take_zero, show (T.widths []).length = 0 from rfl, T.bsOf_zero]; exact NM⟩
  case round =>
    clear R LN NM
    obtain ⟨k, hk, rfl, R, LN, NM⟩ := hrel
    by_cases hlt : k < n
    · have c1 : (k : Int) < (n : Int) := by omega
      have hkl : k < rows.length := by rw [HLN.out]; exact hlt
      have hft := HFT.out rows[k] (List.getElem_mem _)
      have hlm := HLE.out rows[k] (List.getElem_mem _)
      obtain ⟨g9, d9, hv9, hW9, hl9⟩ := LN.formN (n := n) (by rw [strs_length, List.length_map, HLN.out]) (by omega)
      injection hv9 with e1 e2 e3
      subst e1 e3
      have hc9 := LN.cell k _ (strs_get _ k (by rw [List.length_map]; exact hkl))
      rw [List.getElem_map] at hc9
      obtain ⟨g3, ai, ci, rfl, hc3, hst⟩ := R.cell k hkl
      have HM : Hid ((T.widths (rows.take (k + 1))).length = max (T.widths (rows.take k)).length rows[k].length) := hid (by rw [List.take_succ_eq_append_getElem hkl, T.widths_snoc, T.mrg_length])
      have hll := T.line_le hft H10.out
      have hrd := T.rd_line hft
      have HLAST : Hid (0 < rows[k].length → 0 < (T.line ws rows[k]).length ∧ ((T.line ws rows[k]).getD ((T.line ws rows[k]).length - 1) 0).toNat ≠ 32) := hid (fun h => T.line_last hft h)
      have HNONE : Hid (rows[k].length = 0 → T.line ws rows[k] = []) := hid (fun h => T.line_none h)
      generalize hrow : rows[k] = row at *
      obtain ⟨m, hm⟩ : ∃ m, row.length = m := ⟨_, rfl⟩
      rw [hm] at hc3 hlm hll hrd HLAST HNONE HM
      have HWD : Hid (∀ w, Calls Tryd.prog 9 #[.string ⟨(T.line ws row).toArray⟩] w fun e w' => ∃ v, e = .returned (.tuple #[v, .int .i64 0, .int .i64 0]) ∧ HW w w' v (T.wordsR ws row m)) := hid (fun w => by
        have := words_any w ⟨(T.line ws row).toArray⟩ (by rw [arr_size]; omega)
        rw [show (⟨(T.line ws row).toArray⟩ : ByteArray).data.toList = T.line ws row from rfl, hrd] at this
        exact this)
      go_wp2_with fail
      refine (HWD.out _).mono ?_
      rintro e w1 ⟨v12, rfl, G⟩
      have R1 := R.on G.below
      have LN1 := LN.on G.below
      have NM1 := NM.on G.below
      have G1 := G.wide NM.b.below
      obtain ⟨a12, c12, rfl⟩ := own_form G1.own
      rw [T.wordsR_length] at G1
      rw [T.wordsR_length]
      obtain ⟨g3', ai1, ci1, he3, hc3', hst1⟩ := R1.cell k hkl
      injection he3 with he3
      injection he3 with he3
      subst he3
      have hc9' := LN1.cell k _ (strs_get _ k (by rw [List.length_map]; exact hkl))
      rw [List.getElem_map] at hc9'
      rw [hrow] at hc9' hc3' hst1
      rw [hm] at hc3'
      obtain ⟨s9, hs9⟩ : ∃ s9 : ByteArray, s9 = ⟨(T.line ws row).toArray⟩ := ⟨_, rfl⟩
      obtain ⟨L, hL⟩ : ∃ L, (T.line ws row).length = L := ⟨_, rfl⟩
      have hsz : s9.size = L := by rw [hs9, arr_size, hL]
      rw [← hs9] at hc9' ⊢
      have HROW : Hid (rows[k] = row) := hrow
      have HRM : Hid (row.length = m) := hm
      have b3 : (m : Int) ≤ (N : Int) := by omega
      have b4 : (L : Int) ≤ 120000000 := by omega
      have HMM : Hid (m ≤ N) := hlm
      clear G NM LN R hc3 hc9 hst hrow hm hll hrd hft hl9 e2 hlm HWD
      by_cases hm0 : m = 0
      · have hL0 : L = 0 := by rw [← hL, HNONE.out hm0]; rfl
        subst hm0 hL0
        clear hs9 hL HLAST HNONE hst1
        go_wp2_with fail
        refine wp_region_held_drew (S := fun w => w.cell? ⟨g3, k, none⟩ = some (.slice ai1 0 ci1) ∧ w.cell? ⟨g9, k, none⟩ = some (.string s9)) (by kernel_rfl) ⟨hc3', hc9'⟩ (fun hHeld => ?_)
        refine wpAnyH_take (i := 0) (oi := { dst := some 91, op := Op.move (Operand.tmp 14), type := 32, pos := "outright.go:155", after := #[], guard := none }) (v := .int .i64 0) rfl (by kernel_rfl) (by kernel_rfl) (by kernel_rfl) (fun _ _ _ h => h) (Or.inl ⟨by rfl, by intro w hSw; go_simp⟩) (by assumption) ?_
        simp only [Act.put, List.setIfInBounds_toArray, List.set_cons_zero, List.set_cons_succ]
        refine wpAnyH_take (i := 1) (oi := { dst := some 92, op := Op.binOp BinOp.neq 3 (Operand.tmp 91) (Operand.const (Value.int IntKind.i64 0)) 3, type := 4, pos := "outright.go:155", after := #[{ on := 0, ground := Ground.data }], guard := none }) (v := .bool false) rfl (by kernel_rfl) (by kernel_rfl) (by kernel_rfl) (fun _ _ _ h => h) (Or.inl ⟨by rfl, by intro w hSw; go_simp⟩) (by assumption) ?_
        simp only [Act.put, List.setIfInBounds_toArray, List.set_cons_zero, List.set_cons_succ]
        refine wpAnyH_take (i := 2) (oi := { dst := some 93, op := Op.move (Operand.tmp 92), type := 4, pos := "outright.go:155", after := #[{ on := 1, ground := Ground.data }], guard := none }) (v := .bool false) rfl (by kernel_rfl) (by kernel_rfl) (by kernel_rfl) (fun _ _ _ h => h) (Or.inl ⟨by rfl, by intro w hSw; go_simp⟩) (by assumption) ?_
        simp only [Act.put, List.setIfInBounds_toArray, List.set_cons_zero, List.set_cons_succ]
        refine wpAnyH_take (i := 3) (oi := { dst := some 94, op := Op.move (Operand.tmp 12), type := 25, pos := "outright.go:155", after := #[{ on := 2, ground := Ground.guard }], guard := some (2, false) }) (v := .slice a12 0 c12) rfl (by kernel_rfl) (by kernel_rfl) (by kernel_rfl) (fun _ _ _ h => h) (Or.inl ⟨by rfl, by intro w hSw; go_simp⟩) (by assumption) ?_
        simp only [Act.put, List.setIfInBounds_toArray, List.set_cons_zero, List.set_cons_succ]
        refine wpAnyH_take (i := 4) (oi := { dst := some 95, op := Op.call { callee := Callee.builtin Builtin.len, args := #[Operand.tmp 94], argTypes := #[25] }, type := 3, pos := "outright.go:155", after := #[{ on := 3, ground := Ground.data }, { on := 2, ground := Ground.guard }], guard := some (2, false) }) (v := .int .i64 0) rfl (by kernel_rfl) (by kernel_rfl) (by kernel_rfl) (fun _ _ _ h => h) (Or.inl ⟨by rfl, by intro w hSw; go_simp⟩) (by assumption) ?_
        simp only [Act.put, List.setIfInBounds_toArray, List.set_cons_zero, List.set_cons_succ]
        refine wpAnyH_take (i := 5) (oi := { dst := some 96, op := Op.move (Operand.tmp 3), type := 37, pos := "outright.go:155", after := #[{ on := 2, ground := Ground.guard }], guard := some (2, false) }) (v := .slice (some ⟨g3, 0, none⟩) n c3) rfl (by kernel_rfl) (by kernel_rfl) (by kernel_rfl) (fun _ _ _ h => h) (Or.inl ⟨by rfl, by intro w hSw; go_simp⟩) (by assumption) ?_
        simp only [Act.put, List.setIfInBounds_toArray, List.set_cons_zero, List.set_cons_succ]
        refine wpAnyH_take (i := 6) (oi := { dst := some 97, op := Op.move (Operand.tmp 11), type := 3, pos := "outright.go:155", after := #[{ on := 2, ground := Ground.guard }], guard := some (2, false) }) (v := .int .i64 (k : Int)) rfl (by kernel_rfl) (by kernel_rfl) (by kernel_rfl) (fun _ _ _ h => h) (Or.inl ⟨by rfl, by intro w hSw; go_simp⟩) (by assumption) ?_
        simp only [Act.put, List.setIfInBounds_toArray, List.set_cons_zero, List.set_cons_succ]
        refine wpAnyH_take (i := 7) (oi := { dst := some 98, op := Op.indexAddr 37 (Operand.tmp 96) (Operand.tmp 97), type := 0, pos := "outright.go:155", after := #[{ on := 5, ground := Ground.data }, { on := 6, ground := Ground.data }, { on := 2, ground := Ground.guard }], guard := some (2, false) }) (v := .pointer (some ⟨g3, k, none⟩)) rfl (by kernel_rfl) (by kernel_rfl) (by kernel_rfl) (fun _ _ _ h => h) (Or.inl ⟨by rfl, by intro w hSw; go_simp⟩) (by assumption) ?_
        simp only [Act.put, List.setIfInBounds_toArray, List.set_cons_zero, List.set_cons_succ]
        refine wpAnyH_take (i := 8) (oi := { dst := some 99, op := Op.load 39 (Operand.tmp 98), type := 39, pos := "outright.go:155", after := #[{ on := 7, ground := Ground.data }, { on := 2, ground := Ground.guard }], guard := some (2, false) }) (v := .slice ai1 0 ci1) rfl (by kernel_rfl) (by kernel_rfl) (by kernel_rfl) (fun _ _ _ h => h) (Or.inl ⟨by rfl, by intro w hSw; have hS0 := hSw.1; go_simp⟩) (by assumption) ?_
        simp only [Act.put, List.setIfInBounds_toArray, List.set_cons_zero, List.set_cons_succ]
        refine wpAnyH_take (i := 9) (oi := { dst := some 100, op := Op.call { callee := Callee.builtin Builtin.len, args := #[Operand.tmp 99], argTypes := #[39] }, type := 3, pos := "outright.go:155", after := #[{ on := 8, ground := Ground.data }, { on := 2, ground := Ground.guard }], guard := some (2, false) }) (v := .int .i64 0) rfl (by kernel_rfl) (by kernel_rfl) (by kernel_rfl) (fun _ _ _ h => h) (Or.inl ⟨by rfl, by intro w hSw; go_simp⟩) (by assumption) ?_
        simp only [Act.put, List.setIfInBounds_toArray, List.set_cons_zero, List.set_cons_succ]
        refine wpAnyH_take (i := 10) (oi := { dst := some 101, op := Op.binOp BinOp.neq 3 (Operand.tmp 95) (Operand.tmp 100) 3, type := 4, pos := "outright.go:155", after := #[{ on := 4, ground := Ground.data }, { on := 9, ground := Ground.data }, { on := 2, ground := Ground.guard }], guard := some (2, false) }) (v := .bool false) rfl (by kernel_rfl) (by kernel_rfl) (by kernel_rfl) (fun _ _ _ h => h) (Or.inl ⟨by rfl, by intro w hSw; go_simp⟩) (by assumption) ?_
        simp only [Act.put, List.setIfInBounds_toArray, List.set_cons_zero, List.set_cons_succ]
        refine wpAnyH_take (i := 11) (oi := { dst := some 102, op := Op.pick (Operand.tmp 93) (Operand.const (Value.bool true)) (Operand.tmp 101), type := 4, pos := "outright.go:155", after := #[{ on := 2, ground := Ground.data }, { on := 10, ground := Ground.data }], guard := none }) (v := .bool false) rfl (by kernel_rfl) (by kernel_rfl) (by kernel_rfl) (fun _ _ _ h => h) (Or.inl ⟨by rfl, by intro w hSw; go_simp⟩) (by assumption) ?_
        simp only [Act.put, List.setIfInBounds_toArray, List.set_cons_zero, List.set_cons_succ]
        refine wpAnyH_take (i := 12) (oi := { dst := some 103, op := Op.move (Operand.tmp 102), type := 4, pos := "outright.go:155", after := #[{ on := 11, ground := Ground.data }, { on := 2, ground := Ground.chain }], guard := none }) (v := .bool false) rfl (by kernel_rfl) (by kernel_rfl) (by kernel_rfl) (fun _ _ _ h => h) (Or.inl ⟨by rfl, by intro w hSw; go_simp⟩) (by assumption) ?_
        simp only [Act.put, List.setIfInBounds_toArray, List.set_cons_zero, List.set_cons_succ]
        refine wpAnyH_take (i := 13) (oi := { dst := some 104, op := Op.move (Operand.tmp 9), type := 39, pos := "outright.go:155", after := #[{ on := 12, ground := Ground.guard }], guard := some (12, false) }) (v := .slice (some ⟨g9, 0, none⟩) n c9) rfl (by kernel_rfl) (by kernel_rfl) (by kernel_rfl) (fun _ _ _ h => h) (Or.inl ⟨by rfl, by intro w hSw; go_simp⟩) (by assumption) ?_
        simp only [Act.put, List.setIfInBounds_toArray, List.set_cons_zero, List.set_cons_succ]
        refine wpAnyH_take (i := 14) (oi := { dst := some 105, op := Op.move (Operand.tmp 11), type := 3, pos := "outright.go:155", after := #[{ on := 12, ground := Ground.guard }], guard := some (12, false) }) (v := .int .i64 (k : Int)) rfl (by kernel_rfl) (by kernel_rfl) (by kernel_rfl) (fun _ _ _ h => h) (Or.inl ⟨by rfl, by intro w hSw; go_simp⟩) (by assumption) ?_
        simp only [Act.put, List.setIfInBounds_toArray, List.set_cons_zero, List.set_cons_succ]
        refine wpAnyH_take (i := 15) (oi := { dst := some 106, op := Op.indexAddr 39 (Operand.tmp 104) (Operand.tmp 105), type := 0, pos := "outright.go:155", after := #[{ on := 13, ground := Ground.data }, { on := 14, ground := Ground.data }, { on := 12, ground := Ground.guard }], guard := some (12, false) }) (v := .pointer (some ⟨g9, k, none⟩)) rfl (by kernel_rfl) (by kernel_rfl) (by kernel_rfl) (fun _ _ _ h => h) (Or.inl ⟨by rfl, by intro w hSw; go_simp⟩) (by assumption) ?_
        simp only [Act.put, List.setIfInBounds_toArray, List.set_cons_zero, List.set_cons_succ]
        refine wpAnyH_take (i := 16) (oi := { dst := some 107, op := Op.load 9 (Operand.tmp 106), type := 9, pos := "outright.go:155", after := #[{ on := 15, ground := Ground.data }, { on := 12, ground := Ground.guard }], guard := some (12, false) }) (v := .string s9) rfl (by kernel_rfl) (by kernel_rfl) (by kernel_rfl) (fun _ _ _ h => h) (Or.inl ⟨by rfl, by intro w hSw; have hS0 := hSw.2; go_simp⟩) (by assumption) ?_
        simp only [Act.put, List.setIfInBounds_toArray, List.set_cons_zero, List.set_cons_succ]
        refine wpAnyH_take (i := 17) (oi := { dst := some 108, op := Op.call { callee := Callee.builtin Builtin.len, args := #[Operand.tmp 107], argTypes := #[9] }, type := 3, pos := "outright.go:155", after := #[{ on := 16, ground := Ground.data }, { on := 12, ground := Ground.guard }], guard := some (12, false) }) (v := .int .i64 0) rfl (by kernel_rfl) (by kernel_rfl) (by kernel_rfl) (fun _ _ _ h => h) (Or.inl ⟨by rfl, by intro w hSw; go_simp⟩) (by assumption) ?_
        simp only [Act.put, List.setIfInBounds_toArray, List.set_cons_zero, List.set_cons_succ]
        refine wpAnyH_take (i := 18) (oi := { dst := some 109, op := Op.binOp BinOp.gtr 3 (Operand.tmp 108) (Operand.const (Value.int IntKind.i64 0)) 3, type := 4, pos := "outright.go:155", after := #[{ on := 17, ground := Ground.data }, { on := 12, ground := Ground.guard }], guard := some (12, false) }) (v := .bool false) rfl (by kernel_rfl) (by kernel_rfl) (by kernel_rfl) (fun _ _ _ h => h) (Or.inl ⟨by rfl, by intro w hSw; go_simp⟩) (by assumption) ?_
        simp only [Act.put, List.setIfInBounds_toArray, List.set_cons_zero, List.set_cons_succ]
        refine wpAnyH_take (i := 19) (oi := { dst := some 110, op := Op.move (Operand.tmp 109), type := 4, pos := "outright.go:155", after := #[{ on := 18, ground := Ground.data }, { on := 12, ground := Ground.chain }, { on := 12, ground := Ground.guard }], guard := some (12, false) }) (v := .bool false) rfl (by kernel_rfl) (by kernel_rfl) (by kernel_rfl) (fun _ _ _ h => h) (Or.inl ⟨by rfl, by intro w hSw; go_simp⟩) (by assumption) ?_
        simp only [Act.put, List.setIfInBounds_toArray, List.set_cons_zero, List.set_cons_succ]
        refine wpAnyH_take (i := 20) (oi := { dst := some 111, op := Op.move (Operand.tmp 9), type := 39, pos := "outright.go:155", after := #[{ on := 19, ground := Ground.guard }], guard := some (19, true) }) (v := undef) rfl (by kernel_rfl) (by kernel_rfl) (by kernel_rfl) (fun _ _ _ h => h) (Or.inr ⟨by rfl, rfl⟩) (by assumption) ?_
        simp only [Act.put, List.setIfInBounds_toArray, List.set_cons_zero, List.set_cons_succ]
        refine wpAnyH_take (i := 21) (oi := { dst := some 112, op := Op.move (Operand.tmp 11), type := 3, pos := "outright.go:155", after := #[{ on := 19, ground := Ground.guard }], guard := some (19, true) }) (v := undef) rfl (by kernel_rfl) (by kernel_rfl) (by kernel_rfl) (fun _ _ _ h => h) (Or.inr ⟨by rfl, rfl⟩) (by assumption) ?_
        simp only [Act.put, List.setIfInBounds_toArray, List.set_cons_zero, List.set_cons_succ]
        refine wpAnyH_take (i := 22) (oi := { dst := some 113, op := Op.indexAddr 39 (Operand.tmp 111) (Operand.tmp 112), type := 0, pos := "outright.go:155", after := #[{ on := 20, ground := Ground.data }, { on := 21, ground := Ground.data }, { on := 19, ground := Ground.guard }], guard := some (19, true) }) (v := undef) rfl (by kernel_rfl) (by kernel_rfl) (by kernel_rfl) (fun _ _ _ h => h) (Or.inr ⟨by rfl, rfl⟩) (by assumption) ?_
        simp only [Act.put, List.setIfInBounds_toArray, List.set_cons_zero, List.set_cons_succ]
        refine wpAnyH_take (i := 23) (oi := { dst := some 114, op := Op.load 9 (Operand.tmp 113), type := 9, pos := "outright.go:155", after := #[{ on := 22, ground := Ground.data }, { on := 19, ground := Ground.guard }], guard := some (19, true) }) (v := undef) rfl (by kernel_rfl) (by kernel_rfl) (by kernel_rfl) (fun _ _ _ h => h) (Or.inr ⟨by rfl, rfl⟩) (by assumption) ?_
        simp only [Act.put, List.setIfInBounds_toArray, List.set_cons_zero, List.set_cons_succ]
        refine wpAnyH_take (i := 24) (oi := { dst := some 115, op := Op.move (Operand.tmp 9), type := 39, pos := "outright.go:155", after := #[{ on := 19, ground := Ground.guard }], guard := some (19, true) }) (v := undef) rfl (by kernel_rfl) (by kernel_rfl) (by kernel_rfl) (fun _ _ _ h => h) (Or.inr ⟨by rfl, rfl⟩) (by assumption) ?_
        simp only [Act.put, List.setIfInBounds_toArray, List.set_cons_zero, List.set_cons_succ]
        refine wpAnyH_take (i := 25) (oi := { dst := some 116, op := Op.move (Operand.tmp 11), type := 3, pos := "outright.go:155", after := #[{ on := 19, ground := Ground.guard }], guard := some (19, true) }) (v := undef) rfl (by kernel_rfl) (by kernel_rfl) (by kernel_rfl) (fun _ _ _ h => h) (Or.inr ⟨by rfl, rfl⟩) (by assumption) ?_
        simp only [Act.put, List.setIfInBounds_toArray, List.set_cons_zero, List.set_cons_succ]
        refine wpAnyH_take (i := 26) (oi := { dst := some 117, op := Op.indexAddr 39 (Operand.tmp 115) (Operand.tmp 116), type := 0, pos := "outright.go:155", after := #[{ on := 24, ground := Ground.data }, { on := 25, ground := Ground.data }, { on := 19, ground := Ground.guard }], guard := some (19, true) }) (v := undef) rfl (by kernel_rfl) (by kernel_rfl) (by kernel_rfl) (fun _ _ _ h => h) (Or.inr ⟨by rfl, rfl⟩) (by assumption) ?_
        simp only [Act.put, List.setIfInBounds_toArray, List.set_cons_zero, List.set_cons_succ]
        refine wpAnyH_take (i := 27) (oi := { dst := some 118, op := Op.load 9 (Operand.tmp 117), type := 9, pos := "outright.go:155", after := #[{ on := 26, ground := Ground.data }, { on := 19, ground := Ground.guard }], guard := some (19, true) }) (v := undef) rfl (by kernel_rfl) (by kernel_rfl) (by kernel_rfl) (fun _ _ _ h => h) (Or.inr ⟨by rfl, rfl⟩) (by assumption) ?_
        simp only [Act.put, List.setIfInBounds_toArray, List.set_cons_zero, List.set_cons_succ]
        refine wpAnyH_take (i := 28) (oi := { dst := some 119, op := Op.call { callee := Callee.builtin Builtin.len, args := #[Operand.tmp 118], argTypes := #[9] }, type := 3, pos := "outright.go:155", after := #[{ on := 27, ground := Ground.data }, { on := 19, ground := Ground.guard }], guard := some (19, true) }) (v := undef) rfl (by kernel_rfl) (by kernel_rfl) (by kernel_rfl) (fun _ _ _ h => h) (Or.inr ⟨by rfl, rfl⟩) (by assumption) ?_
        simp only [Act.put, List.setIfInBounds_toArray, List.set_cons_zero, List.set_cons_succ]
        refine wpAnyH_take (i := 29) (oi := { dst := some 120, op := Op.binOp BinOp.sub 3 (Operand.tmp 119) (Operand.const (Value.int IntKind.i64 1)) 3, type := 3, pos := "outright.go:155", after := #[{ on := 28, ground := Ground.data }, { on := 19, ground := Ground.guard }], guard := some (19, true) }) (v := undef) rfl (by kernel_rfl) (by kernel_rfl) (by kernel_rfl) (fun _ _ _ h => h) (Or.inr ⟨by rfl, rfl⟩) (by assumption) ?_
        simp only [Act.put, List.setIfInBounds_toArray, List.set_cons_zero, List.set_cons_succ]
        refine wpAnyH_take (i := 30) (oi := { dst := some 121, op := Op.index 9 (Operand.tmp 114) (Operand.tmp 120), type := 5, pos := "outright.go:155", after := #[{ on := 23, ground := Ground.data }, { on := 29, ground := Ground.data }, { on := 19, ground := Ground.guard }], guard := some (19, true) }) (v := undef) rfl (by kernel_rfl) (by kernel_rfl) (by kernel_rfl) (fun _ _ _ h => h) (Or.inr ⟨by rfl, rfl⟩) (by assumption) ?_
        simp only [Act.put, List.setIfInBounds_toArray, List.set_cons_zero, List.set_cons_succ]
        refine wpAnyH_take (i := 31) (oi := { dst := some 122, op := Op.binOp BinOp.eql 5 (Operand.tmp 121) (Operand.const (Value.int IntKind.u8 32)) 5, type := 4, pos := "outright.go:155", after := #[{ on := 30, ground := Ground.data }, { on := 19, ground := Ground.guard }], guard := some (19, true) }) (v := undef) rfl (by kernel_rfl) (by kernel_rfl) (by kernel_rfl) (fun _ _ _ h => h) (Or.inr ⟨by rfl, rfl⟩) (by assumption) ?_
        simp only [Act.put, List.setIfInBounds_toArray, List.set_cons_zero, List.set_cons_succ]
        refine wpAnyH_take (i := 32) (oi := { dst := some 123, op := Op.pick (Operand.tmp 110) (Operand.tmp 122) (Operand.const (Value.bool false)), type := 4, pos := "outright.go:155", after := #[{ on := 19, ground := Ground.data }, { on := 31, ground := Ground.data }, { on := 12, ground := Ground.guard }], guard := some (12, false) }) (v := .bool false) rfl (by kernel_rfl) (by kernel_rfl) (by kernel_rfl) (fun _ _ _ h => h) (Or.inl ⟨by rfl, by intro w hSw; go_simp⟩) (by assumption) ?_
        simp only [Act.put, List.setIfInBounds_toArray, List.set_cons_zero, List.set_cons_succ]
        refine wpAnyH_take (i := 33) (oi := { dst := some 124, op := Op.pick (Operand.tmp 103) (Operand.const (Value.bool true)) (Operand.tmp 123), type := 4, pos := "outright.go:155", after := #[{ on := 12, ground := Ground.data }, { on := 32, ground := Ground.data }], guard := none }) (v := .bool false) rfl (by kernel_rfl) (by kernel_rfl) (by kernel_rfl) (fun _ _ _ h => h) (Or.inl ⟨by rfl, by intro w hSw; go_simp⟩) (by assumption) ?_
        simp only [Act.put, List.setIfInBounds_toArray, List.set_cons_zero, List.set_cons_succ]
        refine wpAnyH_done (by kernel_rfl) ?_ _
        go_wp2_with fail
        go_loopw [15] (fun j wx => j = .int .i64 0 ∧ wx = w1.drew) (fun _ _ => 0)
        case atStart => exact ⟨rfl, rfl⟩
        case round =>
          obtain ⟨rfl, rfl⟩ := hrel
          go_wp2_with fail
          exact ⟨⟨k + 1, by omega, by go_num, R1.on ((Below.refl _ _).drew), LN1.drew, by rw [HM.out, Nat.max_zero]; exact NM1.on ((Below.refl _ _).drew)⟩, by simp [intOf]; omega⟩
      · have hlast := HLAST.out (by omega)
        rw [hL] at hlast
        have hgl : ∀ h, (s9[((L : Int) - 1).toNat]'h) = (T.line ws row).getD (L - 1) 0 := by
          intro h
          rw [List.getD_eq_getElem?_getD, List.getElem?_eq_getElem (by omega)]
          subst hs9
          simp [ByteArray.getElem_eq_getElem_data]
        have hne : ((((T.line ws row).getD (L - 1) 0).toNat : Int) == 32) = false := by simp only [beq_eq_false_iff_ne, ne_eq]; omega
        have b5 : (0 : Int) < (L : Int) := by omega
        generalize (T.line ws row).getD (L - 1) 0 = y at *
        have HLP : Hid (0 < L) := hid (by omega)
        have HWR : Hid (IntKind.i64.wrap ((L : Int) - 1) = (L : Int) - 1) := hid (by rw [IntKind.wrap_i64]; omega)
        have HB1 : Hid ((1 : Int) ≤ (L : Int) ∧ (L : Int) - 1 < (L : Int)) := hid (by omega)
        have HG1 : Hid (∀ h, (s9[L - 1]'h) = y) := hid (fun h => by
          have e : ((L : Int) - 1).toNat = L - 1 := by omega
          have := hgl (by rw [e]; exact h)
          simp only [e] at this
          exact this)
        clear hs9 hL HLAST HNONE hlast hgl
        go_wp2_with fail
        refine wp_region_held_drew (S := fun w => w.cell? ⟨g3, k, none⟩ = some (.slice ai1 m ci1) ∧ w.cell? ⟨g9, k, none⟩ = some (.string s9)) (by kernel_rfl) ⟨hc3', hc9'⟩ (fun hHeld => ?_)
        refine wpAnyH_take (i := 0) (oi := { dst := some 91, op := Op.move (Operand.tmp 14), type := 32, pos := "outright.go:155", after := #[], guard := none }) (v := .int .i64 0) rfl (by kernel_rfl) (by kernel_rfl) (by kernel_rfl) (fun _ _ _ h => h) (Or.inl ⟨by rfl, by intro w hSw; go_simp⟩) (by assumption) ?_
        simp only [Act.put, List.setIfInBounds_toArray, List.set_cons_zero, List.set_cons_succ]
        refine wpAnyH_take (i := 1) (oi := { dst := some 92, op := Op.binOp BinOp.neq 3 (Operand.tmp 91) (Operand.const (Value.int IntKind.i64 0)) 3, type := 4, pos := "outright.go:155", after := #[{ on := 0, ground := Ground.data }], guard := none }) (v := .bool false) rfl (by kernel_rfl) (by kernel_rfl) (by kernel_rfl) (fun _ _ _ h => h) (Or.inl ⟨by rfl, by intro w hSw; go_simp⟩) (by assumption) ?_
        simp only [Act.put, List.setIfInBounds_toArray, List.set_cons_zero, List.set_cons_succ]
        refine wpAnyH_take (i := 2) (oi := { dst := some 93, op := Op.move (Operand.tmp 92), type := 4, pos := "outright.go:155", after := #[{ on := 1, ground := Ground.data }], guard := none }) (v := .bool false) rfl (by kernel_rfl) (by kernel_rfl) (by kernel_rfl) (fun _ _ _ h => h) (Or.inl ⟨by rfl, by intro w hSw; go_simp⟩) (by assumption) ?_
        simp only [Act.put, List.setIfInBounds_toArray, List.set_cons_zero, List.set_cons_succ]
        refine wpAnyH_take (i := 3) (oi := { dst := some 94, op := Op.move (Operand.tmp 12), type := 25, pos := "outright.go:155", after := #[{ on := 2, ground := Ground.guard }], guard := some (2, false) }) (v := .slice a12 m c12) rfl (by kernel_rfl) (by kernel_rfl) (by kernel_rfl) (fun _ _ _ h => h) (Or.inl ⟨by rfl, by intro w hSw; go_simp⟩) (by assumption) ?_
        simp only [Act.put, List.setIfInBounds_toArray, List.set_cons_zero, List.set_cons_succ]
        refine wpAnyH_take (i := 4) (oi := { dst := some 95, op := Op.call { callee := Callee.builtin Builtin.len, args := #[Operand.tmp 94], argTypes := #[25] }, type := 3, pos := "outright.go:155", after := #[{ on := 3, ground := Ground.data }, { on := 2, ground := Ground.guard }], guard := some (2, false) }) (v := .int .i64 (m : Int)) rfl (by kernel_rfl) (by kernel_rfl) (by kernel_rfl) (fun _ _ _ h => h) (Or.inl ⟨by rfl, by intro w hSw; go_simp⟩) (by assumption) ?_
        simp only [Act.put, List.setIfInBounds_toArray, List.set_cons_zero, List.set_cons_succ]
        refine wpAnyH_take (i := 5) (oi := { dst := some 96, op := Op.move (Operand.tmp 3), type := 37, pos := "outright.go:155", after := #[{ on := 2, ground := Ground.guard }], guard := some (2, false) }) (v := .slice (some ⟨g3, 0, none⟩) n c3) rfl (by kernel_rfl) (by kernel_rfl) (by kernel_rfl) (fun _ _ _ h => h) (Or.inl ⟨by rfl, by intro w hSw; go_simp⟩) (by assumption) ?_
        simp only [Act.put, List.setIfInBounds_toArray, List.set_cons_zero, List.set_cons_succ]
        refine wpAnyH_take (i := 6) (oi := { dst := some 97, op := Op.move (Operand.tmp 11), type := 3, pos := "outright.go:155", after := #[{ on := 2, ground := Ground.guard }], guard := some (2, false) }) (v := .int .i64 (k : Int)) rfl (by kernel_rfl) (by kernel_rfl) (by kernel_rfl) (fun _ _ _ h => h) (Or.inl ⟨by rfl, by intro w hSw; go_simp⟩) (by assumption) ?_
        simp only [Act.put, List.setIfInBounds_toArray, List.set_cons_zero, List.set_cons_succ]
        refine wpAnyH_take (i := 7) (oi := { dst := some 98, op := Op.indexAddr 37 (Operand.tmp 96) (Operand.tmp 97), type := 0, pos := "outright.go:155", after := #[{ on := 5, ground := Ground.data }, { on := 6, ground := Ground.data }, { on := 2, ground := Ground.guard }], guard := some (2, false) }) (v := .pointer (some ⟨g3, k, none⟩)) rfl (by kernel_rfl) (by kernel_rfl) (by kernel_rfl) (fun _ _ _ h => h) (Or.inl ⟨by rfl, by intro w hSw; go_simp⟩) (by assumption) ?_
        simp only [Act.put, List.setIfInBounds_toArray, List.set_cons_zero, List.set_cons_succ]
        refine wpAnyH_take (i := 8) (oi := { dst := some 99, op := Op.load 39 (Operand.tmp 98), type := 39, pos := "outright.go:155", after := #[{ on := 7, ground := Ground.data }, { on := 2, ground := Ground.guard }], guard := some (2, false) }) (v := .slice ai1 m ci1) rfl (by kernel_rfl) (by kernel_rfl) (by kernel_rfl) (fun _ _ _ h => h) (Or.inl ⟨by rfl, by intro w hSw; have hS0 := hSw.1; go_simp⟩) (by assumption) ?_
        simp only [Act.put, List.setIfInBounds_toArray, List.set_cons_zero, List.set_cons_succ]
        refine wpAnyH_take (i := 9) (oi := { dst := some 100, op := Op.call { callee := Callee.builtin Builtin.len, args := #[Operand.tmp 99], argTypes := #[39] }, type := 3, pos := "outright.go:155", after := #[{ on := 8, ground := Ground.data }, { on := 2, ground := Ground.guard }], guard := some (2, false) }) (v := .int .i64 (m : Int)) rfl (by kernel_rfl) (by kernel_rfl) (by kernel_rfl) (fun _ _ _ h => h) (Or.inl ⟨by rfl, by intro w hSw; go_simp⟩) (by assumption) ?_
        simp only [Act.put, List.setIfInBounds_toArray, List.set_cons_zero, List.set_cons_succ]
        refine wpAnyH_take (i := 10) (oi := { dst := some 101, op := Op.binOp BinOp.neq 3 (Operand.tmp 95) (Operand.tmp 100) 3, type := 4, pos := "outright.go:155", after := #[{ on := 4, ground := Ground.data }, { on := 9, ground := Ground.data }, { on := 2, ground := Ground.guard }], guard := some (2, false) }) (v := .bool false) rfl (by kernel_rfl) (by kernel_rfl) (by kernel_rfl) (fun _ _ _ h => h) (Or.inl ⟨by rfl, by intro w hSw; go_simp⟩) (by assumption) ?_
        simp only [Act.put, List.setIfInBounds_toArray, List.set_cons_zero, List.set_cons_succ]
        refine wpAnyH_take (i := 11) (oi := { dst := some 102, op := Op.pick (Operand.tmp 93) (Operand.const (Value.bool true)) (Operand.tmp 101), type := 4, pos := "outright.go:155", after := #[{ on := 2, ground := Ground.data }, { on := 10, ground := Ground.data }], guard := none }) (v := .bool false) rfl (by kernel_rfl) (by kernel_rfl) (by kernel_rfl) (fun _ _ _ h => h) (Or.inl ⟨by rfl, by intro w hSw; go_simp⟩) (by assumption) ?_
        simp only [Act.put, List.setIfInBounds_toArray, List.set_cons_zero, List.set_cons_succ]
        refine wpAnyH_take (i := 12) (oi := { dst := some 103, op := Op.move (Operand.tmp 102), type := 4, pos := "outright.go:155", after := #[{ on := 11, ground := Ground.data }, { on := 2, ground := Ground.chain }], guard := none }) (v := .bool false) rfl (by kernel_rfl) (by kernel_rfl) (by kernel_rfl) (fun _ _ _ h => h) (Or.inl ⟨by rfl, by intro w hSw; go_simp⟩) (by assumption) ?_
        simp only [Act.put, List.setIfInBounds_toArray, List.set_cons_zero, List.set_cons_succ]
        refine wpAnyH_take (i := 13) (oi := { dst := some 104, op := Op.move (Operand.tmp 9), type := 39, pos := "outright.go:155", after := #[{ on := 12, ground := Ground.guard }], guard := some (12, false) }) (v := .slice (some ⟨g9, 0, none⟩) n c9) rfl (by kernel_rfl) (by kernel_rfl) (by kernel_rfl) (fun _ _ _ h => h) (Or.inl ⟨by rfl, by intro w hSw; go_simp⟩) (by assumption) ?_
        simp only [Act.put, List.setIfInBounds_toArray, List.set_cons_zero, List.set_cons_succ]
        refine wpAnyH_take (i := 14) (oi := { dst := some 105, op := Op.move (Operand.tmp 11), type := 3, pos := "outright.go:155", after := #[{ on := 12, ground := Ground.guard }], guard := some (12, false) }) (v := .int .i64 (k : Int)) rfl (by kernel_rfl) (by kernel_rfl) (by kernel_rfl) (fun _ _ _ h => h) (Or.inl ⟨by rfl, by intro w hSw; go_simp⟩) (by assumption) ?_
        simp only [Act.put, List.setIfInBounds_toArray, List.set_cons_zero, List.set_cons_succ]
        refine wpAnyH_take (i := 15) (oi := { dst := some 106, op := Op.indexAddr 39 (Operand.tmp 104) (Operand.tmp 105), type := 0, pos := "outright.go:155", after := #[{ on := 13, ground := Ground.data }, { on := 14, ground := Ground.data }, { on := 12, ground := Ground.guard }], guard := some (12, false) }) (v := .pointer (some ⟨g9, k, none⟩)) rfl (by kernel_rfl) (by kernel_rfl) (by kernel_rfl) (fun _ _ _ h => h) (Or.inl ⟨by rfl, by intro w hSw; go_simp⟩) (by assumption) ?_
        simp only [Act.put, List.setIfInBounds_toArray, List.set_cons_zero, List.set_cons_succ]
        refine wpAnyH_take (i := 16) (oi := { dst := some 107, op := Op.load 9 (Operand.tmp 106), type := 9, pos := "outright.go:155", after := #[{ on := 15, ground := Ground.data }, { on := 12, ground := Ground.guard }], guard := some (12, false) }) (v := .string s9) rfl (by kernel_rfl) (by kernel_rfl) (by kernel_rfl) (fun _ _ _ h => h) (Or.inl ⟨by rfl, by intro w hSw; have hS0 := hSw.2; go_simp⟩) (by assumption) ?_
        simp only [Act.put, List.setIfInBounds_toArray, List.set_cons_zero, List.set_cons_succ]
        refine wpAnyH_take (i := 17) (oi := { dst := some 108, op := Op.call { callee := Callee.builtin Builtin.len, args := #[Operand.tmp 107], argTypes := #[9] }, type := 3, pos := "outright.go:155", after := #[{ on := 16, ground := Ground.data }, { on := 12, ground := Ground.guard }], guard := some (12, false) }) (v := .int .i64 (L : Int)) rfl (by kernel_rfl) (by kernel_rfl) (by kernel_rfl) (fun _ _ _ h => h) (Or.inl ⟨by rfl, by intro w hSw; go_simp⟩) (by assumption) ?_
        simp only [Act.put, List.setIfInBounds_toArray, List.set_cons_zero, List.set_cons_succ]
        refine wpAnyH_take (i := 18) (oi := { dst := some 109, op := Op.binOp BinOp.gtr 3 (Operand.tmp 108) (Operand.const (Value.int IntKind.i64 0)) 3, type := 4, pos := "outright.go:155", after := #[{ on := 17, ground := Ground.data }, { on := 12, ground := Ground.guard }], guard := some (12, false) }) (v := .bool true) rfl (by kernel_rfl) (by kernel_rfl) (by kernel_rfl) (fun _ _ _ h => h) (Or.inl ⟨by rfl, by intro w hSw; have hp := HLP.out; go_simp⟩) (by assumption) ?_
        simp only [Act.put, List.setIfInBounds_toArray, List.set_cons_zero, List.set_cons_succ]
        refine wpAnyH_take (i := 19) (oi := { dst := some 110, op := Op.move (Operand.tmp 109), type := 4, pos := "outright.go:155", after := #[{ on := 18, ground := Ground.data }, { on := 12, ground := Ground.chain }, { on := 12, ground := Ground.guard }], guard := some (12, false) }) (v := .bool true) rfl (by kernel_rfl) (by kernel_rfl) (by kernel_rfl) (fun _ _ _ h => h) (Or.inl ⟨by rfl, by intro w hSw; go_simp⟩) (by assumption) ?_
        simp only [Act.put, List.setIfInBounds_toArray, List.set_cons_zero, List.set_cons_succ]
        refine wpAnyH_take (i := 20) (oi := { dst := some 111, op := Op.move (Operand.tmp 9), type := 39, pos := "outright.go:155", after := #[{ on := 19, ground := Ground.guard }], guard := some (19, true) }) (v := .slice (some ⟨g9, 0, none⟩) n c9) rfl (by kernel_rfl) (by kernel_rfl) (by kernel_rfl) (fun _ _ _ h => h) (Or.inl ⟨by rfl, by intro w hSw; go_simp⟩) (by assumption) ?_
        simp only [Act.put, List.setIfInBounds_toArray, List.set_cons_zero, List.set_cons_succ]
        refine wpAnyH_take (i := 21) (oi := { dst := some 112, op := Op.move (Operand.tmp 11), type := 3, pos := "outright.go:155", after := #[{ on := 19, ground := Ground.guard }], guard := some (19, true) }) (v := .int .i64 (k : Int)) rfl (by kernel_rfl) (by kernel_rfl) (by kernel_rfl) (fun _ _ _ h => h) (Or.inl ⟨by rfl, by intro w hSw; go_simp⟩) (by assumption) ?_
        simp only [Act.put, List.setIfInBounds_toArray, List.set_cons_zero, List.set_cons_succ]
        refine wpAnyH_take (i := 22) (oi := { dst := some 113, op := Op.indexAddr 39 (Operand.tmp 111) (Operand.tmp 112), type := 0, pos := "outright.go:155", after := #[{ on := 20, ground := Ground.data }, { on := 21, ground := Ground.data }, { on := 19, ground := Ground.guard }], guard := some (19, true) }) (v := .pointer (some ⟨g9, k, none⟩)) rfl (by kernel_rfl) (by kernel_rfl) (by kernel_rfl) (fun _ _ _ h => h) (Or.inl ⟨by rfl, by intro w hSw; go_simp⟩) (by assumption) ?_
        simp only [Act.put, List.setIfInBounds_toArray, List.set_cons_zero, List.set_cons_succ]
        refine wpAnyH_take (i := 23) (oi := { dst := some 114, op := Op.load 9 (Operand.tmp 113), type := 9, pos := "outright.go:155", after := #[{ on := 22, ground := Ground.data }, { on := 19, ground := Ground.guard }], guard := some (19, true) }) (v := .string s9) rfl (by kernel_rfl) (by kernel_rfl) (by kernel_rfl) (fun _ _ _ h => h) (Or.inl ⟨by rfl, by intro w hSw; have hS0 := hSw.2; go_simp⟩) (by assumption) ?_
        simp only [Act.put, List.setIfInBounds_toArray, List.set_cons_zero, List.set_cons_succ]
        refine wpAnyH_take (i := 24) (oi := { dst := some 115, op := Op.move (Operand.tmp 9), type := 39, pos := "outright.go:155", after := #[{ on := 19, ground := Ground.guard }], guard := some (19, true) }) (v := .slice (some ⟨g9, 0, none⟩) n c9) rfl (by kernel_rfl) (by kernel_rfl) (by kernel_rfl) (fun _ _ _ h => h) (Or.inl ⟨by rfl, by intro w hSw; go_simp⟩) (by assumption) ?_
        simp only [Act.put, List.setIfInBounds_toArray, List.set_cons_zero, List.set_cons_succ]
        refine wpAnyH_take (i := 25) (oi := { dst := some 116, op := Op.move (Operand.tmp 11), type := 3, pos := "outright.go:155", after := #[{ on := 19, ground := Ground.guard }], guard := some (19, true) }) (v := .int .i64 (k : Int)) rfl (by kernel_rfl) (by kernel_rfl) (by kernel_rfl) (fun _ _ _ h => h) (Or.inl ⟨by rfl, by intro w hSw; go_simp⟩) (by assumption) ?_
        simp only [Act.put, List.setIfInBounds_toArray, List.set_cons_zero, List.set_cons_succ]
        refine wpAnyH_take (i := 26) (oi := { dst := some 117, op := Op.indexAddr 39 (Operand.tmp 115) (Operand.tmp 116), type := 0, pos := "outright.go:155", after := #[{ on := 24, ground := Ground.data }, { on := 25, ground := Ground.data }, { on := 19, ground := Ground.guard }], guard := some (19, true) }) (v := .pointer (some ⟨g9, k, none⟩)) rfl (by kernel_rfl) (by kernel_rfl) (by kernel_rfl) (fun _ _ _ h => h) (Or.inl ⟨by rfl, by intro w hSw; go_simp⟩) (by assumption) ?_
        simp only [Act.put, List.setIfInBounds_toArray, List.set_cons_zero, List.set_cons_succ]
        refine wpAnyH_take (i := 27) (oi := { dst := some 118, op := Op.load 9 (Operand.tmp 117), type := 9, pos := "outright.go:155", after := #[{ on := 26, ground := Ground.data }, { on := 19, ground := Ground.guard }], guard := some (19, true) }) (v := .string s9) rfl (by kernel_rfl) (by kernel_rfl) (by kernel_rfl) (fun _ _ _ h => h) (Or.inl ⟨by rfl, by intro w hSw; have hS0 := hSw.2; go_simp⟩) (by assumption) ?_
        simp only [Act.put, List.setIfInBounds_toArray, List.set_cons_zero, List.set_cons_succ]
        refine wpAnyH_take (i := 28) (oi := { dst := some 119, op := Op.call { callee := Callee.builtin Builtin.len, args := #[Operand.tmp 118], argTypes := #[9] }, type := 3, pos := "outright.go:155", after := #[{ on := 27, ground := Ground.data }, { on := 19, ground := Ground.guard }], guard := some (19, true) }) (v := .int .i64 (L : Int)) rfl (by kernel_rfl) (by kernel_rfl) (by kernel_rfl) (fun _ _ _ h => h) (Or.inl ⟨by rfl, by intro w hSw; go_simp⟩) (by assumption) ?_
        simp only [Act.put, List.setIfInBounds_toArray, List.set_cons_zero, List.set_cons_succ]
        refine wpAnyH_take (i := 29) (oi := { dst := some 120, op := Op.binOp BinOp.sub 3 (Operand.tmp 119) (Operand.const (Value.int IntKind.i64 1)) 3, type := 3, pos := "outright.go:155", after := #[{ on := 28, ground := Ground.data }, { on := 19, ground := Ground.guard }], guard := some (19, true) }) (v := .int .i64 ((L : Int) - 1)) rfl (by kernel_rfl) (by kernel_rfl) (by kernel_rfl) (fun _ _ _ h => h) (Or.inl ⟨by rfl, by intro w hSw; have hp := HWR.out; go_simp⟩) (by assumption) ?_
        simp only [Act.put, List.setIfInBounds_toArray, List.set_cons_zero, List.set_cons_succ]
        refine wpAnyH_take (i := 30) (oi := { dst := some 121, op := Op.index 9 (Operand.tmp 114) (Operand.tmp 120), type := 5, pos := "outright.go:155", after := #[{ on := 23, ground := Ground.data }, { on := 29, ground := Ground.data }, { on := 19, ground := Ground.guard }], guard := some (19, true) }) (v := .int .u8 (y.toNat : Int)) rfl (by kernel_rfl) (by kernel_rfl) (by kernel_rfl) (fun _ _ _ h => h) (Or.inl ⟨by rfl, by intro w hSw;  go_simp; rw [dif_pos HB1.out, HG1.out]; rfl⟩) (by assumption) ?_
        simp only [Act.put, List.setIfInBounds_toArray, List.set_cons_zero, List.set_cons_succ]
        refine wpAnyH_take (i := 31) (oi := { dst := some 122, op := Op.binOp BinOp.eql 5 (Operand.tmp 121) (Operand.const (Value.int IntKind.u8 32)) 5, type := 4, pos := "outright.go:155", after := #[{ on := 30, ground := Ground.data }, { on := 19, ground := Ground.guard }], guard := some (19, true) }) (v := .bool false) rfl (by kernel_rfl) (by kernel_rfl) (by kernel_rfl) (fun _ _ _ h => h) (Or.inl ⟨by rfl, by intro w hSw; go_simp⟩) (by assumption) ?_
        simp only [Act.put, List.setIfInBounds_toArray, List.set_cons_zero, List.set_cons_succ]
        refine wpAnyH_take (i := 32) (oi := { dst := some 123, op := Op.pick (Operand.tmp 110) (Operand.tmp 122) (Operand.const (Value.bool false)), type := 4, pos := "outright.go:155", after := #[{ on := 19, ground := Ground.data }, { on := 31, ground := Ground.data }, { on := 12, ground := Ground.guard }], guard := some (12, false) }) (v := .bool false) rfl (by kernel_rfl) (by kernel_rfl) (by kernel_rfl) (fun _ _ _ h => h) (Or.inl ⟨by rfl, by intro w hSw; go_simp⟩) (by assumption) ?_
        simp only [Act.put, List.setIfInBounds_toArray, List.set_cons_zero, List.set_cons_succ]
        refine wpAnyH_take (i := 33) (oi := { dst := some 124, op := Op.pick (Operand.tmp 103) (Operand.const (Value.bool true)) (Operand.tmp 123), type := 4, pos := "outright.go:155", after := #[{ on := 12, ground := Ground.data }, { on := 32, ground := Ground.data }], guard := none }) (v := .bool false) rfl (by kernel_rfl) (by kernel_rfl) (by kernel_rfl) (fun _ _ _ h => h) (Or.inl ⟨by rfl, by intro w hSw; go_simp⟩) (by assumption) ?_
        simp only [Act.put, List.setIfInBounds_toArray, List.set_cons_zero, List.set_cons_succ]
        refine wpAnyH_done (by kernel_rfl) ?_ _
        go_wp2_with fail
        clear HLP HWR HB1 HG1 hne hc9' hc3' hst1 hsz
        go_loopw [15] (fun j wx => ∃ t : Nat, t ≤ m ∧ j = .int .i64 t ∧ RowsT wx (some ⟨g3, 0, none⟩) rows ∧ HV W wx 9 (.slice (some ⟨g9, 0, none⟩) n c9) (strs (rows.map (T.line ws))) ∧ HW W wx (.slice a12 m c12) (T.wordsR ws row m) ∧ Nums W wx (.slice a4 N c4) (.slice a5 N c5) (T.bsOf ws N (max (T.widths (rows.take k)).length t)) (List.replicate N 0)) (fun j _ => m - (intOf j).toNat)
        case atStart => exact ⟨0, Nat.zero_le _, rfl, R1.on ((Below.refl _ _).drew), LN1.drew, G1.on ((Below.refl _ _).drew), by rw [Nat.max_zero]; exact NM1.on ((Below.refl _ _).drew)⟩
        case round =>
          clear R1 LN1 G1 NM1
          obtain ⟨t, ht, rfl, R2, LN2, G2, NM2⟩ := hrel
          by_cases htm : t < m
          · have c2 : (t : Int) < (m : Int) := by omega
            have c3' : (t : Int) < (N : Int) := by omega
            have hbl := T.bsOf_length ws N (max (T.widths (rows.take k)).length t)
            obtain ⟨g4, d4x, hv4, hW4, hl4⟩ := NM2.b.formN (n := N) (by rw [ints_length, hbl]) (by omega)
            injection hv4 with f1 f2 f3
            subst f1 f3
            clear f2
            have hb4 := NM2.b.cell t _ (ints_get _ t (by rw [hbl]; omega))
            rw [T.bsOf_get ws N _ t (by omega)] at hb4
            have hfr := NM2.b.free t
            obtain ⟨g12, d12, hv12, r0, r1, r2⟩ := G2.cells t (by rw [T.wordsR_length]; exact htm)
            injection hv12 with f1 f2 f3
            subst f1 f3
            clear f2
            have hwt : (T.wordsR ws row m)[t]'(by rw [T.wordsR_length]; exact htm) = ⟨row.getD t [], false, T.col ws t + 1⟩ := by simp [T.wordsR]
            rw [hwt] at r0 r2
            obtain ⟨g3', ai2, ci2, he3, d3, hst2⟩ := R2.cell k hkl
            injection he3 with he3
            injection he3 with he3
            subst he3
            have hrl : t < rows[k].length := by rw [HROW.out, HRM.out]; exact htm
            obtain ⟨g1, he1, d4⟩ := hst2.cell t hrl
            subst he1
            have hgt : row.getD t [] = rows[k][t] := by
              rw [List.getD_eq_getElem?_getD, ← HROW.out, List.getElem?_eq_getElem hrl]
              rfl
            rw [← hgt] at d4
            rw [HROW.out, HRM.out] at d3
            have NMd := NM2.on (w' := wr.drew) ((Below.refl _ _).drew)
            have hst3 := NMd.setB t (T.col ws t + 1)
            rw [T.bsOf_set] at hst3
            have hcl := T.col_le ws H10.out t
            have HC0 : Hid (T.col ws t + 1 ≠ 0) := hid (by omega)
            have HCT : Hid (t = 0 → T.col ws t + 1 = 1) := hid (fun h => by subst h; rfl)
            have hif : (if t < max (T.widths (rows.take k)).length t then T.col ws t + 1 else 0) = if t < (T.widths (rows.take k)).length then T.col ws t + 1 else 0 := by
              by_cases h : t < (T.widths (rows.take k)).length
              · rw [if_pos (by omega), if_pos h]
              · rw [if_neg (by omega), if_neg h]
            rw [hif] at hb4
            generalize hsx : (⟨(row.getD t []).toArray⟩ : ByteArray) = sx at *
            generalize T.col ws t + 1 = C at *
            simp only at r2
            have d1 := r0
            have d2 := r2
            have HST : Hid _ := hid hst3
            have HKP : Hid ((∀ wx, K3 wr.drew wx → RowsT wx (some ⟨g3, 0, none⟩) rows) ∧ (∀ wx, K3 wr.drew wx → Below W.heap.size W wx → HV W wx 9 (.slice (some ⟨g9, 0, none⟩) n c9) (strs (rows.map (T.line ws))) ∧ HW W wx (.slice (some ⟨g12, 0, none⟩) m c12) (T.wordsR ws row m))) := hid ⟨fun wx h1 => (R2.on (w' := wr.drew) ((Below.refl _ _).drew)).keep h1, fun wx h1 h2 => ⟨LN2.drew.k3 (by decide) h1 h2, (G2.on (w := wr.drew) ((Below.refl _ _).drew)).k3 h1 h2⟩⟩
            clear r0 r1 r2 hwt hst2 hst3 hbl hif hgt hsx hrl hcl LN2 G2 R2 NM2 NMd hm0
            by_cases hold : t < (T.widths (rows.take k)).length
            · rw [if_pos hold] at hb4
              have d5 := hb4
              by_cases ht0 : t = 0
              · have HT0 : Hid (t = 0) := hid ht0
                have HC1 : Hid (C = 1) := hid (HCT.out ht0)
                clear ht0 hold
                go_wp2_with fail
                refine wp_region_held_drew (S := fun w => w.cell? ⟨g12, t * 3, none⟩ = some (.string sx) ∧ w.cell? ⟨g12, t * 3 + 2, none⟩ = some (.int .i64 (C : Int)) ∧ w.cell? ⟨g3, k, none⟩ = some (.slice (some ⟨g1, 0, none⟩) m ci2) ∧ w.cell? ⟨g1, t, none⟩ = some (.string sx) ∧ w.cell? ⟨g4, t, none⟩ = some (.int .i64 (C : Int))) (by kernel_rfl) ⟨d1, d2, d3, d4, d5⟩ (fun hHeld => ?_)
                refine wpAnyH_take (i := 0) (oi := { dst := some 131, op := Op.move (Operand.tmp 12), type := 25, pos := "outright.go:159", after := #[], guard := none }) (v := .slice (some ⟨g12, 0, none⟩) m c12) rfl (by kernel_rfl) (by kernel_rfl) (by kernel_rfl) (fun _ _ _ h => h) (Or.inl ⟨by rfl, by intro w hSw; go_simp⟩) (by assumption) ?_
                simp only [Act.put, List.setIfInBounds_toArray, List.set_cons_zero, List.set_cons_succ]
                refine wpAnyH_take (i := 1) (oi := { dst := some 132, op := Op.move (Operand.tmp 15), type := 3, pos := "outright.go:159", after := #[], guard := none }) (v := .int .i64 (t : Int)) rfl (by kernel_rfl) (by kernel_rfl) (by kernel_rfl) (fun _ _ _ h => h) (Or.inl ⟨by rfl, by intro w hSw; go_simp⟩) (by assumption) ?_
                simp only [Act.put, List.setIfInBounds_toArray, List.set_cons_zero, List.set_cons_succ]
                refine wpAnyH_take (i := 2) (oi := { dst := some 133, op := Op.indexAddr 25 (Operand.tmp 131) (Operand.tmp 132), type := 0, pos := "outright.go:159", after := #[{ on := 0, ground := Ground.data }, { on := 1, ground := Ground.data }], guard := none }) (v := .pointer (some ⟨g12, t * 3, none⟩)) rfl (by kernel_rfl) (by kernel_rfl) (by kernel_rfl) (fun _ _ _ h => h) (Or.inl ⟨by rfl, by intro w hSw; go_simp⟩) (by assumption) ?_
                simp only [Act.put, List.setIfInBounds_toArray, List.set_cons_zero, List.set_cons_succ]
                refine wpAnyH_take (i := 3) (oi := { dst := some 134, op := Op.fieldAddr 30 (Operand.tmp 133) 0, type := 0, pos := "outright.go:159", after := #[{ on := 2, ground := Ground.data }], guard := none }) (v := .pointer (some ⟨g12, t * 3, none⟩)) rfl (by kernel_rfl) (by kernel_rfl) (by kernel_rfl) (fun _ _ _ h => h) (Or.inl ⟨by rfl, by intro w hSw; go_simp⟩) (by assumption) ?_
                simp only [Act.put, List.setIfInBounds_toArray, List.set_cons_zero, List.set_cons_succ]
                refine wpAnyH_take (i := 4) (oi := { dst := some 135, op := Op.load 9 (Operand.tmp 134), type := 9, pos := "outright.go:159", after := #[{ on := 3, ground := Ground.data }], guard := none }) (v := .string sx) rfl (by kernel_rfl) (by kernel_rfl) (by kernel_rfl) (fun _ _ _ h => h) (Or.inl ⟨by rfl, by intro w hSw; have hS0 := hSw.1; go_simp⟩) (by assumption) ?_
                simp only [Act.put, List.setIfInBounds_toArray, List.set_cons_zero, List.set_cons_succ]
                refine wpAnyH_take (i := 5) (oi := { dst := some 136, op := Op.move (Operand.tmp 3), type := 37, pos := "outright.go:159", after := #[], guard := none }) (v := .slice (some ⟨g3, 0, none⟩) n c3) rfl (by kernel_rfl) (by kernel_rfl) (by kernel_rfl) (fun _ _ _ h => h) (Or.inl ⟨by rfl, by intro w hSw; go_simp⟩) (by assumption) ?_
                simp only [Act.put, List.setIfInBounds_toArray, List.set_cons_zero, List.set_cons_succ]
                refine wpAnyH_take (i := 6) (oi := { dst := some 137, op := Op.move (Operand.tmp 11), type := 3, pos := "outright.go:159", after := #[], guard := none }) (v := .int .i64 (k : Int)) rfl (by kernel_rfl) (by kernel_rfl) (by kernel_rfl) (fun _ _ _ h => h) (Or.inl ⟨by rfl, by intro w hSw; go_simp⟩) (by assumption) ?_
                simp only [Act.put, List.setIfInBounds_toArray, List.set_cons_zero, List.set_cons_succ]
                refine wpAnyH_take (i := 7) (oi := { dst := some 138, op := Op.indexAddr 37 (Operand.tmp 136) (Operand.tmp 137), type := 0, pos := "outright.go:159", after := #[{ on := 5, ground := Ground.data }, { on := 6, ground := Ground.data }], guard := none }) (v := .pointer (some ⟨g3, k, none⟩)) rfl (by kernel_rfl) (by kernel_rfl) (by kernel_rfl) (fun _ _ _ h => h) (Or.inl ⟨by rfl, by intro w hSw; go_simp⟩) (by assumption) ?_
                simp only [Act.put, List.setIfInBounds_toArray, List.set_cons_zero, List.set_cons_succ]
                refine wpAnyH_take (i := 8) (oi := { dst := some 139, op := Op.load 39 (Operand.tmp 138), type := 39, pos := "outright.go:159", after := #[{ on := 7, ground := Ground.data }], guard := none }) (v := .slice (some ⟨g1, 0, none⟩) m ci2) rfl (by kernel_rfl) (by kernel_rfl) (by kernel_rfl) (fun _ _ _ h => h) (Or.inl ⟨by rfl, by intro w hSw; have hS0 := hSw.2.2.1; go_simp⟩) (by assumption) ?_
                simp only [Act.put, List.setIfInBounds_toArray, List.set_cons_zero, List.set_cons_succ]
                refine wpAnyH_take (i := 9) (oi := { dst := some 140, op := Op.move (Operand.tmp 15), type := 3, pos := "outright.go:159", after := #[], guard := none }) (v := .int .i64 (t : Int)) rfl (by kernel_rfl) (by kernel_rfl) (by kernel_rfl) (fun _ _ _ h => h) (Or.inl ⟨by rfl, by intro w hSw; go_simp⟩) (by assumption) ?_
                simp only [Act.put, List.setIfInBounds_toArray, List.set_cons_zero, List.set_cons_succ]
                refine wpAnyH_take (i := 10) (oi := { dst := some 141, op := Op.indexAddr 39 (Operand.tmp 139) (Operand.tmp 140), type := 0, pos := "outright.go:159", after := #[{ on := 8, ground := Ground.data }, { on := 9, ground := Ground.data }], guard := none }) (v := .pointer (some ⟨g1, t, none⟩)) rfl (by kernel_rfl) (by kernel_rfl) (by kernel_rfl) (fun _ _ _ h => h) (Or.inl ⟨by rfl, by intro w hSw; go_simp⟩) (by assumption) ?_
                simp only [Act.put, List.setIfInBounds_toArray, List.set_cons_zero, List.set_cons_succ]
                refine wpAnyH_take (i := 11) (oi := { dst := some 142, op := Op.load 9 (Operand.tmp 141), type := 9, pos := "outright.go:159", after := #[{ on := 10, ground := Ground.data }], guard := none }) (v := .string sx) rfl (by kernel_rfl) (by kernel_rfl) (by kernel_rfl) (fun _ _ _ h => h) (Or.inl ⟨by rfl, by intro w hSw; have hS0 := hSw.2.2.2.1; go_simp⟩) (by assumption) ?_
                simp only [Act.put, List.setIfInBounds_toArray, List.set_cons_zero, List.set_cons_succ]
                refine wpAnyH_take (i := 12) (oi := { dst := some 143, op := Op.binOp BinOp.neq 9 (Operand.tmp 135) (Operand.tmp 142) 9, type := 4, pos := "outright.go:159", after := #[{ on := 4, ground := Ground.data }, { on := 11, ground := Ground.data }], guard := none }) (v := .bool false) rfl (by kernel_rfl) (by kernel_rfl) (by kernel_rfl) (fun _ _ _ h => h) (Or.inl ⟨by rfl, by intro w hSw; go_simp⟩) (by assumption) ?_
                simp only [Act.put, List.setIfInBounds_toArray, List.set_cons_zero, List.set_cons_succ]
                refine wpAnyH_take (i := 13) (oi := { dst := some 144, op := Op.move (Operand.tmp 143), type := 4, pos := "outright.go:159", after := #[{ on := 12, ground := Ground.data }], guard := none }) (v := .bool false) rfl (by kernel_rfl) (by kernel_rfl) (by kernel_rfl) (fun _ _ _ h => h) (Or.inl ⟨by rfl, by intro w hSw; go_simp⟩) (by assumption) ?_
                simp only [Act.put, List.setIfInBounds_toArray, List.set_cons_zero, List.set_cons_succ]
                refine wpAnyH_take (i := 14) (oi := { dst := some 145, op := Op.move (Operand.tmp 4), type := 38, pos := "outright.go:159", after := #[{ on := 13, ground := Ground.guard }], guard := some (13, false) }) (v := .slice (some ⟨g4, 0, none⟩) N c4) rfl (by kernel_rfl) (by kernel_rfl) (by kernel_rfl) (fun _ _ _ h => h) (Or.inl ⟨by rfl, by intro w hSw; go_simp⟩) (by assumption) ?_
                simp only [Act.put, List.setIfInBounds_toArray, List.set_cons_zero, List.set_cons_succ]
                refine wpAnyH_take (i := 15) (oi := { dst := some 146, op := Op.move (Operand.tmp 15), type := 3, pos := "outright.go:159", after := #[{ on := 13, ground := Ground.guard }], guard := some (13, false) }) (v := .int .i64 (t : Int)) rfl (by kernel_rfl) (by kernel_rfl) (by kernel_rfl) (fun _ _ _ h => h) (Or.inl ⟨by rfl, by intro w hSw; go_simp⟩) (by assumption) ?_
                simp only [Act.put, List.setIfInBounds_toArray, List.set_cons_zero, List.set_cons_succ]
                refine wpAnyH_take (i := 16) (oi := { dst := some 147, op := Op.indexAddr 38 (Operand.tmp 145) (Operand.tmp 146), type := 0, pos := "outright.go:159", after := #[{ on := 14, ground := Ground.data }, { on := 15, ground := Ground.data }, { on := 13, ground := Ground.guard }], guard := some (13, false) }) (v := .pointer (some ⟨g4, t, none⟩)) rfl (by kernel_rfl) (by kernel_rfl) (by kernel_rfl) (fun _ _ _ h => h) (Or.inl ⟨by rfl, by intro w hSw; go_simp⟩) (by assumption) ?_
                simp only [Act.put, List.setIfInBounds_toArray, List.set_cons_zero, List.set_cons_succ]
                refine wpAnyH_take (i := 17) (oi := { dst := some 148, op := Op.load 3 (Operand.tmp 147), type := 3, pos := "outright.go:159", after := #[{ on := 16, ground := Ground.data }, { on := 13, ground := Ground.guard }], guard := some (13, false) }) (v := .int .i64 (C : Int)) rfl (by kernel_rfl) (by kernel_rfl) (by kernel_rfl) (fun _ _ _ h => h) (Or.inl ⟨by rfl, by intro w hSw; have hS0 := hSw.2.2.2.2; go_simp⟩) (by assumption) ?_
                simp only [Act.put, List.setIfInBounds_toArray, List.set_cons_zero, List.set_cons_succ]
                refine wpAnyH_take (i := 18) (oi := { dst := some 149, op := Op.binOp BinOp.neq 3 (Operand.tmp 148) (Operand.const (Value.int IntKind.i64 0)) 3, type := 4, pos := "outright.go:159", after := #[{ on := 17, ground := Ground.data }, { on := 13, ground := Ground.guard }], guard := some (13, false) }) (v := .bool true) rfl (by kernel_rfl) (by kernel_rfl) (by kernel_rfl) (fun _ _ _ h => h) (Or.inl ⟨by rfl, by intro w hSw; have hq := HC0.out; go_simp <;> omega⟩) (by assumption) ?_
                simp only [Act.put, List.setIfInBounds_toArray, List.set_cons_zero, List.set_cons_succ]
                refine wpAnyH_take (i := 19) (oi := { dst := some 150, op := Op.move (Operand.tmp 149), type := 4, pos := "outright.go:159", after := #[{ on := 18, ground := Ground.data }, { on := 13, ground := Ground.chain }, { on := 13, ground := Ground.guard }], guard := some (13, false) }) (v := .bool true) rfl (by kernel_rfl) (by kernel_rfl) (by kernel_rfl) (fun _ _ _ h => h) (Or.inl ⟨by rfl, by intro w hSw; go_simp⟩) (by assumption) ?_
                simp only [Act.put, List.setIfInBounds_toArray, List.set_cons_zero, List.set_cons_succ]
                refine wpAnyH_take (i := 20) (oi := { dst := some 151, op := Op.move (Operand.tmp 4), type := 38, pos := "outright.go:159", after := #[{ on := 19, ground := Ground.guard }], guard := some (19, true) }) (v := .slice (some ⟨g4, 0, none⟩) N c4) rfl (by kernel_rfl) (by kernel_rfl) (by kernel_rfl) (fun _ _ _ h => h) (Or.inl ⟨by rfl, by intro w hSw; go_simp⟩) (by assumption) ?_
                simp only [Act.put, List.setIfInBounds_toArray, List.set_cons_zero, List.set_cons_succ]
                refine wpAnyH_take (i := 21) (oi := { dst := some 152, op := Op.move (Operand.tmp 15), type := 3, pos := "outright.go:159", after := #[{ on := 19, ground := Ground.guard }], guard := some (19, true) }) (v := .int .i64 (t : Int)) rfl (by kernel_rfl) (by kernel_rfl) (by kernel_rfl) (fun _ _ _ h => h) (Or.inl ⟨by rfl, by intro w hSw; go_simp⟩) (by assumption) ?_
                simp only [Act.put, List.setIfInBounds_toArray, List.set_cons_zero, List.set_cons_succ]
                refine wpAnyH_take (i := 22) (oi := { dst := some 153, op := Op.indexAddr 38 (Operand.tmp 151) (Operand.tmp 152), type := 0, pos := "outright.go:159", after := #[{ on := 20, ground := Ground.data }, { on := 21, ground := Ground.data }, { on := 19, ground := Ground.guard }], guard := some (19, true) }) (v := .pointer (some ⟨g4, t, none⟩)) rfl (by kernel_rfl) (by kernel_rfl) (by kernel_rfl) (fun _ _ _ h => h) (Or.inl ⟨by rfl, by intro w hSw; go_simp⟩) (by assumption) ?_
                simp only [Act.put, List.setIfInBounds_toArray, List.set_cons_zero, List.set_cons_succ]
                refine wpAnyH_take (i := 23) (oi := { dst := some 154, op := Op.load 3 (Operand.tmp 153), type := 3, pos := "outright.go:159", after := #[{ on := 22, ground := Ground.data }, { on := 19, ground := Ground.guard }], guard := some (19, true) }) (v := .int .i64 (C : Int)) rfl (by kernel_rfl) (by kernel_rfl) (by kernel_rfl) (fun _ _ _ h => h) (Or.inl ⟨by rfl, by intro w hSw; have hS0 := hSw.2.2.2.2; go_simp⟩) (by assumption) ?_
                simp only [Act.put, List.setIfInBounds_toArray, List.set_cons_zero, List.set_cons_succ]
                refine wpAnyH_take (i := 24) (oi := { dst := some 155, op := Op.move (Operand.tmp 12), type := 25, pos := "outright.go:159", after := #[{ on := 19, ground := Ground.guard }], guard := some (19, true) }) (v := .slice (some ⟨g12, 0, none⟩) m c12) rfl (by kernel_rfl) (by kernel_rfl) (by kernel_rfl) (fun _ _ _ h => h) (Or.inl ⟨by rfl, by intro w hSw; go_simp⟩) (by assumption) ?_
                simp only [Act.put, List.setIfInBounds_toArray, List.set_cons_zero, List.set_cons_succ]
                refine wpAnyH_take (i := 25) (oi := { dst := some 156, op := Op.move (Operand.tmp 15), type := 3, pos := "outright.go:159", after := #[{ on := 19, ground := Ground.guard }], guard := some (19, true) }) (v := .int .i64 (t : Int)) rfl (by kernel_rfl) (by kernel_rfl) (by kernel_rfl) (fun _ _ _ h => h) (Or.inl ⟨by rfl, by intro w hSw; go_simp⟩) (by assumption) ?_
                simp only [Act.put, List.setIfInBounds_toArray, List.set_cons_zero, List.set_cons_succ]
                refine wpAnyH_take (i := 26) (oi := { dst := some 157, op := Op.indexAddr 25 (Operand.tmp 155) (Operand.tmp 156), type := 0, pos := "outright.go:159", after := #[{ on := 24, ground := Ground.data }, { on := 25, ground := Ground.data }, { on := 19, ground := Ground.guard }], guard := some (19, true) }) (v := .pointer (some ⟨g12, t * 3, none⟩)) rfl (by kernel_rfl) (by kernel_rfl) (by kernel_rfl) (fun _ _ _ h => h) (Or.inl ⟨by rfl, by intro w hSw; go_simp⟩) (by assumption) ?_
                simp only [Act.put, List.setIfInBounds_toArray, List.set_cons_zero, List.set_cons_succ]
                refine wpAnyH_take (i := 27) (oi := { dst := some 158, op := Op.fieldAddr 30 (Operand.tmp 157) 2, type := 0, pos := "outright.go:159", after := #[{ on := 26, ground := Ground.data }, { on := 19, ground := Ground.guard }], guard := some (19, true) }) (v := .pointer (some ⟨g12, t * 3 + 2, none⟩)) rfl (by kernel_rfl) (by kernel_rfl) (by kernel_rfl) (fun _ _ _ h => h) (Or.inl ⟨by rfl, by intro w hSw; go_simp⟩) (by assumption) ?_
                simp only [Act.put, List.setIfInBounds_toArray, List.set_cons_zero, List.set_cons_succ]
                refine wpAnyH_take (i := 28) (oi := { dst := some 159, op := Op.load 3 (Operand.tmp 158), type := 3, pos := "outright.go:159", after := #[{ on := 27, ground := Ground.data }, { on := 19, ground := Ground.guard }], guard := some (19, true) }) (v := .int .i64 (C : Int)) rfl (by kernel_rfl) (by kernel_rfl) (by kernel_rfl) (fun _ _ _ h => h) (Or.inl ⟨by rfl, by intro w hSw; have hS0 := hSw.2.1; go_simp⟩) (by assumption) ?_
                simp only [Act.put, List.setIfInBounds_toArray, List.set_cons_zero, List.set_cons_succ]
                refine wpAnyH_take (i := 29) (oi := { dst := some 160, op := Op.binOp BinOp.neq 3 (Operand.tmp 154) (Operand.tmp 159) 3, type := 4, pos := "outright.go:159", after := #[{ on := 23, ground := Ground.data }, { on := 28, ground := Ground.data }, { on := 19, ground := Ground.guard }], guard := some (19, true) }) (v := .bool false) rfl (by kernel_rfl) (by kernel_rfl) (by kernel_rfl) (fun _ _ _ h => h) (Or.inl ⟨by rfl, by intro w hSw; go_simp⟩) (by assumption) ?_
                simp only [Act.put, List.setIfInBounds_toArray, List.set_cons_zero, List.set_cons_succ]
                refine wpAnyH_take (i := 30) (oi := { dst := some 161, op := Op.pick (Operand.tmp 150) (Operand.tmp 160) (Operand.const (Value.bool false)), type := 4, pos := "outright.go:159", after := #[{ on := 19, ground := Ground.data }, { on := 29, ground := Ground.data }, { on := 13, ground := Ground.guard }], guard := some (13, false) }) (v := .bool false) rfl (by kernel_rfl) (by kernel_rfl) (by kernel_rfl) (fun _ _ _ h => h) (Or.inl ⟨by rfl, by intro w hSw; go_simp⟩) (by assumption) ?_
                simp only [Act.put, List.setIfInBounds_toArray, List.set_cons_zero, List.set_cons_succ]
                refine wpAnyH_take (i := 31) (oi := { dst := some 162, op := Op.pick (Operand.tmp 144) (Operand.const (Value.bool true)) (Operand.tmp 161), type := 4, pos := "outright.go:159", after := #[{ on := 13, ground := Ground.data }, { on := 30, ground := Ground.data }], guard := none }) (v := .bool false) rfl (by kernel_rfl) (by kernel_rfl) (by kernel_rfl) (fun _ _ _ h => h) (Or.inl ⟨by rfl, by intro w hSw; go_simp⟩) (by assumption) ?_
                simp only [Act.put, List.setIfInBounds_toArray, List.set_cons_zero, List.set_cons_succ]
                refine wpAnyH_take (i := 32) (oi := { dst := some 163, op := Op.move (Operand.tmp 162), type := 4, pos := "outright.go:159", after := #[{ on := 31, ground := Ground.data }, { on := 19, ground := Ground.chain }], guard := none }) (v := .bool false) rfl (by kernel_rfl) (by kernel_rfl) (by kernel_rfl) (fun _ _ _ h => h) (Or.inl ⟨by rfl, by intro w hSw; go_simp⟩) (by assumption) ?_
                simp only [Act.put, List.setIfInBounds_toArray, List.set_cons_zero, List.set_cons_succ]
                refine wpAnyH_take (i := 33) (oi := { dst := some 164, op := Op.move (Operand.tmp 15), type := 3, pos := "outright.go:159", after := #[{ on := 32, ground := Ground.guard }], guard := some (32, false) }) (v := .int .i64 (t : Int)) rfl (by kernel_rfl) (by kernel_rfl) (by kernel_rfl) (fun _ _ _ h => h) (Or.inl ⟨by rfl, by intro w hSw; go_simp⟩) (by assumption) ?_
                simp only [Act.put, List.setIfInBounds_toArray, List.set_cons_zero, List.set_cons_succ]
                refine wpAnyH_take (i := 34) (oi := { dst := some 165, op := Op.binOp BinOp.eql 3 (Operand.tmp 164) (Operand.const (Value.int IntKind.i64 0)) 3, type := 4, pos := "outright.go:159", after := #[{ on := 33, ground := Ground.data }, { on := 32, ground := Ground.guard }], guard := some (32, false) }) (v := .bool true) rfl (by kernel_rfl) (by kernel_rfl) (by kernel_rfl) (fun _ _ _ h => h) (Or.inl ⟨by rfl, by intro w hSw; have hq := HT0.out; go_simp <;> omega⟩) (by assumption) ?_
                simp only [Act.put, List.setIfInBounds_toArray, List.set_cons_zero, List.set_cons_succ]
                refine wpAnyH_take (i := 35) (oi := { dst := some 166, op := Op.move (Operand.tmp 165), type := 4, pos := "outright.go:159", after := #[{ on := 34, ground := Ground.data }, { on := 32, ground := Ground.chain }, { on := 32, ground := Ground.guard }], guard := some (32, false) }) (v := .bool true) rfl (by kernel_rfl) (by kernel_rfl) (by kernel_rfl) (fun _ _ _ h => h) (Or.inl ⟨by rfl, by intro w hSw; go_simp⟩) (by assumption) ?_
                simp only [Act.put, List.setIfInBounds_toArray, List.set_cons_zero, List.set_cons_succ]
                refine wpAnyH_take (i := 36) (oi := { dst := some 167, op := Op.move (Operand.tmp 12), type := 25, pos := "outright.go:159", after := #[{ on := 35, ground := Ground.guard }], guard := some (35, true) }) (v := .slice (some ⟨g12, 0, none⟩) m c12) rfl (by kernel_rfl) (by kernel_rfl) (by kernel_rfl) (fun _ _ _ h => h) (Or.inl ⟨by rfl, by intro w hSw; go_simp⟩) (by assumption) ?_
                simp only [Act.put, List.setIfInBounds_toArray, List.set_cons_zero, List.set_cons_succ]
                refine wpAnyH_take (i := 37) (oi := { dst := some 168, op := Op.move (Operand.tmp 15), type := 3, pos := "outright.go:159", after := #[{ on := 35, ground := Ground.guard }], guard := some (35, true) }) (v := .int .i64 (t : Int)) rfl (by kernel_rfl) (by kernel_rfl) (by kernel_rfl) (fun _ _ _ h => h) (Or.inl ⟨by rfl, by intro w hSw; go_simp⟩) (by assumption) ?_
                simp only [Act.put, List.setIfInBounds_toArray, List.set_cons_zero, List.set_cons_succ]
                refine wpAnyH_take (i := 38) (oi := { dst := some 169, op := Op.indexAddr 25 (Operand.tmp 167) (Operand.tmp 168), type := 0, pos := "outright.go:159", after := #[{ on := 36, ground := Ground.data }, { on := 37, ground := Ground.data }, { on := 35, ground := Ground.guard }], guard := some (35, true) }) (v := .pointer (some ⟨g12, t * 3, none⟩)) rfl (by kernel_rfl) (by kernel_rfl) (by kernel_rfl) (fun _ _ _ h => h) (Or.inl ⟨by rfl, by intro w hSw; go_simp⟩) (by assumption) ?_
                simp only [Act.put, List.setIfInBounds_toArray, List.set_cons_zero, List.set_cons_succ]
                refine wpAnyH_take (i := 39) (oi := { dst := some 170, op := Op.fieldAddr 30 (Operand.tmp 169) 2, type := 0, pos := "outright.go:159", after := #[{ on := 38, ground := Ground.data }, { on := 35, ground := Ground.guard }], guard := some (35, true) }) (v := .pointer (some ⟨g12, t * 3 + 2, none⟩)) rfl (by kernel_rfl) (by kernel_rfl) (by kernel_rfl) (fun _ _ _ h => h) (Or.inl ⟨by rfl, by intro w hSw; go_simp⟩) (by assumption) ?_
                simp only [Act.put, List.setIfInBounds_toArray, List.set_cons_zero, List.set_cons_succ]
                refine wpAnyH_take (i := 40) (oi := { dst := some 171, op := Op.load 3 (Operand.tmp 170), type := 3, pos := "outright.go:159", after := #[{ on := 39, ground := Ground.data }, { on := 35, ground := Ground.guard }], guard := some (35, true) }) (v := .int .i64 (C : Int)) rfl (by kernel_rfl) (by kernel_rfl) (by kernel_rfl) (fun _ _ _ h => h) (Or.inl ⟨by rfl, by intro w hSw; have hS0 := hSw.2.1; go_simp⟩) (by assumption) ?_
                simp only [Act.put, List.setIfInBounds_toArray, List.set_cons_zero, List.set_cons_succ]
                refine wpAnyH_take (i := 41) (oi := { dst := some 172, op := Op.binOp BinOp.neq 3 (Operand.tmp 171) (Operand.const (Value.int IntKind.i64 1)) 3, type := 4, pos := "outright.go:159", after := #[{ on := 40, ground := Ground.data }, { on := 35, ground := Ground.guard }], guard := some (35, true) }) (v := .bool false) rfl (by kernel_rfl) (by kernel_rfl) (by kernel_rfl) (fun _ _ _ h => h) (Or.inl ⟨by rfl, by intro w hSw; have hq := HC1.out; go_simp <;> omega⟩) (by assumption) ?_
                simp only [Act.put, List.setIfInBounds_toArray, List.set_cons_zero, List.set_cons_succ]
                refine wpAnyH_take (i := 42) (oi := { dst := some 173, op := Op.pick (Operand.tmp 166) (Operand.tmp 172) (Operand.const (Value.bool false)), type := 4, pos := "outright.go:159", after := #[{ on := 35, ground := Ground.data }, { on := 41, ground := Ground.data }, { on := 32, ground := Ground.guard }], guard := some (32, false) }) (v := .bool false) rfl (by kernel_rfl) (by kernel_rfl) (by kernel_rfl) (fun _ _ _ h => h) (Or.inl ⟨by rfl, by intro w hSw; go_simp⟩) (by assumption) ?_
                simp only [Act.put, List.setIfInBounds_toArray, List.set_cons_zero, List.set_cons_succ]
                refine wpAnyH_take (i := 43) (oi := { dst := some 174, op := Op.pick (Operand.tmp 163) (Operand.const (Value.bool true)) (Operand.tmp 173), type := 4, pos := "outright.go:159", after := #[{ on := 32, ground := Ground.data }, { on := 42, ground := Ground.data }], guard := none }) (v := .bool false) rfl (by kernel_rfl) (by kernel_rfl) (by kernel_rfl) (fun _ _ _ h => h) (Or.inl ⟨by rfl, by intro w hSw; go_simp⟩) (by assumption) ?_
                simp only [Act.put, List.setIfInBounds_toArray, List.set_cons_zero, List.set_cons_succ]
                refine wpAnyH_done (by kernel_rfl) ?_ _
                go_wp2_with fail
                exact ⟨⟨t + 1, by omega, by go_num, HKP.out.1 _ HST.out.2, (HKP.out.2 _ HST.out.2 HST.out.1.b.below).1, (HKP.out.2 _ HST.out.2 HST.out.1.b.below).2, HST.out.1⟩, by simp [intOf]; omega⟩
              · have HT0 : Hid (t ≠ 0) := hid ht0
                clear ht0 hold
                go_wp2_with fail
                refine wp_region_held_drew (S := fun w => w.cell? ⟨g12, t * 3, none⟩ = some (.string sx) ∧ w.cell? ⟨g12, t * 3 + 2, none⟩ = some (.int .i64 (C : Int)) ∧ w.cell? ⟨g3, k, none⟩ = some (.slice (some ⟨g1, 0, none⟩) m ci2) ∧ w.cell? ⟨g1, t, none⟩ = some (.string sx) ∧ w.cell? ⟨g4, t, none⟩ = some (.int .i64 (C : Int))) (by kernel_rfl) ⟨d1, d2, d3, d4, d5⟩ (fun hHeld => ?_)
                refine wpAnyH_take (i := 0) (oi := { dst := some 131, op := Op.move (Operand.tmp 12), type := 25, pos := "outright.go:159", after := #[], guard := none }) (v := .slice (some ⟨g12, 0, none⟩) m c12) rfl (by kernel_rfl) (by kernel_rfl) (by kernel_rfl) (fun _ _ _ h => h) (Or.inl ⟨by rfl, by intro w hSw; go_simp⟩) (by assumption) ?_
                simp only [Act.put, List.setIfInBounds_toArray, List.set_cons_zero, List.set_cons_succ]
                refine wpAnyH_take (i := 1) (oi := { dst := some 132, op := Op.move (Operand.tmp 15), type := 3, pos := "outright.go:159", after := #[], guard := none }) (v := .int .i64 (t : Int)) rfl (by kernel_rfl) (by kernel_rfl) (by kernel_rfl) (fun _ _ _ h => h) (Or.inl ⟨by rfl, by intro w hSw; go_simp⟩) (by assumption) ?_
                simp only [Act.put, List.setIfInBounds_toArray, List.set_cons_zero, List.set_cons_succ]
                refine wpAnyH_take (i := 2) (oi := { dst := some 133, op := Op.indexAddr 25 (Operand.tmp 131) (Operand.tmp 132), type := 0, pos := "outright.go:159", after := #[{ on := 0, ground := Ground.data }, { on := 1, ground := Ground.data }], guard := none }) (v := .pointer (some ⟨g12, t * 3, none⟩)) rfl (by kernel_rfl) (by kernel_rfl) (by kernel_rfl) (fun _ _ _ h => h) (Or.inl ⟨by rfl, by intro w hSw; go_simp⟩) (by assumption) ?_
                simp only [Act.put, List.setIfInBounds_toArray, List.set_cons_zero, List.set_cons_succ]
                refine wpAnyH_take (i := 3) (oi := { dst := some 134, op := Op.fieldAddr 30 (Operand.tmp 133) 0, type := 0, pos := "outright.go:159", after := #[{ on := 2, ground := Ground.data }], guard := none }) (v := .pointer (some ⟨g12, t * 3, none⟩)) rfl (by kernel_rfl) (by kernel_rfl) (by kernel_rfl) (fun _ _ _ h => h) (Or.inl ⟨by rfl, by intro w hSw; go_simp⟩) (by assumption) ?_
                simp only [Act.put, List.setIfInBounds_toArray, List.set_cons_zero, List.set_cons_succ]
                refine wpAnyH_take (i := 4) (oi := { dst := some 135, op := Op.load 9 (Operand.tmp 134), type := 9, pos := "outright.go:159", after := #[{ on := 3, ground := Ground.data }], guard := none }) (v := .string sx) rfl (by kernel_rfl) (by kernel_rfl) (by kernel_rfl) (fun _ _ _ h => h) (Or.inl ⟨by rfl, by intro w hSw; have hS0 := hSw.1; go_simp⟩) (by assumption) ?_
                simp only [Act.put, List.setIfInBounds_toArray, List.set_cons_zero, List.set_cons_succ]
                refine wpAnyH_take (i := 5) (oi := { dst := some 136, op := Op.move (Operand.tmp 3), type := 37, pos := "outright.go:159", after := #[], guard := none }) (v := .slice (some ⟨g3, 0, none⟩) n c3) rfl (by kernel_rfl) (by kernel_rfl) (by kernel_rfl) (fun _ _ _ h => h) (Or.inl ⟨by rfl, by intro w hSw; go_simp⟩) (by assumption) ?_
                simp only [Act.put, List.setIfInBounds_toArray, List.set_cons_zero, List.set_cons_succ]
                refine wpAnyH_take (i := 6) (oi := { dst := some 137, op := Op.move (Operand.tmp 11), type := 3, pos := "outright.go:159", after := #[], guard := none }) (v := .int .i64 (k : Int)) rfl (by kernel_rfl) (by kernel_rfl) (by kernel_rfl) (fun _ _ _ h => h) (Or.inl ⟨by rfl, by intro w hSw; go_simp⟩) (by assumption) ?_
                simp only [Act.put, List.setIfInBounds_toArray, List.set_cons_zero, List.set_cons_succ]
                refine wpAnyH_take (i := 7) (oi := { dst := some 138, op := Op.indexAddr 37 (Operand.tmp 136) (Operand.tmp 137), type := 0, pos := "outright.go:159", after := #[{ on := 5, ground := Ground.data }, { on := 6, ground := Ground.data }], guard := none }) (v := .pointer (some ⟨g3, k, none⟩)) rfl (by kernel_rfl) (by kernel_rfl) (by kernel_rfl) (fun _ _ _ h => h) (Or.inl ⟨by rfl, by intro w hSw; go_simp⟩) (by assumption) ?_
                simp only [Act.put, List.setIfInBounds_toArray, List.set_cons_zero, List.set_cons_succ]
                refine wpAnyH_take (i := 8) (oi := { dst := some 139, op := Op.load 39 (Operand.tmp 138), type := 39, pos := "outright.go:159", after := #[{ on := 7, ground := Ground.data }], guard := none }) (v := .slice (some ⟨g1, 0, none⟩) m ci2) rfl (by kernel_rfl) (by kernel_rfl) (by kernel_rfl) (fun _ _ _ h => h) (Or.inl ⟨by rfl, by intro w hSw; have hS0 := hSw.2.2.1; go_simp⟩) (by assumption) ?_
                simp only [Act.put, List.setIfInBounds_toArray, List.set_cons_zero, List.set_cons_succ]
                refine wpAnyH_take (i := 9) (oi := { dst := some 140, op := Op.move (Operand.tmp 15), type := 3, pos := "outright.go:159", after := #[], guard := none }) (v := .int .i64 (t : Int)) rfl (by kernel_rfl) (by kernel_rfl) (by kernel_rfl) (fun _ _ _ h => h) (Or.inl ⟨by rfl, by intro w hSw; go_simp⟩) (by assumption) ?_
                simp only [Act.put, List.setIfInBounds_toArray, List.set_cons_zero, List.set_cons_succ]
                refine wpAnyH_take (i := 10) (oi := { dst := some 141, op := Op.indexAddr 39 (Operand.tmp 139) (Operand.tmp 140), type := 0, pos := "outright.go:159", after := #[{ on := 8, ground := Ground.data }, { on := 9, ground := Ground.data }], guard := none }) (v := .pointer (some ⟨g1, t, none⟩)) rfl (by kernel_rfl) (by kernel_rfl) (by kernel_rfl) (fun _ _ _ h => h) (Or.inl ⟨by rfl, by intro w hSw; go_simp⟩) (by assumption) ?_
                simp only [Act.put, List.setIfInBounds_toArray, List.set_cons_zero, List.set_cons_succ]
                refine wpAnyH_take (i := 11) (oi := { dst := some 142, op := Op.load 9 (Operand.tmp 141), type := 9, pos := "outright.go:159", after := #[{ on := 10, ground := Ground.data }], guard := none }) (v := .string sx) rfl (by kernel_rfl) (by kernel_rfl) (by kernel_rfl) (fun _ _ _ h => h) (Or.inl ⟨by rfl, by intro w hSw; have hS0 := hSw.2.2.2.1; go_simp⟩) (by assumption) ?_
                simp only [Act.put, List.setIfInBounds_toArray, List.set_cons_zero, List.set_cons_succ]
                refine wpAnyH_take (i := 12) (oi := { dst := some 143, op := Op.binOp BinOp.neq 9 (Operand.tmp 135) (Operand.tmp 142) 9, type := 4, pos := "outright.go:159", after := #[{ on := 4, ground := Ground.data }, { on := 11, ground := Ground.data }], guard := none }) (v := .bool false) rfl (by kernel_rfl) (by kernel_rfl) (by kernel_rfl) (fun _ _ _ h => h) (Or.inl ⟨by rfl, by intro w hSw; go_simp⟩) (by assumption) ?_
                simp only [Act.put, List.setIfInBounds_toArray, List.set_cons_zero, List.set_cons_succ]
                refine wpAnyH_take (i := 13) (oi := { dst := some 144, op := Op.move (Operand.tmp 143), type := 4, pos := "outright.go:159", after := #[{ on := 12, ground := Ground.data }], guard := none }) (v := .bool false) rfl (by kernel_rfl) (by kernel_rfl) (by kernel_rfl) (fun _ _ _ h => h) (Or.inl ⟨by rfl, by intro w hSw; go_simp⟩) (by assumption) ?_
                simp only [Act.put, List.setIfInBounds_toArray, List.set_cons_zero, List.set_cons_succ]
                refine wpAnyH_take (i := 14) (oi := { dst := some 145, op := Op.move (Operand.tmp 4), type := 38, pos := "outright.go:159", after := #[{ on := 13, ground := Ground.guard }], guard := some (13, false) }) (v := .slice (some ⟨g4, 0, none⟩) N c4) rfl (by kernel_rfl) (by kernel_rfl) (by kernel_rfl) (fun _ _ _ h => h) (Or.inl ⟨by rfl, by intro w hSw; go_simp⟩) (by assumption) ?_
                simp only [Act.put, List.setIfInBounds_toArray, List.set_cons_zero, List.set_cons_succ]
                refine wpAnyH_take (i := 15) (oi := { dst := some 146, op := Op.move (Operand.tmp 15), type := 3, pos := "outright.go:159", after := #[{ on := 13, ground := Ground.guard }], guard := some (13, false) }) (v := .int .i64 (t : Int)) rfl (by kernel_rfl) (by kernel_rfl) (by kernel_rfl) (fun _ _ _ h => h) (Or.inl ⟨by rfl, by intro w hSw; go_simp⟩) (by assumption) ?_
                simp only [Act.put, List.setIfInBounds_toArray, List.set_cons_zero, List.set_cons_succ]
                refine wpAnyH_take (i := 16) (oi := { dst := some 147, op := Op.indexAddr 38 (Operand.tmp 145) (Operand.tmp 146), type := 0, pos := "outright.go:159", after := #[{ on := 14, ground := Ground.data }, { on := 15, ground := Ground.data }, { on := 13, ground := Ground.guard }], guard := some (13, false) }) (v := .pointer (some ⟨g4, t, none⟩)) rfl (by kernel_rfl) (by kernel_rfl) (by kernel_rfl) (fun _ _ _ h => h) (Or.inl ⟨by rfl, by intro w hSw; go_simp⟩) (by assumption) ?_
                simp only [Act.put, List.setIfInBounds_toArray, List.set_cons_zero, List.set_cons_succ]
                refine wpAnyH_take (i := 17) (oi := { dst := some 148, op := Op.load 3 (Operand.tmp 147), type := 3, pos := "outright.go:159", after := #[{ on := 16, ground := Ground.data }, { on := 13, ground := Ground.guard }], guard := some (13, false) }) (v := .int .i64 (C : Int)) rfl (by kernel_rfl) (by kernel_rfl) (by kernel_rfl) (fun _ _ _ h => h) (Or.inl ⟨by rfl, by intro w hSw; have hS0 := hSw.2.2.2.2; go_simp⟩) (by assumption) ?_
                simp only [Act.put, List.setIfInBounds_toArray, List.set_cons_zero, List.set_cons_succ]
                refine wpAnyH_take (i := 18) (oi := { dst := some 149, op := Op.binOp BinOp.neq 3 (Operand.tmp 148) (Operand.const (Value.int IntKind.i64 0)) 3, type := 4, pos := "outright.go:159", after := #[{ on := 17, ground := Ground.data }, { on := 13, ground := Ground.guard }], guard := some (13, false) }) (v := .bool true) rfl (by kernel_rfl) (by kernel_rfl) (by kernel_rfl) (fun _ _ _ h => h) (Or.inl ⟨by rfl, by intro w hSw; have hq := HC0.out; go_simp <;> omega⟩) (by assumption) ?_
                simp only [Act.put, List.setIfInBounds_toArray, List.set_cons_zero, List.set_cons_succ]
                refine wpAnyH_take (i := 19) (oi := { dst := some 150, op := Op.move (Operand.tmp 149), type := 4, pos := "outright.go:159", after := #[{ on := 18, ground := Ground.data }, { on := 13, ground := Ground.chain }, { on := 13, ground := Ground.guard }], guard := some (13, false) }) (v := .bool true) rfl (by kernel_rfl) (by kernel_rfl) (by kernel_rfl) (fun _ _ _ h => h) (Or.inl ⟨by rfl, by intro w hSw; go_simp⟩) (by assumption) ?_
                simp only [Act.put, List.setIfInBounds_toArray, List.set_cons_zero, List.set_cons_succ]
                refine wpAnyH_take (i := 20) (oi := { dst := some 151, op := Op.move (Operand.tmp 4), type := 38, pos := "outright.go:159", after := #[{ on := 19, ground := Ground.guard }], guard := some (19, true) }) (v := .slice (some ⟨g4, 0, none⟩) N c4) rfl (by kernel_rfl) (by kernel_rfl) (by kernel_rfl) (fun _ _ _ h => h) (Or.inl ⟨by rfl, by intro w hSw; go_simp⟩) (by assumption) ?_
                simp only [Act.put, List.setIfInBounds_toArray, List.set_cons_zero, List.set_cons_succ]
                refine wpAnyH_take (i := 21) (oi := { dst := some 152, op := Op.move (Operand.tmp 15), type := 3, pos := "outright.go:159", after := #[{ on := 19, ground := Ground.guard }], guard := some (19, true) }) (v := .int .i64 (t : Int)) rfl (by kernel_rfl) (by kernel_rfl) (by kernel_rfl) (fun _ _ _ h => h) (Or.inl ⟨by rfl, by intro w hSw; go_simp⟩) (by assumption) ?_
                simp only [Act.put, List.setIfInBounds_toArray, List.set_cons_zero, List.set_cons_succ]
                refine wpAnyH_take (i := 22) (oi := { dst := some 153, op := Op.indexAddr 38 (Operand.tmp 151) (Operand.tmp 152), type := 0, pos := "outright.go:159", after := #[{ on := 20, ground := Ground.data }, { on := 21, ground := Ground.data }, { on := 19, ground := Ground.guard }], guard := some (19, true) }) (v := .pointer (some ⟨g4, t, none⟩)) rfl (by kernel_rfl) (by kernel_rfl) (by kernel_rfl) (fun _ _ _ h => h) (Or.inl ⟨by rfl, by intro w hSw; go_simp⟩) (by assumption) ?_
                simp only [Act.put, List.setIfInBounds_toArray, List.set_cons_zero, List.set_cons_succ]
                refine wpAnyH_take (i := 23) (oi := { dst := some 154, op := Op.load 3 (Operand.tmp 153), type := 3, pos := "outright.go:159", after := #[{ on := 22, ground := Ground.data }, { on := 19, ground := Ground.guard }], guard := some (19, true) }) (v := .int .i64 (C : Int)) rfl (by kernel_rfl) (by kernel_rfl) (by kernel_rfl) (fun _ _ _ h => h) (Or.inl ⟨by rfl, by intro w hSw; have hS0 := hSw.2.2.2.2; go_simp⟩) (by assumption) ?_
                simp only [Act.put, List.setIfInBounds_toArray, List.set_cons_zero, List.set_cons_succ]
                refine wpAnyH_take (i := 24) (oi := { dst := some 155, op := Op.move (Operand.tmp 12), type := 25, pos := "outright.go:159", after := #[{ on := 19, ground := Ground.guard }], guard := some (19, true) }) (v := .slice (some ⟨g12, 0, none⟩) m c12) rfl (by kernel_rfl) (by kernel_rfl) (by kernel_rfl) (fun _ _ _ h => h) (Or.inl ⟨by rfl, by intro w hSw; go_simp⟩) (by assumption) ?_
                simp only [Act.put, List.setIfInBounds_toArray, List.set_cons_zero, List.set_cons_succ]
                refine wpAnyH_take (i := 25) (oi := { dst := some 156, op := Op.move (Operand.tmp 15), type := 3, pos := "outright.go:159", after := #[{ on := 19, ground := Ground.guard }], guard := some (19, true) }) (v := .int .i64 (t : Int)) rfl (by kernel_rfl) (by kernel_rfl) (by kernel_rfl) (fun _ _ _ h => h) (Or.inl ⟨by rfl, by intro w hSw; go_simp⟩) (by assumption) ?_
                simp only [Act.put, List.setIfInBounds_toArray, List.set_cons_zero, List.set_cons_succ]
                refine wpAnyH_take (i := 26) (oi := { dst := some 157, op := Op.indexAddr 25 (Operand.tmp 155) (Operand.tmp 156), type := 0, pos := "outright.go:159", after := #[{ on := 24, ground := Ground.data }, { on := 25, ground := Ground.data }, { on := 19, ground := Ground.guard }], guard := some (19, true) }) (v := .pointer (some ⟨g12, t * 3, none⟩)) rfl (by kernel_rfl) (by kernel_rfl) (by kernel_rfl) (fun _ _ _ h => h) (Or.inl ⟨by rfl, by intro w hSw; go_simp⟩) (by assumption) ?_
                simp only [Act.put, List.setIfInBounds_toArray, List.set_cons_zero, List.set_cons_succ]
                refine wpAnyH_take (i := 27) (oi := { dst := some 158, op := Op.fieldAddr 30 (Operand.tmp 157) 2, type := 0, pos := "outright.go:159", after := #[{ on := 26, ground := Ground.data }, { on := 19, ground := Ground.guard }], guard := some (19, true) }) (v := .pointer (some ⟨g12, t * 3 + 2, none⟩)) rfl (by kernel_rfl) (by kernel_rfl) (by kernel_rfl) (fun _ _ _ h => h) (Or.inl ⟨by rfl, by intro w hSw; go_simp⟩) (by assumption) ?_
                simp only [Act.put, List.setIfInBounds_toArray, List.set_cons_zero, List.set_cons_succ]
                refine wpAnyH_take (i := 28) (oi := { dst := some 159, op := Op.load 3 (Operand.tmp 158), type := 3, pos := "outright.go:159", after := #[{ on := 27, ground := Ground.data }, { on := 19, ground := Ground.guard }], guard := some (19, true) }) (v := .int .i64 (C : Int)) rfl (by kernel_rfl) (by kernel_rfl) (by kernel_rfl) (fun _ _ _ h => h) (Or.inl ⟨by rfl, by intro w hSw; have hS0 := hSw.2.1; go_simp⟩) (by assumption) ?_
                simp only [Act.put, List.setIfInBounds_toArray, List.set_cons_zero, List.set_cons_succ]
                refine wpAnyH_take (i := 29) (oi := { dst := some 160, op := Op.binOp BinOp.neq 3 (Operand.tmp 154) (Operand.tmp 159) 3, type := 4, pos := "outright.go:159", after := #[{ on := 23, ground := Ground.data }, { on := 28, ground := Ground.data }, { on := 19, ground := Ground.guard }], guard := some (19, true) }) (v := .bool false) rfl (by kernel_rfl) (by kernel_rfl) (by kernel_rfl) (fun _ _ _ h => h) (Or.inl ⟨by rfl, by intro w hSw; go_simp⟩) (by assumption) ?_
                simp only [Act.put, List.setIfInBounds_toArray, List.set_cons_zero, List.set_cons_succ]
                refine wpAnyH_take (i := 30) (oi := { dst := some 161, op := Op.pick (Operand.tmp 150) (Operand.tmp 160) (Operand.const (Value.bool false)), type := 4, pos := "outright.go:159", after := #[{ on := 19, ground := Ground.data }, { on := 29, ground := Ground.data }, { on := 13, ground := Ground.guard }], guard := some (13, false) }) (v := .bool false) rfl (by kernel_rfl) (by kernel_rfl) (by kernel_rfl) (fun _ _ _ h => h) (Or.inl ⟨by rfl, by intro w hSw; go_simp⟩) (by assumption) ?_
                simp only [Act.put, List.setIfInBounds_toArray, List.set_cons_zero, List.set_cons_succ]
                refine wpAnyH_take (i := 31) (oi := { dst := some 162, op := Op.pick (Operand.tmp 144) (Operand.const (Value.bool true)) (Operand.tmp 161), type := 4, pos := "outright.go:159", after := #[{ on := 13, ground := Ground.data }, { on := 30, ground := Ground.data }], guard := none }) (v := .bool false) rfl (by kernel_rfl) (by kernel_rfl) (by kernel_rfl) (fun _ _ _ h => h) (Or.inl ⟨by rfl, by intro w hSw; go_simp⟩) (by assumption) ?_
                simp only [Act.put, List.setIfInBounds_toArray, List.set_cons_zero, List.set_cons_succ]
                refine wpAnyH_take (i := 32) (oi := { dst := some 163, op := Op.move (Operand.tmp 162), type := 4, pos := "outright.go:159", after := #[{ on := 31, ground := Ground.data }, { on := 19, ground := Ground.chain }], guard := none }) (v := .bool false) rfl (by kernel_rfl) (by kernel_rfl) (by kernel_rfl) (fun _ _ _ h => h) (Or.inl ⟨by rfl, by intro w hSw; go_simp⟩) (by assumption) ?_
                simp only [Act.put, List.setIfInBounds_toArray, List.set_cons_zero, List.set_cons_succ]
                refine wpAnyH_take (i := 33) (oi := { dst := some 164, op := Op.move (Operand.tmp 15), type := 3, pos := "outright.go:159", after := #[{ on := 32, ground := Ground.guard }], guard := some (32, false) }) (v := .int .i64 (t : Int)) rfl (by kernel_rfl) (by kernel_rfl) (by kernel_rfl) (fun _ _ _ h => h) (Or.inl ⟨by rfl, by intro w hSw; go_simp⟩) (by assumption) ?_
                simp only [Act.put, List.setIfInBounds_toArray, List.set_cons_zero, List.set_cons_succ]
                refine wpAnyH_take (i := 34) (oi := { dst := some 165, op := Op.binOp BinOp.eql 3 (Operand.tmp 164) (Operand.const (Value.int IntKind.i64 0)) 3, type := 4, pos := "outright.go:159", after := #[{ on := 33, ground := Ground.data }, { on := 32, ground := Ground.guard }], guard := some (32, false) }) (v := .bool false) rfl (by kernel_rfl) (by kernel_rfl) (by kernel_rfl) (fun _ _ _ h => h) (Or.inl ⟨by rfl, by intro w hSw; have hq := HT0.out; go_simp <;> omega⟩) (by assumption) ?_
                simp only [Act.put, List.setIfInBounds_toArray, List.set_cons_zero, List.set_cons_succ]
                refine wpAnyH_take (i := 35) (oi := { dst := some 166, op := Op.move (Operand.tmp 165), type := 4, pos := "outright.go:159", after := #[{ on := 34, ground := Ground.data }, { on := 32, ground := Ground.chain }, { on := 32, ground := Ground.guard }], guard := some (32, false) }) (v := .bool false) rfl (by kernel_rfl) (by kernel_rfl) (by kernel_rfl) (fun _ _ _ h => h) (Or.inl ⟨by rfl, by intro w hSw; go_simp⟩) (by assumption) ?_
                simp only [Act.put, List.setIfInBounds_toArray, List.set_cons_zero, List.set_cons_succ]
                refine wpAnyH_take (i := 36) (oi := { dst := some 167, op := Op.move (Operand.tmp 12), type := 25, pos := "outright.go:159", after := #[{ on := 35, ground := Ground.guard }], guard := some (35, true) }) (v := undef) rfl (by kernel_rfl) (by kernel_rfl) (by kernel_rfl) (fun _ _ _ h => h) (Or.inr ⟨by rfl, rfl⟩) (by assumption) ?_
                simp only [Act.put, List.setIfInBounds_toArray, List.set_cons_zero, List.set_cons_succ]
                refine wpAnyH_take (i := 37) (oi := { dst := some 168, op := Op.move (Operand.tmp 15), type := 3, pos := "outright.go:159", after := #[{ on := 35, ground := Ground.guard }], guard := some (35, true) }) (v := undef) rfl (by kernel_rfl) (by kernel_rfl) (by kernel_rfl) (fun _ _ _ h => h) (Or.inr ⟨by rfl, rfl⟩) (by assumption) ?_
                simp only [Act.put, List.setIfInBounds_toArray, List.set_cons_zero, List.set_cons_succ]
                refine wpAnyH_take (i := 38) (oi := { dst := some 169, op := Op.indexAddr 25 (Operand.tmp 167) (Operand.tmp 168), type := 0, pos := "outright.go:159", after := #[{ on := 36, ground := Ground.data }, { on := 37, ground := Ground.data }, { on := 35, ground := Ground.guard }], guard := some (35, true) }) (v := undef) rfl (by kernel_rfl) (by kernel_rfl) (by kernel_rfl) (fun _ _ _ h => h) (Or.inr ⟨by rfl, rfl⟩) (by assumption) ?_
                simp only [Act.put, List.setIfInBounds_toArray, List.set_cons_zero, List.set_cons_succ]
                refine wpAnyH_take (i := 39) (oi := { dst := some 170, op := Op.fieldAddr 30 (Operand.tmp 169) 2, type := 0, pos := "outright.go:159", after := #[{ on := 38, ground := Ground.data }, { on := 35, ground := Ground.guard }], guard := some (35, true) }) (v := undef) rfl (by kernel_rfl) (by kernel_rfl) (by kernel_rfl) (fun _ _ _ h => h) (Or.inr ⟨by rfl, rfl⟩) (by assumption) ?_
                simp only [Act.put, List.setIfInBounds_toArray, List.set_cons_zero, List.set_cons_succ]
                refine wpAnyH_take (i := 40) (oi := { dst := some 171, op := Op.load 3 (Operand.tmp 170), type := 3, pos := "outright.go:159", after := #[{ on := 39, ground := Ground.data }, { on := 35, ground := Ground.guard }], guard := some (35, true) }) (v := undef) rfl (by kernel_rfl) (by kernel_rfl) (by kernel_rfl) (fun _ _ _ h => h) (Or.inr ⟨by rfl, rfl⟩) (by assumption) ?_
                simp only [Act.put, List.setIfInBounds_toArray, List.set_cons_zero, List.set_cons_succ]
                refine wpAnyH_take (i := 41) (oi := { dst := some 172, op := Op.binOp BinOp.neq 3 (Operand.tmp 171) (Operand.const (Value.int IntKind.i64 1)) 3, type := 4, pos := "outright.go:159", after := #[{ on := 40, ground := Ground.data }, { on := 35, ground := Ground.guard }], guard := some (35, true) }) (v := undef) rfl (by kernel_rfl) (by kernel_rfl) (by kernel_rfl) (fun _ _ _ h => h) (Or.inr ⟨by rfl, rfl⟩) (by assumption) ?_
                simp only [Act.put, List.setIfInBounds_toArray, List.set_cons_zero, List.set_cons_succ]
                refine wpAnyH_take (i := 42) (oi := { dst := some 173, op := Op.pick (Operand.tmp 166) (Operand.tmp 172) (Operand.const (Value.bool false)), type := 4, pos := "outright.go:159", after := #[{ on := 35, ground := Ground.data }, { on := 41, ground := Ground.data }, { on := 32, ground := Ground.guard }], guard := some (32, false) }) (v := .bool false) rfl (by kernel_rfl) (by kernel_rfl) (by kernel_rfl) (fun _ _ _ h => h) (Or.inl ⟨by rfl, by intro w hSw; go_simp⟩) (by assumption) ?_
                simp only [Act.put, List.setIfInBounds_toArray, List.set_cons_zero, List.set_cons_succ]
                refine wpAnyH_take (i := 43) (oi := { dst := some 174, op := Op.pick (Operand.tmp 163) (Operand.const (Value.bool true)) (Operand.tmp 173), type := 4, pos := "outright.go:159", after := #[{ on := 32, ground := Ground.data }, { on := 42, ground := Ground.data }], guard := none }) (v := .bool false) rfl (by kernel_rfl) (by kernel_rfl) (by kernel_rfl) (fun _ _ _ h => h) (Or.inl ⟨by rfl, by intro w hSw; go_simp⟩) (by assumption) ?_
                simp only [Act.put, List.setIfInBounds_toArray, List.set_cons_zero, List.set_cons_succ]
                refine wpAnyH_done (by kernel_rfl) ?_ _
                go_wp2_with fail
                exact ⟨⟨t + 1, by omega, by go_num, HKP.out.1 _ HST.out.2, (HKP.out.2 _ HST.out.2 HST.out.1.b.below).1, (HKP.out.2 _ HST.out.2 HST.out.1.b.below).2, HST.out.1⟩, by simp [intOf]; omega⟩
            · rw [if_neg hold] at hb4
              have d5 := hb4
              rw [Int.natCast_zero] at d5 hb4
              by_cases ht0 : t = 0
              · have HT0 : Hid (t = 0) := hid ht0
                have HC1 : Hid (C = 1) := hid (HCT.out ht0)
                clear ht0 hold
                go_wp2_with fail
                refine wp_region_held_drew (S := fun w => w.cell? ⟨g12, t * 3, none⟩ = some (.string sx) ∧ w.cell? ⟨g12, t * 3 + 2, none⟩ = some (.int .i64 (C : Int)) ∧ w.cell? ⟨g3, k, none⟩ = some (.slice (some ⟨g1, 0, none⟩) m ci2) ∧ w.cell? ⟨g1, t, none⟩ = some (.string sx) ∧ w.cell? ⟨g4, t, none⟩ = some (.int .i64 0)) (by kernel_rfl) ⟨d1, d2, d3, d4, d5⟩ (fun hHeld => ?_)
                refine wpAnyH_take (i := 0) (oi := { dst := some 131, op := Op.move (Operand.tmp 12), type := 25, pos := "outright.go:159", after := #[], guard := none }) (v := .slice (some ⟨g12, 0, none⟩) m c12) rfl (by kernel_rfl) (by kernel_rfl) (by kernel_rfl) (fun _ _ _ h => h) (Or.inl ⟨by rfl, by intro w hSw; go_simp⟩) (by assumption) ?_
                simp only [Act.put, List.setIfInBounds_toArray, List.set_cons_zero, List.set_cons_succ]
                refine wpAnyH_take (i := 1) (oi := { dst := some 132, op := Op.move (Operand.tmp 15), type := 3, pos := "outright.go:159", after := #[], guard := none }) (v := .int .i64 (t : Int)) rfl (by kernel_rfl) (by kernel_rfl) (by kernel_rfl) (fun _ _ _ h => h) (Or.inl ⟨by rfl, by intro w hSw; go_simp⟩) (by assumption) ?_
                simp only [Act.put, List.setIfInBounds_toArray, List.set_cons_zero, List.set_cons_succ]
                refine wpAnyH_take (i := 2) (oi := { dst := some 133, op := Op.indexAddr 25 (Operand.tmp 131) (Operand.tmp 132), type := 0, pos := "outright.go:159", after := #[{ on := 0, ground := Ground.data }, { on := 1, ground := Ground.data }], guard := none }) (v := .pointer (some ⟨g12, t * 3, none⟩)) rfl (by kernel_rfl) (by kernel_rfl) (by kernel_rfl) (fun _ _ _ h => h) (Or.inl ⟨by rfl, by intro w hSw; go_simp⟩) (by assumption) ?_
                simp only [Act.put, List.setIfInBounds_toArray, List.set_cons_zero, List.set_cons_succ]
                refine wpAnyH_take (i := 3) (oi := { dst := some 134, op := Op.fieldAddr 30 (Operand.tmp 133) 0, type := 0, pos := "outright.go:159", after := #[{ on := 2, ground := Ground.data }], guard := none }) (v := .pointer (some ⟨g12, t * 3, none⟩)) rfl (by kernel_rfl) (by kernel_rfl) (by kernel_rfl) (fun _ _ _ h => h) (Or.inl ⟨by rfl, by intro w hSw; go_simp⟩) (by assumption) ?_
                simp only [Act.put, List.setIfInBounds_toArray, List.set_cons_zero, List.set_cons_succ]
                refine wpAnyH_take (i := 4) (oi := { dst := some 135, op := Op.load 9 (Operand.tmp 134), type := 9, pos := "outright.go:159", after := #[{ on := 3, ground := Ground.data }], guard := none }) (v := .string sx) rfl (by kernel_rfl) (by kernel_rfl) (by kernel_rfl) (fun _ _ _ h => h) (Or.inl ⟨by rfl, by intro w hSw; have hS0 := hSw.1; go_simp⟩) (by assumption) ?_
                simp only [Act.put, List.setIfInBounds_toArray, List.set_cons_zero, List.set_cons_succ]
                refine wpAnyH_take (i := 5) (oi := { dst := some 136, op := Op.move (Operand.tmp 3), type := 37, pos := "outright.go:159", after := #[], guard := none }) (v := .slice (some ⟨g3, 0, none⟩) n c3) rfl (by kernel_rfl) (by kernel_rfl) (by kernel_rfl) (fun _ _ _ h => h) (Or.inl ⟨by rfl, by intro w hSw; go_simp⟩) (by assumption) ?_
                simp only [Act.put, List.setIfInBounds_toArray, List.set_cons_zero, List.set_cons_succ]
                refine wpAnyH_take (i := 6) (oi := { dst := some 137, op := Op.move (Operand.tmp 11), type := 3, pos := "outright.go:159", after := #[], guard := none }) (v := .int .i64 (k : Int)) rfl (by kernel_rfl) (by kernel_rfl) (by kernel_rfl) (fun _ _ _ h => h) (Or.inl ⟨by rfl, by intro w hSw; go_simp⟩) (by assumption) ?_
                simp only [Act.put, List.setIfInBounds_toArray, List.set_cons_zero, List.set_cons_succ]
                refine wpAnyH_take (i := 7) (oi := { dst := some 138, op := Op.indexAddr 37 (Operand.tmp 136) (Operand.tmp 137), type := 0, pos := "outright.go:159", after := #[{ on := 5, ground := Ground.data }, { on := 6, ground := Ground.data }], guard := none }) (v := .pointer (some ⟨g3, k, none⟩)) rfl (by kernel_rfl) (by kernel_rfl) (by kernel_rfl) (fun _ _ _ h => h) (Or.inl ⟨by rfl, by intro w hSw; go_simp⟩) (by assumption) ?_
                simp only [Act.put, List.setIfInBounds_toArray, List.set_cons_zero, List.set_cons_succ]
                refine wpAnyH_take (i := 8) (oi := { dst := some 139, op := Op.load 39 (Operand.tmp 138), type := 39, pos := "outright.go:159", after := #[{ on := 7, ground := Ground.data }], guard := none }) (v := .slice (some ⟨g1, 0, none⟩) m ci2) rfl (by kernel_rfl) (by kernel_rfl) (by kernel_rfl) (fun _ _ _ h => h) (Or.inl ⟨by rfl, by intro w hSw; have hS0 := hSw.2.2.1; go_simp⟩) (by assumption) ?_
                simp only [Act.put, List.setIfInBounds_toArray, List.set_cons_zero, List.set_cons_succ]
                refine wpAnyH_take (i := 9) (oi := { dst := some 140, op := Op.move (Operand.tmp 15), type := 3, pos := "outright.go:159", after := #[], guard := none }) (v := .int .i64 (t : Int)) rfl (by kernel_rfl) (by kernel_rfl) (by kernel_rfl) (fun _ _ _ h => h) (Or.inl ⟨by rfl, by intro w hSw; go_simp⟩) (by assumption) ?_
                simp only [Act.put, List.setIfInBounds_toArray, List.set_cons_zero, List.set_cons_succ]
                refine wpAnyH_take (i := 10) (oi := { dst := some 141, op := Op.indexAddr 39 (Operand.tmp 139) (Operand.tmp 140), type := 0, pos := "outright.go:159", after := #[{ on := 8, ground := Ground.data }, { on := 9, ground := Ground.data }], guard := none }) (v := .pointer (some ⟨g1, t, none⟩)) rfl (by kernel_rfl) (by kernel_rfl) (by kernel_rfl) (fun _ _ _ h => h) (Or.inl ⟨by rfl, by intro w hSw; go_simp⟩) (by assumption) ?_
                simp only [Act.put, List.setIfInBounds_toArray, List.set_cons_zero, List.set_cons_succ]
                refine wpAnyH_take (i := 11) (oi := { dst := some 142, op := Op.load 9 (Operand.tmp 141), type := 9, pos := "outright.go:159", after := #[{ on := 10, ground := Ground.data }], guard := none }) (v := .string sx) rfl (by kernel_rfl) (by kernel_rfl) (by kernel_rfl) (fun _ _ _ h => h) (Or.inl ⟨by rfl, by intro w hSw; have hS0 := hSw.2.2.2.1; go_simp⟩) (by assumption) ?_
                simp only [Act.put, List.setIfInBounds_toArray, List.set_cons_zero, List.set_cons_succ]
                refine wpAnyH_take (i := 12) (oi := { dst := some 143, op := Op.binOp BinOp.neq 9 (Operand.tmp 135) (Operand.tmp 142) 9, type := 4, pos := "outright.go:159", after := #[{ on := 4, ground := Ground.data }, { on := 11, ground := Ground.data }], guard := none }) (v := .bool false) rfl (by kernel_rfl) (by kernel_rfl) (by kernel_rfl) (fun _ _ _ h => h) (Or.inl ⟨by rfl, by intro w hSw; go_simp⟩) (by assumption) ?_
                simp only [Act.put, List.setIfInBounds_toArray, List.set_cons_zero, List.set_cons_succ]
                refine wpAnyH_take (i := 13) (oi := { dst := some 144, op := Op.move (Operand.tmp 143), type := 4, pos := "outright.go:159", after := #[{ on := 12, ground := Ground.data }], guard := none }) (v := .bool false) rfl (by kernel_rfl) (by kernel_rfl) (by kernel_rfl) (fun _ _ _ h => h) (Or.inl ⟨by rfl, by intro w hSw; go_simp⟩) (by assumption) ?_
                simp only [Act.put, List.setIfInBounds_toArray, List.set_cons_zero, List.set_cons_succ]
                refine wpAnyH_take (i := 14) (oi := { dst := some 145, op := Op.move (Operand.tmp 4), type := 38, pos := "outright.go:159", after := #[{ on := 13, ground := Ground.guard }], guard := some (13, false) }) (v := .slice (some ⟨g4, 0, none⟩) N c4) rfl (by kernel_rfl) (by kernel_rfl) (by kernel_rfl) (fun _ _ _ h => h) (Or.inl ⟨by rfl, by intro w hSw; go_simp⟩) (by assumption) ?_
                simp only [Act.put, List.setIfInBounds_toArray, List.set_cons_zero, List.set_cons_succ]
                refine wpAnyH_take (i := 15) (oi := { dst := some 146, op := Op.move (Operand.tmp 15), type := 3, pos := "outright.go:159", after := #[{ on := 13, ground := Ground.guard }], guard := some (13, false) }) (v := .int .i64 (t : Int)) rfl (by kernel_rfl) (by kernel_rfl) (by kernel_rfl) (fun _ _ _ h => h) (Or.inl ⟨by rfl, by intro w hSw; go_simp⟩) (by assumption) ?_
                simp only [Act.put, List.setIfInBounds_toArray, List.set_cons_zero, List.set_cons_succ]
                refine wpAnyH_take (i := 16) (oi := { dst := some 147, op := Op.indexAddr 38 (Operand.tmp 145) (Operand.tmp 146), type := 0, pos := "outright.go:159", after := #[{ on := 14, ground := Ground.data }, { on := 15, ground := Ground.data }, { on := 13, ground := Ground.guard }], guard := some (13, false) }) (v := .pointer (some ⟨g4, t, none⟩)) rfl (by kernel_rfl) (by kernel_rfl) (by kernel_rfl) (fun _ _ _ h => h) (Or.inl ⟨by rfl, by intro w hSw; go_simp⟩) (by assumption) ?_
                simp only [Act.put, List.setIfInBounds_toArray, List.set_cons_zero, List.set_cons_succ]
                refine wpAnyH_take (i := 17) (oi := { dst := some 148, op := Op.load 3 (Operand.tmp 147), type := 3, pos := "outright.go:159", after := #[{ on := 16, ground := Ground.data }, { on := 13, ground := Ground.guard }], guard := some (13, false) }) (v := .int .i64 0) rfl (by kernel_rfl) (by kernel_rfl) (by kernel_rfl) (fun _ _ _ h => h) (Or.inl ⟨by rfl, by intro w hSw; have hS0 := hSw.2.2.2.2; go_simp⟩) (by assumption) ?_
                simp only [Act.put, List.setIfInBounds_toArray, List.set_cons_zero, List.set_cons_succ]
                refine wpAnyH_take (i := 18) (oi := { dst := some 149, op := Op.binOp BinOp.neq 3 (Operand.tmp 148) (Operand.const (Value.int IntKind.i64 0)) 3, type := 4, pos := "outright.go:159", after := #[{ on := 17, ground := Ground.data }, { on := 13, ground := Ground.guard }], guard := some (13, false) }) (v := .bool false) rfl (by kernel_rfl) (by kernel_rfl) (by kernel_rfl) (fun _ _ _ h => h) (Or.inl ⟨by rfl, by intro w hSw; go_simp⟩) (by assumption) ?_
                simp only [Act.put, List.setIfInBounds_toArray, List.set_cons_zero, List.set_cons_succ]
                refine wpAnyH_take (i := 19) (oi := { dst := some 150, op := Op.move (Operand.tmp 149), type := 4, pos := "outright.go:159", after := #[{ on := 18, ground := Ground.data }, { on := 13, ground := Ground.chain }, { on := 13, ground := Ground.guard }], guard := some (13, false) }) (v := .bool false) rfl (by kernel_rfl) (by kernel_rfl) (by kernel_rfl) (fun _ _ _ h => h) (Or.inl ⟨by rfl, by intro w hSw; go_simp⟩) (by assumption) ?_
                simp only [Act.put, List.setIfInBounds_toArray, List.set_cons_zero, List.set_cons_succ]
                refine wpAnyH_take (i := 20) (oi := { dst := some 151, op := Op.move (Operand.tmp 4), type := 38, pos := "outright.go:159", after := #[{ on := 19, ground := Ground.guard }], guard := some (19, true) }) (v := undef) rfl (by kernel_rfl) (by kernel_rfl) (by kernel_rfl) (fun _ _ _ h => h) (Or.inr ⟨by rfl, rfl⟩) (by assumption) ?_
                simp only [Act.put, List.setIfInBounds_toArray, List.set_cons_zero, List.set_cons_succ]
                refine wpAnyH_take (i := 21) (oi := { dst := some 152, op := Op.move (Operand.tmp 15), type := 3, pos := "outright.go:159", after := #[{ on := 19, ground := Ground.guard }], guard := some (19, true) }) (v := undef) rfl (by kernel_rfl) (by kernel_rfl) (by kernel_rfl) (fun _ _ _ h => h) (Or.inr ⟨by rfl, rfl⟩) (by assumption) ?_
                simp only [Act.put, List.setIfInBounds_toArray, List.set_cons_zero, List.set_cons_succ]
                refine wpAnyH_take (i := 22) (oi := { dst := some 153, op := Op.indexAddr 38 (Operand.tmp 151) (Operand.tmp 152), type := 0, pos := "outright.go:159", after := #[{ on := 20, ground := Ground.data }, { on := 21, ground := Ground.data }, { on := 19, ground := Ground.guard }], guard := some (19, true) }) (v := undef) rfl (by kernel_rfl) (by kernel_rfl) (by kernel_rfl) (fun _ _ _ h => h) (Or.inr ⟨by rfl, rfl⟩) (by assumption) ?_
                simp only [Act.put, List.setIfInBounds_toArray, List.set_cons_zero, List.set_cons_succ]
                refine wpAnyH_take (i := 23) (oi := { dst := some 154, op := Op.load 3 (Operand.tmp 153), type := 3, pos := "outright.go:159", after := #[{ on := 22, ground := Ground.data }, { on := 19, ground := Ground.guard }], guard := some (19, true) }) (v := undef) rfl (by kernel_rfl) (by kernel_rfl) (by kernel_rfl) (fun _ _ _ h => h) (Or.inr ⟨by rfl, rfl⟩) (by assumption) ?_
                simp only [Act.put, List.setIfInBounds_toArray, List.set_cons_zero, List.set_cons_succ]
                refine wpAnyH_take (i := 24) (oi := { dst := some 155, op := Op.move (Operand.tmp 12), type := 25, pos := "outright.go:159", after := #[{ on := 19, ground := Ground.guard }], guard := some (19, true) }) (v := undef) rfl (by kernel_rfl) (by kernel_rfl) (by kernel_rfl) (fun _ _ _ h => h) (Or.inr ⟨by rfl, rfl⟩) (by assumption) ?_
                simp only [Act.put, List.setIfInBounds_toArray, List.set_cons_zero, List.set_cons_succ]
                refine wpAnyH_take (i := 25) (oi := { dst := some 156, op := Op.move (Operand.tmp 15), type := 3, pos := "outright.go:159", after := #[{ on := 19, ground := Ground.guard }], guard := some (19, true) }) (v := undef) rfl (by kernel_rfl) (by kernel_rfl) (by kernel_rfl) (fun _ _ _ h => h) (Or.inr ⟨by rfl, rfl⟩) (by assumption) ?_
                simp only [Act.put, List.setIfInBounds_toArray, List.set_cons_zero, List.set_cons_succ]
                refine wpAnyH_take (i := 26) (oi := { dst := some 157, op := Op.indexAddr 25 (Operand.tmp 155) (Operand.tmp 156), type := 0, pos := "outright.go:159", after := #[{ on := 24, ground := Ground.data }, { on := 25, ground := Ground.data }, { on := 19, ground := Ground.guard }], guard := some (19, true) }) (v := undef) rfl (by kernel_rfl) (by kernel_rfl) (by kernel_rfl) (fun _ _ _ h => h) (Or.inr ⟨by rfl, rfl⟩) (by assumption) ?_
                simp only [Act.put, List.setIfInBounds_toArray, List.set_cons_zero, List.set_cons_succ]
                refine wpAnyH_take (i := 27) (oi := { dst := some 158, op := Op.fieldAddr 30 (Operand.tmp 157) 2, type := 0, pos := "outright.go:159", after := #[{ on := 26, ground := Ground.data }, { on := 19, ground := Ground.guard }], guard := some (19, true) }) (v := undef) rfl (by kernel_rfl) (by kernel_rfl) (by kernel_rfl) (fun _ _ _ h => h) (Or.inr ⟨by rfl, rfl⟩) (by assumption) ?_
                simp only [Act.put, List.setIfInBounds_toArray, List.set_cons_zero, List.set_cons_succ]
                refine wpAnyH_take (i := 28) (oi := { dst := some 159, op := Op.load 3 (Operand.tmp 158), type := 3, pos := "outright.go:159", after := #[{ on := 27, ground := Ground.data }, { on := 19, ground := Ground.guard }], guard := some (19, true) }) (v := undef) rfl (by kernel_rfl) (by kernel_rfl) (by kernel_rfl) (fun _ _ _ h => h) (Or.inr ⟨by rfl, rfl⟩) (by assumption) ?_
                simp only [Act.put, List.setIfInBounds_toArray, List.set_cons_zero, List.set_cons_succ]
                refine wpAnyH_take (i := 29) (oi := { dst := some 160, op := Op.binOp BinOp.neq 3 (Operand.tmp 154) (Operand.tmp 159) 3, type := 4, pos := "outright.go:159", after := #[{ on := 23, ground := Ground.data }, { on := 28, ground := Ground.data }, { on := 19, ground := Ground.guard }], guard := some (19, true) }) (v := undef) rfl (by kernel_rfl) (by kernel_rfl) (by kernel_rfl) (fun _ _ _ h => h) (Or.inr ⟨by rfl, rfl⟩) (by assumption) ?_
                simp only [Act.put, List.setIfInBounds_toArray, List.set_cons_zero, List.set_cons_succ]
                refine wpAnyH_take (i := 30) (oi := { dst := some 161, op := Op.pick (Operand.tmp 150) (Operand.tmp 160) (Operand.const (Value.bool false)), type := 4, pos := "outright.go:159", after := #[{ on := 19, ground := Ground.data }, { on := 29, ground := Ground.data }, { on := 13, ground := Ground.guard }], guard := some (13, false) }) (v := .bool false) rfl (by kernel_rfl) (by kernel_rfl) (by kernel_rfl) (fun _ _ _ h => h) (Or.inl ⟨by rfl, by intro w hSw; go_simp⟩) (by assumption) ?_
                simp only [Act.put, List.setIfInBounds_toArray, List.set_cons_zero, List.set_cons_succ]
                refine wpAnyH_take (i := 31) (oi := { dst := some 162, op := Op.pick (Operand.tmp 144) (Operand.const (Value.bool true)) (Operand.tmp 161), type := 4, pos := "outright.go:159", after := #[{ on := 13, ground := Ground.data }, { on := 30, ground := Ground.data }], guard := none }) (v := .bool false) rfl (by kernel_rfl) (by kernel_rfl) (by kernel_rfl) (fun _ _ _ h => h) (Or.inl ⟨by rfl, by intro w hSw; go_simp⟩) (by assumption) ?_
                simp only [Act.put, List.setIfInBounds_toArray, List.set_cons_zero, List.set_cons_succ]
                refine wpAnyH_take (i := 32) (oi := { dst := some 163, op := Op.move (Operand.tmp 162), type := 4, pos := "outright.go:159", after := #[{ on := 31, ground := Ground.data }, { on := 19, ground := Ground.chain }], guard := none }) (v := .bool false) rfl (by kernel_rfl) (by kernel_rfl) (by kernel_rfl) (fun _ _ _ h => h) (Or.inl ⟨by rfl, by intro w hSw; go_simp⟩) (by assumption) ?_
                simp only [Act.put, List.setIfInBounds_toArray, List.set_cons_zero, List.set_cons_succ]
                refine wpAnyH_take (i := 33) (oi := { dst := some 164, op := Op.move (Operand.tmp 15), type := 3, pos := "outright.go:159", after := #[{ on := 32, ground := Ground.guard }], guard := some (32, false) }) (v := .int .i64 (t : Int)) rfl (by kernel_rfl) (by kernel_rfl) (by kernel_rfl) (fun _ _ _ h => h) (Or.inl ⟨by rfl, by intro w hSw; go_simp⟩) (by assumption) ?_
                simp only [Act.put, List.setIfInBounds_toArray, List.set_cons_zero, List.set_cons_succ]
                refine wpAnyH_take (i := 34) (oi := { dst := some 165, op := Op.binOp BinOp.eql 3 (Operand.tmp 164) (Operand.const (Value.int IntKind.i64 0)) 3, type := 4, pos := "outright.go:159", after := #[{ on := 33, ground := Ground.data }, { on := 32, ground := Ground.guard }], guard := some (32, false) }) (v := .bool true) rfl (by kernel_rfl) (by kernel_rfl) (by kernel_rfl) (fun _ _ _ h => h) (Or.inl ⟨by rfl, by intro w hSw; have hq := HT0.out; go_simp <;> omega⟩) (by assumption) ?_
                simp only [Act.put, List.setIfInBounds_toArray, List.set_cons_zero, List.set_cons_succ]
                refine wpAnyH_take (i := 35) (oi := { dst := some 166, op := Op.move (Operand.tmp 165), type := 4, pos := "outright.go:159", after := #[{ on := 34, ground := Ground.data }, { on := 32, ground := Ground.chain }, { on := 32, ground := Ground.guard }], guard := some (32, false) }) (v := .bool true) rfl (by kernel_rfl) (by kernel_rfl) (by kernel_rfl) (fun _ _ _ h => h) (Or.inl ⟨by rfl, by intro w hSw; go_simp⟩) (by assumption) ?_
                simp only [Act.put, List.setIfInBounds_toArray, List.set_cons_zero, List.set_cons_succ]
                refine wpAnyH_take (i := 36) (oi := { dst := some 167, op := Op.move (Operand.tmp 12), type := 25, pos := "outright.go:159", after := #[{ on := 35, ground := Ground.guard }], guard := some (35, true) }) (v := .slice (some ⟨g12, 0, none⟩) m c12) rfl (by kernel_rfl) (by kernel_rfl) (by kernel_rfl) (fun _ _ _ h => h) (Or.inl ⟨by rfl, by intro w hSw; go_simp⟩) (by assumption) ?_
                simp only [Act.put, List.setIfInBounds_toArray, List.set_cons_zero, List.set_cons_succ]
                refine wpAnyH_take (i := 37) (oi := { dst := some 168, op := Op.move (Operand.tmp 15), type := 3, pos := "outright.go:159", after := #[{ on := 35, ground := Ground.guard }], guard := some (35, true) }) (v := .int .i64 (t : Int)) rfl (by kernel_rfl) (by kernel_rfl) (by kernel_rfl) (fun _ _ _ h => h) (Or.inl ⟨by rfl, by intro w hSw; go_simp⟩) (by assumption) ?_
                simp only [Act.put, List.setIfInBounds_toArray, List.set_cons_zero, List.set_cons_succ]
                refine wpAnyH_take (i := 38) (oi := { dst := some 169, op := Op.indexAddr 25 (Operand.tmp 167) (Operand.tmp 168), type := 0, pos := "outright.go:159", after := #[{ on := 36, ground := Ground.data }, { on := 37, ground := Ground.data }, { on := 35, ground := Ground.guard }], guard := some (35, true) }) (v := .pointer (some ⟨g12, t * 3, none⟩)) rfl (by kernel_rfl) (by kernel_rfl) (by kernel_rfl) (fun _ _ _ h => h) (Or.inl ⟨by rfl, by intro w hSw; go_simp⟩) (by assumption) ?_
                simp only [Act.put, List.setIfInBounds_toArray, List.set_cons_zero, List.set_cons_succ]
                refine wpAnyH_take (i := 39) (oi := { dst := some 170, op := Op.fieldAddr 30 (Operand.tmp 169) 2, type := 0, pos := "outright.go:159", after := #[{ on := 38, ground := Ground.data }, { on := 35, ground := Ground.guard }], guard := some (35, true) }) (v := .pointer (some ⟨g12, t * 3 + 2, none⟩)) rfl (by kernel_rfl) (by kernel_rfl) (by kernel_rfl) (fun _ _ _ h => h) (Or.inl ⟨by rfl, by intro w hSw; go_simp⟩) (by assumption) ?_
                simp only [Act.put, List.setIfInBounds_toArray, List.set_cons_zero, List.set_cons_succ]
                refine wpAnyH_take (i := 40) (oi := { dst := some 171, op := Op.load 3 (Operand.tmp 170), type := 3, pos := "outright.go:159", after := #[{ on := 39, ground := Ground.data }, { on := 35, ground := Ground.guard }], guard := some (35, true) }) (v := .int .i64 (C : Int)) rfl (by kernel_rfl) (by kernel_rfl) (by kernel_rfl) (fun _ _ _ h => h) (Or.inl ⟨by rfl, by intro w hSw; have hS0 := hSw.2.1; go_simp⟩) (by assumption) ?_
                simp only [Act.put, List.setIfInBounds_toArray, List.set_cons_zero, List.set_cons_succ]
                refine wpAnyH_take (i := 41) (oi := { dst := some 172, op := Op.binOp BinOp.neq 3 (Operand.tmp 171) (Operand.const (Value.int IntKind.i64 1)) 3, type := 4, pos := "outright.go:159", after := #[{ on := 40, ground := Ground.data }, { on := 35, ground := Ground.guard }], guard := some (35, true) }) (v := .bool false) rfl (by kernel_rfl) (by kernel_rfl) (by kernel_rfl) (fun _ _ _ h => h) (Or.inl ⟨by rfl, by intro w hSw; have hq := HC1.out; go_simp <;> omega⟩) (by assumption) ?_
                simp only [Act.put, List.setIfInBounds_toArray, List.set_cons_zero, List.set_cons_succ]
                refine wpAnyH_take (i := 42) (oi := { dst := some 173, op := Op.pick (Operand.tmp 166) (Operand.tmp 172) (Operand.const (Value.bool false)), type := 4, pos := "outright.go:159", after := #[{ on := 35, ground := Ground.data }, { on := 41, ground := Ground.data }, { on := 32, ground := Ground.guard }], guard := some (32, false) }) (v := .bool false) rfl (by kernel_rfl) (by kernel_rfl) (by kernel_rfl) (fun _ _ _ h => h) (Or.inl ⟨by rfl, by intro w hSw; go_simp⟩) (by assumption) ?_
                simp only [Act.put, List.setIfInBounds_toArray, List.set_cons_zero, List.set_cons_succ]
                refine wpAnyH_take (i := 43) (oi := { dst := some 174, op := Op.pick (Operand.tmp 163) (Operand.const (Value.bool true)) (Operand.tmp 173), type := 4, pos := "outright.go:159", after := #[{ on := 32, ground := Ground.data }, { on := 42, ground := Ground.data }], guard := none }) (v := .bool false) rfl (by kernel_rfl) (by kernel_rfl) (by kernel_rfl) (fun _ _ _ h => h) (Or.inl ⟨by rfl, by intro w hSw; go_simp⟩) (by assumption) ?_
                simp only [Act.put, List.setIfInBounds_toArray, List.set_cons_zero, List.set_cons_succ]
                refine wpAnyH_done (by kernel_rfl) ?_ _
                go_wp2_with fail
                exact ⟨⟨t + 1, by omega, by go_num, HKP.out.1 _ HST.out.2, (HKP.out.2 _ HST.out.2 HST.out.1.b.below).1, (HKP.out.2 _ HST.out.2 HST.out.1.b.below).2, HST.out.1⟩, by simp [intOf]; omega⟩
              · have HT0 : Hid (t ≠ 0) := hid ht0
                clear ht0 hold
                go_wp2_with fail
                refine wp_region_held_drew (S := fun w => w.cell? ⟨g12, t * 3, none⟩ = some (.string sx) ∧ w.cell? ⟨g12, t * 3 + 2, none⟩ = some (.int .i64 (C : Int)) ∧ w.cell? ⟨g3, k, none⟩ = some (.slice (some ⟨g1, 0, none⟩) m ci2) ∧ w.cell? ⟨g1, t, none⟩ = some (.string sx) ∧ w.cell? ⟨g4, t, none⟩ = some (.int .i64 0)) (by kernel_rfl) ⟨d1, d2, d3, d4, d5⟩ (fun hHeld => ?_)
                refine wpAnyH_take (i := 0) (oi := { dst := some 131, op := Op.move (Operand.tmp 12), type := 25, pos := "outright.go:159", after := #[], guard := none }) (v := .slice (some ⟨g12, 0, none⟩) m c12) rfl (by kernel_rfl) (by kernel_rfl) (by kernel_rfl) (fun _ _ _ h => h) (Or.inl ⟨by rfl, by intro w hSw; go_simp⟩) (by assumption) ?_
                simp only [Act.put, List.setIfInBounds_toArray, List.set_cons_zero, List.set_cons_succ]
                refine wpAnyH_take (i := 1) (oi := { dst := some 132, op := Op.move (Operand.tmp 15), type := 3, pos := "outright.go:159", after := #[], guard := none }) (v := .int .i64 (t : Int)) rfl (by kernel_rfl) (by kernel_rfl) (by kernel_rfl) (fun _ _ _ h => h) (Or.inl ⟨by rfl, by intro w hSw; go_simp⟩) (by assumption) ?_
                simp only [Act.put, List.setIfInBounds_toArray, List.set_cons_zero, List.set_cons_succ]
                refine wpAnyH_take (i := 2) (oi := { dst := some 133, op := Op.indexAddr 25 (Operand.tmp 131) (Operand.tmp 132), type := 0, pos := "outright.go:159", after := #[{ on := 0, ground := Ground.data }, { on := 1, ground := Ground.data }], guard := none }) (v := .pointer (some ⟨g12, t * 3, none⟩)) rfl (by kernel_rfl) (by kernel_rfl) (by kernel_rfl) (fun _ _ _ h => h) (Or.inl ⟨by rfl, by intro w hSw; go_simp⟩) (by assumption) ?_
                simp only [Act.put, List.setIfInBounds_toArray, List.set_cons_zero, List.set_cons_succ]
                refine wpAnyH_take (i := 3) (oi := { dst := some 134, op := Op.fieldAddr 30 (Operand.tmp 133) 0, type := 0, pos := "outright.go:159", after := #[{ on := 2, ground := Ground.data }], guard := none }) (v := .pointer (some ⟨g12, t * 3, none⟩)) rfl (by kernel_rfl) (by kernel_rfl) (by kernel_rfl) (fun _ _ _ h => h) (Or.inl ⟨by rfl, by intro w hSw; go_simp⟩) (by assumption) ?_
                simp only [Act.put, List.setIfInBounds_toArray, List.set_cons_zero, List.set_cons_succ]
                refine wpAnyH_take (i := 4) (oi := { dst := some 135, op := Op.load 9 (Operand.tmp 134), type := 9, pos := "outright.go:159", after := #[{ on := 3, ground := Ground.data }], guard := none }) (v := .string sx) rfl (by kernel_rfl) (by kernel_rfl) (by kernel_rfl) (fun _ _ _ h => h) (Or.inl ⟨by rfl, by intro w hSw; have hS0 := hSw.1; go_simp⟩) (by assumption) ?_
                simp only [Act.put, List.setIfInBounds_toArray, List.set_cons_zero, List.set_cons_succ]
                refine wpAnyH_take (i := 5) (oi := { dst := some 136, op := Op.move (Operand.tmp 3), type := 37, pos := "outright.go:159", after := #[], guard := none }) (v := .slice (some ⟨g3, 0, none⟩) n c3) rfl (by kernel_rfl) (by kernel_rfl) (by kernel_rfl) (fun _ _ _ h => h) (Or.inl ⟨by rfl, by intro w hSw; go_simp⟩) (by assumption) ?_
                simp only [Act.put, List.setIfInBounds_toArray, List.set_cons_zero, List.set_cons_succ]
                refine wpAnyH_take (i := 6) (oi := { dst := some 137, op := Op.move (Operand.tmp 11), type := 3, pos := "outright.go:159", after := #[], guard := none }) (v := .int .i64 (k : Int)) rfl (by kernel_rfl) (by kernel_rfl) (by kernel_rfl) (fun _ _ _ h => h) (Or.inl ⟨by rfl, by intro w hSw; go_simp⟩) (by assumption) ?_
                simp only [Act.put, List.setIfInBounds_toArray, List.set_cons_zero, List.set_cons_succ]
                refine wpAnyH_take (i := 7) (oi := { dst := some 138, op := Op.indexAddr 37 (Operand.tmp 136) (Operand.tmp 137), type := 0, pos := "outright.go:159", after := #[{ on := 5, ground := Ground.data }, { on := 6, ground := Ground.data }], guard := none }) (v := .pointer (some ⟨g3, k, none⟩)) rfl (by kernel_rfl) (by kernel_rfl) (by kernel_rfl) (fun _ _ _ h => h) (Or.inl ⟨by rfl, by intro w hSw; go_simp⟩) (by assumption) ?_
                simp only [Act.put, List.setIfInBounds_toArray, List.set_cons_zero, List.set_cons_succ]
                refine wpAnyH_take (i := 8) (oi := { dst := some 139, op := Op.load 39 (Operand.tmp 138), type := 39, pos := "outright.go:159", after := #[{ on := 7, ground := Ground.data }], guard := none }) (v := .slice (some ⟨g1, 0, none⟩) m ci2) rfl (by kernel_rfl) (by kernel_rfl) (by kernel_rfl) (fun _ _ _ h => h) (Or.inl ⟨by rfl, by intro w hSw; have hS0 := hSw.2.2.1; go_simp⟩) (by assumption) ?_
                simp only [Act.put, List.setIfInBounds_toArray, List.set_cons_zero, List.set_cons_succ]
                refine wpAnyH_take (i := 9) (oi := { dst := some 140, op := Op.move (Operand.tmp 15), type := 3, pos := "outright.go:159", after := #[], guard := none }) (v := .int .i64 (t : Int)) rfl (by kernel_rfl) (by kernel_rfl) (by kernel_rfl) (fun _ _ _ h => h) (Or.inl ⟨by rfl, by intro w hSw; go_simp⟩) (by assumption) ?_
                simp only [Act.put, List.setIfInBounds_toArray, List.set_cons_zero, List.set_cons_succ]
                refine wpAnyH_take (i := 10) (oi := { dst := some 141, op := Op.indexAddr 39 (Operand.tmp 139) (Operand.tmp 140), type := 0, pos := "outright.go:159", after := #[{ on := 8, ground := Ground.data }, { on := 9, ground := Ground.data }], guard := none }) (v := .pointer (some ⟨g1, t, none⟩)) rfl (by kernel_rfl) (by kernel_rfl) (by kernel_rfl) (fun _ _ _ h => h) (Or.inl ⟨by rfl, by intro w hSw; go_simp⟩) (by assumption) ?_
                simp only [Act.put, List.setIfInBounds_toArray, List.set_cons_zero, List.set_cons_succ]
                refine wpAnyH_take (i := 11) (oi := { dst := some 142, op := Op.load 9 (Operand.tmp 141), type := 9, pos := "outright.go:159", after := #[{ on := 10, ground := Ground.data }], guard := none }) (v := .string sx) rfl (by kernel_rfl) (by kernel_rfl) (by kernel_rfl) (fun _ _ _ h => h) (Or.inl ⟨by rfl, by intro w hSw; have hS0 := hSw.2.2.2.1; go_simp⟩) (by assumption) ?_
                simp only [Act.put, List.setIfInBounds_toArray, List.set_cons_zero, List.set_cons_succ]
                refine wpAnyH_take (i := 12) (oi := { dst := some 143, op := Op.binOp BinOp.neq 9 (Operand.tmp 135) (Operand.tmp 142) 9, type := 4, pos := "outright.go:159", after := #[{ on := 4, ground := Ground.data }, { on := 11, ground := Ground.data }], guard := none }) (v := .bool false) rfl (by kernel_rfl) (by kernel_rfl) (by kernel_rfl) (fun _ _ _ h => h) (Or.inl ⟨by rfl, by intro w hSw; go_simp⟩) (by assumption) ?_
                simp only [Act.put, List.setIfInBounds_toArray, List.set_cons_zero, List.set_cons_succ]
                refine wpAnyH_take (i := 13) (oi := { dst := some 144, op := Op.move (Operand.tmp 143), type := 4, pos := "outright.go:159", after := #[{ on := 12, ground := Ground.data }], guard := none }) (v := .bool false) rfl (by kernel_rfl) (by kernel_rfl) (by kernel_rfl) (fun _ _ _ h => h) (Or.inl ⟨by rfl, by intro w hSw; go_simp⟩) (by assumption) ?_
                simp only [Act.put, List.setIfInBounds_toArray, List.set_cons_zero, List.set_cons_succ]
                refine wpAnyH_take (i := 14) (oi := { dst := some 145, op := Op.move (Operand.tmp 4), type := 38, pos := "outright.go:159", after := #[{ on := 13, ground := Ground.guard }], guard := some (13, false) }) (v := .slice (some ⟨g4, 0, none⟩) N c4) rfl (by kernel_rfl) (by kernel_rfl) (by kernel_rfl) (fun _ _ _ h => h) (Or.inl ⟨by rfl, by intro w hSw; go_simp⟩) (by assumption) ?_
                simp only [Act.put, List.setIfInBounds_toArray, List.set_cons_zero, List.set_cons_succ]
                refine wpAnyH_take (i := 15) (oi := { dst := some 146, op := Op.move (Operand.tmp 15), type := 3, pos := "outright.go:159", after := #[{ on := 13, ground := Ground.guard }], guard := some (13, false) }) (v := .int .i64 (t : Int)) rfl (by kernel_rfl) (by kernel_rfl) (by kernel_rfl) (fun _ _ _ h => h) (Or.inl ⟨by rfl, by intro w hSw; go_simp⟩) (by assumption) ?_
                simp only [Act.put, List.setIfInBounds_toArray, List.set_cons_zero, List.set_cons_succ]
                refine wpAnyH_take (i := 16) (oi := { dst := some 147, op := Op.indexAddr 38 (Operand.tmp 145) (Operand.tmp 146), type := 0, pos := "outright.go:159", after := #[{ on := 14, ground := Ground.data }, { on := 15, ground := Ground.data }, { on := 13, ground := Ground.guard }], guard := some (13, false) }) (v := .pointer (some ⟨g4, t, none⟩)) rfl (by kernel_rfl) (by kernel_rfl) (by kernel_rfl) (fun _ _ _ h => h) (Or.inl ⟨by rfl, by intro w hSw; go_simp⟩) (by assumption) ?_
                simp only [Act.put, List.setIfInBounds_toArray, List.set_cons_zero, List.set_cons_succ]
                refine wpAnyH_take (i := 17) (oi := { dst := some 148, op := Op.load 3 (Operand.tmp 147), type := 3, pos := "outright.go:159", after := #[{ on := 16, ground := Ground.data }, { on := 13, ground := Ground.guard }], guard := some (13, false) }) (v := .int .i64 0) rfl (by kernel_rfl) (by kernel_rfl) (by kernel_rfl) (fun _ _ _ h => h) (Or.inl ⟨by rfl, by intro w hSw; have hS0 := hSw.2.2.2.2; go_simp⟩) (by assumption) ?_
                simp only [Act.put, List.setIfInBounds_toArray, List.set_cons_zero, List.set_cons_succ]
                refine wpAnyH_take (i := 18) (oi := { dst := some 149, op := Op.binOp BinOp.neq 3 (Operand.tmp 148) (Operand.const (Value.int IntKind.i64 0)) 3, type := 4, pos := "outright.go:159", after := #[{ on := 17, ground := Ground.data }, { on := 13, ground := Ground.guard }], guard := some (13, false) }) (v := .bool false) rfl (by kernel_rfl) (by kernel_rfl) (by kernel_rfl) (fun _ _ _ h => h) (Or.inl ⟨by rfl, by intro w hSw; go_simp⟩) (by assumption) ?_
                simp only [Act.put, List.setIfInBounds_toArray, List.set_cons_zero, List.set_cons_succ]
                refine wpAnyH_take (i := 19) (oi := { dst := some 150, op := Op.move (Operand.tmp 149), type := 4, pos := "outright.go:159", after := #[{ on := 18, ground := Ground.data }, { on := 13, ground := Ground.chain }, { on := 13, ground := Ground.guard }], guard := some (13, false) }) (v := .bool false) rfl (by kernel_rfl) (by kernel_rfl) (by kernel_rfl) (fun _ _ _ h => h) (Or.inl ⟨by rfl, by intro w hSw; go_simp⟩) (by assumption) ?_
                simp only [Act.put, List.setIfInBounds_toArray, List.set_cons_zero, List.set_cons_succ]
                refine wpAnyH_take (i := 20) (oi := { dst := some 151, op := Op.move (Operand.tmp 4), type := 38, pos := "outright.go:159", after := #[{ on := 19, ground := Ground.guard }], guard := some (19, true) }) (v := undef) rfl (by kernel_rfl) (by kernel_rfl) (by kernel_rfl) (fun _ _ _ h => h) (Or.inr ⟨by rfl, rfl⟩) (by assumption) ?_
                simp only [Act.put, List.setIfInBounds_toArray, List.set_cons_zero, List.set_cons_succ]
                refine wpAnyH_take (i := 21) (oi := { dst := some 152, op := Op.move (Operand.tmp 15), type := 3, pos := "outright.go:159", after := #[{ on := 19, ground := Ground.guard }], guard := some (19, true) }) (v := undef) rfl (by kernel_rfl) (by kernel_rfl) (by kernel_rfl) (fun _ _ _ h => h) (Or.inr ⟨by rfl, rfl⟩) (by assumption) ?_
                simp only [Act.put, List.setIfInBounds_toArray, List.set_cons_zero, List.set_cons_succ]
                refine wpAnyH_take (i := 22) (oi := { dst := some 153, op := Op.indexAddr 38 (Operand.tmp 151) (Operand.tmp 152), type := 0, pos := "outright.go:159", after := #[{ on := 20, ground := Ground.data }, { on := 21, ground := Ground.data }, { on := 19, ground := Ground.guard }], guard := some (19, true) }) (v := undef) rfl (by kernel_rfl) (by kernel_rfl) (by kernel_rfl) (fun _ _ _ h => h) (Or.inr ⟨by rfl, rfl⟩) (by assumption) ?_
                simp only [Act.put, List.setIfInBounds_toArray, List.set_cons_zero, List.set_cons_succ]
                refine wpAnyH_take (i := 23) (oi := { dst := some 154, op := Op.load 3 (Operand.tmp 153), type := 3, pos := "outright.go:159", after := #[{ on := 22, ground := Ground.data }, { on := 19, ground := Ground.guard }], guard := some (19, true) }) (v := undef) rfl (by kernel_rfl) (by kernel_rfl) (by kernel_rfl) (fun _ _ _ h => h) (Or.inr ⟨by rfl, rfl⟩) (by assumption) ?_
                simp only [Act.put, List.setIfInBounds_toArray, List.set_cons_zero, List.set_cons_succ]
                refine wpAnyH_take (i := 24) (oi := { dst := some 155, op := Op.move (Operand.tmp 12), type := 25, pos := "outright.go:159", after := #[{ on := 19, ground := Ground.guard }], guard := some (19, true) }) (v := undef) rfl (by kernel_rfl) (by kernel_rfl) (by kernel_rfl) (fun _ _ _ h => h) (Or.inr ⟨by rfl, rfl⟩) (by assumption) ?_
                simp only [Act.put, List.setIfInBounds_toArray, List.set_cons_zero, List.set_cons_succ]
                refine wpAnyH_take (i := 25) (oi := { dst := some 156, op := Op.move (Operand.tmp 15), type := 3, pos := "outright.go:159", after := #[{ on := 19, ground := Ground.guard }], guard := some (19, true) }) (v := undef) rfl (by kernel_rfl) (by kernel_rfl) (by kernel_rfl) (fun _ _ _ h => h) (Or.inr ⟨by rfl, rfl⟩) (by assumption) ?_
                simp only [Act.put, List.setIfInBounds_toArray, List.set_cons_zero, List.set_cons_succ]
                refine wpAnyH_take (i := 26) (oi := { dst := some 157, op := Op.indexAddr 25 (Operand.tmp 155) (Operand.tmp 156), type := 0, pos := "outright.go:159", after := #[{ on := 24, ground := Ground.data }, { on := 25, ground := Ground.data }, { on := 19, ground := Ground.guard }], guard := some (19, true) }) (v := undef) rfl (by kernel_rfl) (by kernel_rfl) (by kernel_rfl) (fun _ _ _ h => h) (Or.inr ⟨by rfl, rfl⟩) (by assumption) ?_
                simp only [Act.put, List.setIfInBounds_toArray, List.set_cons_zero, List.set_cons_succ]
                refine wpAnyH_take (i := 27) (oi := { dst := some 158, op := Op.fieldAddr 30 (Operand.tmp 157) 2, type := 0, pos := "outright.go:159", after := #[{ on := 26, ground := Ground.data }, { on := 19, ground := Ground.guard }], guard := some (19, true) }) (v := undef) rfl (by kernel_rfl) (by kernel_rfl) (by kernel_rfl) (fun _ _ _ h => h) (Or.inr ⟨by rfl, rfl⟩) (by assumption) ?_
                simp only [Act.put, List.setIfInBounds_toArray, List.set_cons_zero, List.set_cons_succ]
                refine wpAnyH_take (i := 28) (oi := { dst := some 159, op := Op.load 3 (Operand.tmp 158), type := 3, pos := "outright.go:159", after := #[{ on := 27, ground := Ground.data }, { on := 19, ground := Ground.guard }], guard := some (19, true) }) (v := undef) rfl (by kernel_rfl) (by kernel_rfl) (by kernel_rfl) (fun _ _ _ h => h) (Or.inr ⟨by rfl, rfl⟩) (by assumption) ?_
                simp only [Act.put, List.setIfInBounds_toArray, List.set_cons_zero, List.set_cons_succ]
                refine wpAnyH_take (i := 29) (oi := { dst := some 160, op := Op.binOp BinOp.neq 3 (Operand.tmp 154) (Operand.tmp 159) 3, type := 4, pos := "outright.go:159", after := #[{ on := 23, ground := Ground.data }, { on := 28, ground := Ground.data }, { on := 19, ground := Ground.guard }], guard := some (19, true) }) (v := undef) rfl (by kernel_rfl) (by kernel_rfl) (by kernel_rfl) (fun _ _ _ h => h) (Or.inr ⟨by rfl, rfl⟩) (by assumption) ?_
                simp only [Act.put, List.setIfInBounds_toArray, List.set_cons_zero, List.set_cons_succ]
                refine wpAnyH_take (i := 30) (oi := { dst := some 161, op := Op.pick (Operand.tmp 150) (Operand.tmp 160) (Operand.const (Value.bool false)), type := 4, pos := "outright.go:159", after := #[{ on := 19, ground := Ground.data }, { on := 29, ground := Ground.data }, { on := 13, ground := Ground.guard }], guard := some (13, false) }) (v := .bool false) rfl (by kernel_rfl) (by kernel_rfl) (by kernel_rfl) (fun _ _ _ h => h) (Or.inl ⟨by rfl, by intro w hSw; go_simp⟩) (by assumption) ?_
                simp only [Act.put, List.setIfInBounds_toArray, List.set_cons_zero, List.set_cons_succ]
                refine wpAnyH_take (i := 31) (oi := { dst := some 162, op := Op.pick (Operand.tmp 144) (Operand.const (Value.bool true)) (Operand.tmp 161), type := 4, pos := "outright.go:159", after := #[{ on := 13, ground := Ground.data }, { on := 30, ground := Ground.data }], guard := none }) (v := .bool false) rfl (by kernel_rfl) (by kernel_rfl) (by kernel_rfl) (fun _ _ _ h => h) (Or.inl ⟨by rfl, by intro w hSw; go_simp⟩) (by assumption) ?_
                simp only [Act.put, List.setIfInBounds_toArray, List.set_cons_zero, List.set_cons_succ]
                refine wpAnyH_take (i := 32) (oi := { dst := some 163, op := Op.move (Operand.tmp 162), type := 4, pos := "outright.go:159", after := #[{ on := 31, ground := Ground.data }, { on := 19, ground := Ground.chain }], guard := none }) (v := .bool false) rfl (by kernel_rfl) (by kernel_rfl) (by kernel_rfl) (fun _ _ _ h => h) (Or.inl ⟨by rfl, by intro w hSw; go_simp⟩) (by assumption) ?_
                simp only [Act.put, List.setIfInBounds_toArray, List.set_cons_zero, List.set_cons_succ]
                refine wpAnyH_take (i := 33) (oi := { dst := some 164, op := Op.move (Operand.tmp 15), type := 3, pos := "outright.go:159", after := #[{ on := 32, ground := Ground.guard }], guard := some (32, false) }) (v := .int .i64 (t : Int)) rfl (by kernel_rfl) (by kernel_rfl) (by kernel_rfl) (fun _ _ _ h => h) (Or.inl ⟨by rfl, by intro w hSw; go_simp⟩) (by assumption) ?_
                simp only [Act.put, List.setIfInBounds_toArray, List.set_cons_zero, List.set_cons_succ]
                refine wpAnyH_take (i := 34) (oi := { dst := some 165, op := Op.binOp BinOp.eql 3 (Operand.tmp 164) (Operand.const (Value.int IntKind.i64 0)) 3, type := 4, pos := "outright.go:159", after := #[{ on := 33, ground := Ground.data }, { on := 32, ground := Ground.guard }], guard := some (32, false) }) (v := .bool false) rfl (by kernel_rfl) (by kernel_rfl) (by kernel_rfl) (fun _ _ _ h => h) (Or.inl ⟨by rfl, by intro w hSw; have hq := HT0.out; go_simp <;> omega⟩) (by assumption) ?_
                simp only [Act.put, List.setIfInBounds_toArray, List.set_cons_zero, List.set_cons_succ]
                refine wpAnyH_take (i := 35) (oi := { dst := some 166, op := Op.move (Operand.tmp 165), type := 4, pos := "outright.go:159", after := #[{ on := 34, ground := Ground.data }, { on := 32, ground := Ground.chain }, { on := 32, ground := Ground.guard }], guard := some (32, false) }) (v := .bool false) rfl (by kernel_rfl) (by kernel_rfl) (by kernel_rfl) (fun _ _ _ h => h) (Or.inl ⟨by rfl, by intro w hSw; go_simp⟩) (by assumption) ?_
                simp only [Act.put, List.setIfInBounds_toArray, List.set_cons_zero, List.set_cons_succ]
                refine wpAnyH_take (i := 36) (oi := { dst := some 167, op := Op.move (Operand.tmp 12), type := 25, pos := "outright.go:159", after := #[{ on := 35, ground := Ground.guard }], guard := some (35, true) }) (v := undef) rfl (by kernel_rfl) (by kernel_rfl) (by kernel_rfl) (fun _ _ _ h => h) (Or.inr ⟨by rfl, rfl⟩) (by assumption) ?_
                simp only [Act.put, List.setIfInBounds_toArray, List.set_cons_zero, List.set_cons_succ]
                refine wpAnyH_take (i := 37) (oi := { dst := some 168, op := Op.move (Operand.tmp 15), type := 3, pos := "outright.go:159", after := #[{ on := 35, ground := Ground.guard }], guard := some (35, true) }) (v := undef) rfl (by kernel_rfl) (by kernel_rfl) (by kernel_rfl) (fun _ _ _ h => h) (Or.inr ⟨by rfl, rfl⟩) (by assumption) ?_
                simp only [Act.put, List.setIfInBounds_toArray, List.set_cons_zero, List.set_cons_succ]
                refine wpAnyH_take (i := 38) (oi := { dst := some 169, op := Op.indexAddr 25 (Operand.tmp 167) (Operand.tmp 168), type := 0, pos := "outright.go:159", after := #[{ on := 36, ground := Ground.data }, { on := 37, ground := Ground.data }, { on := 35, ground := Ground.guard }], guard := some (35, true) }) (v := undef) rfl (by kernel_rfl) (by kernel_rfl) (by kernel_rfl) (fun _ _ _ h => h) (Or.inr ⟨by rfl, rfl⟩) (by assumption) ?_
                simp only [Act.put, List.setIfInBounds_toArray, List.set_cons_zero, List.set_cons_succ]
                refine wpAnyH_take (i := 39) (oi := { dst := some 170, op := Op.fieldAddr 30 (Operand.tmp 169) 2, type := 0, pos := "outright.go:159", after := #[{ on := 38, ground := Ground.data }, { on := 35, ground := Ground.guard }], guard := some (35, true) }) (v := undef) rfl (by kernel_rfl) (by kernel_rfl) (by kernel_rfl) (fun _ _ _ h => h) (Or.inr ⟨by rfl, rfl⟩) (by assumption) ?_
                simp only [Act.put, List.setIfInBounds_toArray, List.set_cons_zero, List.set_cons_succ]
                refine wpAnyH_take (i := 40) (oi := { dst := some 171, op := Op.load 3 (Operand.tmp 170), type := 3, pos := "outright.go:159", after := #[{ on := 39, ground := Ground.data }, { on := 35, ground := Ground.guard }], guard := some (35, true) }) (v := undef) rfl (by kernel_rfl) (by kernel_rfl) (by kernel_rfl) (fun _ _ _ h => h) (Or.inr ⟨by rfl, rfl⟩) (by assumption) ?_
                simp only [Act.put, List.setIfInBounds_toArray, List.set_cons_zero, List.set_cons_succ]
                refine wpAnyH_take (i := 41) (oi := { dst := some 172, op := Op.binOp BinOp.neq 3 (Operand.tmp 171) (Operand.const (Value.int IntKind.i64 1)) 3, type := 4, pos := "outright.go:159", after := #[{ on := 40, ground := Ground.data }, { on := 35, ground := Ground.guard }], guard := some (35, true) }) (v := undef) rfl (by kernel_rfl) (by kernel_rfl) (by kernel_rfl) (fun _ _ _ h => h) (Or.inr ⟨by rfl, rfl⟩) (by assumption) ?_
                simp only [Act.put, List.setIfInBounds_toArray, List.set_cons_zero, List.set_cons_succ]
                refine wpAnyH_take (i := 42) (oi := { dst := some 173, op := Op.pick (Operand.tmp 166) (Operand.tmp 172) (Operand.const (Value.bool false)), type := 4, pos := "outright.go:159", after := #[{ on := 35, ground := Ground.data }, { on := 41, ground := Ground.data }, { on := 32, ground := Ground.guard }], guard := some (32, false) }) (v := .bool false) rfl (by kernel_rfl) (by kernel_rfl) (by kernel_rfl) (fun _ _ _ h => h) (Or.inl ⟨by rfl, by intro w hSw; go_simp⟩) (by assumption) ?_
                simp only [Act.put, List.setIfInBounds_toArray, List.set_cons_zero, List.set_cons_succ]
                refine wpAnyH_take (i := 43) (oi := { dst := some 174, op := Op.pick (Operand.tmp 163) (Operand.const (Value.bool true)) (Operand.tmp 173), type := 4, pos := "outright.go:159", after := #[{ on := 32, ground := Ground.data }, { on := 42, ground := Ground.data }], guard := none }) (v := .bool false) rfl (by kernel_rfl) (by kernel_rfl) (by kernel_rfl) (fun _ _ _ h => h) (Or.inl ⟨by rfl, by intro w hSw; go_simp⟩) (by assumption) ?_
                simp only [Act.put, List.setIfInBounds_toArray, List.set_cons_zero, List.set_cons_succ]
                refine wpAnyH_done (by kernel_rfl) ?_ _
                go_wp2_with fail
                exact ⟨⟨t + 1, by omega, by go_num, HKP.out.1 _ HST.out.2, (HKP.out.2 _ HST.out.2 HST.out.1.b.below).1, (HKP.out.2 _ HST.out.2 HST.out.1.b.below).2, HST.out.1⟩, by simp [intOf]; omega⟩
          · obtain rfl : t = m := by omega
            have HNM : Hid (Nums W wr (.slice a4 N c4) (.slice a5 N c5) (T.bsOf ws N (T.widths (rows.take (k + 1))).length) (List.replicate N 0)) := hid (by rw [HM.out]; exact NM2)
            clear NM2 G2 hm0
            go_wp2_with fail
            exact ⟨⟨k + 1, by omega, by go_num, R2, LN2, HNM.out⟩, by simp [intOf]; omega⟩
    · obtain rfl : n = k := by omega
      rw [List.take_of_length_le (by rw [HLN.out]; exact Nat.le_refl _), HNW.out] at NM
      clear LN HNW
      go_wp2_with fail
      go_loopw [16, 17, 18] (fun j _ _ wx => ∃ q : Nat, j = .int .i64 ((q : Int) + 1) ∧ (q = 0 ∨ q < N) ∧ RowsT wx ao rows ∧ ∃ cs : List Nat, cs.length = N ∧ (∀ t, q < t → cs.getD t 0 = 0) ∧ Nums W wx (.slice a4 N c4) (.slice a5 N c5) (T.bsOf ws N N) cs) (fun j _ _ _ => N - (intOf j).toNat)
      case atStart => exact ⟨0, rfl, .inl rfl, R, List.replicate N 0, by simp, fun t _ => by simp [List.getD_eq_getElem?_getD, List.getElem?_replicate]; split <;> rfl, NM⟩
      case round =>
        clear R NM
        obtain ⟨q, rfl, hqN, R, cs, hcl, hcz, NM⟩ := hrel
        by_cases hq : q + 1 < N
        · have c1 : (q : Int) + 1 < (N : Int) := by omega
          have hz := hcz (q + 1) (by omega)
          have HZ : Hid (∀ t, q + 1 < t → cs.getD t 0 = 0) := hid (fun t ht => hcz t (by omega))
          have HCL : Hid (cs.length = N) := hcl
          have HF0 : Hid (T.Few ws q (cs.getD (q + 1) 0) (rows.take 0)) := hid (by rw [hz]; exact T.Few.nil ws q)
          clear hcl hcz hz hqN
          go_wp2_with fail
          go_loopw [17, 18] (fun i _ wx => ∃ p : Nat, p ≤ n ∧ i = .int .i64 p ∧ RowsT wx ao rows ∧ ∃ cs : List Nat, cs.length = N ∧ (∀ t, q + 1 < t → cs.getD t 0 = 0) ∧ T.Few ws q (cs.getD (q + 1) 0) (rows.take p) ∧ Nums W wx (.slice a4 N c4) (.slice a5 N c5) (T.bsOf ws N N) cs) (fun i _ _ => n - (intOf i).toNat)
          case atStart => exact ⟨0, Nat.zero_le _, rfl, R, cs, HCL.out, HZ.out, HF0.out, NM⟩
          case round =>
            clear R NM HF0 HZ HCL
            clear cs
            obtain ⟨p, hp, rfl, R, cs, hcl, hcz, hfew, NM⟩ := hrel
            have hbl := T.bsOf_length ws N N
            obtain ⟨g5, d5, hv5, hW5, hl5⟩ := NM.c.formN (n := N) (by rw [ints_length, hcl]) (by omega)
            injection hv5 with f1 f2 f3
            subst f1 f3
            clear f2
            have hk5 := NM.c.cell (q + 1) _ (ints_get _ (q + 1) (by omega))
            have hfr5 := NM.c.free (q + 1)
            have hget : cs.getD (q + 1) 0 = cs[q + 1] := by rw [List.getD_eq_getElem?_getD, List.getElem?_eq_getElem (by omega)]; rfl
            rw [hget] at hfew
            have HGET : Hid (cs.getD (q + 1) 0 = cs[q + 1]) := hget
            generalize cs[q + 1] = X at *
            have HCL : Hid (cs.length = N) := hcl
            have HZ : Hid (∀ t, q + 1 < t → cs.getD t 0 = 0) := hcz
            by_cases hlt : p < n
            · have c2 : (p : Int) < (n : Int) := by omega
              have hpl : p < rows.length := by rw [HLN.out]; exact hlt
              obtain ⟨g3, ai, ci2, rfl, d3, hst⟩ := R.cell p hpl
              have hft := HFT.out rows[p] (List.getElem_mem _)
              have hlm := HLE.out rows[p] (List.getElem_mem _)
              have HTK : Hid (rows.take (p + 1) = rows.take p ++ [rows[p]]) := hid (List.take_succ_eq_append_getElem hpl)
              generalize rows[p] = row at *
              obtain ⟨m, hm⟩ : ∃ m, row.length = m := ⟨_, rfl⟩
              rw [hm] at d3 hlm
              have b3 : (m : Int) ≤ (N : Int) := by omega
              by_cases hqm : q < m
              · have y3 : (q : Int) < (m : Int) := by omega
                obtain ⟨g1, rfl, d4⟩ := hst.cell q (by omega)
                have hgt : row.getD q [] = row[q] := by rw [List.getD_eq_getElem?_getD, List.getElem?_eq_getElem (by omega)]; rfl
                rw [← hgt] at d4
                have hfl := hft.fit q
                have hw10 := H10.out q
                obtain ⟨g4, d4x, hv4, hW4, hl4⟩ := NM.b.formN (n := N) (by rw [ints_length, hbl]) (by omega)
                injection hv4 with f1 f2 f3
                subst f1 f3
                clear f2
                have d1 := NM.b.cell (q + 1) _ (ints_get _ (q + 1) (by omega))
                have d2 := NM.b.cell q _ (ints_get _ q (by omega))
                rw [T.bsOf_get ws N N _ (by omega), if_pos (by omega)] at d1 d2
                have hcol : T.col ws (q + 1) = T.col ws q + (ws.getD q 0 + 2) := rfl
                have hcle := T.col_le ws H10.out q
                obtain ⟨B0, hB0⟩ : ∃ B0, T.col ws q + 1 = B0 := ⟨_, rfl⟩
                obtain ⟨B1, hB1⟩ : ∃ B1, T.col ws (q + 1) + 1 = B1 := ⟨_, rfl⟩
                obtain ⟨lx, hlx⟩ : ∃ lx, (row.getD q []).length = lx := ⟨_, rfl⟩
                obtain ⟨G, hG⟩ : ∃ G, ws.getD q 0 + 2 - lx = G := ⟨_, rfl⟩
                rw [hB1] at d1
                rw [hB0] at d2
                have hsz := arr_size (row.getD q [])
                rw [hlx] at hsz
                have HGE : Hid (G + (row.getD q []).length = ws.getD q 0 + 2) := hid (by omega)
                have HW9 : Hid (IntKind.i64.wrap ((B1 : Int) - (B0 : Int)) = (B1 : Int) - (B0 : Int)) := hid (by rw [IntKind.wrap_i64]; omega)
                have HW19 : Hid (IntKind.i64.wrap ((B1 : Int) - (B0 : Int) - (lx : Int)) = (G : Int)) := hid (by rw [IntKind.wrap_i64]; omega)
                have HG2 : Hid (2 ≤ G) := hid (by omega)
                have y4 : ¬ ((G : Int) < 2) := by omega
                have y5 : (G : Int) ≤ 12 := by omega
                generalize (⟨(row.getD q []).toArray⟩ : ByteArray) = sx at *
                have NMd := NM.on (w' := wr.drew) ((Below.refl _ _).drew)
                have hst3 := NMd.symm.setB (q + 1) G
                have HRd : Hid (∀ wx, K3 wr.drew wx → RowsT wx (some ⟨g3, 0, none⟩) rows) := hid (fun wx h1 => (R.on (w' := wr.drew) ((Below.refl _ _).drew)).keep h1)
                have HRd0 : Hid (RowsT wr.drew (some ⟨g3, 0, none⟩) rows) := hid (R.on (w' := wr.drew) ((Below.refl _ _).drew))
                have HNMd : Hid _ := hid NMd
                have HST : Hid _ := hid hst3
                have HFW : Hid (T.Few ws q X (rows.take p)) := hfew
                have HSET : Hid ((cs.set (q + 1) G).length = N ∧ (∀ t, q + 1 < t → (cs.set (q + 1) G).getD t 0 = 0) ∧ (cs.set (q + 1) G).getD (q + 1) 0 = G) := hid ⟨by rw [List.length_set]; exact hcl, fun t ht => by
                  rw [List.getD_eq_getElem?_getD, List.getElem?_set, if_neg (by omega), ← List.getD_eq_getElem?_getD]; exact hcz t ht, by
                  rw [List.getD_eq_getElem?_getD, List.getElem?_set, if_pos rfl, if_pos (by omega)]; rfl⟩
                have HWQ : Hid (IntKind.i64.wrap (q : Int) = (q : Int)) := hid (by rw [IntKind.wrap_i64]; omega)
                clear hft hst hgt hfl hw10 hcol hcle hB0 hB1 hlx hG hm hbl hget hfew hcl hcz NM R NMd hst3 hlm hpl
                go_wp2_with fail
                refine wp_region_held_drew (S := fun w => w.cell? ⟨g4, q + 1, none⟩ = some (.int .i64 (B1 : Int)) ∧ w.cell? ⟨g4, q, none⟩ = some (.int .i64 (B0 : Int)) ∧ w.cell? ⟨g3, p, none⟩ = some (.slice (some ⟨g1, 0, none⟩) m ci2) ∧ w.cell? ⟨g1, q, none⟩ = some (.string sx)) (by kernel_rfl) ⟨d1, d2, d3, d4⟩ (fun hHeld => ?_)
                refine wpAnyH_take (i := 0) (oi := { dst := some 203, op := Op.move (Operand.tmp 4), type := 38, pos := "outright.go:168", after := #[], guard := none }) (v := .slice (some ⟨g4, 0, none⟩) N c4) rfl (by kernel_rfl) (by kernel_rfl) (by kernel_rfl) (fun _ _ _ h => h) (Or.inl ⟨by rfl, by intro w hSw; go_simp⟩) (by assumption) ?_
                simp only [Act.put, List.setIfInBounds_toArray, List.set_cons_zero, List.set_cons_succ]
                refine wpAnyH_take (i := 1) (oi := { dst := some 204, op := Op.move (Operand.tmp 16), type := 3, pos := "outright.go:168", after := #[], guard := none }) (v := .int .i64 ((q : Int) + 1)) rfl (by kernel_rfl) (by kernel_rfl) (by kernel_rfl) (fun _ _ _ h => h) (Or.inl ⟨by rfl, by intro w hSw; go_simp⟩) (by assumption) ?_
                simp only [Act.put, List.setIfInBounds_toArray, List.set_cons_zero, List.set_cons_succ]
                refine wpAnyH_take (i := 2) (oi := { dst := some 205, op := Op.indexAddr 38 (Operand.tmp 203) (Operand.tmp 204), type := 0, pos := "outright.go:168", after := #[{ on := 0, ground := Ground.data }, { on := 1, ground := Ground.data }], guard := none }) (v := .pointer (some ⟨g4, q + 1, none⟩)) rfl (by kernel_rfl) (by kernel_rfl) (by kernel_rfl) (fun _ _ _ h => h) (Or.inl ⟨by rfl, by intro w hSw;  go_simp <;> (intro h; omega)⟩) (by assumption) ?_
                simp only [Act.put, List.setIfInBounds_toArray, List.set_cons_zero, List.set_cons_succ]
                refine wpAnyH_take (i := 3) (oi := { dst := some 206, op := Op.load 3 (Operand.tmp 205), type := 3, pos := "outright.go:168", after := #[{ on := 2, ground := Ground.data }], guard := none }) (v := .int .i64 (B1 : Int)) rfl (by kernel_rfl) (by kernel_rfl) (by kernel_rfl) (fun _ _ _ h => h) (Or.inl ⟨by rfl, by intro w hSw; have hS0 := hSw.1; go_simp⟩) (by assumption) ?_
                simp only [Act.put, List.setIfInBounds_toArray, List.set_cons_zero, List.set_cons_succ]
                refine wpAnyH_take (i := 4) (oi := { dst := some 207, op := Op.move (Operand.tmp 4), type := 38, pos := "outright.go:168", after := #[], guard := none }) (v := .slice (some ⟨g4, 0, none⟩) N c4) rfl (by kernel_rfl) (by kernel_rfl) (by kernel_rfl) (fun _ _ _ h => h) (Or.inl ⟨by rfl, by intro w hSw; go_simp⟩) (by assumption) ?_
                simp only [Act.put, List.setIfInBounds_toArray, List.set_cons_zero, List.set_cons_succ]
                refine wpAnyH_take (i := 5) (oi := { dst := some 208, op := Op.move (Operand.tmp 16), type := 3, pos := "outright.go:168", after := #[], guard := none }) (v := .int .i64 ((q : Int) + 1)) rfl (by kernel_rfl) (by kernel_rfl) (by kernel_rfl) (fun _ _ _ h => h) (Or.inl ⟨by rfl, by intro w hSw; go_simp⟩) (by assumption) ?_
                simp only [Act.put, List.setIfInBounds_toArray, List.set_cons_zero, List.set_cons_succ]
                refine wpAnyH_take (i := 6) (oi := { dst := some 209, op := Op.binOp BinOp.sub 3 (Operand.tmp 208) (Operand.const (Value.int IntKind.i64 1)) 3, type := 3, pos := "outright.go:168", after := #[{ on := 5, ground := Ground.data }], guard := none }) (v := .int .i64 (q : Int)) rfl (by kernel_rfl) (by kernel_rfl) (by kernel_rfl) (fun _ _ _ h => h) (Or.inl ⟨by rfl, by intro w hSw; have hp := HWQ.out; go_simp⟩) (by assumption) ?_
                simp only [Act.put, List.setIfInBounds_toArray, List.set_cons_zero, List.set_cons_succ]
                refine wpAnyH_take (i := 7) (oi := { dst := some 210, op := Op.indexAddr 38 (Operand.tmp 207) (Operand.tmp 209), type := 0, pos := "outright.go:168", after := #[{ on := 4, ground := Ground.data }, { on := 6, ground := Ground.data }], guard := none }) (v := .pointer (some ⟨g4, q, none⟩)) rfl (by kernel_rfl) (by kernel_rfl) (by kernel_rfl) (fun _ _ _ h => h) (Or.inl ⟨by rfl, by intro w hSw;  go_simp <;> (intro h; omega)⟩) (by assumption) ?_
                simp only [Act.put, List.setIfInBounds_toArray, List.set_cons_zero, List.set_cons_succ]
                refine wpAnyH_take (i := 8) (oi := { dst := some 211, op := Op.load 3 (Operand.tmp 210), type := 3, pos := "outright.go:168", after := #[{ on := 7, ground := Ground.data }], guard := none }) (v := .int .i64 (B0 : Int)) rfl (by kernel_rfl) (by kernel_rfl) (by kernel_rfl) (fun _ _ _ h => h) (Or.inl ⟨by rfl, by intro w hSw; have hS0 := hSw.2.1; go_simp⟩) (by assumption) ?_
                simp only [Act.put, List.setIfInBounds_toArray, List.set_cons_zero, List.set_cons_succ]
                refine wpAnyH_take (i := 9) (oi := { dst := some 212, op := Op.binOp BinOp.sub 3 (Operand.tmp 206) (Operand.tmp 211) 3, type := 3, pos := "outright.go:168", after := #[{ on := 3, ground := Ground.data }, { on := 8, ground := Ground.data }], guard := none }) (v := .int .i64 ((B1 : Int) - (B0 : Int))) rfl (by kernel_rfl) (by kernel_rfl) (by kernel_rfl) (fun _ _ _ h => h) (Or.inl ⟨by rfl, by intro w hSw; have hp := HW9.out; go_simp⟩) (by assumption) ?_
                simp only [Act.put, List.setIfInBounds_toArray, List.set_cons_zero, List.set_cons_succ]
                refine wpAnyH_take (i := 10) (oi := { dst := some 213, op := Op.move (Operand.tmp 3), type := 37, pos := "outright.go:168", after := #[], guard := none }) (v := .slice (some ⟨g3, 0, none⟩) n c3) rfl (by kernel_rfl) (by kernel_rfl) (by kernel_rfl) (fun _ _ _ h => h) (Or.inl ⟨by rfl, by intro w hSw; go_simp⟩) (by assumption) ?_
                simp only [Act.put, List.setIfInBounds_toArray, List.set_cons_zero, List.set_cons_succ]
                refine wpAnyH_take (i := 11) (oi := { dst := some 214, op := Op.move (Operand.tmp 17), type := 3, pos := "outright.go:168", after := #[], guard := none }) (v := .int .i64 (p : Int)) rfl (by kernel_rfl) (by kernel_rfl) (by kernel_rfl) (fun _ _ _ h => h) (Or.inl ⟨by rfl, by intro w hSw; go_simp⟩) (by assumption) ?_
                simp only [Act.put, List.setIfInBounds_toArray, List.set_cons_zero, List.set_cons_succ]
                refine wpAnyH_take (i := 12) (oi := { dst := some 215, op := Op.indexAddr 37 (Operand.tmp 213) (Operand.tmp 214), type := 0, pos := "outright.go:168", after := #[{ on := 10, ground := Ground.data }, { on := 11, ground := Ground.data }], guard := none }) (v := .pointer (some ⟨g3, p, none⟩)) rfl (by kernel_rfl) (by kernel_rfl) (by kernel_rfl) (fun _ _ _ h => h) (Or.inl ⟨by rfl, by intro w hSw; go_simp⟩) (by assumption) ?_
                simp only [Act.put, List.setIfInBounds_toArray, List.set_cons_zero, List.set_cons_succ]
                refine wpAnyH_take (i := 13) (oi := { dst := some 216, op := Op.load 39 (Operand.tmp 215), type := 39, pos := "outright.go:168", after := #[{ on := 12, ground := Ground.data }], guard := none }) (v := .slice (some ⟨g1, 0, none⟩) m ci2) rfl (by kernel_rfl) (by kernel_rfl) (by kernel_rfl) (fun _ _ _ h => h) (Or.inl ⟨by rfl, by intro w hSw; have hS0 := hSw.2.2.1; go_simp⟩) (by assumption) ?_
                simp only [Act.put, List.setIfInBounds_toArray, List.set_cons_zero, List.set_cons_succ]
                refine wpAnyH_take (i := 14) (oi := { dst := some 217, op := Op.move (Operand.tmp 16), type := 3, pos := "outright.go:168", after := #[], guard := none }) (v := .int .i64 ((q : Int) + 1)) rfl (by kernel_rfl) (by kernel_rfl) (by kernel_rfl) (fun _ _ _ h => h) (Or.inl ⟨by rfl, by intro w hSw; go_simp⟩) (by assumption) ?_
                simp only [Act.put, List.setIfInBounds_toArray, List.set_cons_zero, List.set_cons_succ]
                refine wpAnyH_take (i := 15) (oi := { dst := some 218, op := Op.binOp BinOp.sub 3 (Operand.tmp 217) (Operand.const (Value.int IntKind.i64 1)) 3, type := 3, pos := "outright.go:168", after := #[{ on := 14, ground := Ground.data }], guard := none }) (v := .int .i64 (q : Int)) rfl (by kernel_rfl) (by kernel_rfl) (by kernel_rfl) (fun _ _ _ h => h) (Or.inl ⟨by rfl, by intro w hSw; have hp := HWQ.out; go_simp⟩) (by assumption) ?_
                simp only [Act.put, List.setIfInBounds_toArray, List.set_cons_zero, List.set_cons_succ]
                refine wpAnyH_take (i := 16) (oi := { dst := some 219, op := Op.indexAddr 39 (Operand.tmp 216) (Operand.tmp 218), type := 0, pos := "outright.go:168", after := #[{ on := 13, ground := Ground.data }, { on := 15, ground := Ground.data }], guard := none }) (v := .pointer (some ⟨g1, q, none⟩)) rfl (by kernel_rfl) (by kernel_rfl) (by kernel_rfl) (fun _ _ _ h => h) (Or.inl ⟨by rfl, by intro w hSw; go_simp⟩) (by assumption) ?_
                simp only [Act.put, List.setIfInBounds_toArray, List.set_cons_zero, List.set_cons_succ]
                refine wpAnyH_take (i := 17) (oi := { dst := some 220, op := Op.load 9 (Operand.tmp 219), type := 9, pos := "outright.go:168", after := #[{ on := 16, ground := Ground.data }], guard := none }) (v := .string sx) rfl (by kernel_rfl) (by kernel_rfl) (by kernel_rfl) (fun _ _ _ h => h) (Or.inl ⟨by rfl, by intro w hSw; have hS0 := hSw.2.2.2; go_simp⟩) (by assumption) ?_
                simp only [Act.put, List.setIfInBounds_toArray, List.set_cons_zero, List.set_cons_succ]
                refine wpAnyH_take (i := 18) (oi := { dst := some 221, op := Op.call { callee := Callee.builtin Builtin.len, args := #[Operand.tmp 220], argTypes := #[9] }, type := 3, pos := "outright.go:168", after := #[{ on := 17, ground := Ground.data }], guard := none }) (v := .int .i64 (lx : Int)) rfl (by kernel_rfl) (by kernel_rfl) (by kernel_rfl) (fun _ _ _ h => h) (Or.inl ⟨by rfl, by intro w hSw; go_simp⟩) (by assumption) ?_
                simp only [Act.put, List.setIfInBounds_toArray, List.set_cons_zero, List.set_cons_succ]
                refine wpAnyH_take (i := 19) (oi := { dst := some 222, op := Op.binOp BinOp.sub 3 (Operand.tmp 212) (Operand.tmp 221) 3, type := 3, pos := "outright.go:168", after := #[{ on := 9, ground := Ground.data }, { on := 18, ground := Ground.data }], guard := none }) (v := .int .i64 (G : Int)) rfl (by kernel_rfl) (by kernel_rfl) (by kernel_rfl) (fun _ _ _ h => h) (Or.inl ⟨by rfl, by intro w hSw; have hp := HW19.out; go_simp⟩) (by assumption) ?_
                simp only [Act.put, List.setIfInBounds_toArray, List.set_cons_zero, List.set_cons_succ]
                refine wpAnyH_ready (rs := [20]) (by kernel_rfl) (by simp) (AllReadyH.cons (o := { dst := some 18, op := Op.assign (Operand.tmp 222), type := 3, pos := "outright.go:168", after := #[{ on := 19, ground := Ground.data }, { on := 0, ground := Ground.phase }, { on := 1, ground := Ground.phase }, { on := 2, ground := Ground.phase }, { on := 3, ground := Ground.phase }, { on := 4, ground := Ground.phase }, { on := 5, ground := Ground.phase }, { on := 6, ground := Ground.phase }, { on := 7, ground := Ground.phase }, { on := 8, ground := Ground.phase }, { on := 9, ground := Ground.phase }, { on := 10, ground := Ground.phase }, { on := 11, ground := Ground.phase }, { on := 12, ground := Ground.phase }, { on := 13, ground := Ground.phase }, { on := 14, ground := Ground.phase }, { on := 15, ground := Ground.phase }, { on := 16, ground := Ground.phase }, { on := 17, ground := Ground.phase }, { on := 18, ground := Ground.phase }, { on := 19, ground := Ground.phase }], guard := none }) rfl (fun KQ hK => ?_) AllReadyH.nil)
                go_simp
                refine hK.out _ _ ⟨d1, d2, d3, d4⟩ (fun hHeld => ?_)
                clear hK KQ
                try simp only [Act.put, List.setIfInBounds_toArray, List.set_cons_zero, List.set_cons_succ]
                refine wpAnyH_done (by kernel_rfl) ?_ _
                by_cases hX0 : X = 0
                · have HE : Hid (T.Few ws q ((cs.set (q + 1) G).getD (q + 1) 0) (rows.take (p + 1))) := hid (by rw [HSET.out.2.2, HTK.out]; exact HFW.out.less row HGE.out HG2.out (.inl hX0))
                  rw [hX0, Int.natCast_zero] at hk5
                  clear hX0
                  go_wp2_with fail
                  exact ⟨⟨p + 1, by omega, by go_num, HRd.out _ HST.out.2, _, HSET.out.1, HSET.out.2.1, HE.out, HST.out.1.symm⟩, by simp [intOf]; omega⟩
                · have y6 : ((X : Int) == 0) = false := by simp only [beq_eq_false_iff_ne, ne_eq]; omega
                  by_cases hGX : G < X
                  · have HE : Hid (T.Few ws q ((cs.set (q + 1) G).getD (q + 1) 0) (rows.take (p + 1))) := hid (by rw [HSET.out.2.2, HTK.out]; exact HFW.out.less row HGE.out HG2.out (.inr hGX))
                    have y7 : (G : Int) < (X : Int) := by omega
                    clear hX0 hGX
                    go_wp2_with fail
                    exact ⟨⟨p + 1, by omega, by go_num, HRd.out _ HST.out.2, _, HSET.out.1, HSET.out.2.1, HE.out, HST.out.1.symm⟩, by simp [intOf]; omega⟩
                  · have HE : Hid (T.Few ws q (cs.getD (q + 1) 0) (rows.take (p + 1))) := hid (by rw [HGET.out, HTK.out]; exact HFW.out.more row HGE.out hX0 (by omega))
                    have y7 : (X : Int) ≤ (G : Int) := by omega
                    clear hX0 hGX
                    go_wp2_with fail
                    exact ⟨⟨p + 1, by omega, by go_num, HRd0.out, cs, HCL.out, HZ.out, HE.out, HNMd.out⟩, by simp [intOf]; omega⟩
              · have HFS : Hid (T.Few ws q (cs.getD (q + 1) 0) (rows.take (p + 1))) := hid (by rw [HTK.out, hget]; exact hfew.skip row (by omega))
                have y3 : (m : Int) ≤ (q : Int) := by omega
                clear hft hst hbl hget hfew hcl hcz hlm hpl hm
                go_wp2_with fail
                exact ⟨⟨p + 1, by omega, by go_num, R, cs, HCL.out, HZ.out, HFS.out, NM⟩, by simp [intOf]; omega⟩
            · obtain rfl : p = n := by omega
              rw [List.take_of_length_le (by rw [HLN.out]; exact Nat.le_refl _)] at hfew
              have hx2 := hfew.two (HAT.out q (by omega))
              rw [hx2] at hk5
              clear hbl hget hfew hcl hcz hx2
              go_wp2_with fail
              exact ⟨⟨q + 1, by go_num, .inr hq, R, cs, HCL.out, HZ.out, NM⟩, by simp [intOf]; omega⟩
        · have c1 : (N : Int) ≤ (q : Int) + 1 := by omega
          have hbb := NM.b.below
          clear NM hcl hcz hqN
          go_wp2_with fail
          go_ret
          exact ⟨rfl, hbb⟩
end Go.Proofs.YtbjinmlelchmgaaDoor
