/- The law AttestJudges 4: the loop. -/
import Derived.Test.YtbpdmkohihgnjaaDoorJm0
import Derived.Test.YtbpdmkohihgnjaaDoorJm1
import Derived.Test.YtbpdmkohihgnjaaDoorJm2
import Derived.Test.YtbpdmkohihgnjaaDoorJm3
namespace Go.Proofs.YtbpdmkohihgnjaaDoor
open Go.RowKit
set_option maxHeartbeats 8000000
set_option maxRecDepth 100000
attribute [-simp] Tryd.isAgg23 Tryd.zeroValue23 Tryd.isAgg38 Tryd.zeroValue38 Tryd.isAgg36 Tryd.zeroValue36 Tryd.isAgg40 Tryd.zeroValue40
theorem judges_7 (W w : World) (E : Nat → Addr) (g4 g7 g8 g9 : Nat) (ao : Option Addr) (n c : Nat) (ot : Bool) (R : List Rl) (s o q : List Int) (ri sa : Bool) (k m d t : List Int) (hF : JF W ao n R s o q k m d t) (hJ : JL W E g4 g7 g8 ao n c ot R s o q ri sa k m d t w) (h9 : Blk w g9 .u32 23 (tagOf k m d)) (K' : Act → World → Prop)
    (hK : ∀ a w, Code.wp Tryd.prog (sfx 8 (Tryd.f4.body.getD .skip)) (bodyPost Tryd.prog Tryd.f4 fun x w' => x = .returned (.bool true) ∧ Below W.heap.size W w') a w → K' a w) (z0 z1 z2 z5 z10 z11 z12 z13 z14 z15 z16 z17 z18 z19 z20 z21 z22 z23 z24 z25 z26 z27 z28 z29 z30 z31 z32 z33 z34 z35 z36 z37 z38 z39 z40 z41 z42 z43 z44 z45 z46 z47 z48 z49 z50 z51 z52 z53 z54 z55 z56 z57 z58 z59 z60 z61 z62 z63 z64 z65 z66 z67 z68 z69 z70 z71 z72 z73 z74 z75 z76 z77 z78 z79 z80 z81 z82 z83 z84 z85 z86 z87 z88 z89 z90 z91 z92 z93 z94 z95 z96 z97 z98 z99 z100 z101 z102 z103 z104 z105 z106 z107 z108 z109 z110 z111 z112 z113 z114 z115 z116 z117 z118 z119 z120 z121 z122 z123 z124 z125 z126 z127 z128 z129 z130 z131 z132 z133 z134 z135 z136 z137 z138 z139 z140 z141 z142 z143 z144 z145 z146 z147 z148 z149 z150 z151 z152 z153 : Value) :
    Code.wp Tryd.prog (hdx 7 (Tryd.f4.body.getD .skip)) (Exit.then K' (bodyPost Tryd.prog Tryd.f4 fun x w' => x = .returned (.bool true) ∧ Below W.heap.size W w')) { tmps := #[z0, z1, z2, .pointer (some ⟨W.heap.size, 0, none⟩), .pointer (some ⟨g4, 0, none⟩), z5, .bool false, .pointer (some ⟨g7, 0, none⟩), .pointer (some ⟨g8, 0, none⟩), .pointer (some ⟨g9, 0, none⟩), z10, z11, z12, z13, z14, z15, z16, z17, z18, z19, z20, z21, z22, z23, z24, z25, z26, z27, z28, z29, z30, z31, z32, z33, z34, z35, z36, z37, z38, z39, z40, z41, z42, z43, z44, z45, z46, z47, z48, z49, z50, z51, z52, z53, z54, z55, z56, z57, z58, z59, z60, z61, z62, z63, z64, z65, z66, z67, z68, z69, z70, z71, z72, z73, z74, z75, z76, z77, z78, z79, z80, z81, z82, z83, z84, z85, z86, z87, z88, z89, z90, z91, z92, z93, z94, z95, z96, z97, z98, z99, z100, z101, z102, z103, z104, z105, z106, z107, z108, z109, z110, z111, z112, z113, z114, z115, z116, z117, z118, z119, z120, z121, z122, z123, z124, z125, z126, z127, z128, z129, z130, z131, z132, z133, z134, z135, z136, z137, z138, z139, z140, z141, z142, z143, z144, z145, z146, z147, z148, z149, z150, z151, z152, z153], defers := [] } w := by
  have hTl := tagOf_length k m d
  have Y0 : Hid (JL W E g4 g7 g8 ao n c ot R s o q ri sa k m d t w ∧ Blk w g9 .u32 23 (tagOf k m d)) := hid ⟨hJ, h9⟩
  have HF := hid hF
  have c0 : w.cell? ⟨W.heap.size, 0, none⟩ = some (.slice ao n c) := hJ.p3.cell 0
  have c1 : w.cell? ⟨W.heap.size, 1, none⟩ = some (.bool ot) := hJ.p3.cell 1
  have hmax := hF.hmax
  have hm := hF.hm
  have n0 : (0 : Int) ≤ (n : Int) := by omega
  obtain ⟨T, hT⟩ : ∃ T, tagOf k m d = T := ⟨_, rfl⟩
  have HT := hid hT
  rw [hT] at Y0 hTl
  clear hF hJ h9 hT
  refine hd_walk 7 rfl (by simp only [hdx, sfx]; rfl) (by simp only [sfx]; rfl) hK ?_
  clear hK
  intro hK
  go_upto_region 12 with fail
  go_wp2_with fail
  have hw : wrap64 ((n : Int) - 1) = (n : Int) - 1 := by unfold wrap64; omega
  (try rw [hw])
  clear hw c0 c1
  go_loopw [10, 11, 12] (fun a nm i wr => ∃ j : Nat, j ≤ n ∧ i = .int .i64 ((j : Int) - 1) ∧ a = .bool (dec (R.drop j) ot m).1 ∧ nm = .string (dec (R.drop j) ot m).2 ∧ (JL W E g4 g7 g8 ao n c ot R s o q ri sa k m d t wr ∧ Blk wr g9 .u32 23 T)) (fun _ _ i _ => (intOf i + 1).toNat)
  case atStart =>
    have h0 : R.drop n = [] := List.drop_of_length_le (by rw [HF.out.hn]; exact Nat.le_refl _)
    exact ⟨n, Nat.le_refl _, rfl, by rw [h0]; rfl, by rw [h0]; rfl, Y0.out⟩
  case round =>
    clear Y0
    obtain ⟨j, hj, rfl, rfl, rfl, hjl⟩ := hrel
    have Y1 := hid hjl
    clear hjl
    rcases j with _ | j
    · have Y2 : Hid (JL W E g4 g7 g8 ao n c ot R s o q ri sa k m d t wr ∧ Blk wr g9 .u32 23 T) := hid Y1.out
      clear Y1 hj
      go_upto_region 18 with fail
      rw [List.drop_zero]
      obtain ⟨dn, hdn⟩ : ∃ x, (dec R ot m).2 = x := ⟨_, rfl⟩
      rw [hdn]
      by_cases e1 : t = T
      rotate_left
      · obtain ⟨da, hda⟩ : ∃ x, (dec R ot m).1 = x := ⟨_, rfl⟩
        rw [hda]
        exact judges_10_1 W wr E g4 g7 g8 g9 ao n c ot R s o q ri sa k m d t T da dn HF.out Y2.out.1 Y2.out.2 HT.out hda hdn e1 _ ‹∀ (a : Act) (w : World), Code.wp Tryd.prog _ _ a w → _› _ _ _ _ _ _ _ _ _ _ _ _ _ _ _ _ _ _ _ _ _ _ _ _ _ _ _ _ _ _ _ _ _ _ _ _ _ _ _ _ _ _ _ _ _ _ _ _ _ _ _ _ _ _ _ _ _ _ _ _ _ _ _ _ _ _ _ _ _ _ _ _ _ _ _ _ _ _ _ _ _ _ _ _ _ _ _ _ _ _ _ _ _ _ _ _ _ _ _ _ _ _ _ _ _ _ _ _ _ _ _ _ _ _ _ _ _ _ _ _ _ _ _ _ _ _ _ _ _ _ _ _ _ _ _ _ _ _ _ _ _ _ _ _ _ _ 
      · by_cases e2 : d = o
        rotate_left
        · obtain ⟨da, hda⟩ : ∃ x, (dec R ot m).1 = x := ⟨_, rfl⟩
          rw [hda]
          exact judges_10_2 W wr E g4 g7 g8 g9 ao n c ot R s o q ri sa k m d t T da dn HF.out Y2.out.1 Y2.out.2 HT.out hda hdn e1 e2 _ ‹∀ (a : Act) (w : World), Code.wp Tryd.prog _ _ a w → _› _ _ _ _ _ _ _ _ _ _ _ _ _ _ _ _ _ _ _ _ _ _ _ _ _ _ _ _ _ _ _ _ _ _ _ _ _ _ _ _ _ _ _ _ _ _ _ _ _ _ _ _ _ _ _ _ _ _ _ _ _ _ _ _ _ _ _ _ _ _ _ _ _ _ _ _ _ _ _ _ _ _ _ _ _ _ _ _ _ _ _ _ _ _ _ _ _ _ _ _ _ _ _ _ _ _ _ _ _ _ _ _ _ _ _ _ _ _ _ _ _ _ _ _ _ _ _ _ _ _ _ _ _ _ _ _ _ _ _ _ _ _ _ _ _ _
        · rcases hda : (dec R ot m).1 with _ | _
          · exact judges_10_3 W wr E g4 g7 g8 g9 ao n c ot R s o q ri sa k m d t T dn HF.out Y2.out.1 Y2.out.2 HT.out hda hdn e1 e2 _ ‹∀ (a : Act) (w : World), Code.wp Tryd.prog _ _ a w → _› _ _ _ _ _ _ _ _ _ _ _ _ _ _ _ _ _ _ _ _ _ _ _ _ _ _ _ _ _ _ _ _ _ _ _ _ _ _ _ _ _ _ _ _ _ _ _ _ _ _ _ _ _ _ _ _ _ _ _ _ _ _ _ _ _ _ _ _ _ _ _ _ _ _ _ _ _ _ _ _ _ _ _ _ _ _ _ _ _ _ _ _ _ _ _ _ _ _ _ _ _ _ _ _ _ _ _ _ _ _ _ _ _ _ _ _ _ _ _ _ _ _ _ _ _ _ _ _ _ _ _ _ _ _ _ _ _ _ _ _ _ _ _ _ _ _
          · exact judges_10_0 W wr E g4 g7 g8 g9 ao n c ot R s o q ri sa k m d t T dn HF.out Y2.out.1 Y2.out.2 HT.out hda hdn e1 e2 _ ‹∀ (a : Act) (w : World), Code.wp Tryd.prog _ _ a w → _› _ _ _ _ _ _ _ _ _ _ _ _ _ _ _ _ _ _ _ _ _ _ _ _ _ _ _ _ _ _ _ _ _ _ _ _ _ _ _ _ _ _ _ _ _ _ _ _ _ _ _ _ _ _ _ _ _ _ _ _ _ _ _ _ _ _ _ _ _ _ _ _ _ _ _ _ _ _ _ _ _ _ _ _ _ _ _ _ _ _ _ _ _ _ _ _ _ _ _ _ _ _ _ _ _ _ _ _ _ _ _ _ _ _ _ _ _ _ _ _ _ _ _ _ _ _ _ _ _ _ _ _ _ _ _ _ _ _ _ _ _ _ _ _ _ _
    · obtain ⟨b, off, rfl, hb, hra⟩ : ∃ b off, ao = some ⟨b, off, none⟩ ∧ b < wr.heap.size ∧ ∀ t r, R[t]? = some r → wr.rangeAt b (off + t * 10) r.cs := by
        rcases Y1.out.1.ru with h | h
        · have := HF.out.hn; rw [h] at this; simp at this; omega
        · exact h
      have hjl : j < R.length := by have := HF.out.hn; omega
      obtain ⟨r, hrk⟩ : ∃ r, R[j] = r := ⟨_, rfl⟩
      have hRk : R[j]? = some r := by rw [List.getElem?_eq_getElem hjl, hrk]
      have HR := hid (hra j r hRk)
      have HB := hid hb
      have ro := HF.out.ok r (by rw [← hrk]; exact List.getElem_mem _)
      have hdr : R.drop j = r :: R.drop (j + 1) := by rw [List.drop_eq_getElem_cons hjl, hrk]
      have HO := hid ro
      have e1 : (((j + 1 : Nat) : Int) - 1) = (j : Int) := by omega
      rw [e1]
      have i3 : (j : Int) < (n : Int) := by omega
      have i4 : (0 : Int) ≤ (j : Int) := by omega
      have hEM := eq26 r.ms m ro.ml hm
      have HDR := hid hdr
      have HN := hid (show j + 1 ≤ n from hj)
      clear hra hRk hrk hjl hdr ro hj hb e1
      go_upto_region 15 with fail
      have c0 : wr.drew.cell? ⟨W.heap.size, 0, none⟩ = some (.slice (some ⟨b, off, none⟩) n c) := Y1.out.1.p3.cell 0
      have Y2 : Hid (JR W g8 b off n c ot m d t r j wr.drew) := hid ⟨Y1.out.1.p3, Y1.out.1.b8, range_below HR.out (Below.refl _ _).drew HB.out⟩
      clear c0
      by_cases e : r.ms = m
      · rw [decide_eq_true e] at hEM
        have HE := hid e
        clear e
        refine wp_region_held_drew (S := fun w => JR W g8 b off n c ot m d t r j w) (by kernel_rfl) Y2.out (fun hHeld => ?_)
        refine wpAnyH_take (i := 0) (oi := { dst := some 66, op := Op.fieldAddr 36 (Operand.tmp 3) 0, type := 0, pos := "outright.go:130", after := #[], guard := none }) (v := .pointer (some ⟨W.heap.size, 0, none⟩)) rfl (by kernel_rfl) (by kernel_rfl) (by kernel_rfl) (fun _ _ _ h => h) (Or.inl ⟨by rfl, by intro w hSw; go_simp⟩) (by assumption) ?_
        simp only [Act.put, List.setIfInBounds_toArray, List.set_cons_zero, List.set_cons_succ]
        refine wpAnyH_take (i := 1) (oi := { dst := some 67, op := Op.load 34 (Operand.tmp 66), type := 34, pos := "outright.go:130", after := #[{ on := 0, ground := Ground.data }], guard := none }) (v := .slice (some ⟨b, off, none⟩) n c) rfl (by kernel_rfl) (by kernel_rfl) (by kernel_rfl) (fun _ _ _ h => h) (Or.inl ⟨by rfl, by intro w hSw; have hc := hSw.p3.cell 0; simp only [polC, List.getElem?_cons_zero] at hc; go_simp⟩) (by assumption) ?_
        simp only [Act.put, List.setIfInBounds_toArray, List.set_cons_zero, List.set_cons_succ]
        refine wpAnyH_take (i := 2) (oi := { dst := some 68, op := Op.move (Operand.tmp 12), type := 3, pos := "outright.go:130", after := #[], guard := none }) (v := .int .i64 (j : Int)) rfl (by kernel_rfl) (by kernel_rfl) (by kernel_rfl) (fun _ _ _ h => h) (Or.inl ⟨by rfl, by intro w hSw; go_simp⟩) (by assumption) ?_
        simp only [Act.put, List.setIfInBounds_toArray, List.set_cons_zero, List.set_cons_succ]
        refine wpAnyH_take (i := 3) (oi := { dst := some 69, op := Op.indexAddr 34 (Operand.tmp 67) (Operand.tmp 68), type := 0, pos := "outright.go:130", after := #[{ on := 1, ground := Ground.data }, { on := 2, ground := Ground.data }], guard := none }) (v := .pointer (some ⟨b, off + j * 10, none⟩)) rfl (by kernel_rfl) (by kernel_rfl) (by kernel_rfl) (fun _ _ _ h => h) (Or.inl ⟨by rfl, by intro w hSw; go_simp⟩) (by assumption) ?_
        simp only [Act.put, List.setIfInBounds_toArray, List.set_cons_zero, List.set_cons_succ]
        refine wpAnyH_take (i := 4) (oi := { dst := some 70, op := Op.fieldAddr 42 (Operand.tmp 69) 2, type := 0, pos := "outright.go:130", after := #[{ on := 3, ground := Ground.data }], guard := none }) (v := .pointer (some ⟨b, off + j * 10 + 2, none⟩)) rfl (by kernel_rfl) (by kernel_rfl) (by kernel_rfl) (fun _ _ _ h => h) (Or.inl ⟨by rfl, by intro w hSw; go_simp⟩) (by assumption) ?_
        simp only [Act.put, List.setIfInBounds_toArray, List.set_cons_zero, List.set_cons_succ]
        refine wpAnyH_take (i := 5) (oi := { dst := some 71, op := Op.load 23 (Operand.tmp 70), type := 23, pos := "outright.go:130", after := #[{ on := 4, ground := Ground.data }], guard := none }) (v := .agg ((r.ms).map (Value.int .u32)).toArray) rfl (by kernel_rfl) (by kernel_rfl) (by kernel_rfl) (fun _ _ _ h => h) (yieldsIf_load_mid (by rfl) _ _ rfl _ _ rfl _ _ (fun w hSw => Rl.atms hSw.rr) Tryd.underlying23 rfl (by rw [List.length_map, HO.out.ml]; exact size26)) (by assumption) ?_
        simp only [Act.put, List.setIfInBounds_toArray, List.set_cons_zero, List.set_cons_succ]
        refine wpAnyH_take (i := 6) (oi := { dst := some 72, op := Op.fieldAddr 38 (Operand.tmp 8) 0, type := 0, pos := "outright.go:130", after := #[], guard := none }) (v := .pointer (some ⟨g8, 0, none⟩)) rfl (by kernel_rfl) (by kernel_rfl) (by kernel_rfl) (fun _ _ _ h => h) (Or.inl ⟨by rfl, by intro w hSw; go_simp⟩) (by assumption) ?_
        simp only [Act.put, List.setIfInBounds_toArray, List.set_cons_zero, List.set_cons_succ]
        refine wpAnyH_take (i := 7) (oi := { dst := some 73, op := Op.load 23 (Operand.tmp 72), type := 23, pos := "outright.go:130", after := #[{ on := 6, ground := Ground.data }], guard := none }) (v := .agg ((m).map (Value.int .u32)).toArray) rfl (by kernel_rfl) (by kernel_rfl) (by kernel_rfl) (fun _ _ _ h => h) (yieldsIf_load_mid (by rfl) _ _ rfl _ _ rfl _ _ (fun w hSw => quo0 (cel_range (blk_cel hSw.b8))) Tryd.underlying23 rfl (by rw [List.length_map, hm]; exact size26)) (by assumption) ?_
        simp only [Act.put, List.setIfInBounds_toArray, List.set_cons_zero, List.set_cons_succ]
        refine wpAnyH_take (i := 8) (oi := { dst := some 74, op := Op.binOp BinOp.eql 23 (Operand.tmp 71) (Operand.tmp 73) 23, type := 4, pos := "outright.go:130", after := #[{ on := 5, ground := Ground.data }, { on := 7, ground := Ground.data }], guard := none }) (v := .bool true) rfl (by kernel_rfl) (by kernel_rfl) (by kernel_rfl) (fun _ _ _ h => h) (Or.inl ⟨by rfl, by intro w hSw; have he := hEM w; go_simp⟩) (by assumption) ?_
        simp only [Act.put, List.setIfInBounds_toArray, List.set_cons_zero, List.set_cons_succ]
        refine wpAnyH_done (by kernel_rfl) ?_ _
        have Y3 : Hid (JL W E g4 g7 g8 (some ⟨b, off, none⟩) n c ot R s o q ri sa k m d t wr.drew ∧ Blk wr.drew g9 .u32 23 T) := hid ⟨Y1.out.1.on (Below.refl _ _).drew, Y1.out.2.on (Below.refl _ _).drew⟩
        clear Y1 hEM
        have k0 : wr.drew.cell? ⟨b, off + j * 10, none⟩ = some (.bool r.al) := by have := Y2.out.rr 0 _ rfl; rwa [Nat.add_zero] at this
        have k1 : wr.drew.cell? ⟨b, off + j * 10 + 1, none⟩ = some (.string r.nm) := Y2.out.rr 1 _ rfl
        have k2 : wr.drew.cell? ⟨W.heap.size, 0, none⟩ = some (.slice (some ⟨b, off, none⟩) n c) := Y2.out.p3.cell 0
        clear Y2
        generalize World.drew _ = w5 at *
        go_wp2_with fail
        have hw : wrap64 ((j : Int) - 1) = (j : Int) - 1 := by unfold wrap64; omega
        (try rw [hw])
        clear hw k0 k1 k2
        go_roundw
        case rel => exact ⟨j, by have := HN.out; omega, rfl, by rw [HDR.out, dec, if_pos HE.out], by rw [HDR.out, dec, if_pos HE.out], Y3.out⟩
        case measure => simp [intOf] <;> omega
      · rw [decide_eq_false e] at hEM
        have HE := hid e
        clear e
        refine wp_region_held_drew (S := fun w => JR W g8 b off n c ot m d t r j w) (by kernel_rfl) Y2.out (fun hHeld => ?_)
        refine wpAnyH_take (i := 0) (oi := { dst := some 66, op := Op.fieldAddr 36 (Operand.tmp 3) 0, type := 0, pos := "outright.go:130", after := #[], guard := none }) (v := .pointer (some ⟨W.heap.size, 0, none⟩)) rfl (by kernel_rfl) (by kernel_rfl) (by kernel_rfl) (fun _ _ _ h => h) (Or.inl ⟨by rfl, by intro w hSw; go_simp⟩) (by assumption) ?_
        simp only [Act.put, List.setIfInBounds_toArray, List.set_cons_zero, List.set_cons_succ]
        refine wpAnyH_take (i := 1) (oi := { dst := some 67, op := Op.load 34 (Operand.tmp 66), type := 34, pos := "outright.go:130", after := #[{ on := 0, ground := Ground.data }], guard := none }) (v := .slice (some ⟨b, off, none⟩) n c) rfl (by kernel_rfl) (by kernel_rfl) (by kernel_rfl) (fun _ _ _ h => h) (Or.inl ⟨by rfl, by intro w hSw; have hc := hSw.p3.cell 0; simp only [polC, List.getElem?_cons_zero] at hc; go_simp⟩) (by assumption) ?_
        simp only [Act.put, List.setIfInBounds_toArray, List.set_cons_zero, List.set_cons_succ]
        refine wpAnyH_take (i := 2) (oi := { dst := some 68, op := Op.move (Operand.tmp 12), type := 3, pos := "outright.go:130", after := #[], guard := none }) (v := .int .i64 (j : Int)) rfl (by kernel_rfl) (by kernel_rfl) (by kernel_rfl) (fun _ _ _ h => h) (Or.inl ⟨by rfl, by intro w hSw; go_simp⟩) (by assumption) ?_
        simp only [Act.put, List.setIfInBounds_toArray, List.set_cons_zero, List.set_cons_succ]
        refine wpAnyH_take (i := 3) (oi := { dst := some 69, op := Op.indexAddr 34 (Operand.tmp 67) (Operand.tmp 68), type := 0, pos := "outright.go:130", after := #[{ on := 1, ground := Ground.data }, { on := 2, ground := Ground.data }], guard := none }) (v := .pointer (some ⟨b, off + j * 10, none⟩)) rfl (by kernel_rfl) (by kernel_rfl) (by kernel_rfl) (fun _ _ _ h => h) (Or.inl ⟨by rfl, by intro w hSw; go_simp⟩) (by assumption) ?_
        simp only [Act.put, List.setIfInBounds_toArray, List.set_cons_zero, List.set_cons_succ]
        refine wpAnyH_take (i := 4) (oi := { dst := some 70, op := Op.fieldAddr 42 (Operand.tmp 69) 2, type := 0, pos := "outright.go:130", after := #[{ on := 3, ground := Ground.data }], guard := none }) (v := .pointer (some ⟨b, off + j * 10 + 2, none⟩)) rfl (by kernel_rfl) (by kernel_rfl) (by kernel_rfl) (fun _ _ _ h => h) (Or.inl ⟨by rfl, by intro w hSw; go_simp⟩) (by assumption) ?_
        simp only [Act.put, List.setIfInBounds_toArray, List.set_cons_zero, List.set_cons_succ]
        refine wpAnyH_take (i := 5) (oi := { dst := some 71, op := Op.load 23 (Operand.tmp 70), type := 23, pos := "outright.go:130", after := #[{ on := 4, ground := Ground.data }], guard := none }) (v := .agg ((r.ms).map (Value.int .u32)).toArray) rfl (by kernel_rfl) (by kernel_rfl) (by kernel_rfl) (fun _ _ _ h => h) (yieldsIf_load_mid (by rfl) _ _ rfl _ _ rfl _ _ (fun w hSw => Rl.atms hSw.rr) Tryd.underlying23 rfl (by rw [List.length_map, HO.out.ml]; exact size26)) (by assumption) ?_
        simp only [Act.put, List.setIfInBounds_toArray, List.set_cons_zero, List.set_cons_succ]
        refine wpAnyH_take (i := 6) (oi := { dst := some 72, op := Op.fieldAddr 38 (Operand.tmp 8) 0, type := 0, pos := "outright.go:130", after := #[], guard := none }) (v := .pointer (some ⟨g8, 0, none⟩)) rfl (by kernel_rfl) (by kernel_rfl) (by kernel_rfl) (fun _ _ _ h => h) (Or.inl ⟨by rfl, by intro w hSw; go_simp⟩) (by assumption) ?_
        simp only [Act.put, List.setIfInBounds_toArray, List.set_cons_zero, List.set_cons_succ]
        refine wpAnyH_take (i := 7) (oi := { dst := some 73, op := Op.load 23 (Operand.tmp 72), type := 23, pos := "outright.go:130", after := #[{ on := 6, ground := Ground.data }], guard := none }) (v := .agg ((m).map (Value.int .u32)).toArray) rfl (by kernel_rfl) (by kernel_rfl) (by kernel_rfl) (fun _ _ _ h => h) (yieldsIf_load_mid (by rfl) _ _ rfl _ _ rfl _ _ (fun w hSw => quo0 (cel_range (blk_cel hSw.b8))) Tryd.underlying23 rfl (by rw [List.length_map, hm]; exact size26)) (by assumption) ?_
        simp only [Act.put, List.setIfInBounds_toArray, List.set_cons_zero, List.set_cons_succ]
        refine wpAnyH_take (i := 8) (oi := { dst := some 74, op := Op.binOp BinOp.eql 23 (Operand.tmp 71) (Operand.tmp 73) 23, type := 4, pos := "outright.go:130", after := #[{ on := 5, ground := Ground.data }, { on := 7, ground := Ground.data }], guard := none }) (v := .bool false) rfl (by kernel_rfl) (by kernel_rfl) (by kernel_rfl) (fun _ _ _ h => h) (Or.inl ⟨by rfl, by intro w hSw; have he := hEM w; go_simp⟩) (by assumption) ?_
        simp only [Act.put, List.setIfInBounds_toArray, List.set_cons_zero, List.set_cons_succ]
        refine wpAnyH_done (by kernel_rfl) ?_ _
        have Y3 : Hid (JL W E g4 g7 g8 (some ⟨b, off, none⟩) n c ot R s o q ri sa k m d t wr.drew ∧ Blk wr.drew g9 .u32 23 T) := hid ⟨Y1.out.1.on (Below.refl _ _).drew, Y1.out.2.on (Below.refl _ _).drew⟩
        clear Y1 hEM
        clear Y2
        generalize World.drew _ = w5 at *
        go_wp2_with fail
        have hw : wrap64 ((j : Int) - 1) = (j : Int) - 1 := by unfold wrap64; omega
        (try rw [hw])
        clear hw
        go_roundw
        case rel => exact ⟨j, by have := HN.out; omega, rfl, by rw [HDR.out, dec, if_neg HE.out], by rw [HDR.out, dec, if_neg HE.out], Y3.out⟩
        case measure => simp [intOf] <;> omega
end Go.Proofs.YtbpdmkohihgnjaaDoor
