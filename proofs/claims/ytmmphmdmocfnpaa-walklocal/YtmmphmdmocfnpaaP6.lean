/- WalkLocal (6): the first walk. -/
import Derived.Test.YtmmphmdmocfnpaaP6b
namespace Go.Proofs.Ytmmphmdmocfnpaa
open Go.RowKit
set_option maxHeartbeats 8000000
set_option maxRecDepth 100000
theorem local_t1w (W b w : World) (f : Fp) (m : MS) (g4 g5 b10 b13 : Nat) (l va a : Int) (ps : Bool) (pp po pv : Int) (hL : LC W b w f m g4 g5 l va a ps pp po pv) (hU : m.U) (va0 : 0 ≤ va) (va1 : va < 4294967296) (pv0 : 0 ≤ pv) (pv1 : pv < 4294967296) (h10 : Cel w b10 35 [.bool (m.wk l va).s, .int .i64 (m.wk l va).p, .bool (m.wk l va).wr, .bool (m.wk l va).ex]) (h13 : Cel w b13 33 [.bool (m.trS l va a), .int .i64 (m.trP l va a)]) (l10 : b.heap.size ≤ b10) (l13 : b.heap.size ≤ b13) (e te : Int) (he : m.wkE l va = e) (hte : m.trE l va a = te) (K : Act → World → Prop) (hK : ∀ a w, Code.wp Try.prog (sfx 12 (Try.f6.body.getD .skip)) (bodyPost Try.prog Try.f6 fun x w' => x = .returned (.bool true) ∧ Below W.heap.size W w') a w → K a w) (z0 z1 z2 z3 z6 z8 z9 z12 z18 z19 z20 z21 z22 z23 z24 z25 z26 z27 z28 z29 z30 z31 z32 z33 z34 z35 z36 z37 z38 z39 z40 z41 z42 z43 z44 z45 z46 z47 z48 z49 z50 z51 z52 z53 z54 z55 z56 z57 z58 z59 z60 z61 z62 z63 z64 z65 z66 z67 z68 z69 z70 z71 z72 z73 z74 z75 z76 z77 z78 z79 z80 z81 z82 z83 z84 z85 z86 z87 z88 z89 z90 z91 z92 z93 z94 z95 z96 z97 z98 z99 z100 z101 z102 z103 z104 z105 z106 z107 z108 z109 z110 z111 z112 z113 z114 z115 z116 z117 z118 z119 z120 z121 z122 z123 z124 z125 z126 z127 z128 z129 z130 z131 z132 z133 z134 z135 z136 z137 z138 z139 z140 z141 z142 z143 z144 z145 z146 z147 z148 z149 z150 z151 z152 z153 z154 z155 z156 z157 z158 z159 z160 z161 z162 z163 z164 z165 z166 z167 z168 z169 z170 z171 z172 z173 z174 z175 z176 z177 z178 z179 z180 z181 z182 z183 z184 z185 z186 z187 z188 z189 z190 z191 z192 z193 z194 z195 z196 z197 z198 z199 z200 z201 z202 z203 z204 z205 z206 z207 z208 z209 z210 z211 z212 z213 z214 z215 : Value) :
    Code.wp Try.prog (hdx 11 (Try.f6.body.getD .skip)) (Exit.then K (bodyPost Try.prog Try.f6 fun x w' => x = .returned (.bool true) ∧ Below W.heap.size W w')) { tmps := #[z0, z1, z2, z3, .pointer (some ⟨g4, 0, none⟩), .pointer (some ⟨g5, 0, none⟩), z6, .pointer (some ⟨f.gm, 0, none⟩), z8, z9, .pointer (some ⟨b10, 0, none⟩), .int .i64 e, z12, .pointer (some ⟨b13, 0, none⟩), .int .i64 (m.trO l va a), .int .i64 te, .int .i64 (spI va), .int .i64 (spJ va), z18, z19, z20, z21, z22, z23, z24, z25, z26, z27, z28, z29, z30, z31, z32, z33, z34, z35, z36, z37, z38, z39, z40, z41, z42, z43, z44, z45, z46, z47, z48, z49, z50, z51, z52, z53, z54, z55, z56, z57, z58, z59, z60, z61, z62, z63, z64, z65, z66, z67, z68, z69, z70, z71, z72, z73, z74, z75, z76, z77, z78, z79, z80, z81, z82, z83, z84, z85, z86, z87, z88, z89, z90, z91, z92, z93, z94, z95, z96, z97, z98, z99, z100, z101, z102, z103, z104, z105, z106, z107, z108, z109, z110, z111, z112, z113, z114, z115, z116, z117, z118, z119, z120, z121, z122, z123, z124, z125, z126, z127, z128, z129, z130, z131, z132, z133, z134, z135, z136, z137, z138, z139, z140, z141, z142, z143, z144, z145, z146, z147, z148, z149, z150, z151, z152, z153, z154, z155, z156, z157, z158, z159, z160, z161, z162, z163, z164, z165, z166, z167, z168, z169, z170, z171, z172, z173, z174, z175, z176, z177, z178, z179, z180, z181, z182, z183, z184, z185, z186, z187, z188, z189, z190, z191, z192, z193, z194, z195, z196, z197, z198, z199, z200, z201, z202, z203, z204, z205, z206, z207, z208, z209, z210, z211, z212, z213, z214, z215], defers := [] } w := by
  subst he hte
  exact local_t1 W b w f m g4 g5 b10 b13 l va a ps pp po pv hL hU va0 va1 pv0 pv1 h10 h13 l10 l13 K hK z0 z1 z2 z3 z6 z8 z9 z12 z18 z19 z20 z21 z22 z23 z24 z25 z26 z27 z28 z29 z30 z31 z32 z33 z34 z35 z36 z37 z38 z39 z40 z41 z42 z43 z44 z45 z46 z47 z48 z49 z50 z51 z52 z53 z54 z55 z56 z57 z58 z59 z60 z61 z62 z63 z64 z65 z66 z67 z68 z69 z70 z71 z72 z73 z74 z75 z76 z77 z78 z79 z80 z81 z82 z83 z84 z85 z86 z87 z88 z89 z90 z91 z92 z93 z94 z95 z96 z97 z98 z99 z100 z101 z102 z103 z104 z105 z106 z107 z108 z109 z110 z111 z112 z113 z114 z115 z116 z117 z118 z119 z120 z121 z122 z123 z124 z125 z126 z127 z128 z129 z130 z131 z132 z133 z134 z135 z136 z137 z138 z139 z140 z141 z142 z143 z144 z145 z146 z147 z148 z149 z150 z151 z152 z153 z154 z155 z156 z157 z158 z159 z160 z161 z162 z163 z164 z165 z166 z167 z168 z169 z170 z171 z172 z173 z174 z175 z176 z177 z178 z179 z180 z181 z182 z183 z184 z185 z186 z187 z188 z189 z190 z191 z192 z193 z194 z195 z196 z197 z198 z199 z200 z201 z202 z203 z204 z205 z206 z207 z208 z209 z210 z211 z212 z213 z214 z215
theorem local_any (W : World) (wa wb : Int) (ao : Option Addr) (n cp bk off : Nat) (k : Pk) (hk : PkAt W ao n bk off k) (hn : (n : Int) ≤ 140737488355328) (a0 : -9223372036854775808 ≤ wa) (a1 : wa ≤ 9223372036854775807) (b0 : -9223372036854775808 ≤ wb) (b1 : wb ≤ 9223372036854775807)
    (l va a : Int) (va0 : 0 ≤ va) (va1 : va < 4294967296) (ps : Bool) (pp po pv : Int) (pv0 : 0 ≤ pv) (pv1 : pv < 4294967296) :
    Calls Try.prog 6 #[.agg #[.int .i64 wa, .int .i64 wb, .slice ao n cp], .agg #[.int .i64 l, .int .u32 va, .int .i64 a], .agg #[.bool ps, .int .i64 pp, .int .i64 po, .int .u32 pv]] W fun e W' => e = .returned (.bool true) ∧ Below W.heap.size W W' := by
  have HX : Hid (Cel (((W.alloc (.cells #[.int .i64 wa, .int .i64 wb, .slice ao n cp] 71)).alloc (.cells #[.int .i64 l, .int .u32 va, .int .i64 a] 73)).alloc (.cells #[.bool ps, .int .i64 pp, .int .i64 po, .int .u32 pv] 75)) W.heap.size 71 [.int .i64 wa, .int .i64 wb, .slice ao n cp] ∧ Cel (((W.alloc (.cells #[.int .i64 wa, .int .i64 wb, .slice ao n cp] 71)).alloc (.cells #[.int .i64 l, .int .u32 va, .int .i64 a] 73)).alloc (.cells #[.bool ps, .int .i64 pp, .int .i64 po, .int .u32 pv] 75)) (W.heap.size + 1) 73 [.int .i64 l, .int .u32 va, .int .i64 a] ∧ Cel (((W.alloc (.cells #[.int .i64 wa, .int .i64 wb, .slice ao n cp] 71)).alloc (.cells #[.int .i64 l, .int .u32 va, .int .i64 a] 73)).alloc (.cells #[.bool ps, .int .i64 pp, .int .i64 po, .int .u32 pv] 75)) (W.heap.size + 1 + 1) 75 [.bool ps, .int .i64 pp, .int .i64 po, .int .u32 pv] ∧ Below W.heap.size W (((W.alloc (.cells #[.int .i64 wa, .int .i64 wb, .slice ao n cp] 71)).alloc (.cells #[.int .i64 l, .int .u32 va, .int .i64 a] 73)).alloc (.cells #[.bool ps, .int .i64 pp, .int .i64 po, .int .u32 pv] 75)) ∧ W.heap.size + 3 = (((W.alloc (.cells #[.int .i64 wa, .int .i64 wb, .slice ao n cp] 71)).alloc (.cells #[.int .i64 l, .int .u32 va, .int .i64 a] 73)).alloc (.cells #[.bool ps, .int .i64 pp, .int .i64 po, .int .u32 pv] 75)).heap.size) := by
    have h3 := ((Cel.new W 71 [.int .i64 wa, .int .i64 wb, .slice ao n cp]).on (below_one _ (.cells #[.int .i64 l, .int .u32 va, .int .i64 a] 73))).on (below_one _ (.cells #[.bool ps, .int .i64 pp, .int .i64 po, .int .u32 pv] 75))
    have h4 := (Cel.new (W.alloc (.cells #[.int .i64 wa, .int .i64 wb, .slice ao n cp] 71)) 73 [.int .i64 l, .int .u32 va, .int .i64 a]).on (below_one _ (.cells #[.bool ps, .int .i64 pp, .int .i64 po, .int .u32 pv] 75))
    have h5 := Cel.new ((W.alloc (.cells #[.int .i64 wa, .int .i64 wb, .slice ao n cp] 71)).alloc (.cells #[.int .i64 l, .int .u32 va, .int .i64 a] 73)) 75 [.bool ps, .int .i64 pp, .int .i64 po, .int .u32 pv]
    rw [World.size_alloc] at h4
    rw [World.size_alloc, World.size_alloc] at h5
    exact hid ⟨h3, h4, h5, below_on (below_on (below_one _ _) (below_one _ _)) (below_one _ _), by simp⟩
  have HB := hid (fun W' (hb : Below W.heap.size W W') => built_any W' wa wb ao n cp bk off k (hk.on hb) (by omega) a0 a1 b0 b1)
  have HU : Hid ((MS.new (pgs wa) (pgs wb)).poked k n).U := hid (poked_U _ k n (MS.U.new _ _) hk.r n (Nat.le_refl _))
  have hc := poked_c (MS.new (pgs wa) (pgs wb)) k rfl n (by omega)
  clear hk a0 a1 b0 b1
  have cb : ((MS.new (pgs wa) (pgs wb)).poked k n).c ≤ 140737488355328 := by omega
  have ca := hc.1
  clear hc
  generalize ((MS.new (pgs wa) (pgs wb)).poked k n) = m at *
  have VA : Hid (0 ≤ va ∧ va < 4294967296) := hid ⟨va0, va1⟩
  have PV : Hid (0 ≤ pv ∧ pv < 4294967296) := hid ⟨pv0, pv1⟩
  have HS := hid (fun W => split_any W va va0 va1)
  have HE1 := hid (m.wkS_eq l va ca (by omega))
  have hD := m.wkD_range l va
  have HE2 : Hid ((m.wkS l va).wkS l va = m.wc (m.c + 2 * m.wkD l va)) := hid (by
    rw [HE1.out]
    have hc1 : (m.wc (m.c + m.wkD l va)).c = m.c + m.wkD l va := rfl
    rw [MS.wkS_eq _ l va (by rw [hc1]; omega) (by rw [hc1]; omega), hc1, MS.wc_wkD, MS.wc_wc]
    congr 1
    omega)
  have HNO := hid (@wk_no m l va)
  have hts := tr_same (m := m) (m' := m.wkS l va) (m.wkS_wk l va l va) a
  have HT := hid (fun f w' (hm : Mem w' f (m.wkS l va)) => translate_any w' f _ hm (HU.out.wkS l va) l va a va0 va1)
  have HT : Hid (∀ f w', Mem w' f (m.wkS l va) → Calls Try.prog 32 #[ptr f.gm, .int .i64 l, .int .u32 va, .int .i64 a] w' fun x w2 => x = .returned (.tuple #[fr (m.trS l va a) (m.trP l va a), .int .i64 (m.trO l va a), .int .i64 (m.trE l va a)]) ∧ Rd w' w2 f (m.wc (m.c + 2 * m.wkD l va))) := hid (fun f w' hm => by
    have := HT.out f w' hm
    rw [hts.1, hts.2.1, hts.2.2.1, hts.2.2.2, HE2.out] at this
    exact this)
  have HK := hid (fun f w' (hm : Mem w' f m) => walk_any w' f m hm HU.out l va va0 va1)
  rw [HE1.out] at HK HT
  have HTE : Hid (¬ m.wkE l va = 0 → m.trE l va a = m.wkE l va) := hid (fun h => by unfold MS.trE; rw [if_neg h])
  have HSM : Hid ((m.wc (m.c + 2 * m.wkD l va)).same m = true) := hid (by unfold MS.same MS.wc; simp)
  clear HE1 HE2 hts va0 va1 pv0 pv1
  obtain ⟨hd0, hd1⟩ := hD
  go_enter Try.func6, Try.ntmps6
  go_upto_region 1 with fail
  generalize hX : ((W.alloc _).alloc _).alloc _ = X at *
  clear hX
  obtain ⟨x3, x4, x5, xb, xs⟩ := HX.out
  have HC3 := hid x3
  have HC4 := hid x4
  have HC5 := hid x5
  have HXB := hid xb
  have HXS := hid xs
  clear x3 x4 x5 xb xs HX
  have c0 := HC3.out.cell 0
  have c1 := HC3.out.cell 1
  have c2 := HC3.out.cell 2
  simp only [List.getElem?_cons_zero, List.getElem?_cons_succ] at c0 c1 c2
  go_wp2_with fail
  refine (HB.out _ HXB.out).mono ?_
  rintro x w1 ⟨f, rfl, hm1⟩
  have HM1 := hid hm1
  clear hm1 HB c0 c1 c2
  unfold ptr at *
  go_wp2_with fail
  refine (known_any _).mono ?_
  rintro x w2 ⟨rfl, hb2⟩
  have HM2 := hid (HM1.out.on hb2)
  clear hb2 HM1
  go_wp2_with fail
  refine (clone_any _ f m HM2.out.mem).mono ?_
  rintro x w3 ⟨f', rfl, hm3⟩
  have HFA : Hid (∀ q ∈ f.w, q ∈ f.all) := hid (fun q h => by simp only [Fp.w, Fp.all, List.mem_cons] at h ⊢; rcases h with h | h <;> simp [h])
  have HL : Hid (LC W w3 w3 f m (W.heap.size + 1) (W.heap.size + 1 + 1) l va a ps pp po pv) := hid ⟨.start (HM2.out.mem.on hm3.below), (HC4.out.below HM2.out.below HC4.out.lt).on hm3.below, (HC5.out.below HM2.out.below HC5.out.lt).on hm3.below,
    fun h => by have := HM2.out.new _ (HFA.out _ h); have := HXS.out; omega,
    fun h => by have := HM2.out.new _ (HFA.out _ h); have := HXS.out; omega,
    below_on (HXB.out.trans (HM2.out.below.mono (by have := HXS.out; omega))) hm3.below,
    fun q h => by have := HM2.out.new _ (HFA.out _ h); have := HXS.out; omega⟩
  have HMB : Hid (Mem w3 f' m ∧ ∀ q ∈ f'.all, q ∉ f.w) := hid ⟨hm3.mem, fun q hq h => by
    have h1 := hm3.new q hq
    have h2 := HM2.out.mem.lt q (HFA.out _ h)
    omega⟩
  clear hm3 HM2 HC3 HC4 HC5 HXB HXS HFA
  unfold ptr at *
  go_wp2_with fail
  refine (meter_any _ f m HL.out.rd.mem).mono ?_
  rintro x wq ⟨rfl, rfl⟩
  have c0 := HL.out.c4.cell 0
  have c1 := HL.out.c4.cell 1
  have c2 := HL.out.c4.cell 2
  simp only [List.getElem?_cons_zero, List.getElem?_cons_succ] at c0 c1 c2
  go_wp2_with fail
  refine (HK.out f _ HL.out.rd.mem).mono ?_
  rintro x w4 ⟨rfl, hr4⟩
  have HL4 := hid ((HL.out.step hr4.mem hr4.but).on (below_one _ (.cells #[.bool (m.wk l va).s, .int .i64 (m.wk l va).p, .bool (m.wk l va).wr, .bool (m.wk l va).ex] 35)))
  have HMB4 := hid ((HMB.out.1.frame hr4.but HMB.out.2).on (below_one _ (.cells #[.bool (m.wk l va).s, .int .i64 (m.wk l va).p, .bool (m.wk l va).wr, .bool (m.wk l va).ex] 35)))
  have H104 := hid (Cel.new w4 35 [.bool (m.wk l va).s, .int .i64 (m.wk l va).p, .bool (m.wk l va).wr, .bool (m.wk l va).ex])
  have HG4 := hid hr4.but.size
  clear hr4 HL HK c0 c1 c2
  unfold Mp.v
  go_upto_region 7 with fail
  generalize w4.heap.size = b10 at *
  generalize hX4 : w4.alloc _ = x4 at *
  clear hX4
  go_wp2_with fail
  refine (meter_any _ f _ HL4.out.rd.mem).mono ?_
  rintro x w5 ⟨rfl, rfl⟩
  have hmc : (m.wc (m.c + m.wkD l va)).c = m.c + m.wkD l va := rfl
  rw [hmc]
  clear hmc
  have hlook : m.c + m.wkD l va - m.c = m.wkD l va := by omega
  have c0 := HL4.out.c4.cell 0
  have c1 := HL4.out.c4.cell 1
  have c2 := HL4.out.c4.cell 2
  simp only [List.getElem?_cons_zero, List.getElem?_cons_succ] at c0 c1 c2
  go_wp2_with fail
  refine (HT.out f _ HL4.out.rd.mem).mono ?_
  rintro x w6 ⟨rfl, hr6⟩
  have HL6 := hid ((HL4.out.step hr6.mem hr6.but).on (below_one _ (.cells #[.bool (m.trS l va a), .int .i64 (m.trP l va a)] 33)))
  have HMB6 := hid ((HMB4.out.frame hr6.but HMB.out.2).on (below_one _ (.cells #[.bool (m.trS l va a), .int .i64 (m.trP l va a)] 33)))
  have H106 := hid ((H104.out.but hr6.but (HL4.out.rd.new HG4.out)).on (below_one _ (.cells #[.bool (m.trS l va a), .int .i64 (m.trP l va a)] 33)))
  have H136 := hid (Cel.new w6 33 [.bool (m.trS l va a), .int .i64 (m.trP l va a)])
  have HG6 := hid (HL4.out.rd.step hr6.mem hr6.but).but.size
  clear hr6 HL4 HT c0 c1 c2 H104 HMB4
  unfold fr
  go_upto_region 9 with fail
  generalize w6.heap.size = b13 at *
  generalize hX6 : w6.alloc _ = x6 at *
  clear hX6
  have hMet := hid (meter_any _ f _ HL6.out.rd.mem)
  have hmc : (m.wc (m.c + 2 * m.wkD l va)).c = m.c + 2 * m.wkD l va := rfl
  rw [hmc] at hMet
  clear hmc
  unfold ptr at hMet
  have hSame := hid (same_any _ f _ HL6.out.rd.mem f' m HMB6.out)
  rw [HSM.out] at hSame
  unfold ptr at hSame
  have e1 : decide (m.wkD l va < 0) = false := by simp; omega
  have e2 : decide (2 < m.wkD l va) = false := by simp; omega
  go_wp2_with fail
  refine hMet.out.mono ?_
  rintro x wx ⟨rfl, rfl⟩
  go_wp2_with fail
  refine hSame.out.mono ?_
  rintro x w7 ⟨rfl, hb7⟩
  have HL7 := hid (HL6.out.on hb7)
  have H107 := hid (H106.out.on hb7)
  have H137 := hid (H136.out.on hb7)
  clear hb7 HL6 HMB6 hMet hSame H106 H136
  have c1 := HL7.out.c4.cell 1
  simp only [List.getElem?_cons_zero, List.getElem?_cons_succ] at c1
  have HFin : Hid (spE va = 91 → m.wkE l va = 91 ∧ m.wkD l va = 0) := hid (fun h => (HNO.out (by omega)).2)
  have HW : Hid (∀ e te, m.wkE l va = e → m.trE l va a = te → (m.wc (m.c + 2 * m.wkD l va)).wkE l va = e ∧ (m.wc (m.c + 2 * m.wkD l va)).trE l va a = te) := hid (fun e te h1 h2 => ⟨h1, h2⟩)
  have HU2 : Hid (m.wc (m.c + 2 * m.wkD l va)).U := HU
  have HBS : Hid (wq.heap.size ≤ b10 ∧ wq.heap.size ≤ b13) := hid ⟨HG4.out, HG6.out⟩
  have HTAIL := hid (fun e te h1 h2 => local_t1w W wq w7 f (m.wc (m.c + 2 * m.wkD l va)) (W.heap.size + 1) (W.heap.size + 1 + 1) b10 b13 l va a ps pp po pv HL7.out HU2.out VA.out.1 VA.out.2 PV.out.1 PV.out.2 H107.out H137.out HBS.out.1 HBS.out.2 e te h1 h2)
  have HBel := hid HL7.out.below
  clear HW HU2 HBS HL7 H107 H137 HG4 HG6 HMB HSM
  generalize hge : m.wkE l va = e at *
  generalize hgt : m.trE l va a = te at *
  generalize hgo : m.trO l va a = tof at *
  by_cases he : e = 0
  · subst he
    go_wp2_with fail
    refine (HS.out _).mono ?_
    rintro x wx ⟨rfl, rfl⟩
    have hsp : spE va = 0 := by
      rcases Classical.em (spE va = 0) with h | h
      · exact h
      · have := (HNO.out h).2.1; omega
    rw [hsp]
    go_upto_region 14 with fail
    subst hgo
    exact HTAIL.out 0 te hge hgt _ ‹∀ (a : Act) (w : World), Code.wp Try.prog _ _ a w → _› _ _ _ _ _ _ _ _ _ _ _ _ _ _ _ _ _ _ _ _ _ _ _ _ _ _ _ _ _ _ _ _ _ _ _ _ _ _ _ _ _ _ _ _ _ _ _ _ _ _ _ _ _ _ _ _ _ _ _ _ _ _ _ _ _ _ _ _ _ _ _ _ _ _ _ _ _ _ _ _ _ _ _ _ _ _ _ _ _ _ _ _ _ _ _ _ _ _ _ _ _ _ _ _ _ _ _ _ _ _ _ _ _ _ _ _ _ _ _ _ _ _ _ _ _ _ _ _ _ _ _ _ _ _ _ _ _ _ _ _ _ _ _ _ _ _ _ _ _ _ _ _ _ _ _ _ _ _ _ _ _ _ _ _ _ _ _ _ _ _ _ _ _ _ _ _ _ _ _ _ _ _ _ _ _ _ _ _ _ _ _ _ _ _ _ _ _ _ _ _ _ _ _ _ _ _
  · have hte : te = e := HTE.out he
    subst hte
    have hb : (te == 0) = false := by simp [he]
    go_wp2_with fail
    refine (HS.out _).mono ?_
    rintro x wx ⟨rfl, rfl⟩
    by_cases hsp : spE va = 0
    · rw [hsp]
      go_upto_region 14 with fail
      subst hgo
      exact HTAIL.out te te hge hgt _ ‹∀ (a : Act) (w : World), Code.wp Try.prog _ _ a w → _› _ _ _ _ _ _ _ _ _ _ _ _ _ _ _ _ _ _ _ _ _ _ _ _ _ _ _ _ _ _ _ _ _ _ _ _ _ _ _ _ _ _ _ _ _ _ _ _ _ _ _ _ _ _ _ _ _ _ _ _ _ _ _ _ _ _ _ _ _ _ _ _ _ _ _ _ _ _ _ _ _ _ _ _ _ _ _ _ _ _ _ _ _ _ _ _ _ _ _ _ _ _ _ _ _ _ _ _ _ _ _ _ _ _ _ _ _ _ _ _ _ _ _ _ _ _ _ _ _ _ _ _ _ _ _ _ _ _ _ _ _ _ _ _ _ _ _ _ _ _ _ _ _ _ _ _ _ _ _ _ _ _ _ _ _ _ _ _ _ _ _ _ _ _ _ _ _ _ _ _ _ _ _ _ _ _ _ _ _ _ _ _ _ _ _ _ _ _ _ _ _ _ _ _ _ _
    · obtain ⟨s1, s2, s3⟩ := HNO.out hsp
      rw [s1]
      have s4 : te = 91 := s2
      subst s4
      rw [s3]
      go_wp2_with fail
      go_returns
      exact ⟨rfl, HBel.out⟩
end Go.Proofs.Ytmmphmdmocfnpaa
