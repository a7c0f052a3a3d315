/- WalkLocal (6). -/
import Derived.Test.YtmmphmdmocfnpaaLp
import Derived.Test.YtmmphmdmocfnpaaP3d
namespace Go.Proofs.Ytmmphmdmocfnpaa
open Go.RowKit
set_option maxHeartbeats 8000000
set_option maxRecDepth 100000
theorem MS.read_wk (m : MS) (s : Bool) (p o l va : Int) : (m.read s p o).wk l va = m.wk l va := by
  rw [MS.read_eq]; split <;> rfl
theorem MS.read_wkE (m : MS) (s : Bool) (p o l va : Int) : (m.read s p o).wkE l va = m.wkE l va := by
  rw [MS.read_eq]; split <;> rfl
theorem MS.wkS_wk (m : MS) (l va l' va' : Int) : (m.wkS l va).wk l' va' = m.wk l' va' ∧ (m.wkS l va).wkE l' va' = m.wkE l' va' := by
  unfold MS.wkS
  split
  · split
    · rw [MS.read_wk, MS.read_wkE, MS.read_wk, MS.read_wkE]; exact ⟨rfl, rfl⟩
    · rw [MS.read_wk, MS.read_wkE]; exact ⟨rfl, rfl⟩
  · exact ⟨rfl, rfl⟩
theorem MS.U.wkS {m : MS} (h : m.U) (l va : Int) : (m.wkS l va).U := by
  unfold MS.wkS
  split
  · split
    · exact (h.read _ _ _).read _ _ _
    · exact h.read _ _ _
  · exact h
theorem tr_same {m m' : MS} {l va : Int} (h : m'.wk l va = m.wk l va ∧ m'.wkE l va = m.wkE l va) (a : Int) : m'.trE l va a = m.trE l va a ∧ m'.trS l va a = m.trS l va a ∧ m'.trP l va a = m.trP l va a ∧ m'.trO l va a = m.trO l va a := by
  have e : m'.trE l va a = m.trE l va a := by unfold MS.trE; rw [h.1, h.2]
  refine ⟨e, ?_, ?_, ?_⟩
  · unfold MS.trS; rw [e, h.1]
  · unfold MS.trP; rw [e, h.1]
  · unfold MS.trO; rw [e]
/-- Ask and poke in their boxes, the memory, and what is below. -/
structure LC (W b x : World) (f : Fp) (m : MS) (g4 g5 : Nat) (l va a : Int) (ps : Bool) (pp po pv : Int) : Prop where
  rd : Rd b x f m
  c4 : Cel x g4 73 [.int .i64 l, .int .u32 va, .int .i64 a]
  c5 : Cel x g5 75 [.bool ps, .int .i64 pp, .int .i64 po, .int .u32 pv]
  n4 : g4 ∉ f.w
  n5 : g5 ∉ f.w
  below : Below W.heap.size W x
  hi : ∀ k ∈ f.w, W.heap.size ≤ k
theorem LC.on {W b x x' : World} {f : Fp} {m : MS} {g4 g5 : Nat} {l va a : Int} {ps : Bool} {pp po pv : Int} (h : LC W b x f m g4 g5 l va a ps pp po pv) (hb : Below x.heap.size x x') : LC W b x' f m g4 g5 l va a ps pp po pv :=
  ⟨h.rd.on hb, h.c4.on hb, h.c5.on hb, h.n4, h.n5, below_on h.below hb, h.hi⟩
theorem LC.step {W b x x' : World} {f : Fp} {m m' : MS} {g4 g5 : Nat} {l va a : Int} {ps : Bool} {pp po pv : Int} (h : LC W b x f m g4 g5 l va a ps pp po pv) (hm : Mem x' f m') (hb : ButL f.w x x') : LC W b x' f m' g4 g5 l va a ps pp po pv :=
  ⟨h.rd.step hm hb, h.c4.but hb h.n4, h.c5.but hb h.n5, h.n4, h.n5, h.below.trans (hb.below h.hi h.below.size), h.hi⟩
theorem local_t2 (W b w : World) (f : Fp) (m : MS) (g4 g5 b10 b13 : Nat) (l va a : Int) (ps : Bool) (pp po pv : Int) (hL : LC W b w f m g4 g5 l va a ps pp po pv) (hU : m.U) (va0 : 0 ≤ va) (va1 : va < 4294967296) (pv0 : 0 ≤ pv) (pv1 : pv < 4294967296) (h10 : Cel w b10 35 [.bool (m.wk l va).s, .int .i64 (m.wk l va).p, .bool (m.wk l va).wr, .bool (m.wk l va).ex]) (h13 : Cel w b13 33 [.bool (m.trS l va a), .int .i64 (m.trP l va a)]) (l10 : b.heap.size ≤ b10) (l13 : b.heap.size ≤ b13) (hloc : (m.write ps pp po pv).wk l va = m.wk l va ∧ (m.write ps pp po pv).wkE l va = m.wkE l va) (K : Act → World → Prop) (hK : ∀ a w, Code.wp Try.prog (sfx 17 (Try.f6.body.getD .skip)) (bodyPost Try.prog Try.f6 fun x w' => x = .returned (.bool true) ∧ Below W.heap.size W w') a w → K a w) (z0 z1 z2 z3 z6 z8 z9 z12 z16 z17 z18 z19 z20 z21 z22 z23 z24 z25 z26 z27 z28 z29 z30 z31 z32 z33 z34 z35 z36 z37 z38 z39 z40 z41 z42 z43 z44 z45 z46 z47 z48 z49 z50 z51 z52 z53 z54 z55 z56 z57 z58 z59 z60 z61 z62 z63 z64 z65 z66 z67 z68 z69 z70 z71 z72 z73 z74 z75 z76 z77 z78 z79 z80 z81 z82 z83 z84 z85 z86 z87 z88 z89 z90 z91 z92 z93 z94 z95 z96 z97 z98 z99 z100 z101 z102 z103 z104 z105 z106 z107 z108 z109 z110 z111 z112 z113 z114 z115 z116 z117 z118 z119 z120 z121 z122 z123 z124 z125 z126 z127 z128 z129 z130 z131 z132 z133 z134 z135 z136 z137 z138 z139 z140 z141 z142 z143 z144 z145 z146 z147 z148 z149 z150 z151 z152 z153 z154 z155 z156 z157 z158 z159 z160 z161 z162 z163 z164 z165 z166 z167 z168 z169 z170 z171 z172 z173 z174 z175 z176 z177 z178 z179 z180 z181 z182 z183 z184 z185 z186 z187 z188 z189 z190 z191 z192 z193 z194 z195 z196 z197 z198 z199 z200 z201 z202 z203 z204 z205 z206 z207 z208 z209 z210 z211 z212 z213 z214 z215 : Value) :
    Code.wp Try.prog (hdx 16 (Try.f6.body.getD .skip)) (Exit.then K (bodyPost Try.prog Try.f6 fun x w' => x = .returned (.bool true) ∧ Below W.heap.size W w')) { tmps := #[z0, z1, z2, z3, .pointer (some ⟨g4, 0, none⟩), .pointer (some ⟨g5, 0, none⟩), z6, .pointer (some ⟨f.gm, 0, none⟩), z8, z9, .pointer (some ⟨b10, 0, none⟩), .int .i64 (m.wkE l va), z12, .pointer (some ⟨b13, 0, none⟩), .int .i64 (m.trO l va a), .int .i64 (m.trE l va a), z16, z17, z18, z19, z20, z21, z22, z23, z24, z25, z26, z27, z28, z29, z30, z31, z32, z33, z34, z35, z36, z37, z38, z39, z40, z41, z42, z43, z44, z45, z46, z47, z48, z49, z50, z51, z52, z53, z54, z55, z56, z57, z58, z59, z60, z61, z62, z63, z64, z65, z66, z67, z68, z69, z70, z71, z72, z73, z74, z75, z76, z77, z78, z79, z80, z81, z82, z83, z84, z85, z86, z87, z88, z89, z90, z91, z92, z93, z94, z95, z96, z97, z98, z99, z100, z101, z102, z103, z104, z105, z106, z107, z108, z109, z110, z111, z112, z113, z114, z115, z116, z117, z118, z119, z120, z121, z122, z123, z124, z125, z126, z127, z128, z129, z130, z131, z132, z133, z134, z135, z136, z137, z138, z139, z140, z141, z142, z143, z144, z145, z146, z147, z148, z149, z150, z151, z152, z153, z154, z155, z156, z157, z158, z159, z160, z161, z162, z163, z164, z165, z166, z167, z168, z169, z170, z171, z172, z173, z174, z175, z176, z177, z178, z179, z180, z181, z182, z183, z184, z185, z186, z187, z188, z189, z190, z191, z192, z193, z194, z195, z196, z197, z198, z199, z200, z201, z202, z203, z204, z205, z206, z207, z208, z209, z210, z211, z212, z213, z214, z215], defers := [] } w := by
  have HL := hid hL
  have H10 := hid h10
  have H13 := hid h13
  have HL10 := hid l10
  have HL13 := hid l13
  have HN10 := hid (hL.rd.new l10)
  have HN13 := hid (hL.rd.new l13)
  have HW := hid (fun w' (hm : Mem w' f m) => write_any w' f m hm ps pp po pv)
  have HU2 := hid (hU.write ps pp po pv pv0 pv1)
  have HK := hid (fun w' (hm : Mem w' f (m.write ps pp po pv)) => walk_any w' f _ hm HU2.out l va va0 va1)
  have HT := hid (fun w' (hm : Mem w' f ((m.write ps pp po pv).wkS l va)) => translate_any w' f _ hm (HU2.out.wkS l va) l va a va0 va1)
  have hs2 := MS.wkS_wk (m.write ps pp po pv) l va l va
  have ht := tr_same (m := m) (m' := (m.write ps pp po pv).wkS l va) ⟨hs2.1.trans hloc.1, hs2.2.trans hloc.2⟩ a
  rw [ht.1, ht.2.1, ht.2.2.1, ht.2.2.2] at HT
  rw [hloc.1, hloc.2] at HK
  clear hL h10 h13 l10 l13 hU va0 va1 pv0 pv1 hs2 ht hloc HU2
  generalize m.trE l va a = te at *
  generalize m.trS l va a = ts at *
  generalize m.trP l va a = tp at *
  generalize m.trO l va a = tof at *
  generalize m.wkE l va = e at *
  generalize m.wk l va = q at *
  generalize hm1 : m.write ps pp po pv = m1 at *
  clear hm1
  unfold fr ptr at *
  refine hd_walk 16 rfl (by simp only [hdx, sfx]; rfl) (by simp only [sfx]; rfl) hK ?_
  clear hK
  intro hK
  have d0 := HL.out.c5.cell 0
  have d1 := HL.out.c5.cell 1
  have d2 := HL.out.c5.cell 2
  have d3 := HL.out.c5.cell 3
  simp only [List.getElem?_cons_zero, List.getElem?_cons_succ] at d0 d1 d2 d3
  have c0 := HL.out.c4.cell 0
  have c1 := HL.out.c4.cell 1
  have c2 := HL.out.c4.cell 2
  simp only [List.getElem?_cons_zero, List.getElem?_cons_succ] at c0 c1 c2
  go_wp2_with fail
  refine (HW.out _ HL.out.rd.mem).mono ?_
  rintro x w1 ⟨rfl, hm1, hb1⟩
  have HL1 := hid (HL.out.step hm1 hb1)
  have H101 := hid (H10.out.but hb1 HN10.out)
  have H131 := hid (H13.out.but hb1 HN13.out)
  clear hm1 hb1 HL H10 H13 c0 c1 c2 d0 d1 d2 d3
  have c0 := HL1.out.c4.cell 0
  have c1 := HL1.out.c4.cell 1
  have c2 := HL1.out.c4.cell 2
  simp only [List.getElem?_cons_zero, List.getElem?_cons_succ] at c0 c1 c2
  go_wp2_with fail
  refine (HK.out _ HL1.out.rd.mem).mono ?_
  rintro x w2 ⟨rfl, hr2⟩
  have HL2 := hid ((HL1.out.step hr2.mem hr2.but).on (below_one _ (.cells #[.bool q.s, .int .i64 q.p, .bool q.wr, .bool q.ex] 35)))
  have H102 := hid ((H101.out.but hr2.but HN10.out).on (below_one _ (.cells #[.bool q.s, .int .i64 q.p, .bool q.wr, .bool q.ex] 35)))
  have H132 := hid ((H131.out.but hr2.but HN13.out).on (below_one _ (.cells #[.bool q.s, .int .i64 q.p, .bool q.wr, .bool q.ex] 35)))
  have H252 := hid (Cel.new w2 35 [.bool q.s, .int .i64 q.p, .bool q.wr, .bool q.ex])
  have HN25 := hid ((HL1.out.rd.step hr2.mem hr2.but).new (g := w2.heap.size) (HL1.out.rd.step hr2.mem hr2.but).but.size)
  clear hr2 HL1 H101 H131 c0 c1 c2
  unfold Mp.v
  go_upto_region 22 with fail
  generalize w2.heap.size = b25 at *
  generalize hX2 : w2.alloc _ = x2 at *
  clear hX2
  have c0 := HL2.out.c4.cell 0
  have c1 := HL2.out.c4.cell 1
  have c2 := HL2.out.c4.cell 2
  simp only [List.getElem?_cons_zero, List.getElem?_cons_succ] at c0 c1 c2
  go_wp2_with fail
  refine (HT.out _ HL2.out.rd.mem).mono ?_
  rintro x w3 ⟨rfl, hr3⟩
  have HL3 := hid ((HL2.out.step hr3.mem hr3.but).on (below_one _ (.cells #[.bool ts, .int .i64 tp] 33)))
  have H103 := hid ((H102.out.but hr3.but HN10.out).on (below_one _ (.cells #[.bool ts, .int .i64 tp] 33)))
  have H133 := hid ((H132.out.but hr3.but HN13.out).on (below_one _ (.cells #[.bool ts, .int .i64 tp] 33)))
  have H253 := hid ((H252.out.but hr3.but HN25.out).on (below_one _ (.cells #[.bool ts, .int .i64 tp] 33)))
  have H273 := hid (Cel.new w3 33 [.bool ts, .int .i64 tp])
  clear hr3 HL2 H102 H132 H252 c0 c1 c2
  go_upto_region 23 with fail
  generalize w3.heap.size = b27 at *
  generalize hX3 : w3.alloc _ = x3 at *
  clear hX3
  obtain ⟨p0, p1, p2, p3⟩ := cel4 H103.out
  obtain ⟨q0, q1, q2, q3⟩ := cel4 H253.out
  have r0 := H133.out.cell 0
  have r1 := H133.out.cell 1
  have s0 := H273.out.cell 0
  have s1 := H273.out.cell 1
  simp only [List.getElem?_cons_zero, List.getElem?_cons_succ] at r0 r1 s0 s1
  go_wp2_with fail
  go_returns
  exact ⟨by simp, HL3.out.below⟩
end Go.Proofs.Ytmmphmdmocfnpaa
