/- RegsBack (5): its end. -/
import Derived.Test.YthpkodkilbcepaaP0
namespace Go.Proofs.Ythpkodkilbcepaa
open Go.RowKit
set_option maxHeartbeats 4000000
set_option maxRecDepth 100000
attribute [-simp] Try.isAgg27 Try.sizeOf27 Try.isAgg25 Try.sizeOf25 Try.isAgg23 Try.isAgg46 Try.sizeOf46
def sfx : Nat → Code → Code
  | n + 1, .seq _ b => sfx n b
  | _, c => c
theorem sfx_walk {body : Option Code} (n : Nat) {code c' : Code} {Q : Exit → Act → World → Prop} {a : Act} {w : World} (h : body = some code) (h' : sfx n code = c') (hw : Code.wp Try.prog c' Q a w) : Code.wp Try.prog (sfx n (body.getD .skip)) Q a w := by
  subst h'
  rw [h]
  exact hw
theorem wpList_build_zg {ops : Array Oper} {rest : List Oper} {o : Oper} {a : Act} {w : World} {Q : Exit → Act → World → Prop} (hw : Region.wanted o (yielded ops a.tmps) = true) (ho : o.op = .build 27 #[])
    (h : wpList Try.prog ops Q rest (a.put o.dst F.zero.v) w) : wpList Try.prog ops Q (o :: rest) a w := by
  rw [wpList, if_pos hw]
  refine .inl ?_
  unfold Oper.wp execOp
  simp only [ho, Sem.run_bind, Array.map_empty, run_build w 27 #[] _ built_zero, Result.andThen_ok]
  exact h
theorem wpList_eql_fg {ops : Array Oper} {rest : List Oper} {o : Oper} {a : Act} {w : World} {Q : Exit → Act → World → Prop} (hw : Region.wanted o (yielded ops a.tmps) = true) (x y : Operand) (ho : o.op = .binOp .eql 27 x y 27)
    (f g : F) (hx : a.eval x = f.v) (hy : a.eval y = g.v) (b : Bool) (hb : f.same g = b)
    (h : wpList Try.prog ops Q rest (a.put o.dst (.bool b)) w) : wpList Try.prog ops Q (o :: rest) a w := by
  rw [wpList, if_pos hw]
  refine .inl ?_
  unfold Oper.wp
  rw [exec_eql_f x y ho f g hx hy b hb]
  exact h
theorem exec_eql_r {a : Act} {w : World} {o : Oper} (x y : Operand) (ho : o.op = .binOp .eql 23 x y 23) (r s : Nat → Int) (hx : a.eval x = rV r) (hy : a.eval y = rV s) (b : Bool) (hb : sameR r s = b) :
    (execOp a.eval o).run Try.prog w = .ok (.value (.bool b)) w := by
  have hg : (eqGuard .eql 23 x y (rV r) (rV s)).run Try.prog w = .ok () w := run_eqGuard_agg w .eql 23 x y _ _ (by kernel_rfl)
  have hr : (binOp .eql 23 (rV r) (rV s)).run Try.prog w = .ok (.bool (sameR r s)) w := by
    have := run_equalIn_rs w 9998 r s
    rw [rV, rV] at this ⊢
    rw [run_eql_struct, this]; rfl
  unfold execOp
  simp only [ho, hx, hy, Sem.run_bind, Sem.run_pure, hg, hr, Result.andThen_ok, hb]
theorem gw_cases {x : Int} (h : gw x = false) : ¬ x = 0 ∧ ¬ x = 1 ∧ ¬ x = 2 ∧ ¬ x = 4 ∧ ¬ x = 6 := by
  simpa [gw, Bool.or_eq_false_iff, beq_eq_false_iff_ne, and_assoc] using h
theorem flags_flagged (f : F) (x : Int) (h : gw x = true) : (f.flagged x).flags = x := by
  have hx : x = 0 ∨ x = 1 ∨ x = 2 ∨ x = 4 ∨ x = 6 := by simpa [gw, Bool.or_eq_true, beq_iff_eq, or_assoc] using h
  rcases hx with rfl | rfl | rfl | rfl | rfl <;> rfl
theorem gw_nonneg {x : Int} (h : gw x = true) : 0 ≤ x := by
  have hx : x = 0 ∨ x = 1 ∨ x = 2 ∨ x = 4 ∨ x = 6 := by simpa [gw, Bool.or_eq_true, beq_iff_eq, or_assoc] using h
  omega
theorem pk_at (X : Nat → Int) (k : Nat) (hk : k < 17) : (pk X (X 15) (X 16))[k]? = some (.int .u32 (X k)) := by
  by_cases h : k < 15
  · rw [pk, List.getElem?_append_left (by rw [rs_len]; exact h), rs_at _ _ h]
  · rcases (show k = 15 ∨ k = 16 by omega) with rfl | rfl
    · rw [pk, List.getElem?_append_right (by rw [rs_len]; decide), rs_len]; rfl
    · rw [pk, List.getElem?_append_right (by rw [rs_len]; decide), rs_len]; rfl
theorem cel_new46 (w : World) : Cel (w.alloc (.cells #[.int .u32 0, .int .u32 0, .int .u32 0, .int .u32 0, .int .u32 0, .int .u32 0, .int .u32 0, .int .u32 0, .int .u32 0, .int .u32 0, .int .u32 0, .int .u32 0, .int .u32 0, .int .u32 0, .int .u32 0, .int .u32 0, .int .u32 0] 46)) w.heap.size 46 zs17 := by rw [zc17]; exact Cel.new w 46 _
theorem back_bad1 (W w : World) (ao : Option Addr) (n c : Nat) (hn : n ≠ 17) (g12 : Nat) (hb : Below W.heap.size W w) (hz : Cel w g12 27 F.zero.cs) (z0 z2 z3 z4 z5 z6 z7 z8 z9 z10 z11 z14 z15 z16 z17 z18 z19 z20 z21 z22 z23 z24 z25 z26 z27 z28 z29 z30 z31 z32 z33 z34 z35 z36 z37 z38 z39 z40 z41 z42 z43 z44 z45 z46 z47 z48 z49 z50 z51 z52 z53 z54 z55 z56 z57 z58 z59 z60 z61 z62 z63 z64 z65 z66 z67 z68 z69 z70 z71 z72 z73 z74 z75 z76 z77 z78 z79 z80 z81 z82 z83 z84 z85 z86 z87 z88 z89 z90 z91 z92 z93 z94 z95 z96 z97 z98 z99 z100 z101 z102 z103 z104 z105 z106 z107 z108 z109 z110 z111 z112 z113 z114 z115 z116 z117 z118 z119 z120 z121 z122 z123 z124 z125 z126 z127 z128 z129 z130 z131 z132 z133 z134 z135 z136 z137 z138 z139 z140 z141 z142 z143 z144 z145 z146 z147 z148 z149 z150 z151 z152 z153 z154 z155 z156 z157 z158 z159 z160 z161 z162 z163 z164 z165 z166 z167 z168 z169 z170 z171 z172 z173 z174 z175 z176 z177 z178 z179 z180 z181 z182 z183 z184 z185 z186 z187 z188 z189 z190 z191 z192 z193 z194 z195 z196 z197 z198 z199 z200 z201 z202 z203 z204 z205 z206 z207 z208 z209 z210 z211 z212 z213 z214 z215 z216 z217 z218 z219 z220 z221 z222 z223 z224 : Value) :
    Code.wp Try.prog (sfx 12 (Try.f5.body.getD .skip)) (bodyPost Try.prog Try.f5 fun x w' => x = .returned (.bool true) ∧ Below W.heap.size W w') { tmps := #[z0, .slice ao n c, z2, z3, z4, z5, z6, z7, z8, z9, z10, z11, .pointer (some ⟨g12, 0, none⟩), .int .i64 80, z14, z15, z16, z17, z18, z19, z20, z21, z22, z23, z24, z25, z26, z27, z28, z29, z30, z31, z32, z33, z34, z35, z36, z37, z38, z39, z40, z41, z42, z43, z44, z45, z46, z47, z48, z49, z50, z51, z52, z53, z54, z55, z56, z57, z58, z59, z60, z61, z62, z63, z64, z65, z66, z67, z68, z69, z70, z71, z72, z73, z74, z75, z76, z77, z78, z79, z80, z81, z82, z83, z84, z85, z86, z87, z88, z89, z90, z91, z92, z93, z94, z95, z96, z97, z98, z99, z100, z101, z102, z103, z104, z105, z106, z107, z108, z109, z110, z111, z112, z113, z114, z115, z116, z117, z118, z119, z120, z121, z122, z123, z124, z125, z126, z127, z128, z129, z130, z131, z132, z133, z134, z135, z136, z137, z138, z139, z140, z141, z142, z143, z144, z145, z146, z147, z148, z149, z150, z151, z152, z153, z154, z155, z156, z157, z158, z159, z160, z161, z162, z163, z164, z165, z166, z167, z168, z169, z170, z171, z172, z173, z174, z175, z176, z177, z178, z179, z180, z181, z182, z183, z184, z185, z186, z187, z188, z189, z190, z191, z192, z193, z194, z195, z196, z197, z198, z199, z200, z201, z202, z203, z204, z205, z206, z207, z208, z209, z210, z211, z212, z213, z214, z215, z216, z217, z218, z219, z220, z221, z222, z223, z224], defers := [] } w := by
  have HB := hid hb
  have HZ := hid hz
  clear hb hz
  have h17 : ¬ (n : Int) = 17 := by omega
  refine sfx_walk 12 rfl (by simp only [sfx]; rfl) ?_
  go_wp2_with (first | (refine wpList_load_fg (by rfl) _ rfl g12 F.zero rfl HZ.out ?_) | (refine wpList_build_zg (by rfl) rfl ?_) | (refine wpList_eql_fg (by rfl) _ _ rfl F.zero F.zero rfl rfl true (by rw [F.same_self]) ?_))
  go_ret
  exact ⟨rfl, HB.out⟩
theorem back_bad2 (W w : World) (b o c : Nat) (X : Nat → Int) (hw : W17 W b o X) (hg : gw (X 16) = false) (x0 : 0 ≤ X 16) (g12 : Nat) (hb : Below W.heap.size W w) (hz : Cel w g12 27 F.zero.cs) (z0 z2 z3 z4 z5 z6 z7 z8 z9 z10 z11 z14 z15 z16 z17 z18 z19 z20 z21 z22 z23 z24 z25 z26 z27 z28 z29 z30 z31 z32 z33 z34 z35 z36 z37 z38 z39 z40 z41 z42 z43 z44 z45 z46 z47 z48 z49 z50 z51 z52 z53 z54 z55 z56 z57 z58 z59 z60 z61 z62 z63 z64 z65 z66 z67 z68 z69 z70 z71 z72 z73 z74 z75 z76 z77 z78 z79 z80 z81 z82 z83 z84 z85 z86 z87 z88 z89 z90 z91 z92 z93 z94 z95 z96 z97 z98 z99 z100 z101 z102 z103 z104 z105 z106 z107 z108 z109 z110 z111 z112 z113 z114 z115 z116 z117 z118 z119 z120 z121 z122 z123 z124 z125 z126 z127 z128 z129 z130 z131 z132 z133 z134 z135 z136 z137 z138 z139 z140 z141 z142 z143 z144 z145 z146 z147 z148 z149 z150 z151 z152 z153 z154 z155 z156 z157 z158 z159 z160 z161 z162 z163 z164 z165 z166 z167 z168 z169 z170 z171 z172 z173 z174 z175 z176 z177 z178 z179 z180 z181 z182 z183 z184 z185 z186 z187 z188 z189 z190 z191 z192 z193 z194 z195 z196 z197 z198 z199 z200 z201 z202 z203 z204 z205 z206 z207 z208 z209 z210 z211 z212 z213 z214 z215 z216 z217 z218 z219 z220 z221 z222 z223 z224 : Value) :
    Code.wp Try.prog (sfx 12 (Try.f5.body.getD .skip)) (bodyPost Try.prog Try.f5 fun x w' => x = .returned (.bool true) ∧ Below W.heap.size W w') { tmps := #[z0, .slice (some ⟨b, o, none⟩) 17 c, z2, z3, z4, z5, z6, z7, z8, z9, z10, z11, .pointer (some ⟨g12, 0, none⟩), .int .i64 80, z14, z15, z16, z17, z18, z19, z20, z21, z22, z23, z24, z25, z26, z27, z28, z29, z30, z31, z32, z33, z34, z35, z36, z37, z38, z39, z40, z41, z42, z43, z44, z45, z46, z47, z48, z49, z50, z51, z52, z53, z54, z55, z56, z57, z58, z59, z60, z61, z62, z63, z64, z65, z66, z67, z68, z69, z70, z71, z72, z73, z74, z75, z76, z77, z78, z79, z80, z81, z82, z83, z84, z85, z86, z87, z88, z89, z90, z91, z92, z93, z94, z95, z96, z97, z98, z99, z100, z101, z102, z103, z104, z105, z106, z107, z108, z109, z110, z111, z112, z113, z114, z115, z116, z117, z118, z119, z120, z121, z122, z123, z124, z125, z126, z127, z128, z129, z130, z131, z132, z133, z134, z135, z136, z137, z138, z139, z140, z141, z142, z143, z144, z145, z146, z147, z148, z149, z150, z151, z152, z153, z154, z155, z156, z157, z158, z159, z160, z161, z162, z163, z164, z165, z166, z167, z168, z169, z170, z171, z172, z173, z174, z175, z176, z177, z178, z179, z180, z181, z182, z183, z184, z185, z186, z187, z188, z189, z190, z191, z192, z193, z194, z195, z196, z197, z198, z199, z200, z201, z202, z203, z204, z205, z206, z207, z208, z209, z210, z211, z212, z213, z214, z215, z216, z217, z218, z219, z220, z221, z222, z223, z224], defers := [] } w := by
  have HB := hid hb
  have HZ := hid hz
  clear hb hz
  obtain ⟨n0, n1, n2, n4, n6⟩ := gw_cases hg
  have y16 := (hw.on HB.out).at' 16 (by decide)
  have n3 : ¬ X 16 ≤ 2 := by omega
  have e4 : (X 16 == 4) = false := beq_eq_false_iff_ne.2 n4
  have e6 : (X 16 == 6) = false := beq_eq_false_iff_ne.2 n6
  clear hw hg n0 n1 n2 n4 n6
  generalize X 16 = x at *
  refine sfx_walk 12 rfl (by simp only [sfx]; rfl) ?_
  go_wp2_with (first | (refine wpList_load_fg (by rfl) _ rfl g12 F.zero rfl HZ.out ?_) | (refine wpList_build_zg (by rfl) rfl ?_) | (refine wpList_eql_fg (by rfl) _ _ rfl F.zero F.zero rfl rfl true (by rw [F.same_self]) ?_))
  go_ret
  exact ⟨rfl, HB.out⟩
structure G5 (W wr : World) (g5 g12 : Nat) (f5 fx : F) : Prop where
  g : Cel wr g5 27 f5.cs
  x : Cel wr g12 27 fx.cs
  below : Below W.heap.size W wr
theorem G5.on {W wr w' : World} {g5 g12 : Nat} {f5 fx : F} (h : G5 W wr g5 g12 f5 fx) (hb : Below wr.heap.size wr w') : G5 W w' g5 g12 f5 fx := ⟨h.g.on hb, h.x.on hb, below_on h.below hb⟩
theorem G5.but {W wr w' : World} {g5 g12 g : Nat} {f5 fx : F} (h : G5 W wr g5 g12 f5 fx) (hb : ButL [g] wr w') (h5 : g5 ≠ g) (h12 : g12 ≠ g) (hg : W.heap.size ≤ g) : G5 W w' g5 g12 f5 fx :=
  ⟨h.g.but hb (by rw [List.mem_singleton]; exact h5), h.x.but hb (by rw [List.mem_singleton]; exact h12), h.below.trans (hb.below (by simp; exact hg) h.below.size)⟩
structure G6 (W wr : World) (g5 g12 g16 : Nat) (f5 fx : F) (X : Nat → Int) : Prop where
  h5 : G5 W wr g5 g12 f5 fx
  q : Cel wr g16 46 (pk X (X 15) (X 16))
theorem G6.on {W wr w' : World} {g5 g12 g16 : Nat} {f5 fx : F} {X : Nat → Int} (h : G6 W wr g5 g12 g16 f5 fx X) (hb : Below wr.heap.size wr w') : G6 W w' g5 g12 g16 f5 fx X := ⟨h.h5.on hb, h.q.on hb⟩
structure G7 (W wr : World) (g5 g12 g18 : Nat) (f5 fx fy : F) : Prop where
  h5 : G5 W wr g5 g12 f5 fx
  y : Cel wr g18 27 fy.cs
theorem G7.on {W wr w' : World} {g5 g12 g18 : Nat} {f5 fx fy : F} (h : G7 W wr g5 g12 g18 f5 fx fy) (hb : Below wr.heap.size wr w') : G7 W w' g5 g12 g18 f5 fx fy := ⟨h.h5.on hb, h.y.on hb⟩
theorem back_good (W w : World) (b o c : Nat) (X : Nat → Int) (hw : W17 W b o X) (hg : gw (X 16) = true) (g5 g12 : Nat) (f5 : F) (h5 : G5 W w g5 g12 f5 ((up X (X 15)).flagged (X 16))) (z0 z2 z3 z4 z6 z7 z8 z9 z10 z11 z14 z15 z16 z17 z18 z19 z20 z21 z22 z23 z24 z25 z26 z27 z28 z29 z30 z31 z32 z33 z34 z35 z36 z37 z38 z39 z40 z41 z42 z43 z44 z45 z46 z47 z48 z49 z50 z51 z52 z53 z54 z55 z56 z57 z58 z59 z60 z61 z62 z63 z64 z65 z66 z67 z68 z69 z70 z71 z72 z73 z74 z75 z76 z77 z78 z79 z80 z81 z82 z83 z84 z85 z86 z87 z88 z89 z90 z91 z92 z93 z94 z95 z96 z97 z98 z99 z100 z101 z102 z103 z104 z105 z106 z107 z108 z109 z110 z111 z112 z113 z114 z115 z116 z117 z118 z119 z120 z121 z122 z123 z124 z125 z126 z127 z128 z129 z130 z131 z132 z133 z134 z135 z136 z137 z138 z139 z140 z141 z142 z143 z144 z145 z146 z147 z148 z149 z150 z151 z152 z153 z154 z155 z156 z157 z158 z159 z160 z161 z162 z163 z164 z165 z166 z167 z168 z169 z170 z171 z172 z173 z174 z175 z176 z177 z178 z179 z180 z181 z182 z183 z184 z185 z186 z187 z188 z189 z190 z191 z192 z193 z194 z195 z196 z197 z198 z199 z200 z201 z202 z203 z204 z205 z206 z207 z208 z209 z210 z211 z212 z213 z214 z215 z216 z217 z218 z219 z220 z221 z222 z223 z224 : Value) :
    Code.wp Try.prog (sfx 12 (Try.f5.body.getD .skip)) (bodyPost Try.prog Try.f5 fun x w' => x = .returned (.bool true) ∧ Below W.heap.size W w') { tmps := #[z0, .slice (some ⟨b, o, none⟩) 17 c, z2, z3, z4, .pointer (some ⟨g5, 0, none⟩), z6, z7, z8, z9, z10, z11, .pointer (some ⟨g12, 0, none⟩), .int .i64 0, z14, z15, z16, z17, z18, z19, z20, z21, z22, z23, z24, z25, z26, z27, z28, z29, z30, z31, z32, z33, z34, z35, z36, z37, z38, z39, z40, z41, z42, z43, z44, z45, z46, z47, z48, z49, z50, z51, z52, z53, z54, z55, z56, z57, z58, z59, z60, z61, z62, z63, z64, z65, z66, z67, z68, z69, z70, z71, z72, z73, z74, z75, z76, z77, z78, z79, z80, z81, z82, z83, z84, z85, z86, z87, z88, z89, z90, z91, z92, z93, z94, z95, z96, z97, z98, z99, z100, z101, z102, z103, z104, z105, z106, z107, z108, z109, z110, z111, z112, z113, z114, z115, z116, z117, z118, z119, z120, z121, z122, z123, z124, z125, z126, z127, z128, z129, z130, z131, z132, z133, z134, z135, z136, z137, z138, z139, z140, z141, z142, z143, z144, z145, z146, z147, z148, z149, z150, z151, z152, z153, z154, z155, z156, z157, z158, z159, z160, z161, z162, z163, z164, z165, z166, z167, z168, z169, z170, z171, z172, z173, z174, z175, z176, z177, z178, z179, z180, z181, z182, z183, z184, z185, z186, z187, z188, z189, z190, z191, z192, z193, z194, z195, z196, z197, z198, z199, z200, z201, z202, z203, z204, z205, z206, z207, z208, z209, z210, z211, z212, z213, z214, z215, z216, z217, z218, z219, z220, z221, z222, z223, z224], defers := [] } w := by
  have HW := hid hw
  have HG := hid hg
  have HPK : Hid (∀ w, Calls Try.prog 14 #[((up X (X 15)).flagged (X 16)).v] w fun e W' => e = .returned (.agg (pk X (X 15) (X 16)).toArray) ∧ Below w.heap.size w W') := hid fun w => by
    have := pack_any w ((up X (X 15)).flagged (X 16))
    rw [flags_flagged _ _ hg] at this
    exact this
  have HX := hid h5
  clear hw hg h5
  refine sfx_walk 12 rfl (by simp only [sfx]; rfl) ?_
  obtain ⟨fx, hfx⟩ : ∃ fx, (up X (X 15)).flagged (X 16) = fx := ⟨_, rfl⟩
  rw [hfx] at HPK HX
  have HFX := hid hfx
  clear hfx
  go_wp2_with (refine wpList_load_f rfl _ rfl g12 fx rfl HX.out.x ?_)
  refine (HPK.out _).mono ?_
  rintro e w1 ⟨rfl, hb1⟩
  have HX1 := hid ((HX.out.on hb1).on (below_one w1 (.cells #[.int .u32 0, .int .u32 0, .int .u32 0, .int .u32 0, .int .u32 0, .int .u32 0, .int .u32 0, .int .u32 0, .int .u32 0, .int .u32 0, .int .u32 0, .int .u32 0, .int .u32 0, .int .u32 0, .int .u32 0, .int .u32 0, .int .u32 0] 46)))
  have HL1 := hid (HX.out.on hb1)
  have HN1 := hid (cel_new46 w1)
  clear hb1 HX HPK
  go_wp2_with (refine wpList_store_st rfl 46 _ _ rfl w1.heap.size (pk X (X 15) (X 16)) rfl rfl HN1.out (by rw [size46, pk_len]) (by rw [pk_len]; rfl) (pk_all _ _ _) ?_; intro w2 hc2 hb2 hs2; have HY : Hid (G6 W w2 g5 g12 w1.heap.size f5 fx X) := hid ⟨HX1.out.but hb2 (by have := HL1.out.g.lt; omega) (by have := HL1.out.x.lt; omega) HL1.out.below.size, hc2⟩; clear hc2 hb2 hs2 HX1 HN1 HL1)
  generalize hg16 : w1.heap.size = g16 at *
  clear hg16
  go_loopw [17] (fun i wr => ∃ k : Nat, k ≤ 17 ∧ i = .int .i64 (k : Int) ∧ Hid (G6 W wr g5 g12 g16 f5 fx X)) (fun i _ => 17 - (intOf i).toNat)
  case atStart => exact ⟨0, by omega, rfl, HY⟩
  case round =>
    clear HY
    obtain ⟨k, hk, rfl, HY⟩ := hrel
    by_cases hlt : k < 17
    · have c1 : (k : Int) < 17 := by omega
      have HPA := hid (pk_at X k hlt)
      have HWA := hid fun (w : World) (hb : Below W.heap.size W w) => (HW.out.on hb).at' k hlt
      go_wp2_with fail
      have HD := hid (HY.out.on (Below.refl _ _).drew)
      clear HY
      refine wp_region_held_drew (S := fun x => G6 W x g5 g12 g16 f5 fx X) (by kernel_rfl) HD.out (fun hHeld => ?_)
      refine wpAnyH_take (i := 0) (oi := { dst := some 171, op := Op.move (Operand.tmp 17), type := 3, pos := "law.go:134", after := #[], guard := none }) (v := .int .i64 (k : Int)) rfl (by kernel_rfl) (by kernel_rfl) (by kernel_rfl) (fun _ _ _ h => h) (Or.inl ⟨by rfl, by intro w hSw; go_simp⟩) (by assumption) ?_
      simp only [Act.put, List.setIfInBounds_toArray, List.set_cons_zero, List.set_cons_succ]
      refine wpAnyH_take (i := 1) (oi := { dst := some 172, op := Op.indexAddr 46 (Operand.tmp 16) (Operand.tmp 171), type := 0, pos := "law.go:134", after := #[{ on := 0, ground := Ground.data }], guard := none }) (v := .pointer (some ⟨g16, k, none⟩)) rfl (by kernel_rfl) (by kernel_rfl) (by kernel_rfl) (fun _ _ _ h => h) (Or.inl ⟨by rfl, by intro w hSw; go_simp⟩) (by assumption) ?_
      simp only [Act.put, List.setIfInBounds_toArray, List.set_cons_zero, List.set_cons_succ]
      refine wpAnyH_take (i := 2) (oi := { dst := some 173, op := Op.load 22 (Operand.tmp 172), type := 22, pos := "law.go:134", after := #[{ on := 1, ground := Ground.data }], guard := none }) (v := .int .u32 (X k)) rfl (by kernel_rfl) (by kernel_rfl) (by kernel_rfl) (fun _ _ _ h => h) (Or.inl ⟨by rfl, by intro w hSw; have y := (hSw.q.cell k).trans HPA.out; go_simp⟩) (by assumption) ?_
      simp only [Act.put, List.setIfInBounds_toArray, List.set_cons_zero, List.set_cons_succ]
      refine wpAnyH_take (i := 3) (oi := { dst := some 174, op := Op.move (Operand.tmp 1), type := 45, pos := "law.go:134", after := #[], guard := none }) (v := .slice (some ⟨b, o, none⟩) 17 c) rfl (by kernel_rfl) (by kernel_rfl) (by kernel_rfl) (fun _ _ _ h => h) (Or.inl ⟨by rfl, by intro w hSw; go_simp⟩) (by assumption) ?_
      simp only [Act.put, List.setIfInBounds_toArray, List.set_cons_zero, List.set_cons_succ]
      refine wpAnyH_take (i := 4) (oi := { dst := some 175, op := Op.move (Operand.tmp 17), type := 3, pos := "law.go:134", after := #[], guard := none }) (v := .int .i64 (k : Int)) rfl (by kernel_rfl) (by kernel_rfl) (by kernel_rfl) (fun _ _ _ h => h) (Or.inl ⟨by rfl, by intro w hSw; go_simp⟩) (by assumption) ?_
      simp only [Act.put, List.setIfInBounds_toArray, List.set_cons_zero, List.set_cons_succ]
      refine wpAnyH_take (i := 5) (oi := { dst := some 176, op := Op.indexAddr 45 (Operand.tmp 174) (Operand.tmp 175), type := 0, pos := "law.go:134", after := #[{ on := 3, ground := Ground.data }, { on := 4, ground := Ground.data }], guard := none }) (v := .pointer (some ⟨b, o + k, none⟩)) rfl (by kernel_rfl) (by kernel_rfl) (by kernel_rfl) (fun _ _ _ h => h) (Or.inl ⟨by rfl, by intro w hSw; go_simp⟩) (by assumption) ?_
      simp only [Act.put, List.setIfInBounds_toArray, List.set_cons_zero, List.set_cons_succ]
      refine wpAnyH_take (i := 6) (oi := { dst := some 177, op := Op.load 22 (Operand.tmp 176), type := 22, pos := "law.go:134", after := #[{ on := 5, ground := Ground.data }], guard := none }) (v := .int .u32 (X k)) rfl (by kernel_rfl) (by kernel_rfl) (by kernel_rfl) (fun _ _ _ h => h) (Or.inl ⟨by rfl, by intro w hSw; have y := HWA.out w hSw.h5.below; go_simp⟩) (by assumption) ?_
      simp only [Act.put, List.setIfInBounds_toArray, List.set_cons_zero, List.set_cons_succ]
      refine wpAnyH_take (i := 7) (oi := { dst := some 178, op := Op.binOp BinOp.neq 22 (Operand.tmp 173) (Operand.tmp 177) 22, type := 4, pos := "law.go:134", after := #[{ on := 2, ground := Ground.data }, { on := 6, ground := Ground.data }], guard := none }) (v := .bool false) rfl (by kernel_rfl) (by kernel_rfl) (by kernel_rfl) (fun _ _ _ h => h) (Or.inl ⟨by rfl, by intro w hSw; go_simp⟩) (by assumption) ?_
      simp only [Act.put, List.setIfInBounds_toArray, List.set_cons_zero, List.set_cons_succ]
      refine wpAnyH_done (by kernel_rfl) ?_ _
      go_wp2_with fail
      go_roundw
      case measure => simp [intOf] <;> omega
      case rel => exact ⟨k + 1, by omega, by go_num, HD⟩
    · obtain rfl : k = 17 := by omega
      have HX0 := hid HY.out.h5
      clear HY
      have HWA := hid fun (w : World) (hb : Below W.heap.size W w) => (HW.out.on hb).at' 16 (by decide)
      have HFL : Hid (∀ w, Calls Try.prog 16 #[f5.v, .int .u32 (X 16)] w fun e W' => e = .returned (.tuple #[(f5.flagged (X 16)).v, .int .i64 0]) ∧ Below w.heap.size w W') := hid fun w => by
        have := flagged_any w f5 (X 16) (by have := gw_nonneg HG.out; omega)
        unfold flaggedV at this
        rw [HG.out] at this
        exact this
      have HYF := hid (flags_flagged f5 (X 16) HG.out)
      have HYZ : Hid ((f5.flagged (X 16)).z = fx.z ∧ (f5.flagged (X 16)).n = fx.n ∧ (f5.flagged (X 16)).l = fx.l ∧ (f5.flagged (X 16)).r = f5.r) := hid (by rw [← HFX.out]; exact ⟨rfl, rfl, rfl, rfl⟩)
      clear HW HG HFX
      generalize hfy : f5.flagged (X 16) = fy at *
      clear hfy
      generalize hx16 : X 16 = q at *
      clear hx16
      go_wp2_with fail
      have HD := hid (HX0.out.on (Below.refl _ _).drew)
      clear HX0
      refine wp_region_held_drew (S := fun x => G5 W x g5 g12 f5 fx) (by kernel_rfl) HD.out (fun hHeld => ?_)
      generalize hx0 : wr.drew = x0 at *
      clear hx0
      refine wpAnyH_take (i := 0) (oi := { dst := some 180, op := Op.load 27 (Operand.tmp 5), type := 27, pos := "law.go:138", after := #[], guard := none }) (v := f5.v) rfl (by kernel_rfl) (by kernel_rfl) (by kernel_rfl) (fun _ _ _ h => h) (yieldsIf_load_mid (by rfl) 27 _ rfl g5 0 rfl f5.cs _ (fun w hSw => hSw.g.range) under27 rfl (by rw [size27, F.len])) (by assumption) ?_
      simp only [Act.put, List.setIfInBounds_toArray, List.set_cons_zero, List.set_cons_succ]
      refine wpAnyH_take (i := 1) (oi := { dst := some 181, op := Op.move (Operand.tmp 1), type := 45, pos := "law.go:138", after := #[], guard := none }) (v := .slice (some ⟨b, o, none⟩) 17 c) rfl (by kernel_rfl) (by kernel_rfl) (by kernel_rfl) (fun _ _ _ h => h) (Or.inl ⟨by rfl, by intro w hSw; go_simp⟩) (by assumption) ?_
      simp only [Act.put, List.setIfInBounds_toArray, List.set_cons_zero, List.set_cons_succ]
      refine wpAnyH_take (i := 2) (oi := { dst := some 182, op := Op.indexAddr 45 (Operand.tmp 181) (Operand.const (Value.int IntKind.i64 16)), type := 0, pos := "law.go:138", after := #[{ on := 1, ground := Ground.data }], guard := none }) (v := .pointer (some ⟨b, o + 16, none⟩)) rfl (by kernel_rfl) (by kernel_rfl) (by kernel_rfl) (fun _ _ _ h => h) (Or.inl ⟨by rfl, by intro w hSw; go_simp⟩) (by assumption) ?_
      simp only [Act.put, List.setIfInBounds_toArray, List.set_cons_zero, List.set_cons_succ]
      refine wpAnyH_take (i := 3) (oi := { dst := some 183, op := Op.load 22 (Operand.tmp 182), type := 22, pos := "law.go:138", after := #[{ on := 2, ground := Ground.data }], guard := none }) (v := .int .u32 q) rfl (by kernel_rfl) (by kernel_rfl) (by kernel_rfl) (fun _ _ _ h => h) (Or.inl ⟨by rfl, by intro w hSw; have y := HWA.out w hSw.below; go_simp⟩) (by assumption) ?_
      simp only [Act.put, List.setIfInBounds_toArray, List.set_cons_zero, List.set_cons_succ]
      refine wpAnyH_ready (rs := [4, 8]) (by kernel_rfl) (by simp) (AllReadyH.cons (o := { dst := some 184, op := Op.call { callee := Callee.value (Operand.func 16), args := #[Operand.tmp 180, Operand.tmp 183], argTypes := #[27, 22] }, type := 40, pos := "law.go:138", after := #[{ on := 0, ground := Ground.data }, { on := 3, ground := Ground.data }], guard := none }) rfl (fun KQ hK => ?_) (AllReadyH.cons (o := { dst := some 18, op := Op.alloc 27, type := 0, pos := "law.go:138", after := #[], guard := none }) rfl (fun KQ hK => ?_) AllReadyH.nil))
      · go_simp
        refine (HFL.out _).mono ?_
        rintro e w1 ⟨rfl, hb2⟩
        have HP3 := hid (HD.out.on hb2)
        clear hb2
        go_wp2_with fail
        refine hK.out _ _ HP3.out (fun hHeld => ?_)
        clear hK KQ
        try simp only [Act.put, List.setIfInBounds_toArray, List.set_cons_zero, List.set_cons_succ]
        refine wpAnyH_take (i := 5) (oi := { dst := some 179, op := Op.move (Operand.tmp 184), type := 40, pos := "law.go:138", after := #[{ on := 4, ground := Ground.data }], guard := none }) (v := .tuple #[fy.v, .int .i64 0]) rfl (by kernel_rfl) (by kernel_rfl) (by kernel_rfl) (fun _ _ _ h => h) (Or.inl ⟨by rfl, by intro w hSw; go_simp⟩) (by assumption) ?_
        simp only [Act.put, List.setIfInBounds_toArray, List.set_cons_zero, List.set_cons_succ]
        refine wpAnyH_take (i := 6) (oi := { dst := some 185, op := Op.extract (Operand.tmp 179) 0, type := 27, pos := "law.go:138", after := #[{ on := 5, ground := Ground.data }], guard := none }) (v := fy.v) rfl (by kernel_rfl) (by kernel_rfl) (by kernel_rfl) (fun _ _ _ h => h) (Or.inl ⟨by rfl, by intro w hSw; go_simp⟩) (by assumption) ?_
        simp only [Act.put, List.setIfInBounds_toArray, List.set_cons_zero, List.set_cons_succ]
        refine wpAnyH_take (i := 7) (oi := { dst := some 186, op := Op.extract (Operand.tmp 179) 1, type := 39, pos := "law.go:138", after := #[{ on := 5, ground := Ground.data }, { on := 9, ground := Ground.gcOnly Departure.lateStores }], guard := none }) (v := .int .i64 0) rfl (by kernel_rfl) (by kernel_rfl) (by kernel_rfl) (fun _ _ _ h => h) (Or.inl ⟨by rfl, by intro w hSw; go_simp⟩) (by assumption) ?_
        simp only [Act.put, List.setIfInBounds_toArray, List.set_cons_zero, List.set_cons_succ]
        refine wpAnyH_ready (rs := [8]) (by kernel_rfl) (by simp) (AllReadyH.cons (o := { dst := some 18, op := Op.alloc 27, type := 0, pos := "law.go:138", after := #[], guard := none }) rfl (fun KQ hK => ?_) AllReadyH.nil)
        go_simp
        have HT7 := hid (show g5 ≠ w1.heap.size ∧ g12 ≠ w1.heap.size ∧ W.heap.size ≤ w1.heap.size from ⟨by have := HP3.out.g.lt; omega, by have := HP3.out.x.lt; omega, HP3.out.below.size⟩)
        have HP4 := hid (HP3.out.on (below_one w1 (.cells #[.int .u32 0, .int .u32 0, .int .u32 0, .int .u32 0, .int .u32 0, .int .u32 0, .int .u32 0, .int .u32 0, .int .u32 0, .int .u32 0, .int .u32 0, .int .u32 0, .int .u32 0, .int .u32 0, .int .u32 0, .int .u32 0, .bool false, .bool false, .bool false] 27)))
        have HG5 := hid (cel_new27 w1)
        clear HP3
        generalize hy : w1.alloc _ = y6 at *
        clear hy
        generalize hg : w1.heap.size = g18 at *
        clear hg
        refine hK.out _ _ HP4.out (fun hHeld => ?_)
        clear hK KQ
        try simp only [Act.put, List.setIfInBounds_toArray, List.set_cons_zero, List.set_cons_succ]
        refine wpAnyH_ready (rs := [9]) (by kernel_rfl) (by simp) (AllReadyH.cons (o := { dst := none, op := Op.store 27 (Operand.tmp 18) (Operand.tmp 185), type := 0, pos := "law.go:138", after := #[{ on := 8, ground := Ground.data }, { on := 6, ground := Ground.data }, { on := 4, ground := Ground.chain }, { on := 0, ground := Ground.phase }, { on := 1, ground := Ground.phase }, { on := 2, ground := Ground.phase }, { on := 3, ground := Ground.phase }, { on := 4, ground := Ground.phase }, { on := 5, ground := Ground.phase }, { on := 6, ground := Ground.phase }, { on := 7, ground := Ground.textOnly Departure.lateStores }, { on := 8, ground := Ground.phase }], guard := none }) rfl (fun KQ hK => ?_) AllReadyH.nil)
        rw [if_pos (by rfl)]
        refine wp_store_st 27 _ _ rfl g18 fy.cs rfl rfl HG5.out (by rw [size27, F.len]) (by rw [F.len, F.len]) fy.all ?_
        have HP8 := hid (HP4.out.but (ButL.setRow y6 g18 fy.cs.toArray (by simp)) HT7.out.1 HT7.out.2.1 HT7.out.2.2)
        have HK10 : Hid (G7 W (y6.setRow g18 fy.cs.toArray) g5 g12 g18 f5 fx fy) := hid ⟨HP8.out, HG5.out.set fy.cs⟩
        clear HP4 HG5
        generalize hy : y6.setRow g18 _ = y9 at *
        clear hy
        refine hK.out _ _ HP8.out (fun hHeld => ?_)
        clear hK KQ
        try simp only [Act.put]
        refine wpAnyH_ready (rs := [10]) (by kernel_rfl) (by simp) (AllReadyH.cons (o := { dst := some 19, op := Op.assign (Operand.tmp 186), type := 39, pos := "law.go:138", after := #[{ on := 7, ground := Ground.data }, { on := 9, ground := Ground.chain }, { on := 0, ground := Ground.phase }, { on := 1, ground := Ground.phase }, { on := 2, ground := Ground.phase }, { on := 3, ground := Ground.phase }, { on := 4, ground := Ground.phase }, { on := 5, ground := Ground.phase }, { on := 6, ground := Ground.phase }, { on := 7, ground := Ground.phase }, { on := 8, ground := Ground.phase }, { on := 9, ground := Ground.phase }], guard := none }) rfl (fun KQ hK => ?_) AllReadyH.nil)
        go_simp
        refine hK.out _ _ HP8.out (fun hHeld => ?_)
        clear hK KQ
        try simp only [Act.put, List.setIfInBounds_toArray, List.set_cons_zero, List.set_cons_succ]
        refine wpAnyH_done (by kernel_rfl) ?_ _
        go_wp2_with fail
        have HE := hid (HK10.out.on (Below.refl _ _).drew)
        clear HK10
        refine wp_region_held_drew (S := fun x => G7 W x g5 g12 g18 f5 fx fy) (by kernel_rfl) HE.out (fun hHeld => ?_)
        refine wpAnyH_take (i := 0) (oi := { dst := some 187, op := Op.move (Operand.tmp 19), type := 39, pos := "law.go:139", after := #[], guard := none }) (v := .int .i64 0) rfl (by kernel_rfl) (by kernel_rfl) (by kernel_rfl) (fun _ _ _ h => h) (Or.inl ⟨by rfl, by intro w hSw; go_simp⟩) (by assumption) ?_
        simp only [Act.put, List.setIfInBounds_toArray, List.set_cons_zero, List.set_cons_succ]
        refine wpAnyH_take (i := 1) (oi := { dst := some 188, op := Op.binOp BinOp.eql 3 (Operand.tmp 187) (Operand.const (Value.int IntKind.i64 0)) 3, type := 4, pos := "law.go:139", after := #[{ on := 0, ground := Ground.data }], guard := none }) (v := .bool true) rfl (by kernel_rfl) (by kernel_rfl) (by kernel_rfl) (fun _ _ _ h => h) (Or.inl ⟨by rfl, by intro w hSw; go_simp⟩) (by assumption) ?_
        simp only [Act.put, List.setIfInBounds_toArray, List.set_cons_zero, List.set_cons_succ]
        refine wpAnyH_take (i := 2) (oi := { dst := some 189, op := Op.move (Operand.tmp 188), type := 4, pos := "law.go:139", after := #[{ on := 1, ground := Ground.data }], guard := none }) (v := .bool true) rfl (by kernel_rfl) (by kernel_rfl) (by kernel_rfl) (fun _ _ _ h => h) (Or.inl ⟨by rfl, by intro w hSw; go_simp⟩) (by assumption) ?_
        simp only [Act.put, List.setIfInBounds_toArray, List.set_cons_zero, List.set_cons_succ]
        refine wpAnyH_take (i := 3) (oi := { dst := some 190, op := Op.fieldAddr 27 (Operand.tmp 18) 2, type := 0, pos := "law.go:139", after := #[{ on := 2, ground := Ground.guard }], guard := some (2, true) }) (v := .pointer (some ⟨g18, 16, none⟩)) rfl (by kernel_rfl) (by kernel_rfl) (by kernel_rfl) (fun _ _ _ h => h) (Or.inl ⟨by rfl, by intro w hSw; go_simp⟩) (by assumption) ?_
        simp only [Act.put, List.setIfInBounds_toArray, List.set_cons_zero, List.set_cons_succ]
        refine wpAnyH_take (i := 4) (oi := { dst := some 191, op := Op.load 4 (Operand.tmp 190), type := 4, pos := "law.go:139", after := #[{ on := 3, ground := Ground.data }, { on := 2, ground := Ground.guard }], guard := some (2, true) }) (v := .bool fx.z) rfl (by kernel_rfl) (by kernel_rfl) (by kernel_rfl) (fun _ _ _ h => h) (Or.inl ⟨by rfl, by intro w hSw; have y := (hSw.y.cell 16).trans fy.at16; rw [HYZ.out.1] at y; go_simp⟩) (by assumption) ?_
        simp only [Act.put, List.setIfInBounds_toArray, List.set_cons_zero, List.set_cons_succ]
        refine wpAnyH_take (i := 5) (oi := { dst := some 192, op := Op.fieldAddr 27 (Operand.tmp 12) 2, type := 0, pos := "law.go:139", after := #[{ on := 2, ground := Ground.guard }], guard := some (2, true) }) (v := .pointer (some ⟨g12, 16, none⟩)) rfl (by kernel_rfl) (by kernel_rfl) (by kernel_rfl) (fun _ _ _ h => h) (Or.inl ⟨by rfl, by intro w hSw; go_simp⟩) (by assumption) ?_
        simp only [Act.put, List.setIfInBounds_toArray, List.set_cons_zero, List.set_cons_succ]
        refine wpAnyH_take (i := 6) (oi := { dst := some 193, op := Op.load 4 (Operand.tmp 192), type := 4, pos := "law.go:139", after := #[{ on := 5, ground := Ground.data }, { on := 2, ground := Ground.guard }], guard := some (2, true) }) (v := .bool fx.z) rfl (by kernel_rfl) (by kernel_rfl) (by kernel_rfl) (fun _ _ _ h => h) (Or.inl ⟨by rfl, by intro w hSw; have y := (hSw.h5.x.cell 16).trans fx.at16; go_simp⟩) (by assumption) ?_
        simp only [Act.put, List.setIfInBounds_toArray, List.set_cons_zero, List.set_cons_succ]
        refine wpAnyH_take (i := 7) (oi := { dst := some 194, op := Op.binOp BinOp.eql 4 (Operand.tmp 191) (Operand.tmp 193) 4, type := 4, pos := "law.go:139", after := #[{ on := 4, ground := Ground.data }, { on := 6, ground := Ground.data }, { on := 2, ground := Ground.guard }], guard := some (2, true) }) (v := .bool true) rfl (by kernel_rfl) (by kernel_rfl) (by kernel_rfl) (fun _ _ _ h => h) (Or.inl ⟨by rfl, by intro w hSw; go_simp⟩) (by assumption) ?_
        simp only [Act.put, List.setIfInBounds_toArray, List.set_cons_zero, List.set_cons_succ]
        refine wpAnyH_take (i := 8) (oi := { dst := some 195, op := Op.pick (Operand.tmp 189) (Operand.tmp 194) (Operand.const (Value.bool false)), type := 4, pos := "law.go:139", after := #[{ on := 2, ground := Ground.data }, { on := 7, ground := Ground.data }], guard := none }) (v := .bool true) rfl (by kernel_rfl) (by kernel_rfl) (by kernel_rfl) (fun _ _ _ h => h) (Or.inl ⟨by rfl, by intro w hSw; go_simp⟩) (by assumption) ?_
        simp only [Act.put, List.setIfInBounds_toArray, List.set_cons_zero, List.set_cons_succ]
        refine wpAnyH_take (i := 9) (oi := { dst := some 196, op := Op.move (Operand.tmp 195), type := 4, pos := "law.go:139", after := #[{ on := 8, ground := Ground.data }, { on := 2, ground := Ground.chain }], guard := none }) (v := .bool true) rfl (by kernel_rfl) (by kernel_rfl) (by kernel_rfl) (fun _ _ _ h => h) (Or.inl ⟨by rfl, by intro w hSw; go_simp⟩) (by assumption) ?_
        simp only [Act.put, List.setIfInBounds_toArray, List.set_cons_zero, List.set_cons_succ]
        refine wpAnyH_take (i := 10) (oi := { dst := some 197, op := Op.fieldAddr 27 (Operand.tmp 18) 3, type := 0, pos := "law.go:139", after := #[{ on := 9, ground := Ground.guard }], guard := some (9, true) }) (v := .pointer (some ⟨g18, 17, none⟩)) rfl (by kernel_rfl) (by kernel_rfl) (by kernel_rfl) (fun _ _ _ h => h) (Or.inl ⟨by rfl, by intro w hSw; go_simp⟩) (by assumption) ?_
        simp only [Act.put, List.setIfInBounds_toArray, List.set_cons_zero, List.set_cons_succ]
        refine wpAnyH_take (i := 11) (oi := { dst := some 198, op := Op.load 4 (Operand.tmp 197), type := 4, pos := "law.go:139", after := #[{ on := 10, ground := Ground.data }, { on := 9, ground := Ground.guard }], guard := some (9, true) }) (v := .bool fx.n) rfl (by kernel_rfl) (by kernel_rfl) (by kernel_rfl) (fun _ _ _ h => h) (Or.inl ⟨by rfl, by intro w hSw; have y := (hSw.y.cell 17).trans fy.at17; rw [HYZ.out.2.1] at y; go_simp⟩) (by assumption) ?_
        simp only [Act.put, List.setIfInBounds_toArray, List.set_cons_zero, List.set_cons_succ]
        refine wpAnyH_take (i := 12) (oi := { dst := some 199, op := Op.fieldAddr 27 (Operand.tmp 12) 3, type := 0, pos := "law.go:139", after := #[{ on := 9, ground := Ground.guard }], guard := some (9, true) }) (v := .pointer (some ⟨g12, 17, none⟩)) rfl (by kernel_rfl) (by kernel_rfl) (by kernel_rfl) (fun _ _ _ h => h) (Or.inl ⟨by rfl, by intro w hSw; go_simp⟩) (by assumption) ?_
        simp only [Act.put, List.setIfInBounds_toArray, List.set_cons_zero, List.set_cons_succ]
        refine wpAnyH_take (i := 13) (oi := { dst := some 200, op := Op.load 4 (Operand.tmp 199), type := 4, pos := "law.go:139", after := #[{ on := 12, ground := Ground.data }, { on := 9, ground := Ground.guard }], guard := some (9, true) }) (v := .bool fx.n) rfl (by kernel_rfl) (by kernel_rfl) (by kernel_rfl) (fun _ _ _ h => h) (Or.inl ⟨by rfl, by intro w hSw; have y := (hSw.h5.x.cell 17).trans fx.at17; go_simp⟩) (by assumption) ?_
        simp only [Act.put, List.setIfInBounds_toArray, List.set_cons_zero, List.set_cons_succ]
        refine wpAnyH_take (i := 14) (oi := { dst := some 201, op := Op.binOp BinOp.eql 4 (Operand.tmp 198) (Operand.tmp 200) 4, type := 4, pos := "law.go:139", after := #[{ on := 11, ground := Ground.data }, { on := 13, ground := Ground.data }, { on := 9, ground := Ground.guard }], guard := some (9, true) }) (v := .bool true) rfl (by kernel_rfl) (by kernel_rfl) (by kernel_rfl) (fun _ _ _ h => h) (Or.inl ⟨by rfl, by intro w hSw; go_simp⟩) (by assumption) ?_
        simp only [Act.put, List.setIfInBounds_toArray, List.set_cons_zero, List.set_cons_succ]
        refine wpAnyH_take (i := 15) (oi := { dst := some 202, op := Op.pick (Operand.tmp 196) (Operand.tmp 201) (Operand.const (Value.bool false)), type := 4, pos := "law.go:139", after := #[{ on := 9, ground := Ground.data }, { on := 14, ground := Ground.data }], guard := none }) (v := .bool true) rfl (by kernel_rfl) (by kernel_rfl) (by kernel_rfl) (fun _ _ _ h => h) (Or.inl ⟨by rfl, by intro w hSw; go_simp⟩) (by assumption) ?_
        simp only [Act.put, List.setIfInBounds_toArray, List.set_cons_zero, List.set_cons_succ]
        refine wpAnyH_take (i := 16) (oi := { dst := some 203, op := Op.move (Operand.tmp 202), type := 4, pos := "law.go:139", after := #[{ on := 15, ground := Ground.data }, { on := 9, ground := Ground.chain }], guard := none }) (v := .bool true) rfl (by kernel_rfl) (by kernel_rfl) (by kernel_rfl) (fun _ _ _ h => h) (Or.inl ⟨by rfl, by intro w hSw; go_simp⟩) (by assumption) ?_
        simp only [Act.put, List.setIfInBounds_toArray, List.set_cons_zero, List.set_cons_succ]
        refine wpAnyH_take (i := 17) (oi := { dst := some 204, op := Op.fieldAddr 27 (Operand.tmp 18) 4, type := 0, pos := "law.go:139", after := #[{ on := 16, ground := Ground.guard }], guard := some (16, true) }) (v := .pointer (some ⟨g18, 18, none⟩)) rfl (by kernel_rfl) (by kernel_rfl) (by kernel_rfl) (fun _ _ _ h => h) (Or.inl ⟨by rfl, by intro w hSw; go_simp⟩) (by assumption) ?_
        simp only [Act.put, List.setIfInBounds_toArray, List.set_cons_zero, List.set_cons_succ]
        refine wpAnyH_take (i := 18) (oi := { dst := some 205, op := Op.load 4 (Operand.tmp 204), type := 4, pos := "law.go:139", after := #[{ on := 17, ground := Ground.data }, { on := 16, ground := Ground.guard }], guard := some (16, true) }) (v := .bool fx.l) rfl (by kernel_rfl) (by kernel_rfl) (by kernel_rfl) (fun _ _ _ h => h) (Or.inl ⟨by rfl, by intro w hSw; have y := (hSw.y.cell 18).trans fy.at18; rw [HYZ.out.2.2.1] at y; go_simp⟩) (by assumption) ?_
        simp only [Act.put, List.setIfInBounds_toArray, List.set_cons_zero, List.set_cons_succ]
        refine wpAnyH_take (i := 19) (oi := { dst := some 206, op := Op.fieldAddr 27 (Operand.tmp 12) 4, type := 0, pos := "law.go:139", after := #[{ on := 16, ground := Ground.guard }], guard := some (16, true) }) (v := .pointer (some ⟨g12, 18, none⟩)) rfl (by kernel_rfl) (by kernel_rfl) (by kernel_rfl) (fun _ _ _ h => h) (Or.inl ⟨by rfl, by intro w hSw; go_simp⟩) (by assumption) ?_
        simp only [Act.put, List.setIfInBounds_toArray, List.set_cons_zero, List.set_cons_succ]
        refine wpAnyH_take (i := 20) (oi := { dst := some 207, op := Op.load 4 (Operand.tmp 206), type := 4, pos := "law.go:139", after := #[{ on := 19, ground := Ground.data }, { on := 16, ground := Ground.guard }], guard := some (16, true) }) (v := .bool fx.l) rfl (by kernel_rfl) (by kernel_rfl) (by kernel_rfl) (fun _ _ _ h => h) (Or.inl ⟨by rfl, by intro w hSw; have y := (hSw.h5.x.cell 18).trans fx.at18; go_simp⟩) (by assumption) ?_
        simp only [Act.put, List.setIfInBounds_toArray, List.set_cons_zero, List.set_cons_succ]
        refine wpAnyH_take (i := 21) (oi := { dst := some 208, op := Op.binOp BinOp.eql 4 (Operand.tmp 205) (Operand.tmp 207) 4, type := 4, pos := "law.go:139", after := #[{ on := 18, ground := Ground.data }, { on := 20, ground := Ground.data }, { on := 16, ground := Ground.guard }], guard := some (16, true) }) (v := .bool true) rfl (by kernel_rfl) (by kernel_rfl) (by kernel_rfl) (fun _ _ _ h => h) (Or.inl ⟨by rfl, by intro w hSw; go_simp⟩) (by assumption) ?_
        simp only [Act.put, List.setIfInBounds_toArray, List.set_cons_zero, List.set_cons_succ]
        refine wpAnyH_take (i := 22) (oi := { dst := some 209, op := Op.pick (Operand.tmp 203) (Operand.tmp 208) (Operand.const (Value.bool false)), type := 4, pos := "law.go:139", after := #[{ on := 16, ground := Ground.data }, { on := 21, ground := Ground.data }], guard := none }) (v := .bool true) rfl (by kernel_rfl) (by kernel_rfl) (by kernel_rfl) (fun _ _ _ h => h) (Or.inl ⟨by rfl, by intro w hSw; go_simp⟩) (by assumption) ?_
        simp only [Act.put, List.setIfInBounds_toArray, List.set_cons_zero, List.set_cons_succ]
        refine wpAnyH_take (i := 23) (oi := { dst := some 210, op := Op.move (Operand.tmp 209), type := 4, pos := "law.go:139", after := #[{ on := 22, ground := Ground.data }, { on := 16, ground := Ground.chain }], guard := none }) (v := .bool true) rfl (by kernel_rfl) (by kernel_rfl) (by kernel_rfl) (fun _ _ _ h => h) (Or.inl ⟨by rfl, by intro w hSw; go_simp⟩) (by assumption) ?_
        simp only [Act.put, List.setIfInBounds_toArray, List.set_cons_zero, List.set_cons_succ]
        refine wpAnyH_take (i := 24) (oi := { dst := some 211, op := Op.fieldAddr 27 (Operand.tmp 18) 0, type := 0, pos := "law.go:139", after := #[{ on := 23, ground := Ground.guard }], guard := some (23, true) }) (v := .pointer (some ⟨g18, 0, none⟩)) rfl (by kernel_rfl) (by kernel_rfl) (by kernel_rfl) (fun _ _ _ h => h) (Or.inl ⟨by rfl, by intro w hSw; go_simp⟩) (by assumption) ?_
        simp only [Act.put, List.setIfInBounds_toArray, List.set_cons_zero, List.set_cons_succ]
        refine wpAnyH_take (i := 25) (oi := { dst := some 212, op := Op.load 23 (Operand.tmp 211), type := 23, pos := "law.go:139", after := #[{ on := 24, ground := Ground.data }, { on := 23, ground := Ground.guard }], guard := some (23, true) }) (v := rV fy.r) rfl (by kernel_rfl) (by kernel_rfl) (by kernel_rfl) (fun _ _ _ h => h) (yieldsIf_load_mid (by rfl) 23 _ rfl g18 0 rfl (rs fy.r) _ (fun w hSw => F.rng hSw.y) under23 rfl (by rw [size23, rs_len])) (by assumption) ?_
        simp only [Act.put, List.setIfInBounds_toArray, List.set_cons_zero, List.set_cons_succ]
        refine wpAnyH_take (i := 26) (oi := { dst := some 213, op := Op.fieldAddr 27 (Operand.tmp 5) 0, type := 0, pos := "law.go:139", after := #[{ on := 23, ground := Ground.guard }], guard := some (23, true) }) (v := .pointer (some ⟨g5, 0, none⟩)) rfl (by kernel_rfl) (by kernel_rfl) (by kernel_rfl) (fun _ _ _ h => h) (Or.inl ⟨by rfl, by intro w hSw; go_simp⟩) (by assumption) ?_
        simp only [Act.put, List.setIfInBounds_toArray, List.set_cons_zero, List.set_cons_succ]
        refine wpAnyH_take (i := 27) (oi := { dst := some 214, op := Op.load 23 (Operand.tmp 213), type := 23, pos := "law.go:139", after := #[{ on := 26, ground := Ground.data }, { on := 23, ground := Ground.guard }], guard := some (23, true) }) (v := rV f5.r) rfl (by kernel_rfl) (by kernel_rfl) (by kernel_rfl) (fun _ _ _ h => h) (yieldsIf_load_mid (by rfl) 23 _ rfl g5 0 rfl (rs f5.r) _ (fun w hSw => F.rng hSw.h5.g) under23 rfl (by rw [size23, rs_len])) (by assumption) ?_
        simp only [Act.put, List.setIfInBounds_toArray, List.set_cons_zero, List.set_cons_succ]
        refine wpAnyH_take (i := 28) (oi := { dst := some 215, op := Op.binOp BinOp.eql 23 (Operand.tmp 212) (Operand.tmp 214) 23, type := 4, pos := "law.go:139", after := #[{ on := 25, ground := Ground.data }, { on := 27, ground := Ground.data }, { on := 23, ground := Ground.guard }], guard := some (23, true) }) (v := .bool true) rfl (by kernel_rfl) (by kernel_rfl) (by kernel_rfl) (fun _ _ _ h => h) (Or.inl ⟨by rfl, fun w hSw => exec_eql_r _ _ rfl fy.r f5.r rfl rfl _ ((sameR_iff _ _).2 fun k _ => by rw [HYZ.out.2.2.2])⟩) (by assumption) ?_
        simp only [Act.put, List.setIfInBounds_toArray, List.set_cons_zero, List.set_cons_succ]
        refine wpAnyH_take (i := 29) (oi := { dst := some 216, op := Op.pick (Operand.tmp 210) (Operand.tmp 215) (Operand.const (Value.bool false)), type := 4, pos := "law.go:139", after := #[{ on := 23, ground := Ground.data }, { on := 28, ground := Ground.data }], guard := none }) (v := .bool true) rfl (by kernel_rfl) (by kernel_rfl) (by kernel_rfl) (fun _ _ _ h => h) (Or.inl ⟨by rfl, by intro w hSw; go_simp⟩) (by assumption) ?_
        simp only [Act.put, List.setIfInBounds_toArray, List.set_cons_zero, List.set_cons_succ]
        refine wpAnyH_take (i := 30) (oi := { dst := some 217, op := Op.move (Operand.tmp 216), type := 4, pos := "law.go:139", after := #[{ on := 29, ground := Ground.data }, { on := 23, ground := Ground.chain }], guard := none }) (v := .bool true) rfl (by kernel_rfl) (by kernel_rfl) (by kernel_rfl) (fun _ _ _ h => h) (Or.inl ⟨by rfl, by intro w hSw; go_simp⟩) (by assumption) ?_
        simp only [Act.put, List.setIfInBounds_toArray, List.set_cons_zero, List.set_cons_succ]
        refine wpAnyH_take (i := 31) (oi := { dst := some 218, op := Op.load 27 (Operand.tmp 18), type := 27, pos := "law.go:139", after := #[{ on := 30, ground := Ground.guard }], guard := some (30, true) }) (v := fy.v) rfl (by kernel_rfl) (by kernel_rfl) (by kernel_rfl) (fun _ _ _ h => h) (yieldsIf_load_mid (by rfl) 27 _ rfl g18 0 rfl fy.cs _ (fun w hSw => hSw.y.range) under27 rfl (by rw [size27, F.len])) (by assumption) ?_
        simp only [Act.put, List.setIfInBounds_toArray, List.set_cons_zero, List.set_cons_succ]
        refine wpAnyH_take (i := 33) (oi := { dst := some 220, op := Op.move (Operand.tmp 1), type := 45, pos := "law.go:139", after := #[{ on := 30, ground := Ground.guard }], guard := some (30, true) }) (v := .slice (some ⟨b, o, none⟩) 17 c) rfl (by kernel_rfl) (by kernel_rfl) (by kernel_rfl) (fun _ _ _ h => h) (Or.inl ⟨by rfl, by intro w hSw; go_simp⟩) (by assumption) ?_
        simp only [Act.put, List.setIfInBounds_toArray, List.set_cons_zero, List.set_cons_succ]
        refine wpAnyH_take (i := 34) (oi := { dst := some 221, op := Op.indexAddr 45 (Operand.tmp 220) (Operand.const (Value.int IntKind.i64 16)), type := 0, pos := "law.go:139", after := #[{ on := 33, ground := Ground.data }, { on := 30, ground := Ground.guard }], guard := some (30, true) }) (v := .pointer (some ⟨b, o + 16, none⟩)) rfl (by kernel_rfl) (by kernel_rfl) (by kernel_rfl) (fun _ _ _ h => h) (Or.inl ⟨by rfl, by intro w hSw; go_simp⟩) (by assumption) ?_
        simp only [Act.put, List.setIfInBounds_toArray, List.set_cons_zero, List.set_cons_succ]
        refine wpAnyH_take (i := 35) (oi := { dst := some 222, op := Op.load 22 (Operand.tmp 221), type := 22, pos := "law.go:139", after := #[{ on := 34, ground := Ground.data }, { on := 30, ground := Ground.guard }], guard := some (30, true) }) (v := .int .u32 q) rfl (by kernel_rfl) (by kernel_rfl) (by kernel_rfl) (fun _ _ _ h => h) (Or.inl ⟨by rfl, by intro w hSw; have y := HWA.out w hSw.h5.below; go_simp⟩) (by assumption) ?_
        simp only [Act.put, List.setIfInBounds_toArray, List.set_cons_zero, List.set_cons_succ]
        refine wpAnyH_ready (rs := [32]) (by kernel_rfl) (by simp) (AllReadyH.cons (o := { dst := some 219, op := Op.call { callee := Callee.value (Operand.func 17), args := #[Operand.tmp 218], argTypes := #[27] }, type := 22, pos := "law.go:139", after := #[{ on := 31, ground := Ground.data }, { on := 30, ground := Ground.chain }, { on := 30, ground := Ground.guard }], guard := some (30, true) }) rfl (fun KQ hK => ?_) AllReadyH.nil)
        go_simp
        refine (flags_any _ _).mono ?_
        rintro e w7 ⟨rfl, hb7⟩
        rw [HYF.out]
        have HE2 := hid (HE.out.on hb7)
        clear hb7 HE
        go_wp2_with fail
        refine hK.out _ _ HE2.out (fun hHeld => ?_)
        clear hK KQ
        try simp only [Act.put, List.setIfInBounds_toArray, List.set_cons_zero, List.set_cons_succ]
        refine wpAnyH_take (i := 36) (oi := { dst := some 223, op := Op.binOp BinOp.eql 22 (Operand.tmp 219) (Operand.tmp 222) 22, type := 4, pos := "law.go:139", after := #[{ on := 32, ground := Ground.data }, { on := 35, ground := Ground.data }, { on := 30, ground := Ground.guard }], guard := some (30, true) }) (v := .bool true) rfl (by kernel_rfl) (by kernel_rfl) (by kernel_rfl) (fun _ _ _ h => h) (Or.inl ⟨by rfl, by intro w hSw; go_simp⟩) (by assumption) ?_
        simp only [Act.put, List.setIfInBounds_toArray, List.set_cons_zero, List.set_cons_succ]
        refine wpAnyH_take (i := 37) (oi := { dst := some 224, op := Op.pick (Operand.tmp 217) (Operand.tmp 223) (Operand.const (Value.bool false)), type := 4, pos := "law.go:139", after := #[{ on := 30, ground := Ground.data }, { on := 36, ground := Ground.data }], guard := none }) (v := .bool true) rfl (by kernel_rfl) (by kernel_rfl) (by kernel_rfl) (fun _ _ _ h => h) (Or.inl ⟨by rfl, by intro w hSw; go_simp⟩) (by assumption) ?_
        simp only [Act.put, List.setIfInBounds_toArray, List.set_cons_zero, List.set_cons_succ]
        refine wpAnyH_ready (rs := [38]) (by kernel_rfl) (by simp) (AllReadyH.cons (o := { dst := some 4, op := Op.assign (Operand.tmp 224), type := 4, pos := "law.go:139", after := #[{ on := 37, ground := Ground.data }, { on := 32, ground := Ground.chain }, { on := 0, ground := Ground.phase }, { on := 1, ground := Ground.phase }, { on := 2, ground := Ground.phase }, { on := 3, ground := Ground.phase }, { on := 4, ground := Ground.phase }, { on := 5, ground := Ground.phase }, { on := 6, ground := Ground.phase }, { on := 7, ground := Ground.phase }, { on := 8, ground := Ground.phase }, { on := 9, ground := Ground.phase }, { on := 10, ground := Ground.phase }, { on := 11, ground := Ground.phase }, { on := 12, ground := Ground.phase }, { on := 13, ground := Ground.phase }, { on := 14, ground := Ground.phase }, { on := 15, ground := Ground.phase }, { on := 16, ground := Ground.phase }, { on := 17, ground := Ground.phase }, { on := 18, ground := Ground.phase }, { on := 19, ground := Ground.phase }, { on := 20, ground := Ground.phase }, { on := 21, ground := Ground.phase }, { on := 22, ground := Ground.phase }, { on := 23, ground := Ground.phase }, { on := 24, ground := Ground.phase }, { on := 25, ground := Ground.phase }, { on := 26, ground := Ground.phase }, { on := 27, ground := Ground.phase }, { on := 28, ground := Ground.phase }, { on := 29, ground := Ground.phase }, { on := 30, ground := Ground.phase }, { on := 31, ground := Ground.phase }, { on := 32, ground := Ground.phase }, { on := 33, ground := Ground.phase }, { on := 34, ground := Ground.phase }, { on := 35, ground := Ground.phase }, { on := 36, ground := Ground.phase }, { on := 37, ground := Ground.phase }], guard := none }) rfl (fun KQ hK => ?_) AllReadyH.nil)
        go_simp
        refine hK.out _ _ HE2.out (fun hHeld => ?_)
        clear hK KQ
        try simp only [Act.put, List.setIfInBounds_toArray, List.set_cons_zero, List.set_cons_succ]
        refine wpAnyH_done (by kernel_rfl) ?_ _
        go_wp2_with fail
        go_ret
        exact ⟨rfl, HE2.out.h5.below⟩
      · go_simp
        have HT14 := hid (show g5 ≠ x0.heap.size ∧ g12 ≠ x0.heap.size ∧ W.heap.size ≤ x0.heap.size from ⟨by have := HD.out.g.lt; omega, by have := HD.out.x.lt; omega, HD.out.below.size⟩)
        have HP11 := hid (HD.out.on (below_one x0 (.cells #[.int .u32 0, .int .u32 0, .int .u32 0, .int .u32 0, .int .u32 0, .int .u32 0, .int .u32 0, .int .u32 0, .int .u32 0, .int .u32 0, .int .u32 0, .int .u32 0, .int .u32 0, .int .u32 0, .int .u32 0, .int .u32 0, .bool false, .bool false, .bool false] 27)))
        have HG12 := hid (cel_new27 x0)
        clear HD
        generalize hy : x0.alloc _ = y13 at *
        clear hy
        generalize hg : x0.heap.size = g18 at *
        clear hg
        refine hK.out _ _ HP11.out (fun hHeld => ?_)
        clear hK KQ
        try simp only [Act.put, List.setIfInBounds_toArray, List.set_cons_zero, List.set_cons_succ]
        refine wpAnyH_ready (rs := [4]) (by kernel_rfl) (by simp) (AllReadyH.cons (o := { dst := some 184, op := Op.call { callee := Callee.value (Operand.func 16), args := #[Operand.tmp 180, Operand.tmp 183], argTypes := #[27, 22] }, type := 40, pos := "law.go:138", after := #[{ on := 0, ground := Ground.data }, { on := 3, ground := Ground.data }], guard := none }) rfl (fun KQ hK => ?_) AllReadyH.nil)
        go_simp
        refine (HFL.out _).mono ?_
        rintro e w15 ⟨rfl, hb16⟩
        have HP17 := hid (HP11.out.on hb16)
        have HG18 := hid (HG12.out.on hb16)
        clear hb16
        go_wp2_with fail
        refine hK.out _ _ HP17.out (fun hHeld => ?_)
        clear hK KQ
        try simp only [Act.put, List.setIfInBounds_toArray, List.set_cons_zero, List.set_cons_succ]
        refine wpAnyH_take (i := 5) (oi := { dst := some 179, op := Op.move (Operand.tmp 184), type := 40, pos := "law.go:138", after := #[{ on := 4, ground := Ground.data }], guard := none }) (v := .tuple #[fy.v, .int .i64 0]) rfl (by kernel_rfl) (by kernel_rfl) (by kernel_rfl) (fun _ _ _ h => h) (Or.inl ⟨by rfl, by intro w hSw; go_simp⟩) (by assumption) ?_
        simp only [Act.put, List.setIfInBounds_toArray, List.set_cons_zero, List.set_cons_succ]
        refine wpAnyH_take (i := 6) (oi := { dst := some 185, op := Op.extract (Operand.tmp 179) 0, type := 27, pos := "law.go:138", after := #[{ on := 5, ground := Ground.data }], guard := none }) (v := fy.v) rfl (by kernel_rfl) (by kernel_rfl) (by kernel_rfl) (fun _ _ _ h => h) (Or.inl ⟨by rfl, by intro w hSw; go_simp⟩) (by assumption) ?_
        simp only [Act.put, List.setIfInBounds_toArray, List.set_cons_zero, List.set_cons_succ]
        refine wpAnyH_take (i := 7) (oi := { dst := some 186, op := Op.extract (Operand.tmp 179) 1, type := 39, pos := "law.go:138", after := #[{ on := 5, ground := Ground.data }, { on := 9, ground := Ground.gcOnly Departure.lateStores }], guard := none }) (v := .int .i64 0) rfl (by kernel_rfl) (by kernel_rfl) (by kernel_rfl) (fun _ _ _ h => h) (Or.inl ⟨by rfl, by intro w hSw; go_simp⟩) (by assumption) ?_
        simp only [Act.put, List.setIfInBounds_toArray, List.set_cons_zero, List.set_cons_succ]
        refine wpAnyH_ready (rs := [9]) (by kernel_rfl) (by simp) (AllReadyH.cons (o := { dst := none, op := Op.store 27 (Operand.tmp 18) (Operand.tmp 185), type := 0, pos := "law.go:138", after := #[{ on := 8, ground := Ground.data }, { on := 6, ground := Ground.data }, { on := 4, ground := Ground.chain }, { on := 0, ground := Ground.phase }, { on := 1, ground := Ground.phase }, { on := 2, ground := Ground.phase }, { on := 3, ground := Ground.phase }, { on := 4, ground := Ground.phase }, { on := 5, ground := Ground.phase }, { on := 6, ground := Ground.phase }, { on := 7, ground := Ground.textOnly Departure.lateStores }, { on := 8, ground := Ground.phase }], guard := none }) rfl (fun KQ hK => ?_) AllReadyH.nil)
        rw [if_pos (by rfl)]
        refine wp_store_st 27 _ _ rfl g18 fy.cs rfl rfl HG18.out (by rw [size27, F.len]) (by rw [F.len, F.len]) fy.all ?_
        have HP19 := hid (HP17.out.but (ButL.setRow w15 g18 fy.cs.toArray (by simp)) HT14.out.1 HT14.out.2.1 HT14.out.2.2)
        have HK21 : Hid (G7 W (w15.setRow g18 fy.cs.toArray) g5 g12 g18 f5 fx fy) := hid ⟨HP19.out, HG18.out.set fy.cs⟩
        clear HP17 HG18
        generalize hy : w15.setRow g18 _ = y20 at *
        clear hy
        refine hK.out _ _ HP19.out (fun hHeld => ?_)
        clear hK KQ
        try simp only [Act.put]
        refine wpAnyH_ready (rs := [10]) (by kernel_rfl) (by simp) (AllReadyH.cons (o := { dst := some 19, op := Op.assign (Operand.tmp 186), type := 39, pos := "law.go:138", after := #[{ on := 7, ground := Ground.data }, { on := 9, ground := Ground.chain }, { on := 0, ground := Ground.phase }, { on := 1, ground := Ground.phase }, { on := 2, ground := Ground.phase }, { on := 3, ground := Ground.phase }, { on := 4, ground := Ground.phase }, { on := 5, ground := Ground.phase }, { on := 6, ground := Ground.phase }, { on := 7, ground := Ground.phase }, { on := 8, ground := Ground.phase }, { on := 9, ground := Ground.phase }], guard := none }) rfl (fun KQ hK => ?_) AllReadyH.nil)
        go_simp
        refine hK.out _ _ HP19.out (fun hHeld => ?_)
        clear hK KQ
        try simp only [Act.put, List.setIfInBounds_toArray, List.set_cons_zero, List.set_cons_succ]
        refine wpAnyH_done (by kernel_rfl) ?_ _
        go_wp2_with fail
        have HE := hid (HK21.out.on (Below.refl _ _).drew)
        clear HK21
        refine wp_region_held_drew (S := fun x => G7 W x g5 g12 g18 f5 fx fy) (by kernel_rfl) HE.out (fun hHeld => ?_)
        refine wpAnyH_take (i := 0) (oi := { dst := some 187, op := Op.move (Operand.tmp 19), type := 39, pos := "law.go:139", after := #[], guard := none }) (v := .int .i64 0) rfl (by kernel_rfl) (by kernel_rfl) (by kernel_rfl) (fun _ _ _ h => h) (Or.inl ⟨by rfl, by intro w hSw; go_simp⟩) (by assumption) ?_
        simp only [Act.put, List.setIfInBounds_toArray, List.set_cons_zero, List.set_cons_succ]
        refine wpAnyH_take (i := 1) (oi := { dst := some 188, op := Op.binOp BinOp.eql 3 (Operand.tmp 187) (Operand.const (Value.int IntKind.i64 0)) 3, type := 4, pos := "law.go:139", after := #[{ on := 0, ground := Ground.data }], guard := none }) (v := .bool true) rfl (by kernel_rfl) (by kernel_rfl) (by kernel_rfl) (fun _ _ _ h => h) (Or.inl ⟨by rfl, by intro w hSw; go_simp⟩) (by assumption) ?_
        simp only [Act.put, List.setIfInBounds_toArray, List.set_cons_zero, List.set_cons_succ]
        refine wpAnyH_take (i := 2) (oi := { dst := some 189, op := Op.move (Operand.tmp 188), type := 4, pos := "law.go:139", after := #[{ on := 1, ground := Ground.data }], guard := none }) (v := .bool true) rfl (by kernel_rfl) (by kernel_rfl) (by kernel_rfl) (fun _ _ _ h => h) (Or.inl ⟨by rfl, by intro w hSw; go_simp⟩) (by assumption) ?_
        simp only [Act.put, List.setIfInBounds_toArray, List.set_cons_zero, List.set_cons_succ]
        refine wpAnyH_take (i := 3) (oi := { dst := some 190, op := Op.fieldAddr 27 (Operand.tmp 18) 2, type := 0, pos := "law.go:139", after := #[{ on := 2, ground := Ground.guard }], guard := some (2, true) }) (v := .pointer (some ⟨g18, 16, none⟩)) rfl (by kernel_rfl) (by kernel_rfl) (by kernel_rfl) (fun _ _ _ h => h) (Or.inl ⟨by rfl, by intro w hSw; go_simp⟩) (by assumption) ?_
        simp only [Act.put, List.setIfInBounds_toArray, List.set_cons_zero, List.set_cons_succ]
        refine wpAnyH_take (i := 4) (oi := { dst := some 191, op := Op.load 4 (Operand.tmp 190), type := 4, pos := "law.go:139", after := #[{ on := 3, ground := Ground.data }, { on := 2, ground := Ground.guard }], guard := some (2, true) }) (v := .bool fx.z) rfl (by kernel_rfl) (by kernel_rfl) (by kernel_rfl) (fun _ _ _ h => h) (Or.inl ⟨by rfl, by intro w hSw; have y := (hSw.y.cell 16).trans fy.at16; rw [HYZ.out.1] at y; go_simp⟩) (by assumption) ?_
        simp only [Act.put, List.setIfInBounds_toArray, List.set_cons_zero, List.set_cons_succ]
        refine wpAnyH_take (i := 5) (oi := { dst := some 192, op := Op.fieldAddr 27 (Operand.tmp 12) 2, type := 0, pos := "law.go:139", after := #[{ on := 2, ground := Ground.guard }], guard := some (2, true) }) (v := .pointer (some ⟨g12, 16, none⟩)) rfl (by kernel_rfl) (by kernel_rfl) (by kernel_rfl) (fun _ _ _ h => h) (Or.inl ⟨by rfl, by intro w hSw; go_simp⟩) (by assumption) ?_
        simp only [Act.put, List.setIfInBounds_toArray, List.set_cons_zero, List.set_cons_succ]
        refine wpAnyH_take (i := 6) (oi := { dst := some 193, op := Op.load 4 (Operand.tmp 192), type := 4, pos := "law.go:139", after := #[{ on := 5, ground := Ground.data }, { on := 2, ground := Ground.guard }], guard := some (2, true) }) (v := .bool fx.z) rfl (by kernel_rfl) (by kernel_rfl) (by kernel_rfl) (fun _ _ _ h => h) (Or.inl ⟨by rfl, by intro w hSw; have y := (hSw.h5.x.cell 16).trans fx.at16; go_simp⟩) (by assumption) ?_
        simp only [Act.put, List.setIfInBounds_toArray, List.set_cons_zero, List.set_cons_succ]
        refine wpAnyH_take (i := 7) (oi := { dst := some 194, op := Op.binOp BinOp.eql 4 (Operand.tmp 191) (Operand.tmp 193) 4, type := 4, pos := "law.go:139", after := #[{ on := 4, ground := Ground.data }, { on := 6, ground := Ground.data }, { on := 2, ground := Ground.guard }], guard := some (2, true) }) (v := .bool true) rfl (by kernel_rfl) (by kernel_rfl) (by kernel_rfl) (fun _ _ _ h => h) (Or.inl ⟨by rfl, by intro w hSw; go_simp⟩) (by assumption) ?_
        simp only [Act.put, List.setIfInBounds_toArray, List.set_cons_zero, List.set_cons_succ]
        refine wpAnyH_take (i := 8) (oi := { dst := some 195, op := Op.pick (Operand.tmp 189) (Operand.tmp 194) (Operand.const (Value.bool false)), type := 4, pos := "law.go:139", after := #[{ on := 2, ground := Ground.data }, { on := 7, ground := Ground.data }], guard := none }) (v := .bool true) rfl (by kernel_rfl) (by kernel_rfl) (by kernel_rfl) (fun _ _ _ h => h) (Or.inl ⟨by rfl, by intro w hSw; go_simp⟩) (by assumption) ?_
        simp only [Act.put, List.setIfInBounds_toArray, List.set_cons_zero, List.set_cons_succ]
        refine wpAnyH_take (i := 9) (oi := { dst := some 196, op := Op.move (Operand.tmp 195), type := 4, pos := "law.go:139", after := #[{ on := 8, ground := Ground.data }, { on := 2, ground := Ground.chain }], guard := none }) (v := .bool true) rfl (by kernel_rfl) (by kernel_rfl) (by kernel_rfl) (fun _ _ _ h => h) (Or.inl ⟨by rfl, by intro w hSw; go_simp⟩) (by assumption) ?_
        simp only [Act.put, List.setIfInBounds_toArray, List.set_cons_zero, List.set_cons_succ]
        refine wpAnyH_take (i := 10) (oi := { dst := some 197, op := Op.fieldAddr 27 (Operand.tmp 18) 3, type := 0, pos := "law.go:139", after := #[{ on := 9, ground := Ground.guard }], guard := some (9, true) }) (v := .pointer (some ⟨g18, 17, none⟩)) rfl (by kernel_rfl) (by kernel_rfl) (by kernel_rfl) (fun _ _ _ h => h) (Or.inl ⟨by rfl, by intro w hSw; go_simp⟩) (by assumption) ?_
        simp only [Act.put, List.setIfInBounds_toArray, List.set_cons_zero, List.set_cons_succ]
        refine wpAnyH_take (i := 11) (oi := { dst := some 198, op := Op.load 4 (Operand.tmp 197), type := 4, pos := "law.go:139", after := #[{ on := 10, ground := Ground.data }, { on := 9, ground := Ground.guard }], guard := some (9, true) }) (v := .bool fx.n) rfl (by kernel_rfl) (by kernel_rfl) (by kernel_rfl) (fun _ _ _ h => h) (Or.inl ⟨by rfl, by intro w hSw; have y := (hSw.y.cell 17).trans fy.at17; rw [HYZ.out.2.1] at y; go_simp⟩) (by assumption) ?_
        simp only [Act.put, List.setIfInBounds_toArray, List.set_cons_zero, List.set_cons_succ]
        refine wpAnyH_take (i := 12) (oi := { dst := some 199, op := Op.fieldAddr 27 (Operand.tmp 12) 3, type := 0, pos := "law.go:139", after := #[{ on := 9, ground := Ground.guard }], guard := some (9, true) }) (v := .pointer (some ⟨g12, 17, none⟩)) rfl (by kernel_rfl) (by kernel_rfl) (by kernel_rfl) (fun _ _ _ h => h) (Or.inl ⟨by rfl, by intro w hSw; go_simp⟩) (by assumption) ?_
        simp only [Act.put, List.setIfInBounds_toArray, List.set_cons_zero, List.set_cons_succ]
        refine wpAnyH_take (i := 13) (oi := { dst := some 200, op := Op.load 4 (Operand.tmp 199), type := 4, pos := "law.go:139", after := #[{ on := 12, ground := Ground.data }, { on := 9, ground := Ground.guard }], guard := some (9, true) }) (v := .bool fx.n) rfl (by kernel_rfl) (by kernel_rfl) (by kernel_rfl) (fun _ _ _ h => h) (Or.inl ⟨by rfl, by intro w hSw; have y := (hSw.h5.x.cell 17).trans fx.at17; go_simp⟩) (by assumption) ?_
        simp only [Act.put, List.setIfInBounds_toArray, List.set_cons_zero, List.set_cons_succ]
        refine wpAnyH_take (i := 14) (oi := { dst := some 201, op := Op.binOp BinOp.eql 4 (Operand.tmp 198) (Operand.tmp 200) 4, type := 4, pos := "law.go:139", after := #[{ on := 11, ground := Ground.data }, { on := 13, ground := Ground.data }, { on := 9, ground := Ground.guard }], guard := some (9, true) }) (v := .bool true) rfl (by kernel_rfl) (by kernel_rfl) (by kernel_rfl) (fun _ _ _ h => h) (Or.inl ⟨by rfl, by intro w hSw; go_simp⟩) (by assumption) ?_
        simp only [Act.put, List.setIfInBounds_toArray, List.set_cons_zero, List.set_cons_succ]
        refine wpAnyH_take (i := 15) (oi := { dst := some 202, op := Op.pick (Operand.tmp 196) (Operand.tmp 201) (Operand.const (Value.bool false)), type := 4, pos := "law.go:139", after := #[{ on := 9, ground := Ground.data }, { on := 14, ground := Ground.data }], guard := none }) (v := .bool true) rfl (by kernel_rfl) (by kernel_rfl) (by kernel_rfl) (fun _ _ _ h => h) (Or.inl ⟨by rfl, by intro w hSw; go_simp⟩) (by assumption) ?_
        simp only [Act.put, List.setIfInBounds_toArray, List.set_cons_zero, List.set_cons_succ]
        refine wpAnyH_take (i := 16) (oi := { dst := some 203, op := Op.move (Operand.tmp 202), type := 4, pos := "law.go:139", after := #[{ on := 15, ground := Ground.data }, { on := 9, ground := Ground.chain }], guard := none }) (v := .bool true) rfl (by kernel_rfl) (by kernel_rfl) (by kernel_rfl) (fun _ _ _ h => h) (Or.inl ⟨by rfl, by intro w hSw; go_simp⟩) (by assumption) ?_
        simp only [Act.put, List.setIfInBounds_toArray, List.set_cons_zero, List.set_cons_succ]
        refine wpAnyH_take (i := 17) (oi := { dst := some 204, op := Op.fieldAddr 27 (Operand.tmp 18) 4, type := 0, pos := "law.go:139", after := #[{ on := 16, ground := Ground.guard }], guard := some (16, true) }) (v := .pointer (some ⟨g18, 18, none⟩)) rfl (by kernel_rfl) (by kernel_rfl) (by kernel_rfl) (fun _ _ _ h => h) (Or.inl ⟨by rfl, by intro w hSw; go_simp⟩) (by assumption) ?_
        simp only [Act.put, List.setIfInBounds_toArray, List.set_cons_zero, List.set_cons_succ]
        refine wpAnyH_take (i := 18) (oi := { dst := some 205, op := Op.load 4 (Operand.tmp 204), type := 4, pos := "law.go:139", after := #[{ on := 17, ground := Ground.data }, { on := 16, ground := Ground.guard }], guard := some (16, true) }) (v := .bool fx.l) rfl (by kernel_rfl) (by kernel_rfl) (by kernel_rfl) (fun _ _ _ h => h) (Or.inl ⟨by rfl, by intro w hSw; have y := (hSw.y.cell 18).trans fy.at18; rw [HYZ.out.2.2.1] at y; go_simp⟩) (by assumption) ?_
        simp only [Act.put, List.setIfInBounds_toArray, List.set_cons_zero, List.set_cons_succ]
        refine wpAnyH_take (i := 19) (oi := { dst := some 206, op := Op.fieldAddr 27 (Operand.tmp 12) 4, type := 0, pos := "law.go:139", after := #[{ on := 16, ground := Ground.guard }], guard := some (16, true) }) (v := .pointer (some ⟨g12, 18, none⟩)) rfl (by kernel_rfl) (by kernel_rfl) (by kernel_rfl) (fun _ _ _ h => h) (Or.inl ⟨by rfl, by intro w hSw; go_simp⟩) (by assumption) ?_
        simp only [Act.put, List.setIfInBounds_toArray, List.set_cons_zero, List.set_cons_succ]
        refine wpAnyH_take (i := 20) (oi := { dst := some 207, op := Op.load 4 (Operand.tmp 206), type := 4, pos := "law.go:139", after := #[{ on := 19, ground := Ground.data }, { on := 16, ground := Ground.guard }], guard := some (16, true) }) (v := .bool fx.l) rfl (by kernel_rfl) (by kernel_rfl) (by kernel_rfl) (fun _ _ _ h => h) (Or.inl ⟨by rfl, by intro w hSw; have y := (hSw.h5.x.cell 18).trans fx.at18; go_simp⟩) (by assumption) ?_
        simp only [Act.put, List.setIfInBounds_toArray, List.set_cons_zero, List.set_cons_succ]
        refine wpAnyH_take (i := 21) (oi := { dst := some 208, op := Op.binOp BinOp.eql 4 (Operand.tmp 205) (Operand.tmp 207) 4, type := 4, pos := "law.go:139", after := #[{ on := 18, ground := Ground.data }, { on := 20, ground := Ground.data }, { on := 16, ground := Ground.guard }], guard := some (16, true) }) (v := .bool true) rfl (by kernel_rfl) (by kernel_rfl) (by kernel_rfl) (fun _ _ _ h => h) (Or.inl ⟨by rfl, by intro w hSw; go_simp⟩) (by assumption) ?_
        simp only [Act.put, List.setIfInBounds_toArray, List.set_cons_zero, List.set_cons_succ]
        refine wpAnyH_take (i := 22) (oi := { dst := some 209, op := Op.pick (Operand.tmp 203) (Operand.tmp 208) (Operand.const (Value.bool false)), type := 4, pos := "law.go:139", after := #[{ on := 16, ground := Ground.data }, { on := 21, ground := Ground.data }], guard := none }) (v := .bool true) rfl (by kernel_rfl) (by kernel_rfl) (by kernel_rfl) (fun _ _ _ h => h) (Or.inl ⟨by rfl, by intro w hSw; go_simp⟩) (by assumption) ?_
        simp only [Act.put, List.setIfInBounds_toArray, List.set_cons_zero, List.set_cons_succ]
        refine wpAnyH_take (i := 23) (oi := { dst := some 210, op := Op.move (Operand.tmp 209), type := 4, pos := "law.go:139", after := #[{ on := 22, ground := Ground.data }, { on := 16, ground := Ground.chain }], guard := none }) (v := .bool true) rfl (by kernel_rfl) (by kernel_rfl) (by kernel_rfl) (fun _ _ _ h => h) (Or.inl ⟨by rfl, by intro w hSw; go_simp⟩) (by assumption) ?_
        simp only [Act.put, List.setIfInBounds_toArray, List.set_cons_zero, List.set_cons_succ]
        refine wpAnyH_take (i := 24) (oi := { dst := some 211, op := Op.fieldAddr 27 (Operand.tmp 18) 0, type := 0, pos := "law.go:139", after := #[{ on := 23, ground := Ground.guard }], guard := some (23, true) }) (v := .pointer (some ⟨g18, 0, none⟩)) rfl (by kernel_rfl) (by kernel_rfl) (by kernel_rfl) (fun _ _ _ h => h) (Or.inl ⟨by rfl, by intro w hSw; go_simp⟩) (by assumption) ?_
        simp only [Act.put, List.setIfInBounds_toArray, List.set_cons_zero, List.set_cons_succ]
        refine wpAnyH_take (i := 25) (oi := { dst := some 212, op := Op.load 23 (Operand.tmp 211), type := 23, pos := "law.go:139", after := #[{ on := 24, ground := Ground.data }, { on := 23, ground := Ground.guard }], guard := some (23, true) }) (v := rV fy.r) rfl (by kernel_rfl) (by kernel_rfl) (by kernel_rfl) (fun _ _ _ h => h) (yieldsIf_load_mid (by rfl) 23 _ rfl g18 0 rfl (rs fy.r) _ (fun w hSw => F.rng hSw.y) under23 rfl (by rw [size23, rs_len])) (by assumption) ?_
        simp only [Act.put, List.setIfInBounds_toArray, List.set_cons_zero, List.set_cons_succ]
        refine wpAnyH_take (i := 26) (oi := { dst := some 213, op := Op.fieldAddr 27 (Operand.tmp 5) 0, type := 0, pos := "law.go:139", after := #[{ on := 23, ground := Ground.guard }], guard := some (23, true) }) (v := .pointer (some ⟨g5, 0, none⟩)) rfl (by kernel_rfl) (by kernel_rfl) (by kernel_rfl) (fun _ _ _ h => h) (Or.inl ⟨by rfl, by intro w hSw; go_simp⟩) (by assumption) ?_
        simp only [Act.put, List.setIfInBounds_toArray, List.set_cons_zero, List.set_cons_succ]
        refine wpAnyH_take (i := 27) (oi := { dst := some 214, op := Op.load 23 (Operand.tmp 213), type := 23, pos := "law.go:139", after := #[{ on := 26, ground := Ground.data }, { on := 23, ground := Ground.guard }], guard := some (23, true) }) (v := rV f5.r) rfl (by kernel_rfl) (by kernel_rfl) (by kernel_rfl) (fun _ _ _ h => h) (yieldsIf_load_mid (by rfl) 23 _ rfl g5 0 rfl (rs f5.r) _ (fun w hSw => F.rng hSw.h5.g) under23 rfl (by rw [size23, rs_len])) (by assumption) ?_
        simp only [Act.put, List.setIfInBounds_toArray, List.set_cons_zero, List.set_cons_succ]
        refine wpAnyH_take (i := 28) (oi := { dst := some 215, op := Op.binOp BinOp.eql 23 (Operand.tmp 212) (Operand.tmp 214) 23, type := 4, pos := "law.go:139", after := #[{ on := 25, ground := Ground.data }, { on := 27, ground := Ground.data }, { on := 23, ground := Ground.guard }], guard := some (23, true) }) (v := .bool true) rfl (by kernel_rfl) (by kernel_rfl) (by kernel_rfl) (fun _ _ _ h => h) (Or.inl ⟨by rfl, fun w hSw => exec_eql_r _ _ rfl fy.r f5.r rfl rfl _ ((sameR_iff _ _).2 fun k _ => by rw [HYZ.out.2.2.2])⟩) (by assumption) ?_
        simp only [Act.put, List.setIfInBounds_toArray, List.set_cons_zero, List.set_cons_succ]
        refine wpAnyH_take (i := 29) (oi := { dst := some 216, op := Op.pick (Operand.tmp 210) (Operand.tmp 215) (Operand.const (Value.bool false)), type := 4, pos := "law.go:139", after := #[{ on := 23, ground := Ground.data }, { on := 28, ground := Ground.data }], guard := none }) (v := .bool true) rfl (by kernel_rfl) (by kernel_rfl) (by kernel_rfl) (fun _ _ _ h => h) (Or.inl ⟨by rfl, by intro w hSw; go_simp⟩) (by assumption) ?_
        simp only [Act.put, List.setIfInBounds_toArray, List.set_cons_zero, List.set_cons_succ]
        refine wpAnyH_take (i := 30) (oi := { dst := some 217, op := Op.move (Operand.tmp 216), type := 4, pos := "law.go:139", after := #[{ on := 29, ground := Ground.data }, { on := 23, ground := Ground.chain }], guard := none }) (v := .bool true) rfl (by kernel_rfl) (by kernel_rfl) (by kernel_rfl) (fun _ _ _ h => h) (Or.inl ⟨by rfl, by intro w hSw; go_simp⟩) (by assumption) ?_
        simp only [Act.put, List.setIfInBounds_toArray, List.set_cons_zero, List.set_cons_succ]
        refine wpAnyH_take (i := 31) (oi := { dst := some 218, op := Op.load 27 (Operand.tmp 18), type := 27, pos := "law.go:139", after := #[{ on := 30, ground := Ground.guard }], guard := some (30, true) }) (v := fy.v) rfl (by kernel_rfl) (by kernel_rfl) (by kernel_rfl) (fun _ _ _ h => h) (yieldsIf_load_mid (by rfl) 27 _ rfl g18 0 rfl fy.cs _ (fun w hSw => hSw.y.range) under27 rfl (by rw [size27, F.len])) (by assumption) ?_
        simp only [Act.put, List.setIfInBounds_toArray, List.set_cons_zero, List.set_cons_succ]
        refine wpAnyH_take (i := 33) (oi := { dst := some 220, op := Op.move (Operand.tmp 1), type := 45, pos := "law.go:139", after := #[{ on := 30, ground := Ground.guard }], guard := some (30, true) }) (v := .slice (some ⟨b, o, none⟩) 17 c) rfl (by kernel_rfl) (by kernel_rfl) (by kernel_rfl) (fun _ _ _ h => h) (Or.inl ⟨by rfl, by intro w hSw; go_simp⟩) (by assumption) ?_
        simp only [Act.put, List.setIfInBounds_toArray, List.set_cons_zero, List.set_cons_succ]
        refine wpAnyH_take (i := 34) (oi := { dst := some 221, op := Op.indexAddr 45 (Operand.tmp 220) (Operand.const (Value.int IntKind.i64 16)), type := 0, pos := "law.go:139", after := #[{ on := 33, ground := Ground.data }, { on := 30, ground := Ground.guard }], guard := some (30, true) }) (v := .pointer (some ⟨b, o + 16, none⟩)) rfl (by kernel_rfl) (by kernel_rfl) (by kernel_rfl) (fun _ _ _ h => h) (Or.inl ⟨by rfl, by intro w hSw; go_simp⟩) (by assumption) ?_
        simp only [Act.put, List.setIfInBounds_toArray, List.set_cons_zero, List.set_cons_succ]
        refine wpAnyH_take (i := 35) (oi := { dst := some 222, op := Op.load 22 (Operand.tmp 221), type := 22, pos := "law.go:139", after := #[{ on := 34, ground := Ground.data }, { on := 30, ground := Ground.guard }], guard := some (30, true) }) (v := .int .u32 q) rfl (by kernel_rfl) (by kernel_rfl) (by kernel_rfl) (fun _ _ _ h => h) (Or.inl ⟨by rfl, by intro w hSw; have y := HWA.out w hSw.h5.below; go_simp⟩) (by assumption) ?_
        simp only [Act.put, List.setIfInBounds_toArray, List.set_cons_zero, List.set_cons_succ]
        refine wpAnyH_ready (rs := [32]) (by kernel_rfl) (by simp) (AllReadyH.cons (o := { dst := some 219, op := Op.call { callee := Callee.value (Operand.func 17), args := #[Operand.tmp 218], argTypes := #[27] }, type := 22, pos := "law.go:139", after := #[{ on := 31, ground := Ground.data }, { on := 30, ground := Ground.chain }, { on := 30, ground := Ground.guard }], guard := some (30, true) }) rfl (fun KQ hK => ?_) AllReadyH.nil)
        go_simp
        refine (flags_any _ _).mono ?_
        rintro e w7 ⟨rfl, hb7⟩
        rw [HYF.out]
        have HE2 := hid (HE.out.on hb7)
        clear hb7 HE
        go_wp2_with fail
        refine hK.out _ _ HE2.out (fun hHeld => ?_)
        clear hK KQ
        try simp only [Act.put, List.setIfInBounds_toArray, List.set_cons_zero, List.set_cons_succ]
        refine wpAnyH_take (i := 36) (oi := { dst := some 223, op := Op.binOp BinOp.eql 22 (Operand.tmp 219) (Operand.tmp 222) 22, type := 4, pos := "law.go:139", after := #[{ on := 32, ground := Ground.data }, { on := 35, ground := Ground.data }, { on := 30, ground := Ground.guard }], guard := some (30, true) }) (v := .bool true) rfl (by kernel_rfl) (by kernel_rfl) (by kernel_rfl) (fun _ _ _ h => h) (Or.inl ⟨by rfl, by intro w hSw; go_simp⟩) (by assumption) ?_
        simp only [Act.put, List.setIfInBounds_toArray, List.set_cons_zero, List.set_cons_succ]
        refine wpAnyH_take (i := 37) (oi := { dst := some 224, op := Op.pick (Operand.tmp 217) (Operand.tmp 223) (Operand.const (Value.bool false)), type := 4, pos := "law.go:139", after := #[{ on := 30, ground := Ground.data }, { on := 36, ground := Ground.data }], guard := none }) (v := .bool true) rfl (by kernel_rfl) (by kernel_rfl) (by kernel_rfl) (fun _ _ _ h => h) (Or.inl ⟨by rfl, by intro w hSw; go_simp⟩) (by assumption) ?_
        simp only [Act.put, List.setIfInBounds_toArray, List.set_cons_zero, List.set_cons_succ]
        refine wpAnyH_ready (rs := [38]) (by kernel_rfl) (by simp) (AllReadyH.cons (o := { dst := some 4, op := Op.assign (Operand.tmp 224), type := 4, pos := "law.go:139", after := #[{ on := 37, ground := Ground.data }, { on := 32, ground := Ground.chain }, { on := 0, ground := Ground.phase }, { on := 1, ground := Ground.phase }, { on := 2, ground := Ground.phase }, { on := 3, ground := Ground.phase }, { on := 4, ground := Ground.phase }, { on := 5, ground := Ground.phase }, { on := 6, ground := Ground.phase }, { on := 7, ground := Ground.phase }, { on := 8, ground := Ground.phase }, { on := 9, ground := Ground.phase }, { on := 10, ground := Ground.phase }, { on := 11, ground := Ground.phase }, { on := 12, ground := Ground.phase }, { on := 13, ground := Ground.phase }, { on := 14, ground := Ground.phase }, { on := 15, ground := Ground.phase }, { on := 16, ground := Ground.phase }, { on := 17, ground := Ground.phase }, { on := 18, ground := Ground.phase }, { on := 19, ground := Ground.phase }, { on := 20, ground := Ground.phase }, { on := 21, ground := Ground.phase }, { on := 22, ground := Ground.phase }, { on := 23, ground := Ground.phase }, { on := 24, ground := Ground.phase }, { on := 25, ground := Ground.phase }, { on := 26, ground := Ground.phase }, { on := 27, ground := Ground.phase }, { on := 28, ground := Ground.phase }, { on := 29, ground := Ground.phase }, { on := 30, ground := Ground.phase }, { on := 31, ground := Ground.phase }, { on := 32, ground := Ground.phase }, { on := 33, ground := Ground.phase }, { on := 34, ground := Ground.phase }, { on := 35, ground := Ground.phase }, { on := 36, ground := Ground.phase }, { on := 37, ground := Ground.phase }], guard := none }) rfl (fun KQ hK => ?_) AllReadyH.nil)
        go_simp
        refine hK.out _ _ HE2.out (fun hHeld => ?_)
        clear hK KQ
        try simp only [Act.put, List.setIfInBounds_toArray, List.set_cons_zero, List.set_cons_succ]
        refine wpAnyH_done (by kernel_rfl) ?_ _
        go_wp2_with fail
        go_ret
        exact ⟨rfl, HE2.out.h5.below⟩
end Go.Proofs.Ythpkodkilbcepaa
