import Derived.Test.YtgbpbfnpeeciaaaP42
import Derived.Laws.OwnMore
import Derived.Deep.DeepCutAuto
import Derived.Deep.MidRow
namespace Go.Proofs.Ytgbpbfnpeeciaaa
open Go.RowKit
set_option maxRecDepth 100000
set_option maxHeartbeats 8000000
theorem under43 : Try.prog.underlying 43 = some (.slice 55) := by kernel_rfl
theorem info55 : (Try.prog.info? 55).map (fun i => (i.zero, i.size, i.bytes)) = some (some (.agg #[.int .u32 0, .bool false, .int .i64 0, .bool false, .bool false]), 5, 32) := by kernel_rfl
theorem under70 : Try.prog.underlying 70 = some (.slice 79) := by kernel_rfl
theorem info79 : (Try.prog.info? 79).map (fun i => (i.zero, i.size, i.bytes)) = some (some (.agg #[.slice none 0 0, .slice none 0 0, .int .u32 0, .bool false, .int .i64 0, .bool false, .bool false]), 7, 80) := by kernel_rfl
theorem under79 : Try.prog.underlying 79 = some (.struct (Try.prog.fieldsOf 79)) := by kernel_rfl
theorem size79 : (Try.prog.info? 79).map (·.size) = some 7 := by kernel_rfl
theorem wpList_append_two {P : Program} {w : World} {ops : Array Oper} {rest : List Oper} {o : Oper} {ac : Act} {Q : Exit → Act → World → Prop} (hgd : o.guard = none) (s x : Operand) (t : TypeId)
    (ho : o.op = .call { callee := .builtin .append, args := #[s, x], argTypes := #[t, t] }) {base : Nat} {e : TypeId} {i : TypeInfo} {z : Value} {size bytes : Nat} (ht : P.underlying t = some (.slice e)) (hi : P.info? e = some i) (hz : i.zero = some z) (hsize : i.size = size) (hby : i.bytes = bytes) (hzs : z.cells.size = size) (hsz : 0 < size)
    {v : Value} {n : Nat} {xs : List Value} (hs : ac.eval s = v) (hown : w.ownsRow base e size v n xs) (hbase : base ≤ w.heap.size) {a : Addr} {m c : Nat} {news : List Value} (hx : ac.eval x = .slice (some a) m c) (hl : news.length = m * size) (hnews : ∀ j u, news[j]? = some u → w.cell? (a.add j) = some u) (h1 : ∀ u ∈ news, u.oneCell' = true)
    (h63 : n + m ≤ maxLen) (hbytes : (n + m) * bytes ≤ 140737488355328)
    (h : ∀ v' w', ((∃ g cap, v = .slice (some ⟨g, 0, none⟩) n cap ∧ v' = .slice (some ⟨g, 0, none⟩) (n + m) cap ∧ w'.ownsRow base e size v' (n + m) (xs ++ news) ∧ ButL [g] w w') ∨ (w'.ownsRow w.heap.size e size v' (n + m) (xs ++ news) ∧ Below w.heap.size w w')) → wpList P ops Q rest (ac.put o.dst v') w') : wpList P ops Q (o :: rest) ac w := by
  obtain ⟨v', w', hr, h2⟩ := append_two (P := P) (ty := o.type) (c := c) ht hi hz hsize hby hzs hsz hown hbase hl hnews h1 h63 hbytes
  refine wpList_plain hgd fun K hK => ?_
  unfold Oper.wp execOp
  simp only [ho, resolve, invoke, builtin, Sem.run_bind, Sem.run_pure, Result.andThen_ok, List.map_toArray, List.map_cons, List.map_nil, hs, hx, hr]
  exact hK _ _ (h _ _ h2)
theorem wpList_append_mk {w : World} {ops : Array Oper} {rest : List Oper} {o : Oper} {ac : Act} {Q : Exit → Act → World → Prop} (hgd : o.guard = none) (s x : Operand) (ho : o.op = .call { callee := .builtin .append, args := #[s, x], argTypes := #[43, 43] }) {B n g : Nat} {v : Value} {k : Int} (hs : ac.eval s = v) (hown : w.ownsRow B 55 5 v n (mrep n k)) (hB : B ≤ w.heap.size) (hx : ac.eval x = .slice (some ⟨g, 0, none⟩) 1 1) (hg : Cel w g 55 (mcs k)) (hn : n ≤ 262144)
    (h : ∀ v' w', ((∃ g cap, v = .slice (some ⟨g, 0, none⟩) n cap ∧ v' = .slice (some ⟨g, 0, none⟩) (n + 1) cap ∧ w'.ownsRow B 55 5 v' (n + 1) (mrep n k ++ mcs k) ∧ ButL [g] w w') ∨ (w'.ownsRow w.heap.size 55 5 v' (n + 1) (mrep n k ++ mcs k) ∧ Below w.heap.size w w')) → wpList Try.prog ops Q rest (ac.put o.dst v') w') : wpList Try.prog ops Q (o :: rest) ac w := by
  obtain ⟨i, hi, hz, hsize, hby⟩ := info_parts info55
  exact wpList_append_two hgd s x 43 ho under43 hi hz hsize hby rfl (by decide) hs hown hB hx rfl hg.src (by simp [mcs, Value.oneCell']) (by unfold maxLen; omega) (by omega) h
theorem wpList_append_bk {w : World} {ops : Array Oper} {rest : List Oper} {o : Oper} {ac : Act} {Q : Exit → Act → World → Prop} (hgd : o.guard = none) (s x : Operand) (ho : o.op = .call { callee := .builtin .append, args := #[s, x], argTypes := #[70, 70] }) {B g : Nat} {v vl vm : Value} {H : List Hd} {n : Nat} {k : Int} (hs : ac.eval s = v) (hown : w.ownsRow B 79 7 v H.length (hcs H)) (hB : B ≤ w.heap.size) (hx : ac.eval x = .slice (some ⟨g, 0, none⟩) 1 1) (hg : Cel w g 79 (Hd.cs ⟨vl, vm, n, k⟩)) (h1 : vl.oneCell' = true) (h2 : vm.oneCell' = true) (hn : H.length ≤ 4194304)
    (h : ∀ v' w', ((∃ g cap, v = .slice (some ⟨g, 0, none⟩) H.length cap ∧ v' = .slice (some ⟨g, 0, none⟩) (H.length + 1) cap ∧ w'.ownsRow B 79 7 v' (H.length + 1) (hcs H ++ Hd.cs ⟨vl, vm, n, k⟩) ∧ ButL [g] w w') ∨ (w'.ownsRow w.heap.size 79 7 v' (H.length + 1) (hcs H ++ Hd.cs ⟨vl, vm, n, k⟩) ∧ Below w.heap.size w w')) → wpList Try.prog ops Q rest (ac.put o.dst v') w') : wpList Try.prog ops Q (o :: rest) ac w := by
  obtain ⟨i, hi, hz, hsize, hby⟩ := info_parts info79
  exact wpList_append_two hgd s x 70 ho under70 hi hz hsize hby rfl (by decide) hs hown hB hx rfl hg.src (by simp [Hd.cs, mcs, h1, h2]; simp [Value.oneCell']) (by unfold maxLen; omega) (by omega) h
structure CB (W w : World) (p : Dp) (d : DS) (v6 : Value) (H : List Hd) (v : Value) (n : Nat) (xs : List Value) (gB : Nat) (cs : List Value) : Prop where
  t : T1 W w p d v6 H v n xs []
  box : Cel w gB 79 cs
  nb : ∀ g, v6.ownBlock = some g → g ≠ gB
  lo : W.heap.size ≤ gB
structure CB2 (W w : World) (p : Dp) (d : DS) (v6 : Value) (H : List Hd) (v vM : Value) (n : Nat) (k : Int) (gB : Nat) (cs : List Value) : Prop where
  t : T2 W w p d v6 H v vM n k []
  box : Cel w gB 79 cs
  nb : ∀ g, v6.ownBlock = some g → g ≠ gB
  lo : W.heap.size ≤ gB
section
variable {W w w' : World} {p : Dp} {d : DS} {v6 v v' vM : Value} {H : List Hd} {n gB : Nat} {xs cs : List Value} {k : Int}
theorem CB.new (h : T1 W w p d v6 H v n xs []) (cs : List Value) : CB W (w.alloc (.cells cs.toArray 79)) p d v6 H v n xs w.heap.size cs :=
  ⟨h.on (below_one _ _), Cel.new _ _ _, fun g hg e => by have := (own_lt2 h.ts.book hg).2; omega, h.ts.below.size⟩
theorem CB.on (h : CB W w p d v6 H v n xs gB cs) (hb : Below w.heap.size w w') : CB W w' p d v6 H v n xs gB cs := ⟨h.t.on hb, h.box.on hb, h.nb, h.lo⟩
theorem CB.ne (h : CB W w p d v6 H v n xs gB cs) {g : Nat} (hg : v.ownBlock = some g) : gB ∉ [g] := fun hm => by
  rw [List.mem_singleton] at hm
  subst hm
  obtain ⟨_, hc⟩ := own_cty h.t.R hg
  exact absurd (hc.ty h.box) (by decide)
theorem CB.wr (h : CB W w p d v6 H v n xs gB cs) {g : Nat} (hg : v.ownBlock = some g) (hb : ButL [g] w w') {ys : List Value} (ho : w'.ownsRow W.heap.size 55 5 v n ys) : CB W w' p d v6 H v n ys gB cs :=
  ⟨h.t.wr hg hb ho, h.box.but hb (h.ne hg), h.nb, h.lo⟩
theorem CB.more (h : CB W w p d v6 H v n (mrep n k) gB cs)
    (ha : (∃ g cap, v = .slice (some ⟨g, 0, none⟩) n cap ∧ v' = .slice (some ⟨g, 0, none⟩) (n + 1) cap ∧ w'.ownsRow W.heap.size 55 5 v' (n + 1) (mrep n k ++ mcs k) ∧ ButL [g] w w') ∨ (w'.ownsRow w.heap.size 55 5 v' (n + 1) (mrep n k ++ mcs k) ∧ Below w.heap.size w w')) : CB2 W w' p d v6 H v v' n k gB cs :=
  ⟨h.t.more ha, by
    rcases ha with ⟨g, cap, hv, _, _, hb⟩ | ⟨_, hb⟩
    · exact h.box.but hb (h.ne (by rw [hv]; rfl))
    · exact h.box.on hb, h.nb, h.lo⟩
theorem CB2.on (h : CB2 W w p d v6 H v vM n k gB cs) (hb : Below w.heap.size w w') : CB2 W w' p d v6 H v vM n k gB cs := ⟨h.t.on hb, h.box.on hb, h.nb, h.lo⟩
theorem CB2.put (h : CB2 W w p d v6 H v vM n k gB cs) (j : Nat) (u : Value) : CB2 W (w.setCell ⟨gB, j, none⟩ u) p d v6 H v vM n k gB (cs.set j u) := by
  have hb : ButL [gB] w (w.setCell ⟨gB, j, none⟩ u) := .setCell _ _ _ _ (by simp)
  have off : ∀ {u : Value} {m : Nat} {ys : List Value}, w.ownsRow W.heap.size 55 5 u m ys → ∀ i, u.ownBlock = some i → i ∉ [gB] := fun hu i hi hm => by
    rw [List.mem_singleton] at hm
    subst hm
    obtain ⟨_, hc2⟩ := own_cty hu hi
    exact absurd (hc2.ty h.box) (by decide)
  have hdb : ∀ j ∈ p.all, j ∉ [gB] := fun j hj hm => by
    rw [List.mem_singleton] at hm
    subst hm
    simp only [Dp.all, List.mem_cons] at hj
    rcases hj with rfl | rfl | hj
    · exact absurd (h.box.ty h.t.t.ts.db.cel) (by decide)
    · exact absurd (h.box.ty h.t.t.ts.db.wds) (by decide)
    · have := h.t.t.ts.db.mem.ty_w j hj 79 cs h.box
      simp at this
  have hts : TS W (w.setCell ⟨gB, j, none⟩ u) p d v6 H := ⟨h.t.t.ts.below.trans (hb.below (fun j hj => by rw [List.mem_singleton] at hj; subst hj; exact h.lo) h.t.t.ts.below.size), h.t.t.ts.db.frame hb hdb, h.t.t.ts.ti, h.t.t.ts.pn, own_keep h.t.t.ts.book hb (fun i hi hm => h.nb i hi (List.mem_singleton.1 hm)), fun x hx => (h.t.t.ts.each x hx).keep hb (off (h.t.t.ts.each x hx).l) (off (h.t.t.ts.each x hx).m)⟩
  exact ⟨⟨⟨hts, own_keep h.t.t.R hb (off h.t.t.R), h.t.t.hR, fun x hx => own_keep (h.t.t.ex x hx) hb (off (h.t.t.ex x hx)), h.t.t.hx⟩, own_keep h.t.M hb (off h.t.M), h.t.hM⟩, h.box.setCell j u, h.nb, h.lo⟩
end
theorem own_some {w : World} {B : Nat} {e : TypeId} {s : Nat} {ao : Option Addr} {n c : Nat} {xs : List Value} (h : w.ownsRow B e s (.slice ao n c) n xs) (hn : 0 < n) : ∃ g, ao = some ⟨g, 0, none⟩ := by
  rcases h.2 with ⟨hv, _⟩ | ⟨g, cap, cur, hv, _⟩
  · injection hv with _ h0 _
    omega
  · injection hv with hv
    exact ⟨g, hv⟩
theorem partC (W w : World) (p : Dp) (d : DS) (v6 A0 A1 : Value) (H : List Hd) (k : Nat) (hk : k < 1048576) (hHl : H.length ≤ 4194303) (hHn : ∀ h ∈ H, h.n ≤ 262144) (aL : Option Addr) (n cL : Nat) (hn : n ≤ 262144) (xs : List Value) (hT : T1 W w p d v6 H (.slice aL n cL) n xs []) (Q : Exit → Act → World → Prop)
    (z2 z3 z4 z8 z9 z10 z11 z12 z13 z14 z15 z16 z17 z20 z21 z22 z23 z24 z25 z26 z27 z28 z29 z30 z31 z32 z33 z34 z35 z36 z37 z38 z39 z40 z41 z42 z43 z44 z45 z46 z47 z48 z49 z50 z51 z52 z53 z54 z55 z56 z57 z58 z59 z60 z61 z62 z63 z64 z65 z66 z67 z68 z69 z70 z71 z72 z73 z74 z75 z76 z77 z78 z79 z80 z81 z82 z83 z84 z85 z86 z87 z88 z89 z90 z91 z92 z93 z94 z95 z96 z97 z98 z99 z100 z101 z102 z103 z104 z105 z106 z107 z108 z109 z110 z111 z112 z113 z114 z115 z116 z117 z118 z119 z120 z121 z122 z123 z124 z125 z126 z127 z128 z129 z130 z131 z132 z133 z134 z135 z136 z137 z138 z139 z140 z141 z142 z143 z144 z145 z146 z147 z148 z149 z150 z151 z152 z153 z154 z155 z156 z157 z158 z159 z160 z161 z162 z163 z164 z165 z166 z167 z168 z169 z170 z171 z172 z173 z174 z175 z176 z177 z178 z179 z180 z181 z182 z183 z184 z185 z186 z187 z188 z189 z190 z191 z192 z193 z194 z195 z196 z197 z198 z199 z200 z201 z202 z203 z204 z205 z206 z207 z208 z209 z210 z211 z212 z213 z214 z215 z216 z217 z218 z219 z220 z221 z222 z223 z224 z225 z226 z227 z228 z229 z230 z231 z232 z233 z234 z235 z236 z237 z238 z239 z240 z241 z242 z243 z244 z245 z246 z247 z248 z249 z250 z251 z252 z253 z254 z255 z256 z257 z258 z259 z260 z261 z262 z263 z264 z265 z266 z267 z268 z269 z270 z271 z272 z273 z274 z275 z276 z277 z278 z279 z280 z281 z282 z283 z284 z285 z286 z287 z288 z289 z290 z291 z292 z293 z294 z295 z296 z297 z298 z299 z300 z301 z302 : Value)
    (hP : ∀ (x : List PanicEntry) (a : Act) (t : Option Tmp) (v : Value) (w : World), Q (.panic x) (a.put t v) w → Q (.panic x) a w)
    (hQ : ∀ (w' : World) (v' : Value) (H' : List Hd) (y4 y22 y23 y24 y25 y217 y218 y219 y220 y221 y222 y223 y224 y225 y226 y227 y228 y229 y230 y231 y232 y233 y234 y235 y236 y237 y238 y239 y240 y241 y242 y243 y244 y245 y246 y247 y248 y249 y250 y251 y252 y253 y254 y255 y256 y257 y258 y259 y260 y261 y262 y263 y264 y265 y266 y267 y268 y269 y270 y271 y272 y273 y274 y275 y276 y277 y278 y279 y280 y281 y282 y283 y284 y285 y286 y287 y288 y289 y290 y291 y292 y293 y294 y295 y296 y297 y298 y299 y300 y301 y302 : Value), TS W w' p d v' H' → H'.length = H.length + 1 → (∀ h ∈ H', h.n ≤ 262144) → Q .normal { tmps := #[A0, A1, z2, z3, y4, .pointer (some ⟨p.g, 0, none⟩), v', .int .i64 (k : Int), z8, z9, z10, z11, z12, z13, z14, z15, z16, z17, .slice aL n cL, .int .i64 0, z20, z21, y22, y23, y24, y25, z26, z27, z28, z29, z30, z31, z32, z33, z34, z35, z36, z37, z38, z39, z40, z41, z42, z43, z44, z45, z46, z47, z48, z49, z50, z51, z52, z53, z54, z55, z56, z57, z58, z59, z60, z61, z62, z63, z64, z65, z66, z67, z68, z69, z70, z71, z72, z73, z74, z75, z76, z77, z78, z79, z80, z81, z82, z83, z84, z85, z86, z87, z88, z89, z90, z91, z92, z93, z94, z95, z96, z97, z98, z99, z100, z101, z102, z103, z104, z105, z106, z107, z108, z109, z110, z111, z112, z113, z114, z115, z116, z117, z118, z119, z120, z121, z122, z123, z124, z125, z126, z127, z128, z129, z130, z131, z132, z133, z134, z135, z136, z137, z138, z139, z140, z141, z142, z143, z144, z145, z146, z147, z148, z149, z150, z151, z152, z153, z154, z155, z156, z157, z158, z159, z160, z161, z162, z163, z164, z165, z166, z167, z168, z169, z170, z171, z172, z173, z174, z175, z176, z177, z178, z179, z180, z181, z182, z183, z184, z185, z186, z187, z188, z189, z190, z191, z192, z193, z194, z195, z196, z197, z198, z199, z200, z201, z202, z203, z204, z205, z206, z207, z208, z209, z210, z211, z212, z213, z214, z215, z216, y217, y218, y219, y220, y221, y222, y223, y224, y225, y226, y227, y228, y229, y230, y231, y232, y233, y234, y235, y236, y237, y238, y239, y240, y241, y242, y243, y244, y245, y246, y247, y248, y249, y250, y251, y252, y253, y254, y255, y256, y257, y258, y259, y260, y261, y262, y263, y264, y265, y266, y267, y268, y269, y270, y271, y272, y273, y274, y275, y276, y277, y278, y279, y280, y281, y282, y283, y284, y285, y286, y287, y288, y289, y290, y291, y292, y293, y294, y295, y296, y297, y298, y299, y300, y301, y302], defers := [] } w') :
    Code.wp Try.prog (pth (inner ++ [1, 1, 1, 1, 1, 1, 1, 1, 1, 1, 1, 1, 1]) (Try.f6.body.getD .skip)) Q { tmps := #[A0, A1, z2, z3, z4, .pointer (some ⟨p.g, 0, none⟩), v6, .int .i64 (k : Int), z8, z9, z10, z11, z12, z13, z14, z15, z16, z17, .slice aL n cL, .int .i64 0, z20, z21, z22, z23, z24, z25, z26, z27, z28, z29, z30, z31, z32, z33, z34, z35, z36, z37, z38, z39, z40, z41, z42, z43, z44, z45, z46, z47, z48, z49, z50, z51, z52, z53, z54, z55, z56, z57, z58, z59, z60, z61, z62, z63, z64, z65, z66, z67, z68, z69, z70, z71, z72, z73, z74, z75, z76, z77, z78, z79, z80, z81, z82, z83, z84, z85, z86, z87, z88, z89, z90, z91, z92, z93, z94, z95, z96, z97, z98, z99, z100, z101, z102, z103, z104, z105, z106, z107, z108, z109, z110, z111, z112, z113, z114, z115, z116, z117, z118, z119, z120, z121, z122, z123, z124, z125, z126, z127, z128, z129, z130, z131, z132, z133, z134, z135, z136, z137, z138, z139, z140, z141, z142, z143, z144, z145, z146, z147, z148, z149, z150, z151, z152, z153, z154, z155, z156, z157, z158, z159, z160, z161, z162, z163, z164, z165, z166, z167, z168, z169, z170, z171, z172, z173, z174, z175, z176, z177, z178, z179, z180, z181, z182, z183, z184, z185, z186, z187, z188, z189, z190, z191, z192, z193, z194, z195, z196, z197, z198, z199, z200, z201, z202, z203, z204, z205, z206, z207, z208, z209, z210, z211, z212, z213, z214, z215, z216, z217, z218, z219, z220, z221, z222, z223, z224, z225, z226, z227, z228, z229, z230, z231, z232, z233, z234, z235, z236, z237, z238, z239, z240, z241, z242, z243, z244, z245, z246, z247, z248, z249, z250, z251, z252, z253, z254, z255, z256, z257, z258, z259, z260, z261, z262, z263, z264, z265, z266, z267, z268, z269, z270, z271, z272, z273, z274, z275, z276, z277, z278, z279, z280, z281, z282, z283, z284, z285, z286, z287, z288, z289, z290, z291, z292, z293, z294, z295, z296, z297, z298, z299, z300, z301, z302], defers := [] } w := by
  have HT := hid hT
  have HQ := hid hQ
  have HP := hid hP
  have HL := hid (And.intro hHl hHn)
  have HXl := hid hT.R.1
  have HOs := hid (fun h => own_some hT.R h)
  have k1 : (k : Int) < 1048576 := by omega
  have n1 : (n : Int) ≤ 262144 := by omega
  obtain ⟨a, ha⟩ : ∃ a, 4096 * (k : Int) + 1 = a := ⟨_, rfl⟩
  have a0 : 0 ≤ a := by omega
  have a1 : a < 4294967296 := by omega
  clear hT hQ hP hHl hHn
  refine pth_walk _ rfl (by simp only [pth, inner, List.cons_append, List.nil_append]; rfl) ?_
  go_wp2_with fail
  have HB0 := hid (CB.new HT.out [.slice aL n cL, .slice none 0 0, .int .u32 a, .bool false, .int .i64 0, .bool false, .bool false])
  have HR := hid (fun (w1 : World) (v : Value) (ys : List Value) (g : Nat) (h : CB W w1 p d v6 H v n ys g [.slice aL n cL, .slice none 0 0, .int .u32 a, .bool false, .int .i64 0, .bool false, .bool false]) => (rangeAt_tail (a := 2) h.box.range : w1.rangeAt g 2 [.int .u32 a, .bool false, .int .i64 0, .bool false, .bool false]))
  clear HT
  generalize w.alloc _ = w1 at *
  generalize w.heap.size = gB at *
  go_loopw [23] (fun i wr => ∃ j : Nat, j ≤ n ∧ i = .int .i64 (j : Int) ∧ Hid (CB W wr p d v6 H (.slice aL n cL) n (filM a xs j) gB [.slice aL n cL, .slice none 0 0, .int .u32 a, .bool false, .int .i64 0, .bool false, .bool false])) (fun i _ => n - (intOf i).toNat)
  case atStart => exact ⟨0, Nat.zero_le _, rfl, by rw [filM_0]; exact HB0⟩
  case round =>
    clear HB0
    obtain ⟨j, hj, rfl, HB⟩ := hrel
    by_cases hlt : j < n
    · have q1 : (j : Int) < (n : Int) := by omega
      obtain ⟨gL, rfl⟩ := HOs.out (by omega)
      go_wp2_with (first | (refine wpList_load_mid rfl 55 _ rfl gB 2 rfl _ _ (HR.out _ _ _ _ HB.out) under55 rfl (by rw [size55]; rfl) ?_) | (refine wpList_store_mark rfl _ _ rfl gL j a rfl rfl HB.out.t.R hlt ?_; intro w2 ho hb; have HB2 := hid (HB.out.wr rfl hb ho); clear ho hb))
      go_roundw
      case measure => simp [intOf] <;> omega
      case rel => exact ⟨j + 1, by omega, by simp, HB2⟩
    · have hjn : n = j := by omega
      have q1 : (n : Int) ≤ (j : Int) := by omega
      have HB3 : Hid (CB W wr p d v6 H (.slice aL n cL) n (mrep n a) gB [.slice aL n cL, .slice none 0 0, .int .u32 a, .bool false, .int .i64 0, .bool false, .bool false]) := hid (by have := HB.out; rw [← hjn, filM_all _ _ _ HXl.out] at this; exact this)
      clear HB hjn
      go_upto_region 36 with (first | (refine wpList_load_mid rfl 55 _ rfl gB 2 rfl _ _ (HR.out _ _ _ _ HB3.out) under55 rfl (by rw [size55]; rfl) ?_) | (at_builtin; refine wpList_append_mk rfl _ _ rfl rfl (HB3.out.on (below_one _ _)).t.R (HB3.out.on (below_one _ _)).t.ts.below.size rfl (Cel.new _ 55 (mcs a)) hn ?_; intro v2 w2 hal; have HC0 := (HB3.out.on (below_one _ _)).more hal; obtain ⟨aM, cM, rfl⟩ := own_frm HC0.t.M; have HC := hid HC0; clear hal HC0; have y1 := HC.out.box.cell 1; have f1 := HC.out.box.free 1; simp only [List.getElem?_cons_succ, List.getElem?_cons_zero] at y1))
      have HC1 := hid (HC.out.put 1 (.slice aM (n + 1) cM))
      simp only [List.set_cons_succ, List.set_cons_zero] at HC1
      clear HC y1 f1 HB3
      generalize World.setCell _ _ _ = w3 at *
      go_upto_if 246 with (first | (refine wpList_load_g rfl 79 _ rfl gB rfl HC1.out.box rfl under79 size79 ?_) | (at_builtin; refine wpList_append_bk rfl _ _ rfl (H := H) (vl := .slice aL n cL) (vm := .slice aM (n + 1) cM) (n := n) (k := a) rfl (HC1.out.on (below_one _ _)).t.t.ts.book (HC1.out.on (below_one _ _)).t.t.ts.below.size rfl (Cel.new _ 79 (Hd.cs ⟨.slice aL n cL, .slice aM (n + 1) cM, n, a⟩)) rfl rfl (by have := HL.out.1; omega) ?_; intro v3 w4 hal; have HT3 := hid ((HC1.out.on (below_one _ _)).t.book hal).ts; clear hal))
      go_cut [4] from 302 to 302 (fun _ w => Hid (TS W w p d v3 (H ++ [⟨.slice aL n cL, .slice aM (n + 1) cM, n, a⟩])))
      case first =>
        go_wp2_with fail
        go_meet
        exact HT3
      case rest =>
        have hlen : (H ++ [(⟨.slice aL n cL, .slice aM (n + 1) cM, n, a⟩ : Hd)]).length = H.length + 1 := by simp
        have hall : ∀ h ∈ H ++ [(⟨.slice aL n cL, .slice aM (n + 1) cM, n, a⟩ : Hd)], h.n ≤ 262144 := fun h hh => by
          rcases List.mem_append.1 hh with hh | hh
          · exact HL.out.2 h hh
          · rw [List.mem_singleton.1 hh]; exact hn
        exact (‹∀ (a : Act) (w : World), Code.wp Try.prog _ _ a w → _› _ _ (partD W _ p d v3 A0 A1 _ k (by rw [hlen]; have := HL.out.1; omega) hall hcut.out _ _ _ _ _ _ _ _ _ _ _ _ _ _ _ _ _ _ _ _ _ _ _ _ _ _ _ _ _ _ _ _ _ _ _ _ _ _ _ _ _ _ _ _ _ _ _ _ _ _ _ _ _ _ _ _ _ _ _ _ _ _ _ _ _ _ _ _ _ _ _ _ _ _ _ _ _ _ _ _ _ _ _ _ _ _ _ _ _ _ _ _ _ _ _ _ _ _ _ _ _ _ _ _ _ _ _ _ _ _ _ _ _ _ _ _ _ _ _ _ _ _ _ _ _ _ _ _ _ _ _ _ _ _ _ _ _ _ _ _ _ _ _ _ _ _ _ _ _ _ _ _ _ _ _ _ _ _ _ _ _ _ _ _ _ _ _ _ _ _ _ _ _ _ _ _ _ _ _ _ _ _ _ _ _ _ _ _ _ _ _ _ _ _ _ _ _ _ _ _ _ _ _ _ _ _ _ _ _ _ _ _ _ _ _ _ _ _ _ _ _ _ _ _ _ _ _ _ _ _ _ _ _ _ _ _ _ _ _ _ _ _ _ _ _ _ _ _ _ _ _ _ _ _ _ _ _ _ _ _ _ _ _ _ _ _ _ _ _ _ _ _ _ _ _ _ _ _ _ _ _ _ _ _ _ _ _ _ _ _ _ _ _ _ _ _ _ _ _ HP.out (fun w' _ _ _ _ _ _ _ _ _ _ _ _ _ _ _ _ _ _ _ _ _ _ _ _ _ _ _ _ _ _ _ _ _ _ _ _ _ _ _ _ _ _ _ _ _ _ _ _ _ _ _ _ _ _ _ _ _ _ _ hT => HQ.out w' v3 _ _ _ _ _ _ _ _ _ _ _ _ _ _ _ _ _ _ _ _ _ _ _ _ _ _ _ _ _ _ _ _ _ _ _ _ _ _ _ _ _ _ _ _ _ _ _ _ _ _ _ _ _ _ _ _ _ _ _ _ _ _ _ _ _ _ _ _ _ _ _ _ _ _ _ _ _ _ _ _ _ _ _ _ _ _ _ _ _ _ _ _ hT hlen hall)))
end Go.Proofs.Ytgbpbfnpeeciaaa
