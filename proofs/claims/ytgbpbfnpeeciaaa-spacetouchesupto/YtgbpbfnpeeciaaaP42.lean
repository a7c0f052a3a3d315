import Derived.Test.YtgbpbfnpeeciaaaP41
import Derived.Deep.DeepCutAuto
import Derived.Deep.MidRow
namespace Go.Proofs.Ytgbpbfnpeeciaaa
open Go.RowKit
set_option maxRecDepth 100000
set_option maxHeartbeats 8000000
theorem flatten_get (s : Nat) (L : List (List Value)) (hL : ∀ l ∈ L, l.length = s) (j : Nat) (l : List Value) (hj : L[j]? = some l) (i : Nat) (v : Value) (hi : l[i]? = some v) : L.flatten[j * s + i]? = some v := by
  induction L generalizing j with
  | nil => simp at hj
  | cons y L ih =>
    have hy := hL y (.head _)
    have hil : i < l.length := (List.getElem?_eq_some_iff.1 hi).1
    rw [List.flatten_cons]
    cases j with
    | zero =>
      simp only [List.getElem?_cons_zero, Option.some.injEq] at hj
      subst hj
      rw [List.getElem?_append_left (by omega)]
      simpa using hi
    | succ j =>
      rw [Nat.succ_mul, List.getElem?_append_right (by omega), hy]
      have := ih (fun l h => hL l (.tail _ h)) j (by simpa using hj)
      rw [show j * s + s + i - s = j * s + i by omega]
      exact this
theorem own_sub {w : World} {B : Nat} {e : TypeId} {s : Nat} {v : Value} {n : Nat} {L : List (List Value)} (h : w.ownsRow B e s v n L.flatten) (hL : ∀ l ∈ L, l.length = s) (hn : 0 < n) : ∃ g cap, v = .slice (some ⟨g, 0, none⟩) n cap ∧ B ≤ g ∧ g < w.heap.size ∧ ∀ j l, L[j]? = some l → w.rangeAt g (j * s) l := by
  rcases h.2 with ⟨_, rfl⟩ | ⟨g, cap, cur, hv, hb, hg, _, _, _, htk⟩
  · omega
  · refine ⟨g, cap, hv, hb, (Array.getElem?_eq_some_iff.1 hg).1, fun j l hj i u hi => ?_⟩
    have hfl := flatten_get s L hL j l hj i u hi
    rw [← htk, List.getElem?_take] at hfl
    split at hfl
    · rw [cell_of_row w g (j * s + i) _ e (0, 0) hg]
      simpa using hfl
    · cases hfl
theorem rangeAt_tail {w : World} {g off a : Nat} {cs : List Value} (h : w.rangeAt g off cs) : w.rangeAt g (off + a) (cs.drop a) := fun j v hj => by
  rw [List.getElem?_drop] at hj
  rw [Nat.add_assoc]
  exact h _ _ hj
theorem TS.row {W w : World} {p : Dp} {d : DS} {v6 : Value} {H : List Hd} (h : TS W w p d v6 H) {j : Nat} {x : Hd} (hx : H[j]? = some x) : ∃ gB cB gM cM aL cL, v6 = .slice (some ⟨gB, 0, none⟩) H.length cB ∧ x.vm = .slice (some ⟨gM, 0, none⟩) (x.n + 1) cM ∧ x.vl = .slice aL x.n cL ∧ gB < w.heap.size ∧ w.rangeAt gB (j * 7) x.cs ∧ gM < w.heap.size ∧ (∀ i, i < x.n + 1 → w.rangeAt gM (i * 5) (mcs x.a)) ∧ ∀ i, i < x.n → ∃ gL, aL = some ⟨gL, 0, none⟩ ∧ gL < w.heap.size ∧ w.rangeAt gL (i * 5) (mcs x.a) := by
  have hj := (List.getElem?_eq_some_iff.1 hx).1
  have hxm : x ∈ H := List.mem_of_getElem? hx
  have hb := h.book
  rw [show hcs H = (H.map Hd.cs).flatten by simp [hcs, List.flatMap]] at hb
  obtain ⟨gB, cB, h1, _, h2, h3⟩ := own_sub hb (fun l hl => by obtain ⟨y, _, rfl⟩ := List.mem_map.1 hl; simp [Hd.cs, mcs]) (by omega)
  have hm := (h.each x hxm).m
  have hl := (h.each x hxm).l
  obtain ⟨aL, cL, hvl⟩ := own_frm hl
  have rep : ∀ n i, i < n → (List.replicate n (mcs x.a))[i]? = some (mcs x.a) := fun n i hi => by rw [List.getElem?_replicate, if_pos hi]
  obtain ⟨gM, cM, m1, _, m2, m3⟩ := own_sub (L := List.replicate (x.n + 1) (mcs x.a)) hm (fun l hl => by rw [List.eq_of_mem_replicate hl]; rfl) (by omega)
  refine ⟨gB, cB, gM, cM, aL, cL, h1, m1, hvl, h2, h3 j _ (by rw [List.getElem?_map, hx]; rfl), m2, fun i hi => m3 i _ (rep _ i hi), fun i hi => ?_⟩
  obtain ⟨gL, cL', l1, _, l2, l3⟩ := own_sub (L := List.replicate x.n (mcs x.a)) hl (fun l hl => by rw [List.eq_of_mem_replicate hl]; rfl) (by omega)
  rw [hvl] at l1
  cases l1
  exact ⟨gL, rfl, l2, l3 i _ (rep _ i hi)⟩
theorem partD (W w : World) (p : Dp) (d : DS) (v6 A0 A1 : Value) (H : List Hd) (k : Nat) (hHl : H.length ≤ 4194304) (hHn : ∀ h ∈ H, h.n ≤ 262144) (hT : TS W w p d v6 H) (Q : Exit → Act → World → Prop)
    (z2 z3 z4 z8 z9 z10 z11 z12 z13 z14 z15 z16 z17 z18 z19 z20 z21 z22 z23 z24 z25 z26 z27 z28 z29 z30 z31 z32 z33 z34 z35 z36 z37 z38 z39 z40 z41 z42 z43 z44 z45 z46 z47 z48 z49 z50 z51 z52 z53 z54 z55 z56 z57 z58 z59 z60 z61 z62 z63 z64 z65 z66 z67 z68 z69 z70 z71 z72 z73 z74 z75 z76 z77 z78 z79 z80 z81 z82 z83 z84 z85 z86 z87 z88 z89 z90 z91 z92 z93 z94 z95 z96 z97 z98 z99 z100 z101 z102 z103 z104 z105 z106 z107 z108 z109 z110 z111 z112 z113 z114 z115 z116 z117 z118 z119 z120 z121 z122 z123 z124 z125 z126 z127 z128 z129 z130 z131 z132 z133 z134 z135 z136 z137 z138 z139 z140 z141 z142 z143 z144 z145 z146 z147 z148 z149 z150 z151 z152 z153 z154 z155 z156 z157 z158 z159 z160 z161 z162 z163 z164 z165 z166 z167 z168 z169 z170 z171 z172 z173 z174 z175 z176 z177 z178 z179 z180 z181 z182 z183 z184 z185 z186 z187 z188 z189 z190 z191 z192 z193 z194 z195 z196 z197 z198 z199 z200 z201 z202 z203 z204 z205 z206 z207 z208 z209 z210 z211 z212 z213 z214 z215 z216 z217 z218 z219 z220 z221 z222 z223 z224 z225 z226 z227 z228 z229 z230 z231 z232 z233 z234 z235 z236 z237 z238 z239 z240 z241 z242 z243 z244 z245 z246 z247 z248 z249 z250 z251 z252 z253 z254 z255 z256 z257 z258 z259 z260 z261 z262 z263 z264 z265 z266 z267 z268 z269 z270 z271 z272 z273 z274 z275 z276 z277 z278 z279 z280 z281 z282 z283 z284 z285 z286 z287 z288 z289 z290 z291 z292 z293 z294 z295 z296 z297 z298 z299 z300 z301 z302 : Value)
    (hP : ∀ (x : List PanicEntry) (a : Act) (t : Option Tmp) (v : Value) (w : World), Q (.panic x) (a.put t v) w → Q (.panic x) a w)
    (hQ : ∀ (w' : World) (y4 y24 y25 y247 y248 y249 y250 y251 y252 y253 y254 y255 y256 y257 y258 y259 y260 y261 y262 y263 y264 y265 y266 y267 y268 y269 y270 y271 y272 y273 y274 y275 y276 y277 y278 y279 y280 y281 y282 y283 y284 y285 y286 y287 y288 y289 y290 y291 y292 y293 y294 y295 y296 y297 y298 y299 y300 y301 y302 : Value), TS W w' p d v6 H → Q .normal { tmps := #[A0, A1, z2, z3, y4, .pointer (some ⟨p.g, 0, none⟩), v6, .int .i64 (k : Int), z8, z9, z10, z11, z12, z13, z14, z15, z16, z17, z18, z19, z20, z21, z22, z23, y24, y25, z26, z27, z28, z29, z30, z31, z32, z33, z34, z35, z36, z37, z38, z39, z40, z41, z42, z43, z44, z45, z46, z47, z48, z49, z50, z51, z52, z53, z54, z55, z56, z57, z58, z59, z60, z61, z62, z63, z64, z65, z66, z67, z68, z69, z70, z71, z72, z73, z74, z75, z76, z77, z78, z79, z80, z81, z82, z83, z84, z85, z86, z87, z88, z89, z90, z91, z92, z93, z94, z95, z96, z97, z98, z99, z100, z101, z102, z103, z104, z105, z106, z107, z108, z109, z110, z111, z112, z113, z114, z115, z116, z117, z118, z119, z120, z121, z122, z123, z124, z125, z126, z127, z128, z129, z130, z131, z132, z133, z134, z135, z136, z137, z138, z139, z140, z141, z142, z143, z144, z145, z146, z147, z148, z149, z150, z151, z152, z153, z154, z155, z156, z157, z158, z159, z160, z161, z162, z163, z164, z165, z166, z167, z168, z169, z170, z171, z172, z173, z174, z175, z176, z177, z178, z179, z180, z181, z182, z183, z184, z185, z186, z187, z188, z189, z190, z191, z192, z193, z194, z195, z196, z197, z198, z199, z200, z201, z202, z203, z204, z205, z206, z207, z208, z209, z210, z211, z212, z213, z214, z215, z216, z217, z218, z219, z220, z221, z222, z223, z224, z225, z226, z227, z228, z229, z230, z231, z232, z233, z234, z235, z236, z237, z238, z239, z240, z241, z242, z243, z244, z245, z246, y247, y248, y249, y250, y251, y252, y253, y254, y255, y256, y257, y258, y259, y260, y261, y262, y263, y264, y265, y266, y267, y268, y269, y270, y271, y272, y273, y274, y275, y276, y277, y278, y279, y280, y281, y282, y283, y284, y285, y286, y287, y288, y289, y290, y291, y292, y293, y294, y295, y296, y297, y298, y299, y300, y301, y302], defers := [] } w') :
    Code.wp Try.prog (pth (inner ++ [1, 1, 1, 1, 1, 1, 1, 1, 1, 1, 1, 1, 1, 1, 1, 1, 1, 1]) (Try.f6.body.getD .skip)) Q { tmps := #[A0, A1, z2, z3, z4, .pointer (some ⟨p.g, 0, none⟩), v6, .int .i64 (k : Int), z8, z9, z10, z11, z12, z13, z14, z15, z16, z17, z18, z19, z20, z21, z22, z23, z24, z25, z26, z27, z28, z29, z30, z31, z32, z33, z34, z35, z36, z37, z38, z39, z40, z41, z42, z43, z44, z45, z46, z47, z48, z49, z50, z51, z52, z53, z54, z55, z56, z57, z58, z59, z60, z61, z62, z63, z64, z65, z66, z67, z68, z69, z70, z71, z72, z73, z74, z75, z76, z77, z78, z79, z80, z81, z82, z83, z84, z85, z86, z87, z88, z89, z90, z91, z92, z93, z94, z95, z96, z97, z98, z99, z100, z101, z102, z103, z104, z105, z106, z107, z108, z109, z110, z111, z112, z113, z114, z115, z116, z117, z118, z119, z120, z121, z122, z123, z124, z125, z126, z127, z128, z129, z130, z131, z132, z133, z134, z135, z136, z137, z138, z139, z140, z141, z142, z143, z144, z145, z146, z147, z148, z149, z150, z151, z152, z153, z154, z155, z156, z157, z158, z159, z160, z161, z162, z163, z164, z165, z166, z167, z168, z169, z170, z171, z172, z173, z174, z175, z176, z177, z178, z179, z180, z181, z182, z183, z184, z185, z186, z187, z188, z189, z190, z191, z192, z193, z194, z195, z196, z197, z198, z199, z200, z201, z202, z203, z204, z205, z206, z207, z208, z209, z210, z211, z212, z213, z214, z215, z216, z217, z218, z219, z220, z221, z222, z223, z224, z225, z226, z227, z228, z229, z230, z231, z232, z233, z234, z235, z236, z237, z238, z239, z240, z241, z242, z243, z244, z245, z246, z247, z248, z249, z250, z251, z252, z253, z254, z255, z256, z257, z258, z259, z260, z261, z262, z263, z264, z265, z266, z267, z268, z269, z270, z271, z272, z273, z274, z275, z276, z277, z278, z279, z280, z281, z282, z283, z284, z285, z286, z287, z288, z289, z290, z291, z292, z293, z294, z295, z296, z297, z298, z299, z300, z301, z302], defers := [] } w := by
  have HT0 := hid hT
  have HQ := hid hQ
  have HP := hid hP
  have HL := hid (And.intro hHl hHn)
  obtain ⟨N, hN⟩ : ∃ N, H.length = N := ⟨_, rfl⟩
  have HN := hid hN
  have n1 : (N : Int) ≤ 4194304 := by omega
  clear hT hQ hP hHl hHn hN
  refine pth_walk _ rfl (by simp only [pth, inner, List.cons_append, List.nil_append]; rfl) ?_
  go_wp2_with fail
  go_loopw [24] (fun i wr => ∃ j : Nat, j ≤ N ∧ i = .int .i64 (j : Int) ∧ Hid (TS W wr p d v6 H)) (fun i _ => N - (intOf i).toNat)
  case atStart => exact ⟨0, Nat.zero_le _, rfl, HT0⟩
  case round =>
    clear HT0
    obtain ⟨j, hj, rfl, HT⟩ := hrel
    obtain ⟨ao, co, hv6⟩ := own_frm HT.out.book
    rw [HN.out] at hv6
    by_cases hlt : j < N
    · have q1 : (j : Int) < (N : Int) := by omega
      obtain ⟨x, hx⟩ : ∃ x, H[j]? = some x := ⟨_, List.getElem?_eq_getElem (by rw [HN.out]; exact hlt)⟩
      have hxn := HL.out.2 x (List.mem_of_getElem? hx)
      obtain ⟨gB, cB, gM, cM, aL, cL, hv, hm, hl, g1, r1, g2, r2, r3⟩ := HT.out.row hx
      rw [HN.out] at hv
      clear hv6 hx
      obtain ⟨vl, vm, hn, a⟩ := x
      simp only at hm hl r2 r3 hxn
      subst hm hl
      subst hv
      have n2 : (hn : Int) ≤ 262144 := by omega
      unfold Hd.cs mcs at r1
      unfold mcs at r2 r3
      simp only at r1
      have R1 := hid (fun (w : World) (hb : Below wr.heap.size wr w) => rangeAt_on r1 g1 hb)
      have R2 := hid (fun (w : World) (i : Nat) (hi : i < hn + 1) (hb : Below wr.heap.size wr w) => rangeAt_on (r2 i hi) g2 hb)
      have R3 := hid r3
      clear r1 r2 r3 g1 g2
      go_wp2_with fail
      go_loopw [25] (fun i w2 => ∃ t : Nat, t ≤ hn + 1 ∧ i = .int .i64 (t : Int) ∧ Hid (Below wr.heap.size wr w2)) (fun i _ => hn + 1 - (intOf i).toNat)
      case atStart => exact ⟨0, Nat.zero_le _, rfl, hid (Below.refl _ _)⟩
      case round =>
        obtain ⟨i, hi, rfl, HB⟩ := hrel
        have c1 := R1.out _ HB.out 1 _ rfl
        by_cases hi2 : i < hn + 1
        · have q2 : (i : Int) < (hn : Int) + 1 := by omega
          have RB := hid (below_on HB.out (Below.refl _ _).drew)
          by_cases hi3 : i < hn
          · have q3 : (i : Int) < (hn : Int) := by omega
            obtain ⟨gL, rfl, g3, r3⟩ := R3.out i hi3
            go_upto_region 45 with fail
            have HS := hid (And.intro (R1.out _ RB.out) (And.intro (rangeAt_tail (a := 2) (R1.out _ RB.out)) (And.intro (R2.out _ i hi2 RB.out) (rangeAt_on r3 g3 RB.out))))
            simp only [List.drop_succ_cons, List.drop_zero] at HS
            refine wp_region_held_drew (S := fun w => w.rangeAt gB (j * 7) [.slice (some ⟨gL, 0, none⟩) hn cL, .slice (some ⟨gM, 0, none⟩) (hn + 1) cM, .int .u32 a, .bool false, .int .i64 0, .bool false, .bool false] ∧ w.rangeAt gB (j * 7 + 2) [.int .u32 a, .bool false, .int .i64 0, .bool false, .bool false] ∧ w.rangeAt gM (i * 5) [.int .u32 a, .bool false, .int .i64 0, .bool false, .bool false] ∧ w.rangeAt gL (i * 5) [.int .u32 a, .bool false, .int .i64 0, .bool false, .bool false]) (by kernel_rfl) HS.out (fun hHeld => ?_)
            refine wpAnyH_take (i := 0) (oi := ⟨some 263, .move (.tmp 6), 70, "outright.go:285", #[], none⟩) (v := .slice (some ⟨gB, 0, none⟩) N cB) rfl (by kernel_rfl) (by kernel_rfl) (by kernel_rfl) (fun _ _ _ h => HP.out _ _ _ _ _ h) (Or.inl ⟨by rfl, by intro w hSw; go_simp⟩) (by assumption) ?_
            simp only [Act.put, List.setIfInBounds_toArray, List.set_cons_zero, List.set_cons_succ]
            refine wpAnyH_take (i := 1) (oi := ⟨some 264, .move (.tmp 24), 3, "outright.go:285", #[], none⟩) (v := .int .i64 (j : Int)) rfl (by kernel_rfl) (by kernel_rfl) (by kernel_rfl) (fun _ _ _ h => HP.out _ _ _ _ _ h) (Or.inl ⟨by rfl, by intro w hSw; go_simp⟩) (by assumption) ?_
            simp only [Act.put, List.setIfInBounds_toArray, List.set_cons_zero, List.set_cons_succ]
            refine wpAnyH_take (i := 2) (oi := ⟨some 265, .indexAddr 70 (.tmp 263) (.tmp 264), 0, "outright.go:285", #[⟨0, .data⟩, ⟨1, .data⟩], none⟩) (v := .pointer (some ⟨gB, j * 7, none⟩)) rfl (by kernel_rfl) (by kernel_rfl) (by kernel_rfl) (fun _ _ _ h => HP.out _ _ _ _ _ h) (Or.inl ⟨by rfl, by intro w hSw; go_simp⟩) (by assumption) ?_
            simp only [Act.put, List.setIfInBounds_toArray, List.set_cons_zero, List.set_cons_succ]
            refine wpAnyH_take (i := 3) (oi := ⟨some 266, .fieldAddr 79 (.tmp 265) 1, 0, "outright.go:285", #[⟨2, .data⟩], none⟩) (v := .pointer (some ⟨gB, j * 7 + 1, none⟩)) rfl (by kernel_rfl) (by kernel_rfl) (by kernel_rfl) (fun _ _ _ h => HP.out _ _ _ _ _ h) (Or.inl ⟨by rfl, by intro w hSw; go_simp⟩) (by assumption) ?_
            simp only [Act.put, List.setIfInBounds_toArray, List.set_cons_zero, List.set_cons_succ]
            refine wpAnyH_take (i := 4) (oi := ⟨some 267, .load 43 (.tmp 266), 43, "outright.go:285", #[⟨3, .data⟩], none⟩) (v := .slice (some ⟨gM, 0, none⟩) (hn + 1) cM) rfl (by kernel_rfl) (by kernel_rfl) (by kernel_rfl) (fun _ _ _ h => HP.out _ _ _ _ _ h) (Or.inl ⟨by rfl, by intro w hSw; have hc := hSw.1 1 _ rfl; go_simp⟩) (by assumption) ?_
            simp only [Act.put, List.setIfInBounds_toArray, List.set_cons_zero, List.set_cons_succ]
            refine wpAnyH_take (i := 5) (oi := ⟨some 268, .move (.tmp 25), 3, "outright.go:285", #[], none⟩) (v := .int .i64 (i : Int)) rfl (by kernel_rfl) (by kernel_rfl) (by kernel_rfl) (fun _ _ _ h => HP.out _ _ _ _ _ h) (Or.inl ⟨by rfl, by intro w hSw; go_simp⟩) (by assumption) ?_
            simp only [Act.put, List.setIfInBounds_toArray, List.set_cons_zero, List.set_cons_succ]
            refine wpAnyH_take (i := 6) (oi := ⟨some 269, .indexAddr 43 (.tmp 267) (.tmp 268), 0, "outright.go:285", #[⟨4, .data⟩, ⟨5, .data⟩], none⟩) (v := .pointer (some ⟨gM, i * 5, none⟩)) rfl (by kernel_rfl) (by kernel_rfl) (by kernel_rfl) (fun _ _ _ h => HP.out _ _ _ _ _ h) (Or.inl ⟨by rfl, by intro w hSw; go_simp⟩) (by assumption) ?_
            simp only [Act.put, List.setIfInBounds_toArray, List.set_cons_zero, List.set_cons_succ]
            refine wpAnyH_take (i := 7) (oi := ⟨some 270, .load 55 (.tmp 269), 55, "outright.go:285", #[⟨6, .data⟩], none⟩) (v := .agg #[.int .u32 a, .bool false, .int .i64 0, .bool false, .bool false]) rfl (by kernel_rfl) (by kernel_rfl) (by kernel_rfl) (fun _ _ _ h => HP.out _ _ _ _ _ h) (yieldsIf_load_mid (by rfl) _ _ rfl _ _ rfl _ _ (fun w hSw => hSw.2.2.1) under55 rfl (by rw [size55]; rfl)) (by assumption) ?_
            simp only [Act.put, List.setIfInBounds_toArray, List.set_cons_zero, List.set_cons_succ]
            refine wpAnyH_take (i := 8) (oi := ⟨some 271, .move (.tmp 6), 70, "outright.go:285", #[], none⟩) (v := .slice (some ⟨gB, 0, none⟩) N cB) rfl (by kernel_rfl) (by kernel_rfl) (by kernel_rfl) (fun _ _ _ h => HP.out _ _ _ _ _ h) (Or.inl ⟨by rfl, by intro w hSw; go_simp⟩) (by assumption) ?_
            simp only [Act.put, List.setIfInBounds_toArray, List.set_cons_zero, List.set_cons_succ]
            refine wpAnyH_take (i := 9) (oi := ⟨some 272, .move (.tmp 24), 3, "outright.go:285", #[], none⟩) (v := .int .i64 (j : Int)) rfl (by kernel_rfl) (by kernel_rfl) (by kernel_rfl) (fun _ _ _ h => HP.out _ _ _ _ _ h) (Or.inl ⟨by rfl, by intro w hSw; go_simp⟩) (by assumption) ?_
            simp only [Act.put, List.setIfInBounds_toArray, List.set_cons_zero, List.set_cons_succ]
            refine wpAnyH_take (i := 10) (oi := ⟨some 273, .indexAddr 70 (.tmp 271) (.tmp 272), 0, "outright.go:285", #[⟨8, .data⟩, ⟨9, .data⟩], none⟩) (v := .pointer (some ⟨gB, j * 7, none⟩)) rfl (by kernel_rfl) (by kernel_rfl) (by kernel_rfl) (fun _ _ _ h => HP.out _ _ _ _ _ h) (Or.inl ⟨by rfl, by intro w hSw; go_simp⟩) (by assumption) ?_
            simp only [Act.put, List.setIfInBounds_toArray, List.set_cons_zero, List.set_cons_succ]
            refine wpAnyH_take (i := 11) (oi := ⟨some 274, .fieldAddr 79 (.tmp 273) 2, 0, "outright.go:285", #[⟨10, .data⟩], none⟩) (v := .pointer (some ⟨gB, j * 7 + 2, none⟩)) rfl (by kernel_rfl) (by kernel_rfl) (by kernel_rfl) (fun _ _ _ h => HP.out _ _ _ _ _ h) (Or.inl ⟨by rfl, by intro w hSw; go_simp⟩) (by assumption) ?_
            simp only [Act.put, List.setIfInBounds_toArray, List.set_cons_zero, List.set_cons_succ]
            refine wpAnyH_take (i := 12) (oi := ⟨some 275, .load 55 (.tmp 274), 55, "outright.go:285", #[⟨11, .data⟩], none⟩) (v := .agg #[.int .u32 a, .bool false, .int .i64 0, .bool false, .bool false]) rfl (by kernel_rfl) (by kernel_rfl) (by kernel_rfl) (fun _ _ _ h => HP.out _ _ _ _ _ h) (yieldsIf_load_mid (by rfl) _ _ rfl _ _ rfl _ _ (fun w hSw => hSw.2.1) under55 rfl (by rw [size55]; rfl)) (by assumption) ?_
            simp only [Act.put, List.setIfInBounds_toArray, List.set_cons_zero, List.set_cons_succ]
            refine wpAnyH_take (i := 13) (oi := ⟨some 276, .binOp .neq 55 (.tmp 270) (.tmp 275) 55, 4, "outright.go:285", #[⟨7, .data⟩, ⟨12, .data⟩], none⟩) (v := .bool false) rfl (by kernel_rfl) (by kernel_rfl) (by kernel_rfl) (fun _ _ _ h => HP.out _ _ _ _ _ h) (Or.inl ⟨by rfl, by intro w hSw; go_simp⟩) (by assumption) ?_
            simp only [Act.put, List.setIfInBounds_toArray, List.set_cons_zero, List.set_cons_succ]
            refine wpAnyH_take (i := 14) (oi := ⟨some 277, .move (.tmp 276), 4, "outright.go:285", #[⟨13, .data⟩], none⟩) (v := .bool false) rfl (by kernel_rfl) (by kernel_rfl) (by kernel_rfl) (fun _ _ _ h => HP.out _ _ _ _ _ h) (Or.inl ⟨by rfl, by intro w hSw; go_simp⟩) (by assumption) ?_
            simp only [Act.put, List.setIfInBounds_toArray, List.set_cons_zero, List.set_cons_succ]
            refine wpAnyH_take (i := 15) (oi := ⟨some 278, .move (.tmp 25), 3, "outright.go:285", #[⟨14, .guard⟩], some (14, false)⟩) (v := .int .i64 (i : Int)) rfl (by kernel_rfl) (by kernel_rfl) (by kernel_rfl) (fun _ _ _ h => HP.out _ _ _ _ _ h) (Or.inl ⟨by rfl, by intro w hSw; go_simp⟩) (by assumption) ?_
            simp only [Act.put, List.setIfInBounds_toArray, List.set_cons_zero, List.set_cons_succ]
            refine wpAnyH_take (i := 16) (oi := ⟨some 279, .move (.tmp 6), 70, "outright.go:285", #[⟨14, .guard⟩], some (14, false)⟩) (v := .slice (some ⟨gB, 0, none⟩) N cB) rfl (by kernel_rfl) (by kernel_rfl) (by kernel_rfl) (fun _ _ _ h => HP.out _ _ _ _ _ h) (Or.inl ⟨by rfl, by intro w hSw; go_simp⟩) (by assumption) ?_
            simp only [Act.put, List.setIfInBounds_toArray, List.set_cons_zero, List.set_cons_succ]
            refine wpAnyH_take (i := 17) (oi := ⟨some 280, .move (.tmp 24), 3, "outright.go:285", #[⟨14, .guard⟩], some (14, false)⟩) (v := .int .i64 (j : Int)) rfl (by kernel_rfl) (by kernel_rfl) (by kernel_rfl) (fun _ _ _ h => HP.out _ _ _ _ _ h) (Or.inl ⟨by rfl, by intro w hSw; go_simp⟩) (by assumption) ?_
            simp only [Act.put, List.setIfInBounds_toArray, List.set_cons_zero, List.set_cons_succ]
            refine wpAnyH_take (i := 18) (oi := ⟨some 281, .indexAddr 70 (.tmp 279) (.tmp 280), 0, "outright.go:285", #[⟨16, .data⟩, ⟨17, .data⟩, ⟨14, .guard⟩], some (14, false)⟩) (v := .pointer (some ⟨gB, j * 7, none⟩)) rfl (by kernel_rfl) (by kernel_rfl) (by kernel_rfl) (fun _ _ _ h => HP.out _ _ _ _ _ h) (Or.inl ⟨by rfl, by intro w hSw; go_simp⟩) (by assumption) ?_
            simp only [Act.put, List.setIfInBounds_toArray, List.set_cons_zero, List.set_cons_succ]
            refine wpAnyH_take (i := 19) (oi := ⟨some 282, .fieldAddr 79 (.tmp 281) 0, 0, "outright.go:285", #[⟨18, .data⟩, ⟨14, .guard⟩], some (14, false)⟩) (v := .pointer (some ⟨gB, j * 7, none⟩)) rfl (by kernel_rfl) (by kernel_rfl) (by kernel_rfl) (fun _ _ _ h => HP.out _ _ _ _ _ h) (Or.inl ⟨by rfl, by intro w hSw; go_simp⟩) (by assumption) ?_
            simp only [Act.put, List.setIfInBounds_toArray, List.set_cons_zero, List.set_cons_succ]
            refine wpAnyH_take (i := 20) (oi := ⟨some 283, .load 43 (.tmp 282), 43, "outright.go:285", #[⟨19, .data⟩, ⟨14, .guard⟩], some (14, false)⟩) (v := .slice (some ⟨gL, 0, none⟩) hn cL) rfl (by kernel_rfl) (by kernel_rfl) (by kernel_rfl) (fun _ _ _ h => HP.out _ _ _ _ _ h) (Or.inl ⟨by rfl, by intro w hSw; have hc := hSw.1 0 _ rfl; simp only [Nat.add_zero] at hc; go_simp⟩) (by assumption) ?_
            simp only [Act.put, List.setIfInBounds_toArray, List.set_cons_zero, List.set_cons_succ]
            refine wpAnyH_take (i := 21) (oi := ⟨some 284, .call { callee := .builtin .len, args := #[.tmp 283], argTypes := #[43] }, 3, "outright.go:285", #[⟨20, .data⟩, ⟨14, .guard⟩], some (14, false)⟩) (v := .int .i64 (hn : Int)) rfl (by kernel_rfl) (by kernel_rfl) (by kernel_rfl) (fun _ _ _ h => HP.out _ _ _ _ _ h) (Or.inl ⟨by rfl, by intro w hSw; go_simp⟩) (by assumption) ?_
            simp only [Act.put, List.setIfInBounds_toArray, List.set_cons_zero, List.set_cons_succ]
            refine wpAnyH_take (i := 22) (oi := ⟨some 285, .binOp .lss 3 (.tmp 278) (.tmp 284) 3, 4, "outright.go:285", #[⟨15, .data⟩, ⟨21, .data⟩, ⟨14, .guard⟩], some (14, false)⟩) (v := .bool true) rfl (by kernel_rfl) (by kernel_rfl) (by kernel_rfl) (fun _ _ _ h => HP.out _ _ _ _ _ h) (Or.inl ⟨by rfl, by intro w hSw; go_simp⟩) (by assumption) ?_
            simp only [Act.put, List.setIfInBounds_toArray, List.set_cons_zero, List.set_cons_succ]
            refine wpAnyH_take (i := 23) (oi := ⟨some 286, .move (.tmp 285), 4, "outright.go:285", #[⟨22, .data⟩, ⟨14, .chain⟩, ⟨14, .guard⟩], some (14, false)⟩) (v := .bool true) rfl (by kernel_rfl) (by kernel_rfl) (by kernel_rfl) (fun _ _ _ h => HP.out _ _ _ _ _ h) (Or.inl ⟨by rfl, by intro w hSw; go_simp⟩) (by assumption) ?_
            simp only [Act.put, List.setIfInBounds_toArray, List.set_cons_zero, List.set_cons_succ]
            refine wpAnyH_take (i := 24) (oi := ⟨some 287, .move (.tmp 6), 70, "outright.go:285", #[⟨23, .guard⟩], some (23, true)⟩) (v := .slice (some ⟨gB, 0, none⟩) N cB) rfl (by kernel_rfl) (by kernel_rfl) (by kernel_rfl) (fun _ _ _ h => HP.out _ _ _ _ _ h) (Or.inl ⟨by rfl, by intro w hSw; go_simp⟩) (by assumption) ?_
            simp only [Act.put, List.setIfInBounds_toArray, List.set_cons_zero, List.set_cons_succ]
            refine wpAnyH_take (i := 25) (oi := ⟨some 288, .move (.tmp 24), 3, "outright.go:285", #[⟨23, .guard⟩], some (23, true)⟩) (v := .int .i64 (j : Int)) rfl (by kernel_rfl) (by kernel_rfl) (by kernel_rfl) (fun _ _ _ h => HP.out _ _ _ _ _ h) (Or.inl ⟨by rfl, by intro w hSw; go_simp⟩) (by assumption) ?_
            simp only [Act.put, List.setIfInBounds_toArray, List.set_cons_zero, List.set_cons_succ]
            refine wpAnyH_take (i := 26) (oi := ⟨some 289, .indexAddr 70 (.tmp 287) (.tmp 288), 0, "outright.go:285", #[⟨24, .data⟩, ⟨25, .data⟩, ⟨23, .guard⟩], some (23, true)⟩) (v := .pointer (some ⟨gB, j * 7, none⟩)) rfl (by kernel_rfl) (by kernel_rfl) (by kernel_rfl) (fun _ _ _ h => HP.out _ _ _ _ _ h) (Or.inl ⟨by rfl, by intro w hSw; go_simp⟩) (by assumption) ?_
            simp only [Act.put, List.setIfInBounds_toArray, List.set_cons_zero, List.set_cons_succ]
            refine wpAnyH_take (i := 27) (oi := ⟨some 290, .fieldAddr 79 (.tmp 289) 0, 0, "outright.go:285", #[⟨26, .data⟩, ⟨23, .guard⟩], some (23, true)⟩) (v := .pointer (some ⟨gB, j * 7, none⟩)) rfl (by kernel_rfl) (by kernel_rfl) (by kernel_rfl) (fun _ _ _ h => HP.out _ _ _ _ _ h) (Or.inl ⟨by rfl, by intro w hSw; go_simp⟩) (by assumption) ?_
            simp only [Act.put, List.setIfInBounds_toArray, List.set_cons_zero, List.set_cons_succ]
            refine wpAnyH_take (i := 28) (oi := ⟨some 291, .load 43 (.tmp 290), 43, "outright.go:285", #[⟨27, .data⟩, ⟨23, .guard⟩], some (23, true)⟩) (v := .slice (some ⟨gL, 0, none⟩) hn cL) rfl (by kernel_rfl) (by kernel_rfl) (by kernel_rfl) (fun _ _ _ h => HP.out _ _ _ _ _ h) (Or.inl ⟨by rfl, by intro w hSw; have hc := hSw.1 0 _ rfl; simp only [Nat.add_zero] at hc; go_simp⟩) (by assumption) ?_
            simp only [Act.put, List.setIfInBounds_toArray, List.set_cons_zero, List.set_cons_succ]
            refine wpAnyH_take (i := 29) (oi := ⟨some 292, .move (.tmp 25), 3, "outright.go:285", #[⟨23, .guard⟩], some (23, true)⟩) (v := .int .i64 (i : Int)) rfl (by kernel_rfl) (by kernel_rfl) (by kernel_rfl) (fun _ _ _ h => HP.out _ _ _ _ _ h) (Or.inl ⟨by rfl, by intro w hSw; go_simp⟩) (by assumption) ?_
            simp only [Act.put, List.setIfInBounds_toArray, List.set_cons_zero, List.set_cons_succ]
            refine wpAnyH_take (i := 30) (oi := ⟨some 293, .indexAddr 43 (.tmp 291) (.tmp 292), 0, "outright.go:285", #[⟨28, .data⟩, ⟨29, .data⟩, ⟨23, .guard⟩], some (23, true)⟩) (v := .pointer (some ⟨gL, i * 5, none⟩)) rfl (by kernel_rfl) (by kernel_rfl) (by kernel_rfl) (fun _ _ _ h => HP.out _ _ _ _ _ h) (Or.inl ⟨by rfl, by intro w hSw; go_simp⟩) (by assumption) ?_
            simp only [Act.put, List.setIfInBounds_toArray, List.set_cons_zero, List.set_cons_succ]
            refine wpAnyH_take (i := 31) (oi := ⟨some 294, .load 55 (.tmp 293), 55, "outright.go:285", #[⟨30, .data⟩, ⟨23, .guard⟩], some (23, true)⟩) (v := .agg #[.int .u32 a, .bool false, .int .i64 0, .bool false, .bool false]) rfl (by kernel_rfl) (by kernel_rfl) (by kernel_rfl) (fun _ _ _ h => HP.out _ _ _ _ _ h) (yieldsIf_load_mid (by rfl) _ _ rfl _ _ rfl _ _ (fun w hSw => hSw.2.2.2) under55 rfl (by rw [size55]; rfl)) (by assumption) ?_
            simp only [Act.put, List.setIfInBounds_toArray, List.set_cons_zero, List.set_cons_succ]
            refine wpAnyH_take (i := 32) (oi := ⟨some 295, .move (.tmp 6), 70, "outright.go:285", #[⟨23, .guard⟩], some (23, true)⟩) (v := .slice (some ⟨gB, 0, none⟩) N cB) rfl (by kernel_rfl) (by kernel_rfl) (by kernel_rfl) (fun _ _ _ h => HP.out _ _ _ _ _ h) (Or.inl ⟨by rfl, by intro w hSw; go_simp⟩) (by assumption) ?_
            simp only [Act.put, List.setIfInBounds_toArray, List.set_cons_zero, List.set_cons_succ]
            refine wpAnyH_take (i := 33) (oi := ⟨some 296, .move (.tmp 24), 3, "outright.go:285", #[⟨23, .guard⟩], some (23, true)⟩) (v := .int .i64 (j : Int)) rfl (by kernel_rfl) (by kernel_rfl) (by kernel_rfl) (fun _ _ _ h => HP.out _ _ _ _ _ h) (Or.inl ⟨by rfl, by intro w hSw; go_simp⟩) (by assumption) ?_
            simp only [Act.put, List.setIfInBounds_toArray, List.set_cons_zero, List.set_cons_succ]
            refine wpAnyH_take (i := 34) (oi := ⟨some 297, .indexAddr 70 (.tmp 295) (.tmp 296), 0, "outright.go:285", #[⟨32, .data⟩, ⟨33, .data⟩, ⟨23, .guard⟩], some (23, true)⟩) (v := .pointer (some ⟨gB, j * 7, none⟩)) rfl (by kernel_rfl) (by kernel_rfl) (by kernel_rfl) (fun _ _ _ h => HP.out _ _ _ _ _ h) (Or.inl ⟨by rfl, by intro w hSw; go_simp⟩) (by assumption) ?_
            simp only [Act.put, List.setIfInBounds_toArray, List.set_cons_zero, List.set_cons_succ]
            refine wpAnyH_take (i := 35) (oi := ⟨some 298, .fieldAddr 79 (.tmp 297) 2, 0, "outright.go:285", #[⟨34, .data⟩, ⟨23, .guard⟩], some (23, true)⟩) (v := .pointer (some ⟨gB, j * 7 + 2, none⟩)) rfl (by kernel_rfl) (by kernel_rfl) (by kernel_rfl) (fun _ _ _ h => HP.out _ _ _ _ _ h) (Or.inl ⟨by rfl, by intro w hSw; go_simp⟩) (by assumption) ?_
            simp only [Act.put, List.setIfInBounds_toArray, List.set_cons_zero, List.set_cons_succ]
            refine wpAnyH_take (i := 36) (oi := ⟨some 299, .load 55 (.tmp 298), 55, "outright.go:285", #[⟨35, .data⟩, ⟨23, .guard⟩], some (23, true)⟩) (v := .agg #[.int .u32 a, .bool false, .int .i64 0, .bool false, .bool false]) rfl (by kernel_rfl) (by kernel_rfl) (by kernel_rfl) (fun _ _ _ h => HP.out _ _ _ _ _ h) (yieldsIf_load_mid (by rfl) _ _ rfl _ _ rfl _ _ (fun w hSw => hSw.2.1) under55 rfl (by rw [size55]; rfl)) (by assumption) ?_
            simp only [Act.put, List.setIfInBounds_toArray, List.set_cons_zero, List.set_cons_succ]
            refine wpAnyH_take (i := 37) (oi := ⟨some 300, .binOp .neq 55 (.tmp 294) (.tmp 299) 55, 4, "outright.go:285", #[⟨31, .data⟩, ⟨36, .data⟩, ⟨23, .guard⟩], some (23, true)⟩) (v := .bool false) rfl (by kernel_rfl) (by kernel_rfl) (by kernel_rfl) (fun _ _ _ h => HP.out _ _ _ _ _ h) (Or.inl ⟨by rfl, by intro w hSw; go_simp⟩) (by assumption) ?_
            simp only [Act.put, List.setIfInBounds_toArray, List.set_cons_zero, List.set_cons_succ]
            refine wpAnyH_take (i := 38) (oi := ⟨some 301, .pick (.tmp 286) (.tmp 300) (.const (.bool false)), 4, "outright.go:285", #[⟨23, .data⟩, ⟨37, .data⟩, ⟨14, .guard⟩], some (14, false)⟩) (v := .bool false) rfl (by kernel_rfl) (by kernel_rfl) (by kernel_rfl) (fun _ _ _ h => HP.out _ _ _ _ _ h) (Or.inl ⟨by rfl, by intro w hSw; go_simp⟩) (by assumption) ?_
            simp only [Act.put, List.setIfInBounds_toArray, List.set_cons_zero, List.set_cons_succ]
            refine wpAnyH_take (i := 39) (oi := ⟨some 302, .pick (.tmp 277) (.const (.bool true)) (.tmp 301), 4, "outright.go:285", #[⟨14, .data⟩, ⟨38, .data⟩], none⟩) (v := .bool false) rfl (by kernel_rfl) (by kernel_rfl) (by kernel_rfl) (fun _ _ _ h => HP.out _ _ _ _ _ h) (Or.inl ⟨by rfl, by intro w hSw; go_simp⟩) (by assumption) ?_
            simp only [Act.put, List.setIfInBounds_toArray, List.set_cons_zero, List.set_cons_succ]
            refine wpAnyH_done (by kernel_rfl) ?_ _
            go_wp2_with fail
            go_roundw
            case measure => simp [intOf] <;> omega
            case rel => exact ⟨i + 1, by omega, by simp, RB⟩
          · have q3 : (hn : Int) ≤ (i : Int) := by omega
            go_upto_region 45 with fail
            have HS := hid (And.intro (R1.out _ RB.out) (And.intro (rangeAt_tail (a := 2) (R1.out _ RB.out)) (R2.out _ i hi2 RB.out)))
            simp only [List.drop_succ_cons, List.drop_zero] at HS
            refine wp_region_held_drew (S := fun w => w.rangeAt gB (j * 7) [.slice aL hn cL, .slice (some ⟨gM, 0, none⟩) (hn + 1) cM, .int .u32 a, .bool false, .int .i64 0, .bool false, .bool false] ∧ w.rangeAt gB (j * 7 + 2) [.int .u32 a, .bool false, .int .i64 0, .bool false, .bool false] ∧ w.rangeAt gM (i * 5) [.int .u32 a, .bool false, .int .i64 0, .bool false, .bool false]) (by kernel_rfl) HS.out (fun hHeld => ?_)
            refine wpAnyH_take (i := 0) (oi := ⟨some 263, .move (.tmp 6), 70, "outright.go:285", #[], none⟩) (v := .slice (some ⟨gB, 0, none⟩) N cB) rfl (by kernel_rfl) (by kernel_rfl) (by kernel_rfl) (fun _ _ _ h => HP.out _ _ _ _ _ h) (Or.inl ⟨by rfl, by intro w hSw; go_simp⟩) (by assumption) ?_
            simp only [Act.put, List.setIfInBounds_toArray, List.set_cons_zero, List.set_cons_succ]
            refine wpAnyH_take (i := 1) (oi := ⟨some 264, .move (.tmp 24), 3, "outright.go:285", #[], none⟩) (v := .int .i64 (j : Int)) rfl (by kernel_rfl) (by kernel_rfl) (by kernel_rfl) (fun _ _ _ h => HP.out _ _ _ _ _ h) (Or.inl ⟨by rfl, by intro w hSw; go_simp⟩) (by assumption) ?_
            simp only [Act.put, List.setIfInBounds_toArray, List.set_cons_zero, List.set_cons_succ]
            refine wpAnyH_take (i := 2) (oi := ⟨some 265, .indexAddr 70 (.tmp 263) (.tmp 264), 0, "outright.go:285", #[⟨0, .data⟩, ⟨1, .data⟩], none⟩) (v := .pointer (some ⟨gB, j * 7, none⟩)) rfl (by kernel_rfl) (by kernel_rfl) (by kernel_rfl) (fun _ _ _ h => HP.out _ _ _ _ _ h) (Or.inl ⟨by rfl, by intro w hSw; go_simp⟩) (by assumption) ?_
            simp only [Act.put, List.setIfInBounds_toArray, List.set_cons_zero, List.set_cons_succ]
            refine wpAnyH_take (i := 3) (oi := ⟨some 266, .fieldAddr 79 (.tmp 265) 1, 0, "outright.go:285", #[⟨2, .data⟩], none⟩) (v := .pointer (some ⟨gB, j * 7 + 1, none⟩)) rfl (by kernel_rfl) (by kernel_rfl) (by kernel_rfl) (fun _ _ _ h => HP.out _ _ _ _ _ h) (Or.inl ⟨by rfl, by intro w hSw; go_simp⟩) (by assumption) ?_
            simp only [Act.put, List.setIfInBounds_toArray, List.set_cons_zero, List.set_cons_succ]
            refine wpAnyH_take (i := 4) (oi := ⟨some 267, .load 43 (.tmp 266), 43, "outright.go:285", #[⟨3, .data⟩], none⟩) (v := .slice (some ⟨gM, 0, none⟩) (hn + 1) cM) rfl (by kernel_rfl) (by kernel_rfl) (by kernel_rfl) (fun _ _ _ h => HP.out _ _ _ _ _ h) (Or.inl ⟨by rfl, by intro w hSw; have hc := hSw.1 1 _ rfl; go_simp⟩) (by assumption) ?_
            simp only [Act.put, List.setIfInBounds_toArray, List.set_cons_zero, List.set_cons_succ]
            refine wpAnyH_take (i := 5) (oi := ⟨some 268, .move (.tmp 25), 3, "outright.go:285", #[], none⟩) (v := .int .i64 (i : Int)) rfl (by kernel_rfl) (by kernel_rfl) (by kernel_rfl) (fun _ _ _ h => HP.out _ _ _ _ _ h) (Or.inl ⟨by rfl, by intro w hSw; go_simp⟩) (by assumption) ?_
            simp only [Act.put, List.setIfInBounds_toArray, List.set_cons_zero, List.set_cons_succ]
            refine wpAnyH_take (i := 6) (oi := ⟨some 269, .indexAddr 43 (.tmp 267) (.tmp 268), 0, "outright.go:285", #[⟨4, .data⟩, ⟨5, .data⟩], none⟩) (v := .pointer (some ⟨gM, i * 5, none⟩)) rfl (by kernel_rfl) (by kernel_rfl) (by kernel_rfl) (fun _ _ _ h => HP.out _ _ _ _ _ h) (Or.inl ⟨by rfl, by intro w hSw; go_simp⟩) (by assumption) ?_
            simp only [Act.put, List.setIfInBounds_toArray, List.set_cons_zero, List.set_cons_succ]
            refine wpAnyH_take (i := 7) (oi := ⟨some 270, .load 55 (.tmp 269), 55, "outright.go:285", #[⟨6, .data⟩], none⟩) (v := .agg #[.int .u32 a, .bool false, .int .i64 0, .bool false, .bool false]) rfl (by kernel_rfl) (by kernel_rfl) (by kernel_rfl) (fun _ _ _ h => HP.out _ _ _ _ _ h) (yieldsIf_load_mid (by rfl) _ _ rfl _ _ rfl _ _ (fun w hSw => hSw.2.2) under55 rfl (by rw [size55]; rfl)) (by assumption) ?_
            simp only [Act.put, List.setIfInBounds_toArray, List.set_cons_zero, List.set_cons_succ]
            refine wpAnyH_take (i := 8) (oi := ⟨some 271, .move (.tmp 6), 70, "outright.go:285", #[], none⟩) (v := .slice (some ⟨gB, 0, none⟩) N cB) rfl (by kernel_rfl) (by kernel_rfl) (by kernel_rfl) (fun _ _ _ h => HP.out _ _ _ _ _ h) (Or.inl ⟨by rfl, by intro w hSw; go_simp⟩) (by assumption) ?_
            simp only [Act.put, List.setIfInBounds_toArray, List.set_cons_zero, List.set_cons_succ]
            refine wpAnyH_take (i := 9) (oi := ⟨some 272, .move (.tmp 24), 3, "outright.go:285", #[], none⟩) (v := .int .i64 (j : Int)) rfl (by kernel_rfl) (by kernel_rfl) (by kernel_rfl) (fun _ _ _ h => HP.out _ _ _ _ _ h) (Or.inl ⟨by rfl, by intro w hSw; go_simp⟩) (by assumption) ?_
            simp only [Act.put, List.setIfInBounds_toArray, List.set_cons_zero, List.set_cons_succ]
            refine wpAnyH_take (i := 10) (oi := ⟨some 273, .indexAddr 70 (.tmp 271) (.tmp 272), 0, "outright.go:285", #[⟨8, .data⟩, ⟨9, .data⟩], none⟩) (v := .pointer (some ⟨gB, j * 7, none⟩)) rfl (by kernel_rfl) (by kernel_rfl) (by kernel_rfl) (fun _ _ _ h => HP.out _ _ _ _ _ h) (Or.inl ⟨by rfl, by intro w hSw; go_simp⟩) (by assumption) ?_
            simp only [Act.put, List.setIfInBounds_toArray, List.set_cons_zero, List.set_cons_succ]
            refine wpAnyH_take (i := 11) (oi := ⟨some 274, .fieldAddr 79 (.tmp 273) 2, 0, "outright.go:285", #[⟨10, .data⟩], none⟩) (v := .pointer (some ⟨gB, j * 7 + 2, none⟩)) rfl (by kernel_rfl) (by kernel_rfl) (by kernel_rfl) (fun _ _ _ h => HP.out _ _ _ _ _ h) (Or.inl ⟨by rfl, by intro w hSw; go_simp⟩) (by assumption) ?_
            simp only [Act.put, List.setIfInBounds_toArray, List.set_cons_zero, List.set_cons_succ]
            refine wpAnyH_take (i := 12) (oi := ⟨some 275, .load 55 (.tmp 274), 55, "outright.go:285", #[⟨11, .data⟩], none⟩) (v := .agg #[.int .u32 a, .bool false, .int .i64 0, .bool false, .bool false]) rfl (by kernel_rfl) (by kernel_rfl) (by kernel_rfl) (fun _ _ _ h => HP.out _ _ _ _ _ h) (yieldsIf_load_mid (by rfl) _ _ rfl _ _ rfl _ _ (fun w hSw => hSw.2.1) under55 rfl (by rw [size55]; rfl)) (by assumption) ?_
            simp only [Act.put, List.setIfInBounds_toArray, List.set_cons_zero, List.set_cons_succ]
            refine wpAnyH_take (i := 13) (oi := ⟨some 276, .binOp .neq 55 (.tmp 270) (.tmp 275) 55, 4, "outright.go:285", #[⟨7, .data⟩, ⟨12, .data⟩], none⟩) (v := .bool false) rfl (by kernel_rfl) (by kernel_rfl) (by kernel_rfl) (fun _ _ _ h => HP.out _ _ _ _ _ h) (Or.inl ⟨by rfl, by intro w hSw; go_simp⟩) (by assumption) ?_
            simp only [Act.put, List.setIfInBounds_toArray, List.set_cons_zero, List.set_cons_succ]
            refine wpAnyH_take (i := 14) (oi := ⟨some 277, .move (.tmp 276), 4, "outright.go:285", #[⟨13, .data⟩], none⟩) (v := .bool false) rfl (by kernel_rfl) (by kernel_rfl) (by kernel_rfl) (fun _ _ _ h => HP.out _ _ _ _ _ h) (Or.inl ⟨by rfl, by intro w hSw; go_simp⟩) (by assumption) ?_
            simp only [Act.put, List.setIfInBounds_toArray, List.set_cons_zero, List.set_cons_succ]
            refine wpAnyH_take (i := 15) (oi := ⟨some 278, .move (.tmp 25), 3, "outright.go:285", #[⟨14, .guard⟩], some (14, false)⟩) (v := .int .i64 (i : Int)) rfl (by kernel_rfl) (by kernel_rfl) (by kernel_rfl) (fun _ _ _ h => HP.out _ _ _ _ _ h) (Or.inl ⟨by rfl, by intro w hSw; go_simp⟩) (by assumption) ?_
            simp only [Act.put, List.setIfInBounds_toArray, List.set_cons_zero, List.set_cons_succ]
            refine wpAnyH_take (i := 16) (oi := ⟨some 279, .move (.tmp 6), 70, "outright.go:285", #[⟨14, .guard⟩], some (14, false)⟩) (v := .slice (some ⟨gB, 0, none⟩) N cB) rfl (by kernel_rfl) (by kernel_rfl) (by kernel_rfl) (fun _ _ _ h => HP.out _ _ _ _ _ h) (Or.inl ⟨by rfl, by intro w hSw; go_simp⟩) (by assumption) ?_
            simp only [Act.put, List.setIfInBounds_toArray, List.set_cons_zero, List.set_cons_succ]
            refine wpAnyH_take (i := 17) (oi := ⟨some 280, .move (.tmp 24), 3, "outright.go:285", #[⟨14, .guard⟩], some (14, false)⟩) (v := .int .i64 (j : Int)) rfl (by kernel_rfl) (by kernel_rfl) (by kernel_rfl) (fun _ _ _ h => HP.out _ _ _ _ _ h) (Or.inl ⟨by rfl, by intro w hSw; go_simp⟩) (by assumption) ?_
            simp only [Act.put, List.setIfInBounds_toArray, List.set_cons_zero, List.set_cons_succ]
            refine wpAnyH_take (i := 18) (oi := ⟨some 281, .indexAddr 70 (.tmp 279) (.tmp 280), 0, "outright.go:285", #[⟨16, .data⟩, ⟨17, .data⟩, ⟨14, .guard⟩], some (14, false)⟩) (v := .pointer (some ⟨gB, j * 7, none⟩)) rfl (by kernel_rfl) (by kernel_rfl) (by kernel_rfl) (fun _ _ _ h => HP.out _ _ _ _ _ h) (Or.inl ⟨by rfl, by intro w hSw; go_simp⟩) (by assumption) ?_
            simp only [Act.put, List.setIfInBounds_toArray, List.set_cons_zero, List.set_cons_succ]
            refine wpAnyH_take (i := 19) (oi := ⟨some 282, .fieldAddr 79 (.tmp 281) 0, 0, "outright.go:285", #[⟨18, .data⟩, ⟨14, .guard⟩], some (14, false)⟩) (v := .pointer (some ⟨gB, j * 7, none⟩)) rfl (by kernel_rfl) (by kernel_rfl) (by kernel_rfl) (fun _ _ _ h => HP.out _ _ _ _ _ h) (Or.inl ⟨by rfl, by intro w hSw; go_simp⟩) (by assumption) ?_
            simp only [Act.put, List.setIfInBounds_toArray, List.set_cons_zero, List.set_cons_succ]
            refine wpAnyH_take (i := 20) (oi := ⟨some 283, .load 43 (.tmp 282), 43, "outright.go:285", #[⟨19, .data⟩, ⟨14, .guard⟩], some (14, false)⟩) (v := .slice aL hn cL) rfl (by kernel_rfl) (by kernel_rfl) (by kernel_rfl) (fun _ _ _ h => HP.out _ _ _ _ _ h) (Or.inl ⟨by rfl, by intro w hSw; have hc := hSw.1 0 _ rfl; simp only [Nat.add_zero] at hc; go_simp⟩) (by assumption) ?_
            simp only [Act.put, List.setIfInBounds_toArray, List.set_cons_zero, List.set_cons_succ]
            refine wpAnyH_take (i := 21) (oi := ⟨some 284, .call { callee := .builtin .len, args := #[.tmp 283], argTypes := #[43] }, 3, "outright.go:285", #[⟨20, .data⟩, ⟨14, .guard⟩], some (14, false)⟩) (v := .int .i64 (hn : Int)) rfl (by kernel_rfl) (by kernel_rfl) (by kernel_rfl) (fun _ _ _ h => HP.out _ _ _ _ _ h) (Or.inl ⟨by rfl, by intro w hSw; go_simp⟩) (by assumption) ?_
            simp only [Act.put, List.setIfInBounds_toArray, List.set_cons_zero, List.set_cons_succ]
            refine wpAnyH_take (i := 22) (oi := ⟨some 285, .binOp .lss 3 (.tmp 278) (.tmp 284) 3, 4, "outright.go:285", #[⟨15, .data⟩, ⟨21, .data⟩, ⟨14, .guard⟩], some (14, false)⟩) (v := .bool false) rfl (by kernel_rfl) (by kernel_rfl) (by kernel_rfl) (fun _ _ _ h => HP.out _ _ _ _ _ h) (Or.inl ⟨by rfl, by intro w hSw; go_simp⟩) (by assumption) ?_
            simp only [Act.put, List.setIfInBounds_toArray, List.set_cons_zero, List.set_cons_succ]
            refine wpAnyH_take (i := 23) (oi := ⟨some 286, .move (.tmp 285), 4, "outright.go:285", #[⟨22, .data⟩, ⟨14, .chain⟩, ⟨14, .guard⟩], some (14, false)⟩) (v := .bool false) rfl (by kernel_rfl) (by kernel_rfl) (by kernel_rfl) (fun _ _ _ h => HP.out _ _ _ _ _ h) (Or.inl ⟨by rfl, by intro w hSw; go_simp⟩) (by assumption) ?_
            simp only [Act.put, List.setIfInBounds_toArray, List.set_cons_zero, List.set_cons_succ]
            refine wpAnyH_take (i := 24) (oi := ⟨some 287, .move (.tmp 6), 70, "outright.go:285", #[⟨23, .guard⟩], some (23, true)⟩) (v := undef) rfl (by kernel_rfl) (by kernel_rfl) (by kernel_rfl) (fun _ _ _ h => HP.out _ _ _ _ _ h) (Or.inr ⟨by rfl, rfl⟩) (by assumption) ?_
            simp only [Act.put, List.setIfInBounds_toArray, List.set_cons_zero, List.set_cons_succ]
            refine wpAnyH_take (i := 25) (oi := ⟨some 288, .move (.tmp 24), 3, "outright.go:285", #[⟨23, .guard⟩], some (23, true)⟩) (v := undef) rfl (by kernel_rfl) (by kernel_rfl) (by kernel_rfl) (fun _ _ _ h => HP.out _ _ _ _ _ h) (Or.inr ⟨by rfl, rfl⟩) (by assumption) ?_
            simp only [Act.put, List.setIfInBounds_toArray, List.set_cons_zero, List.set_cons_succ]
            refine wpAnyH_take (i := 26) (oi := ⟨some 289, .indexAddr 70 (.tmp 287) (.tmp 288), 0, "outright.go:285", #[⟨24, .data⟩, ⟨25, .data⟩, ⟨23, .guard⟩], some (23, true)⟩) (v := undef) rfl (by kernel_rfl) (by kernel_rfl) (by kernel_rfl) (fun _ _ _ h => HP.out _ _ _ _ _ h) (Or.inr ⟨by rfl, rfl⟩) (by assumption) ?_
            simp only [Act.put, List.setIfInBounds_toArray, List.set_cons_zero, List.set_cons_succ]
            refine wpAnyH_take (i := 27) (oi := ⟨some 290, .fieldAddr 79 (.tmp 289) 0, 0, "outright.go:285", #[⟨26, .data⟩, ⟨23, .guard⟩], some (23, true)⟩) (v := undef) rfl (by kernel_rfl) (by kernel_rfl) (by kernel_rfl) (fun _ _ _ h => HP.out _ _ _ _ _ h) (Or.inr ⟨by rfl, rfl⟩) (by assumption) ?_
            simp only [Act.put, List.setIfInBounds_toArray, List.set_cons_zero, List.set_cons_succ]
            refine wpAnyH_take (i := 28) (oi := ⟨some 291, .load 43 (.tmp 290), 43, "outright.go:285", #[⟨27, .data⟩, ⟨23, .guard⟩], some (23, true)⟩) (v := undef) rfl (by kernel_rfl) (by kernel_rfl) (by kernel_rfl) (fun _ _ _ h => HP.out _ _ _ _ _ h) (Or.inr ⟨by rfl, rfl⟩) (by assumption) ?_
            simp only [Act.put, List.setIfInBounds_toArray, List.set_cons_zero, List.set_cons_succ]
            refine wpAnyH_take (i := 29) (oi := ⟨some 292, .move (.tmp 25), 3, "outright.go:285", #[⟨23, .guard⟩], some (23, true)⟩) (v := undef) rfl (by kernel_rfl) (by kernel_rfl) (by kernel_rfl) (fun _ _ _ h => HP.out _ _ _ _ _ h) (Or.inr ⟨by rfl, rfl⟩) (by assumption) ?_
            simp only [Act.put, List.setIfInBounds_toArray, List.set_cons_zero, List.set_cons_succ]
            refine wpAnyH_take (i := 30) (oi := ⟨some 293, .indexAddr 43 (.tmp 291) (.tmp 292), 0, "outright.go:285", #[⟨28, .data⟩, ⟨29, .data⟩, ⟨23, .guard⟩], some (23, true)⟩) (v := undef) rfl (by kernel_rfl) (by kernel_rfl) (by kernel_rfl) (fun _ _ _ h => HP.out _ _ _ _ _ h) (Or.inr ⟨by rfl, rfl⟩) (by assumption) ?_
            simp only [Act.put, List.setIfInBounds_toArray, List.set_cons_zero, List.set_cons_succ]
            refine wpAnyH_take (i := 31) (oi := ⟨some 294, .load 55 (.tmp 293), 55, "outright.go:285", #[⟨30, .data⟩, ⟨23, .guard⟩], some (23, true)⟩) (v := undef) rfl (by kernel_rfl) (by kernel_rfl) (by kernel_rfl) (fun _ _ _ h => HP.out _ _ _ _ _ h) (Or.inr ⟨by rfl, rfl⟩) (by assumption) ?_
            simp only [Act.put, List.setIfInBounds_toArray, List.set_cons_zero, List.set_cons_succ]
            refine wpAnyH_take (i := 32) (oi := ⟨some 295, .move (.tmp 6), 70, "outright.go:285", #[⟨23, .guard⟩], some (23, true)⟩) (v := undef) rfl (by kernel_rfl) (by kernel_rfl) (by kernel_rfl) (fun _ _ _ h => HP.out _ _ _ _ _ h) (Or.inr ⟨by rfl, rfl⟩) (by assumption) ?_
            simp only [Act.put, List.setIfInBounds_toArray, List.set_cons_zero, List.set_cons_succ]
            refine wpAnyH_take (i := 33) (oi := ⟨some 296, .move (.tmp 24), 3, "outright.go:285", #[⟨23, .guard⟩], some (23, true)⟩) (v := undef) rfl (by kernel_rfl) (by kernel_rfl) (by kernel_rfl) (fun _ _ _ h => HP.out _ _ _ _ _ h) (Or.inr ⟨by rfl, rfl⟩) (by assumption) ?_
            simp only [Act.put, List.setIfInBounds_toArray, List.set_cons_zero, List.set_cons_succ]
            refine wpAnyH_take (i := 34) (oi := ⟨some 297, .indexAddr 70 (.tmp 295) (.tmp 296), 0, "outright.go:285", #[⟨32, .data⟩, ⟨33, .data⟩, ⟨23, .guard⟩], some (23, true)⟩) (v := undef) rfl (by kernel_rfl) (by kernel_rfl) (by kernel_rfl) (fun _ _ _ h => HP.out _ _ _ _ _ h) (Or.inr ⟨by rfl, rfl⟩) (by assumption) ?_
            simp only [Act.put, List.setIfInBounds_toArray, List.set_cons_zero, List.set_cons_succ]
            refine wpAnyH_take (i := 35) (oi := ⟨some 298, .fieldAddr 79 (.tmp 297) 2, 0, "outright.go:285", #[⟨34, .data⟩, ⟨23, .guard⟩], some (23, true)⟩) (v := undef) rfl (by kernel_rfl) (by kernel_rfl) (by kernel_rfl) (fun _ _ _ h => HP.out _ _ _ _ _ h) (Or.inr ⟨by rfl, rfl⟩) (by assumption) ?_
            simp only [Act.put, List.setIfInBounds_toArray, List.set_cons_zero, List.set_cons_succ]
            refine wpAnyH_take (i := 36) (oi := ⟨some 299, .load 55 (.tmp 298), 55, "outright.go:285", #[⟨35, .data⟩, ⟨23, .guard⟩], some (23, true)⟩) (v := undef) rfl (by kernel_rfl) (by kernel_rfl) (by kernel_rfl) (fun _ _ _ h => HP.out _ _ _ _ _ h) (Or.inr ⟨by rfl, rfl⟩) (by assumption) ?_
            simp only [Act.put, List.setIfInBounds_toArray, List.set_cons_zero, List.set_cons_succ]
            refine wpAnyH_take (i := 37) (oi := ⟨some 300, .binOp .neq 55 (.tmp 294) (.tmp 299) 55, 4, "outright.go:285", #[⟨31, .data⟩, ⟨36, .data⟩, ⟨23, .guard⟩], some (23, true)⟩) (v := undef) rfl (by kernel_rfl) (by kernel_rfl) (by kernel_rfl) (fun _ _ _ h => HP.out _ _ _ _ _ h) (Or.inr ⟨by rfl, rfl⟩) (by assumption) ?_
            simp only [Act.put, List.setIfInBounds_toArray, List.set_cons_zero, List.set_cons_succ]
            refine wpAnyH_take (i := 38) (oi := ⟨some 301, .pick (.tmp 286) (.tmp 300) (.const (.bool false)), 4, "outright.go:285", #[⟨23, .data⟩, ⟨37, .data⟩, ⟨14, .guard⟩], some (14, false)⟩) (v := .bool false) rfl (by kernel_rfl) (by kernel_rfl) (by kernel_rfl) (fun _ _ _ h => HP.out _ _ _ _ _ h) (Or.inl ⟨by rfl, by intro w hSw; go_simp⟩) (by assumption) ?_
            simp only [Act.put, List.setIfInBounds_toArray, List.set_cons_zero, List.set_cons_succ]
            refine wpAnyH_take (i := 39) (oi := ⟨some 302, .pick (.tmp 277) (.const (.bool true)) (.tmp 301), 4, "outright.go:285", #[⟨14, .data⟩, ⟨38, .data⟩], none⟩) (v := .bool false) rfl (by kernel_rfl) (by kernel_rfl) (by kernel_rfl) (fun _ _ _ h => HP.out _ _ _ _ _ h) (Or.inl ⟨by rfl, by intro w hSw; go_simp⟩) (by assumption) ?_
            simp only [Act.put, List.setIfInBounds_toArray, List.set_cons_zero, List.set_cons_succ]
            refine wpAnyH_done (by kernel_rfl) ?_ _
            go_wp2_with fail
            go_roundw
            case measure => simp [intOf] <;> omega
            case rel => exact ⟨i + 1, by omega, by simp, RB⟩
        · have q2 : (hn : Int) + 1 ≤ (i : Int) := by omega
          go_wp2_with fail
          go_roundw
          case measure => simp [intOf] <;> omega
          case rel => exact ⟨j + 1, by omega, by simp, hid (HT.out.on HB.out)⟩
    · have q1 : (N : Int) ≤ (j : Int) := by omega
      subst hv6
      go_wp2_with fail
      exact HQ.out _ _ _ _ _ _ _ _ _ _ _ _ _ _ _ _ _ _ _ _ _ _ _ _ _ _ _ _ _ _ _ _ _ _ _ _ _ _ _ _ _ _ _ _ _ _ _ _ _ _ _ _ _ _ _ _ _ _ _ _ HT.out
end Go.Proofs.Ytgbpbfnpeeciaaa
