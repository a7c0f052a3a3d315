/- RegsBack (5): the list is laid. -/
import Derived.Test.YthpkodkilbcepaaP5b
import Derived.OwnWalk
import Derived.Laws.AppendOwnNone
namespace Go.Proofs.Ythpkodkilbcepaa
open Go.RowKit
set_option maxHeartbeats 4000000
set_option maxRecDepth 100000
attribute [-simp] Try.isAgg27 Try.sizeOf27 Try.isAgg25 Try.sizeOf25 Try.isAgg23 Try.isAgg46 Try.sizeOf46
theorem info22 : (Try.prog.info? 22).map (fun i => (i.zero, i.size, i.bytes)) = some (some (.int .u32 0), 1, 4) := by kernel_rfl
def u32s (L : List Int) : List Value := L.map (Value.int .u32)
theorem u32s_len (L : List Int) : (u32s L).length = L.length := by simp [u32s]
theorem u32s_one (L : List Int) : ∀ v ∈ u32s L, v.oneCell' = true := by
  intro v hv
  simp only [u32s, List.mem_map] at hv
  obtain ⟨x, _, rfl⟩ := hv
  rfl
theorem Cel.src {w : World} {g : Nat} {t : TypeId} {cs : List Value} (h : Cel w g t cs) : ∀ j v, cs[j]? = some v → w.cell? ((⟨g, 0, none⟩ : Addr).add j) = some v := by
  intro j v hv
  rw [Addr.add_mid, Nat.zero_add, h.cell j, hv]
/-- A list of words of the call's own. -/
structure Hl (W wr : World) (v : Value) (L : List Int) : Prop where
  own : wr.ownsRow W.heap.size 22 1 v L.length (u32s L)
  below : Below W.heap.size W wr
theorem Hl.start (W : World) : Hl W W (.slice none 0 0) [] := ⟨World.ownsRow_nil _ _ _ _, Below.refl _ _⟩
theorem Hl.on {W w w' : World} {v : Value} {L : List Int} (h : Hl W w v L) (hb : Below w.heap.size w w') : Hl W w' v L :=
  ⟨⟨h.own.1, h.own.2.imp id fun ⟨g, cap, cur, hv, hB, hg, r⟩ => ⟨g, cap, cur, hv, hB, (hb.block g (Array.getElem?_eq_some_iff.1 hg).1).trans hg, r⟩⟩, below_on h.below hb⟩
theorem Hl.form {W w : World} {v : Value} {L : List Int} (h : Hl W w v L) : ∃ ao c, v = .slice ao L.length c ∧ (0 < L.length → ∃ g, ao = some ⟨g, 0, none⟩ ∧ W.heap.size ≤ g ∧ g < w.heap.size ∧ (∃ cur, w.heap[g]? = some (.cells cur 22 (0, 0))) ∧ ∀ j u, (u32s L)[j]? = some u → w.cell? ⟨g, j, none⟩ = some u) := by
  rcases h.own.2 with ⟨hv, h0⟩ | ⟨g, cap, cur, hv, hB, hg, r⟩
  · exact ⟨none, 0, by rw [hv, h0], fun hp => by omega⟩
  · refine ⟨some ⟨g, 0, none⟩, cap, hv, fun _ => ⟨g, rfl, hB, (Array.getElem?_eq_some_iff.1 hg).1, ⟨cur, hg⟩, fun j u hu => ?_⟩⟩
    have := h.own.cells (g := g) (by rw [hv]; rfl) j u hu
    rwa [Addr.add_mid, Nat.zero_add] at this
theorem wpList_append_w {W w : World} {ops : Array Oper} {rest : List Oper} {o : Oper} {a : Act} {Q : Exit → Act → World → Prop} (hgd : o.guard = none) (s x : Operand)
    (ho : o.op = .call { callee := .builtin .append, args := #[s, x], argTypes := #[45, 45] }) (v : Value) (L : List Int) (hs : a.eval s = v) (H : Hl W w v L) (ad : Addr) (m c : Nat) (xs : List Int) (hx : a.eval x = .slice (some ad) m c) (hl : xs.length = m)
    (hsrc : ∀ j u, (u32s xs)[j]? = some u → w.cell? (ad.add j) = some u) (hbytes : (L.length + m) * 4 ≤ 140737488355328)
    (h : ∀ v' w', Hl W w' v' (L ++ xs) → w.grownBy w' v.ownBlock → wpList Try.prog ops Q rest (a.put o.dst v') w') : wpList Try.prog ops Q (o :: rest) a w := by
  obtain ⟨i, hi, hz, hsize, hby⟩ := info_parts info22
  obtain ⟨v', w', hr, h1, h2, _⟩ := run_append_own (P := Try.prog) w W.heap.size 45 o.type 22 i (.int .u32 0) 1 4 under45 hi hz hsize hby rfl (by decide) v L.length _ H.own ad m c (u32s xs) (by rw [u32s_len, hl, Nat.mul_one]) hsrc (u32s_one xs) (by unfold maxLen; omega) hbytes H.below.size
  have hH : Hl W w' v' (L ++ xs) := ⟨by
    have e : u32s (L ++ xs) = u32s L ++ u32s xs := by simp [u32s]
    rw [e, List.length_append, hl]; exact h1, H.below.grown h2 H.below.size (fun g hg => (H.own.lt g hg).1)⟩
  refine wpList_plain hgd fun K hK => ?_
  unfold Oper.wp execOp
  simp only [ho, resolve, invoke, builtin, Sem.run_bind, Sem.run_pure, Result.andThen_ok, List.map_toArray, List.map_cons, List.map_nil, hs, hx, hr]
  exact hK _ _ (h _ _ hH h2)
theorem new_src (w : World) (x : Int) : ∀ j u, (u32s [x])[j]? = some u → (w.alloc (.cells #[.int .u32 x] 22)).cell? ((⟨w.heap.size, 0, none⟩ : Addr).add j) = some u :=
  (Cel.new w 22 (u32s [x])).src
theorem Hl.cap {W w : World} {ao : Option Addr} {n c : Nat} {L : List Int} (h : Hl W w (.slice ao n c) L) : (ao = none → c = 0) ∧ n = L.length ∧ n ≤ c ∨ (n = 0 ∧ L = [] ∧ ao = none ∧ c = 0) := by
  rcases h.own.2 with ⟨hv, h0⟩ | ⟨g, cap, cur, hv, hB, hg, hle, r⟩
  · injection hv with a b d
    exact .inr ⟨b, List.eq_nil_of_length_eq_zero h0, a, d⟩
  · injection hv with a b d
    exact .inl ⟨(fun e => by rw [a] at e; cases e), b, by omega⟩
def xl (n : Nat) (X : Nat → Int) : List Int := (List.range n).map X
def ml (j : Nat) : List Int := (List.range j).map fun (i : Nat) => (i : Int)
theorem xl_len (n : Nat) (X : Nat → Int) : (xl n X).length = n := by simp [xl]
theorem ml_len (n : Nat) : (ml n).length = n := by simp [ml]
theorem ml_succ (k : Nat) : ml (k + 1) = ml k ++ [(k : Int)] := by unfold ml; rw [List.range_succ, List.map_append]; rfl
theorem xl_at (n : Nat) (X : Nat → Int) (k : Nat) (h : k < n) : (xl n X)[k]? = some (X k) := by simp [xl, h]
theorem xml_at (n : Nat) (X : Nat → Int) (k : Nat) (h : k < n + 300) : (u32s (xl n X ++ ml 300))[k]? = some (.int .u32 (wlX n X k)) := by
  unfold u32s wlX
  rw [List.getElem?_map]
  by_cases hk : k < n
  · rw [List.getElem?_append_left (by rw [xl_len]; exact hk), xl_at n X k hk, if_pos hk]; rfl
  · rw [List.getElem?_append_right (by rw [xl_len]; omega), xl_len, if_neg hk, ml, List.getElem?_map, List.getElem?_range (by omega)]; rfl
theorem back_c (W w : World) (ao : Option Addr) (n c b o : Nat) (X : Nat → Int) (hx : WX W ao n b o X) (h0 : ao = none → n = 0 ∧ c = 0) (hn : n * 4 ≤ 140737488351232) (g5 : Nat) (f5 : F) (hg : Cel w g5 27 f5.cs) (hb : Below W.heap.size W w) (z0 z2 z3 z4 z6 z7 z8 z9 z10 z11 z12 z13 z14 z15 z16 z17 z18 z19 z20 z21 z22 z23 z24 z25 z26 z27 z28 z29 z30 z31 z32 z33 z34 z35 z36 z37 z38 z39 z40 z41 z42 z43 z44 z45 z46 z47 z48 z49 z50 z51 z52 z53 z54 z55 z56 z57 z58 z59 z60 z61 z62 z63 z64 z65 z66 z67 z68 z69 z70 z71 z72 z73 z74 z75 z76 z77 z78 z79 z80 z81 z82 z83 z84 z85 z86 z87 z88 z89 z90 z91 z92 z93 z94 z95 z96 z97 z98 z99 z100 z101 z102 z103 z104 z105 z106 z107 z108 z109 z110 z111 z112 z113 z114 z115 z116 z117 z118 z119 z120 z121 z122 z123 z124 z125 z126 z127 z128 z129 z130 z131 z132 z133 z134 z135 z136 z137 z138 z139 z140 z141 z142 z143 z144 z145 z146 z147 z148 z149 z150 z151 z152 z153 z154 z155 z156 z157 z158 z159 z160 z161 z162 z163 z164 z165 z166 z167 z168 z169 z170 z171 z172 z173 z174 z175 z176 z177 z178 z179 z180 z181 z182 z183 z184 z185 z186 z187 z188 z189 z190 z191 z192 z193 z194 z195 z196 z197 z198 z199 z200 z201 z202 z203 z204 z205 z206 z207 z208 z209 z210 z211 z212 z213 z214 z215 z216 z217 z218 z219 z220 z221 z222 z223 z224 : Value) :
    Code.wp Try.prog (sfx 7 (Try.f5.body.getD .skip)) (bodyPost Try.prog Try.f5 fun x w' => x = .returned (.bool true) ∧ Below W.heap.size W w') { tmps := #[z0, .slice ao n c, z2, z3, z4, .pointer (some ⟨g5, 0, none⟩), z6, z7, z8, z9, z10, z11, z12, z13, z14, z15, z16, z17, z18, z19, z20, z21, z22, z23, z24, z25, z26, z27, z28, z29, z30, z31, z32, z33, z34, z35, z36, z37, z38, z39, z40, z41, z42, z43, z44, z45, z46, z47, z48, z49, z50, z51, z52, z53, z54, z55, z56, z57, z58, z59, z60, z61, z62, z63, z64, z65, z66, z67, z68, z69, z70, z71, z72, z73, z74, z75, z76, z77, z78, z79, z80, z81, z82, z83, z84, z85, z86, z87, z88, z89, z90, z91, z92, z93, z94, z95, z96, z97, z98, z99, z100, z101, z102, z103, z104, z105, z106, z107, z108, z109, z110, z111, z112, z113, z114, z115, z116, z117, z118, z119, z120, z121, z122, z123, z124, z125, z126, z127, z128, z129, z130, z131, z132, z133, z134, z135, z136, z137, z138, z139, z140, z141, z142, z143, z144, z145, z146, z147, z148, z149, z150, z151, z152, z153, z154, z155, z156, z157, z158, z159, z160, z161, z162, z163, z164, z165, z166, z167, z168, z169, z170, z171, z172, z173, z174, z175, z176, z177, z178, z179, z180, z181, z182, z183, z184, z185, z186, z187, z188, z189, z190, z191, z192, z193, z194, z195, z196, z197, z198, z199, z200, z201, z202, z203, z204, z205, z206, z207, z208, z209, z210, z211, z212, z213, z214, z215, z216, z217, z218, z219, z220, z221, z222, z223, z224], defers := [] } w := by
  have HX := hid hx
  have H0 := hid h0
  have HN := hid hn
  have HG := hid hg
  have HB := hid hb
  have n1 : (n : Int) ≤ 140737488351232 := by omega
  clear hx h0 hn hg hb
  obtain ⟨i22, hi22, _, _, _⟩ := info_parts info22
  have HI := hid hi22
  clear hi22
  refine sfx_walk 7 rfl (by simp only [sfx]; rfl) ?_
  go_upto_region 15 with fail
  go_cut [10] (fun v w1 => Hid (Hl w w1 v (xl n X ++ ml 0)))
  case first =>
    have HE0 : Hid (xl n X ++ ml 0 = xl n X) := hid (by simp [ml])
    cases ao with
    | none =>
      obtain ⟨hn0, hc0⟩ := H0.out rfl
      subst hn0 hc0
      go_wp2_with (first | (at_builtin; refine wpList_append_own_none rfl _ _ 45 rfl w.heap.size 22 i22 1 under45 HI.out (.slice none 0 0) 0 [] rfl (World.ownsRow_nil _ _ _ _) rfl ?_))
      go_meet
      exact hid (Hl.start w)
    | some ad =>
      have HS : Hid (∀ j u, (u32s (xl n X))[j]? = some u → w.cell? (ad.add j) = some u) := hid (by
        intro j u hu
        have hj : j < n := by have := (List.getElem?_eq_some_iff.1 hu).1; rw [u32s_len, xl_len] at this; exact this
        obtain ⟨e, hb0⟩ := HX.out.ao (by omega)
        injection e with e
        subst e
        rw [Addr.add_mid, HB.out.cell (p := ⟨b, o + j, none⟩) hb0, (HX.out.at' j hj).1]
        rw [u32s, List.getElem?_map, xl_at n X j hj] at hu
        exact hu)
      have hby : (([] : List Int).length + n) * 4 ≤ 140737488355328 := by have := HN.out; simp; omega
      go_wp2_with (first | (at_builtin; refine wpList_append_w (W := w) rfl _ _ rfl (.slice none 0 0) [] rfl (Hl.start w) ad n c (xl n X) rfl (xl_len n X) HS.out hby ?_; intro v5 w5 H5 _; rw [List.nil_append] at H5; have H5' := hid H5; clear H5))
      go_meet
      rw [HE0.out]
      exact H5'
  case rest =>
  have HC := hcut
  clear hcut
  go_upto_region 16 with fail
  generalize hwc : wc = w1 at *
  go_cut [11] (fun i w3 => i = .int .i64 0 ∧ w3 = w1)
  case first =>
    go_wp2_with fail
    go_meet
    exact ⟨rfl, rfl⟩
  case rest =>
  obtain ⟨rfl, rfl⟩ := hcut
  refine (‹∀ (a : Act) (w : World), Code.wp Try.prog _ _ a w → _› _ _ ?_)
  go_cut [10, 11] (fun v i wc => Hid (Hl w wc v (xl n X ++ ml 300)))
  case first =>
    go_wp2_with fail
    go_loopw [10, 11] (fun v i wr => ∃ j : Nat, j ≤ 300 ∧ i = .int .i64 (j : Int) ∧ Hid (Hl w wr v (xl n X ++ ml j))) (fun _ i _ => 300 - (intOf i).toNat)
    case atStart => exact ⟨0, Nat.zero_le _, rfl, HC⟩
    case round =>
      obtain ⟨j, hj, rfl, F⟩ := hrel
      clear HC
      by_cases hlt : j < 300
      · have c1 : (j : Int) < 300 := by omega
        have e1 : (j : Int) % 4294967296 = (j : Int) := by omega
        have HT : Hid (xl n X ++ ml (j + 1) = xl n X ++ ml j ++ [(j : Int)]) := hid (by rw [ml_succ, List.append_assoc])
        have hby : ((xl n X ++ ml j).length + 1) * 4 ≤ 140737488355328 := by rw [List.length_append, ml_len, xl_len]; have := HN.out; omega
        obtain ⟨LL, hLL⟩ : ∃ LL, LL = xl n X ++ ml j := ⟨_, rfl⟩
        rw [← hLL] at F hby HT
        clear hLL
        go_wp2_with (first | (at_builtin; refine wpList_append_w (W := w) rfl _ _ rfl u10 LL rfl (F.out.on (below_one _ _)) ⟨wr.heap.size, 0, none⟩ 1 1 [(j : Int)] rfl rfl (new_src _ _) hby ?_; intro v' w2 H2 _; have H2' : Hid _ := hid H2; clear H2))
        go_roundw
        case rel => exact ⟨j + 1, by omega, by go_num, by rw [HT.out]; exact H2'⟩
        case measure => simp [intOf] <;> omega
      · obtain rfl : j = 300 := by omega
        go_wp2_with fail
        go_meet
        exact F
  case rest =>
    have HF := hcut
    clear hcut HC
    obtain ⟨ao', cl, hv, hform⟩ := HF.out.form
    have hlen : (xl n X ++ ml 300).length = n + 300 := by rw [List.length_append, xl_len, ml_len]
    obtain ⟨gl, hao, hlo, hlt, _, hcell⟩ := hform (by omega)
    have hcap : n + 300 ≤ cl := by
      have hf := HF.out
      rw [hv] at hf
      rcases hf.cap with ⟨_, _, h2⟩ | ⟨h1, _⟩
      · omega
      · omega
    rw [hv, hao, hlen]
    exact (‹∀ (a : Act) (w : World), Code.wp Try.prog _ _ a w → _› _ _ (back_b W _ ao n c b o X HX.out n1 g5 gl cl hcap f5 ⟨HG.out.on HF.out.below, hlt, fun k hk => hcell k _ (xml_at n X k hk), below_on HB.out HF.out.below⟩ _ _ _ _ _ _ _ _ _ _ _ _ _ _ _ _ _ _ _ _ _ _ _ _ _ _ _ _ _ _ _ _ _ _ _ _ _ _ _ _ _ _ _ _ _ _ _ _ _ _ _ _ _ _ _ _ _ _ _ _ _ _ _ _ _ _ _ _ _ _ _ _ _ _ _ _ _ _ _ _ _ _ _ _ _ _ _ _ _ _ _ _ _ _ _ _ _ _ _ _ _ _ _ _ _ _ _ _ _ _ _ _ _ _ _ _ _ _ _ _ _ _ _ _ _ _ _ _ _ _ _ _ _ _ _ _ _ _ _ _ _ _ _ _ _ _ _ _ _ _ _ _ _ _ _ _ _ _ _ _ _ _ _ _ _ _ _ _ _ _ _ _ _ _ _ _ _ _ _ _ _ _ _ _ _ _ _ _ _ _ _ _ _ _ _ _ _ _ _ _ _ _ _ _ _ _ _ _ _ _ _ _ _ _ _ _ _ _ _ _ _ _))
end Go.Proofs.Ythpkodkilbcepaa
