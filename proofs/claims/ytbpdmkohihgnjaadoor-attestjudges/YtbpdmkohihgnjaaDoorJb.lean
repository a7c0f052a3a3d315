/- The law AttestJudges 4: its middle. -/
import Derived.Test.YtbpdmkohihgnjaaDoorJa
namespace Go.Proofs.YtbpdmkohihgnjaaDoor
open Go.RowKit
set_option maxHeartbeats 8000000
set_option maxRecDepth 100000
theorem spl_mid {α : Type} (a b b' c : List α) (off : Nat) (h : a.length = off) (h2 : b.length = b'.length) : splice (a ++ (b ++ c)) off b' = a ++ (b' ++ c) := by
  subst h
  rw [splice, List.take_left, ← h2, ← List.append_assoc a b c, List.drop_left' (by simp)]
theorem spl0 {m d t x : List Int} (hm : m.length = 8) (hx : x.length = 8) : splice ((quoL m d t).map (Value.int .u32)) 0 (x.map (Value.int .u32)) = (quoL x d t).map (Value.int .u32) := by
  have := spl_mid [] (m.map (Value.int .u32)) (x.map (Value.int .u32)) ((d ++ t).map (Value.int .u32)) 0 rfl (by simp [hm, hx])
  simpa [quoL] using this
theorem spl8 {m d t x : List Int} (hm : m.length = 8) (hd : d.length = 8) (hx : x.length = 8) : splice ((quoL m d t).map (Value.int .u32)) 8 (x.map (Value.int .u32)) = (quoL m x t).map (Value.int .u32) := by
  have := spl_mid (m.map (Value.int .u32)) (d.map (Value.int .u32)) (x.map (Value.int .u32)) (t.map (Value.int .u32)) 8 (by simp [hm]) (by simp [hd, hx])
  simpa [quoL] using this
theorem spl16 {m d t x : List Int} (hm : m.length = 8) (hd : d.length = 8) (ht : t.length = 8) (hx : x.length = 8) : splice ((quoL m d t).map (Value.int .u32)) 16 (x.map (Value.int .u32)) = (quoL m d x).map (Value.int .u32) := by
  have := spl_mid ((m ++ d).map (Value.int .u32)) (t.map (Value.int .u32)) (x.map (Value.int .u32)) [] 16 (by simp [hm, hd]) (by simp [ht, hx])
  simpa [quoL] using this
/-- What was there when the law began. -/
structure J0 (W : World) (E : Nat → Addr) (ao : Option Addr) (R : List Rl) : Prop where
  tb : Tabs W
  es : ErrS W E
  ru : RulesAt W ao R
theorem JL.put8 {W : World} {E : Nat → Addr} {g4 g7 g8 : Nat} {ao : Option Addr} {n c : Nat} {ot : Bool} {R : List Rl} {s o q : List Int} {ri sa : Bool} {k m d t : List Int} {w w' : World} (h0 : J0 W E ao R) (h : JL W E g4 g7 g8 ao n c ot R s o q ri sa k m d t w) (hb : But g8 w w') (m' d' t' : List Int) (hc : Blk w' g8 .u32 38 (quoL m' d' t')) : JL W E g4 g7 g8 ao n c ot R s o q ri sa k m' d' t' w' := by
  have h1 := h.l4
  have h2 := h.l7
  have h3 := h.l8
  have hB : Below W.heap.size W w' := h.bl.trans (hb.below (by omega) h.bl.size)
  exact ⟨hB, h0.tb.on hB, h0.es.on hB, h.p3.but hb (by omega), h.c4.but hb (by omega), hb.blk h.b7 (by omega), hc, h0.ru.on hB, h1, h2, h3, h.w13, h.rw⟩
theorem range_but {w w' : World} {b o g : Nat} {cs : List Value} (h : w.rangeAt b o cs) (hb : But g w w') (hl : b < w.heap.size) (hn : b ≠ g) : w'.rangeAt b o cs := fun j v hv => by
  have := h j v hv
  rw [← this]
  simp only [World.cell?]
  rw [hb.block b hl hn]
theorem wp_store_part {P : Program} {op : Oper} {a : Act} {w : World} {K : Act → World → Prop} {Q : Exit → Act → World → Prop} (ty : TypeId) (x y : Operand) (ho : op.op = .store ty x y)
    (g off : Nat) (L' : List Int) (hx : a.eval x = .pointer (some ⟨g, off, none⟩)) (hy : a.eval y = Ag L') {e : TypeId} {cs : List Value} (hg : Cel w g e cs) (hi : (P.info? ty).map (·.size) = some L'.length) (hl : off + L'.length ≤ cs.length)
    (h : ∀ w', Cel w' g e (splice cs off (L'.map (Value.int .u32))) → But g w w' → w'.heap.size = w.heap.size → K (a.put op.dst undef) w') : op.wp P a w K Q := by
  have := h _ (setRow_heap w g _ (splice cs off (L'.map (Value.int .u32))).toArray e _ hg) (but_setRow w g _) (by simp)
  unfold Oper.wp execOp
  simp only [ho, hx, hy, Instr.storeAt, Instr.sureAddr, Sem.run_bind, Sem.run_pure, Result.andThen_ok, run_storeVar_part w g off ty e L' hg hi hl]
  exact this
attribute [-simp] Tryd.isAgg23 Tryd.zeroValue23 Tryd.isAgg38 Tryd.zeroValue38 Tryd.isAgg36 Tryd.zeroValue36 Tryd.isAgg40 Tryd.zeroValue40
theorem judges_5 (W w : World) (E : Nat → Addr) (g4 g7 g8 : Nat) (ao : Option Addr) (n c : Nat) (ot : Bool) (R : List Rl) (s o q : List Int) (ri sa : Bool) (k m d t : List Int) (h0 : J0 W E ao R) (hF : JF W ao n R s o q k m d t) (hJ : JL W E g4 g7 g8 ao n c ot R s o q ri sa k m d t w) (K' : Act → World → Prop)
    (hK : ∀ a w, Code.wp Tryd.prog (sfx 6 (Tryd.f4.body.getD .skip)) (bodyPost Tryd.prog Tryd.f4 fun x w' => x = .returned (.bool true) ∧ Below W.heap.size W w') a w → K' a w) (z0 z1 z2 z5 z9 z10 z11 z12 z13 z14 z15 z16 z17 z18 z19 z20 z21 z22 z23 z24 z25 z26 z27 z28 z29 z30 z31 z32 z33 z34 z35 z36 z37 z38 z39 z40 z41 z42 z43 z44 z45 z46 z47 z48 z49 z50 z51 z52 z53 z54 z55 z56 z57 z58 z59 z60 z61 z62 z63 z64 z65 z66 z67 z68 z69 z70 z71 z72 z73 z74 z75 z76 z77 z78 z79 z80 z81 z82 z83 z84 z85 z86 z87 z88 z89 z90 z91 z92 z93 z94 z95 z96 z97 z98 z99 z100 z101 z102 z103 z104 z105 z106 z107 z108 z109 z110 z111 z112 z113 z114 z115 z116 z117 z118 z119 z120 z121 z122 z123 z124 z125 z126 z127 z128 z129 z130 z131 z132 z133 z134 z135 z136 z137 z138 z139 z140 z141 z142 z143 z144 z145 z146 z147 z148 z149 z150 z151 z152 z153 : Value) :
    Code.wp Tryd.prog (hdx 5 (Tryd.f4.body.getD .skip)) (Exit.then K' (bodyPost Tryd.prog Tryd.f4 fun x w' => x = .returned (.bool true) ∧ Below W.heap.size W w')) { tmps := #[z0, z1, z2, .pointer (some ⟨W.heap.size, 0, none⟩), .pointer (some ⟨g4, 0, none⟩), z5, .bool false, .pointer (some ⟨g7, 0, none⟩), .pointer (some ⟨g8, 0, none⟩), z9, z10, z11, z12, z13, z14, z15, z16, z17, z18, z19, z20, z21, z22, z23, z24, z25, z26, z27, z28, z29, z30, z31, z32, z33, z34, z35, z36, z37, z38, z39, z40, z41, z42, z43, z44, z45, z46, z47, z48, z49, z50, z51, z52, z53, z54, z55, z56, z57, z58, z59, z60, z61, z62, z63, z64, z65, z66, z67, z68, z69, z70, z71, z72, z73, z74, z75, z76, z77, z78, z79, z80, z81, z82, z83, z84, z85, z86, z87, z88, z89, z90, z91, z92, z93, z94, z95, z96, z97, z98, z99, z100, z101, z102, z103, z104, z105, z106, z107, z108, z109, z110, z111, z112, z113, z114, z115, z116, z117, z118, z119, z120, z121, z122, z123, z124, z125, z126, z127, z128, z129, z130, z131, z132, z133, z134, z135, z136, z137, z138, z139, z140, z141, z142, z143, z144, z145, z146, z147, z148, z149, z150, z151, z152, z153], defers := [] } w := by
  obtain ⟨Z, hZ⟩ : ∃ Z : List Int, Z = List.replicate 8 0 := ⟨_, rfl⟩
  have hZl : Z.length = 8 := by rw [hZ]; simp
  have hz : ∀ w, (zeroValue 23).run Tryd.prog w = .ok (.agg (Z.map (Value.int .u32)).toArray) w := fun w => by rw [Tryd.zeroValue23, hZ]; rfl
  clear hZ
  have HT : Hid (∀ w, Tabs w → Calls Tryd.prog 10 #[.agg (k.map (Value.int .u32)).toArray, .agg (m.map (Value.int .u32)).toArray, .agg (d.map (Value.int .u32)).toArray] w fun e W' => e = .returned (.agg ((tagOf k m d).map (Value.int .u32)).toArray) ∧ Below w.heap.size w W') := hid fun w hw => tag_any w hw k m d hF.hk hF.hm hF.hd hF.wk hF.wm hF.wd
  have hTl := tagOf_length k m d
  have wT : Wds (tagOf k m d) := hmac_wds _ _
  have Y0 := hid hJ
  have HF := hid hF
  have H0 := hid h0
  have hk := hF.hk
  have hm := hF.hm
  have hd := hF.hd
  have HW := hid wT
  obtain ⟨T, hT⟩ : ∃ T, tagOf k m d = T := ⟨_, rfl⟩
  have HTE := hid hT
  rw [hT] at HT hTl HW
  clear hF hJ h0 wT hT
  refine hd_walk 5 rfl (by simp only [hdx, sfx]; rfl) (by simp only [sfx]; rfl) hK ?_
  clear hK
  intro hK
  go_wp2_with (first | (refine wpList_load_mid rfl 23 _ rfl g7 0 rfl _ _ (cel_range (blk_cel Y0.out.b7)) Tryd.underlying23 rfl (by rw [List.length_map, hk]; exact size26) ?_) | (refine wpList_load_mid rfl 23 _ rfl g8 0 rfl _ _ (quo0 (cel_range (blk_cel Y0.out.b8))) Tryd.underlying23 rfl (by rw [List.length_map, hm]; exact size26) ?_) | (refine wpList_load_mid rfl 23 _ rfl g8 8 rfl _ _ (by have := quo8 (cel_range (blk_cel Y0.out.b8)) HF.out.hm; rwa [Nat.zero_add] at this) Tryd.underlying23 rfl (by rw [List.length_map, hd]; exact size26) ?_))
  refine (HT.out _ Y0.out.tb).mono ?_
  rintro e w1 ⟨rfl, hb⟩
  have Y1 := hid (Y0.out.on hb)
  clear hb Y0
  go_upto_region 8 with (first | (refine wpList_store_but rfl 23 _ _ rfl w1.heap.size T rfl rfl (Blk.new w1 .u32 23 Z) (by rw [hTl]; exact size26) (by rw [hZl, hTl]) ?_; intro w2 bT hbt hsz; have Y2 : Hid (JL W E g4 g7 g8 ao n c ot R s o q ri sa k m d t w2 ∧ Blk w2 w1.heap.size .u32 23 T ∧ g8 < w1.heap.size) := hid ⟨Y1.out.on (but_box hbt), bT, Y1.out.b8.lt⟩; clear bT hbt hsz))
  clear Y1
  generalize w1.heap.size = g9 at *
  clear HT hz
  have cc := (cla40 Y2.out.1.c4 HF.out.hs HF.out.ho HF.out.hq).1
  cases ri
  · go_upto_region 10 with fail
    exact judges_7 W w2 E g4 g7 g8 g9 ao n c ot R s o q false sa k m d t HF.out Y2.out.1 (by rw [HTE.out]; exact Y2.out.2.1) _ ‹∀ (a : Act) (w : World), Code.wp Tryd.prog _ _ a w → _› _ _ _ _ _ _ _ _ _ _ _ _ _ _ _ _ _ _ _ _ _ _ _ _ _ _ _ _ _ _ _ _ _ _ _ _ _ _ _ _ _ _ _ _ _ _ _ _ _ _ _ _ _ _ _ _ _ _ _ _ _ _ _ _ _ _ _ _ _ _ _ _ _ _ _ _ _ _ _ _ _ _ _ _ _ _ _ _ _ _ _ _ _ _ _ _ _ _ _ _ _ _ _ _ _ _ _ _ _ _ _ _ _ _ _ _ _ _ _ _ _ _ _ _ _ _ _ _ _ _ _ _ _ _ _ _ _ _ _ _ _ _ _ _ _ _ _ _
  · go_upto_region 10 with (first | (revert Y2; intro Y2; refine wpList_load_mid rfl 23 _ rfl g9 0 rfl _ _ (cel_range (blk_cel Y2.out.2.1)) Tryd.underlying23 rfl (by rw [List.length_map, hTl]; exact size26) ?_) | (revert Y2; intro Y2; refine wpList_store_part rfl 23 _ _ rfl g8 16 T rfl rfl (blk_cel Y2.out.1.b8) (by rw [hTl]; exact size26) (by rw [List.length_map, hTl, quoL_length HF.out.hm HF.out.hd HF.out.ht]; decide) ?_; intro w3 hc3 hb3 hs3; have Y3 : Hid (JL W E g4 g7 g8 ao n c ot R s o q true sa k m d T w3 ∧ Blk w3 g9 .u32 23 T) := hid ⟨Y2.out.1.put8 H0.out hb3 m d T (by rw [spl16 HF.out.hm HF.out.hd HF.out.ht hTl] at hc3; exact hc3), hb3.blk Y2.out.2.1 (by have := Y2.out.2.2; omega)⟩; clear hc3 hb3 hs3 Y2))
    exact judges_7 W w3 E g4 g7 g8 g9 ao n c ot R s o q true sa k m d T { HF.out with ht := hTl, wt := HW.out } Y3.out.1 (by rw [HTE.out]; exact Y3.out.2) _ ‹∀ (a : Act) (w : World), Code.wp Tryd.prog _ _ a w → _› _ _ _ _ _ _ _ _ _ _ _ _ _ _ _ _ _ _ _ _ _ _ _ _ _ _ _ _ _ _ _ _ _ _ _ _ _ _ _ _ _ _ _ _ _ _ _ _ _ _ _ _ _ _ _ _ _ _ _ _ _ _ _ _ _ _ _ _ _ _ _ _ _ _ _ _ _ _ _ _ _ _ _ _ _ _ _ _ _ _ _ _ _ _ _ _ _ _ _ _ _ _ _ _ _ _ _ _ _ _ _ _ _ _ _ _ _ _ _ _ _ _ _ _ _ _ _ _ _ _ _ _ _ _ _ _ _ _ _ _ _ _ _ _ _ _ _ _
end Go.Proofs.YtbpdmkohihgnjaaDoor
