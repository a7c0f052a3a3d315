/- quoteOf 47, Parse 18. -/
import Derived.Test.YtbpdmkohihgnjaaDoorFb
namespace Go.Proofs.YtbpdmkohihgnjaaDoor
open Go.RowKit
set_option maxHeartbeats 8000000
set_option maxRecDepth 100000
/-- What stands at the places of a quote's digits. -/
def at8 (s : ByteArray) (a : Nat) : ByteArray := s.extract a (a + 64)
def qok (s : ByteArray) : Prop := s.size = 224 ∧ ok8 (at8 s 20) ∧ ok8 (at8 s 90) ∧ ok8 (at8 s 159) ∧ fmtQ (w8 (at8 s 20)) (w8 (at8 s 90)) (w8 (at8 s 159)) = s
instance (s : ByteArray) : Decidable (qok s) := by unfold qok; exact inferInstance
def zer24 : List Int := List.replicate 24 0
def pq (s : ByteArray) : List Int := if qok s then quoL (w8 (at8 s 20)) (w8 (at8 s 90)) (w8 (at8 s 159)) else zer24
def pE (E : Nat → Addr) (s : ByteArray) : Value := if qok s then .nilIface else .iface 235 (.pointer (some (E 5)))
theorem pq_length (s : ByteArray) : (pq s).length = 24 := by unfold pq; split <;> simp [quoL, w8_length, zer24]
theorem ag24x (a0 a1 a2 a3 a4 a5 a6 a7 b0 b1 b2 b3 b4 b5 b6 b7 c0 c1 c2 c3 c4 c5 c6 c7 : Int) : Tryd.prog.built 38 [(0, Ag [a0, a1, a2, a3, a4, a5, a6, a7]), (1, Ag [b0, b1, b2, b3, b4, b5, b6, b7]), (2, Ag [c0, c1, c2, c3, c4, c5, c6, c7])] = some ((quoL [a0, a1, a2, a3, a4, a5, a6, a7] [b0, b1, b2, b3, b4, b5, b6, b7] [c0, c1, c2, c3, c4, c5, c6, c7]).map (Value.int .u32)).toArray := by kernel_rfl
theorem ag24 (a b c : List Int) (ha : a.length = 8) (hb : b.length = 8) (hc : c.length = 8) : Tryd.prog.built 38 [(0, Ag a), (1, Ag b), (2, Ag c)] = some ((quoL a b c).map (Value.int .u32)).toArray :=
  match a, ha with
  | [a0, a1, a2, a3, a4, a5, a6, a7], _ =>
    match b, hb with
    | [b0, b1, b2, b3, b4, b5, b6, b7], _ =>
      match c, hc with
      | [c0, c1, c2, c3, c4, c5, c6, c7], _ => ag24x a0 a1 a2 a3 a4 a5 a6 a7 b0 b1 b2 b3 b4 b5 b6 b7 c0 c1 c2 c3 c4 c5 c6 c7
theorem toList_ne {t s : ByteArray} (h : t ≠ s) : (t.toList == s.toList) = false := by
  rw [ByteArray.toList_eq t, ByteArray.toList_eq s]
  simp only [beq_eq_false_iff_ne, ne_eq]
  intro e
  apply h
  cases t
  cases s
  congr
  exact Array.toList_inj.1 e
theorem built0 : Tryd.prog.built 38 [] = some (zer24.map (Value.int .u32)).toArray := by kernel_rfl
theorem wpList_build_f {ops : Array Oper} {rest : List Oper} {o : Oper} {a : Act} {w : World} {Q : Exit → Act → World → Prop} (hgd : o.guard = none) (t : TypeId) (xs : Array (Nat × Operand)) (ho : o.op = .build t xs)
    (ps : Array (Nat × Value)) (hp : xs.map (fun x => (x.1, a.eval x.2)) = ps) (cs : Array Value) (hb : Tryd.prog.built t ps.toList = some cs)
    (h : wpList Tryd.prog ops Q rest (a.put o.dst (.agg cs)) w) : wpList Tryd.prog ops Q (o :: rest) a w := by
  refine wpList_plain hgd fun K hK => ?_
  unfold Oper.wp execOp
  simp only [ho, Sem.run_bind, hp, run_build w t ps _ hb, Result.andThen_ok]
  exact hK _ _ h
theorem wpList_build_q {ops : Array Oper} {rest : List Oper} {o : Oper} {a : Act} {w : World} {Q : Exit → Act → World → Prop} (hgd : o.guard = none) (x0 x1 x2 : Operand) (ho : o.op = .build 38 #[(0, x0), (1, x1), (2, x2)])
    (m d t : List Int) (hm : m.length = 8) (hd : d.length = 8) (ht : t.length = 8) (h0 : a.eval x0 = Ag m) (h1 : a.eval x1 = Ag d) (h2 : a.eval x2 = Ag t)
    (h : wpList Tryd.prog ops Q rest (a.put o.dst (.agg ((quoL m d t).map (Value.int .u32)).toArray)) w) : wpList Tryd.prog ops Q (o :: rest) a w :=
  wpList_build_f hgd 38 _ ho #[(0, Ag m), (1, Ag d), (2, Ag t)] (by simp only [List.map_toArray, List.map_cons, List.map_nil, h0, h1, h2]) _ (ag24 m d t hm hd ht) h
theorem wpList_load_mg {P : Program} {ops : Array Oper} {rest : List Oper} {o : Oper} {a : Act} {w : World} {Q : Exit → Act → World → Prop} (hw : Region.wanted o (yielded ops a.tmps) = true) (ty : TypeId) (x : Operand) (ho : o.op = .load ty x)
    (b off : Nat) (hx : a.eval x = .pointer (some ⟨b, off, none⟩)) (cs : List Value) (d : TypeDesc) (hc : w.rangeAt b off cs) (hu : P.underlying ty = some d) (hd : d.isRow = true) (hi : (P.info? ty).map (·.size) = some cs.length)
    (h : wpList P ops Q rest (a.put o.dst (.agg cs.toArray)) w) : wpList P ops Q (o :: rest) a w := by
  rw [wpList, if_pos hw]
  refine .inl ?_
  exact wp_load_mid ty x ho b off hx cs d hc hu hd hi h
structure QS0 (W : World) (E : Nat → Addr) (Z : List Int) (w : World) : Prop where
  bl : Below W.heap.size W w
  tb : TabW w
  es : ErrS w E
  b2 : Blk w W.heap.size .u32 38 Z
theorem QS0.on {W : World} {E : Nat → Addr} {Z : List Int} {w w' : World} (h : QS0 W E Z w) (hb : Below w.heap.size w w') : QS0 W E Z w' := ⟨below_on h.bl hb, h.tb.below hb (by have := h.b2.lt; omega), h.es.on hb, h.b2.on hb⟩
structure QS1 (W : World) (E : Nat → Addr) (Z : List Int) (w : World) : Prop where
  bl : Below W.heap.size W w
  es : ErrS w E
  b2 : Blk w W.heap.size .u32 38 Z
theorem ret_q2 {P : Program} {fn : Func} {p q : Tmp} {ty e : TypeId} {d : TypeDesc} {a : Act} {w : World} {post : Ending → World → Prop} (hr : fn.results = #[.cell p ty, .tmp q]) (hd : a.defers = []) (g : Nat) (cs : List Value)
    (hp : a.tmps.getD p undef = .pointer (some ⟨g, 0, none⟩)) (hb : Cel w g e cs) (hu : P.underlying ty = some d) (hdd : (match d with | .struct _ | .array _ _ => true | _ => false) = true) (hi : (P.info? ty).map (·.size) = some cs.length) (h : post (.returned (.tuple #[.agg cs.toArray, a.tmps.getD q undef])) w) :
    bodyPost P fn post .ret a w := by
  refine bodyPost_ret (v := .tuple #[.agg cs.toArray, a.tmps.getD q undef]) ?_ hd h
  have hp' : a.tmps[p]?.getD undef = .pointer (some ⟨g, 0, none⟩) := by simpa using hp
  have := run_loadVar_row (P := P) w g e ty _ (0, 0) _ hb hu hdd (by rw [hi]; simp)
  simp [results, hr, hp', asAddr, this]
attribute [-simp] Tryd.isAgg23 Tryd.zeroValue23 Tryd.isAgg38 Tryd.zeroValue38
theorem quoteOf_any (W : World) (hT : TabW W) (E : Nat → Addr) (hE : ErrS W E) (s : ByteArray) (hs : s.size ≤ 140737488355328) :
    Calls Tryd.prog 47 #[.string s] W fun e W' => e = .returned (.tuple #[Ag (pq s), pE E s]) ∧ Below W.heap.size W W' := by
  obtain ⟨Z, hZ⟩ : ∃ Z : List Int, Z = List.replicate 8 0 := ⟨_, rfl⟩
  have hZl : Z.length = 8 := by rw [hZ]; simp
  have hz : ∀ w, (zeroValue 23).run Tryd.prog w = .ok (.agg (Z.map (Value.int .u32)).toArray) w := fun w => by rw [Tryd.zeroValue23, hZ]; rfl
  clear hZ
  have hy : ∀ w, (zeroValue 38).run Tryd.prog w = .ok (.agg (zer24.map (Value.int .u32)).toArray) w := fun w => by rw [Tryd.zeroValue38]; rfl
  have hYl : zer24.length = 24 := rfl
  have HBu : Hid (∀ w, (Instr.build 38 #[]).run Tryd.prog w = .ok (.agg (zer24.map (Value.int .u32)).toArray) w) := hid (fun w => run_build w 38 #[] _ built0)
  obtain ⟨X, hX⟩ : ∃ X, X = W.alloc (Obj.cells (List.map (Value.int IntKind.u32) zer24).toArray 38) := ⟨_, rfl⟩
  have Y0 : Hid (QS0 W E zer24 X) := hid (by
    have HB : Below W.heap.size W X := by rw [hX]; exact below_one W _
    refine ⟨HB, hT.below HB (by have := hE.sz; omega), hE.on HB, ?_⟩
    rw [hX]; exact Blk.new W .u32 38 zer24)
  have HEW := hid hE
  by_cases h224 : s.size = 224
  rotate_left
  · have hq : ¬ qok s := fun h => h224 h.1
    have HR := hid (show Ag (pq s) = Ag zer24 by unfold pq; rw [if_neg hq])
    have HE := hid (show pE E s = .iface 235 (.pointer (some (E 5))) by unfold pE; rw [if_neg hq])
    have i1 : ((s.size : Int) != 224) = true := by simp; omega
    generalize zer24 = Z24 at *
    clear hq h224 hT hE
    have i2 : (s.size : Int) ≤ 140737488355328 := by omega
    clear hs
    go_enter Tryd.func47, Tryd.ntmps47
    go_upto_region 1 with fail
    rw [← hX]
    clear hX
    go_upto_region 2 with fail
    have Y1 : Hid (QS1 W E Z24 X.drew) := hid ⟨Y0.out.bl.drew, Y0.out.es.on (Below.refl _ _).drew, Y0.out.b2⟩
    clear Y0
    refine wp_region_held_drew (S := fun w => QS1 W E Z24 w) (by kernel_rfl) Y1.out (fun hHeld => ?_)
    generalize World.drew _ = wz at *
    refine wpAnyH_take (i := 0) (oi := { dst := some 14, op := Op.build 38 #[], type := 38, pos := "quote.go:45", after := #[], guard := none }) (v := .agg (Z24.map (Value.int .u32)).toArray) rfl (by kernel_rfl) (by kernel_rfl) (by kernel_rfl) (fun _ _ _ h => h) (Or.inl ⟨by rfl, by intro w hSw; have hbu := HBu.out w; go_simp⟩) (by assumption) ?_
    simp only [Act.put, List.setIfInBounds_toArray, List.set_cons_zero, List.set_cons_succ]
    refine wpAnyH_take (i := 1) (oi := { dst := some 15, op := Op.load 87 (Operand.global 5), type := 87, pos := "quote.go:45", after := #[{ on := 2, ground := Ground.gcOnly Departure.lateStores }], guard := none }) (v := .iface 235 (.pointer (some (E 5)))) rfl (by kernel_rfl) (by kernel_rfl) (by kernel_rfl) (fun _ _ _ h => h) (Or.inl ⟨by rfl, by intro w hSw; have hc := hSw.es.cell 5 (by decide) (by decide); go_simp⟩) (by assumption) ?_
    simp only [Act.put, List.setIfInBounds_toArray, List.set_cons_zero, List.set_cons_succ]
    refine wpAnyH_ready (rs := [2]) (by kernel_rfl) (by simp) (AllReadyH.cons (o := { dst := none, op := Op.store 38 (Operand.tmp 2) (Operand.tmp 14), type := 0, pos := "quote.go:45", after := #[{ on := 0, ground := Ground.data }, { on := 0, ground := Ground.phase }, { on := 1, ground := Ground.textOnly Departure.lateStores }], guard := none }) rfl (fun KQ hK => ?_) AllReadyH.nil)
    rw [if_pos (by rfl)]
    refine wp_store_st 38 _ _ rfl W.heap.size (Z24.map (Value.int .u32)) rfl rfl (blk_cel Y1.out.b2) (by rw [List.length_map, hYl]; exact size38) rfl (List.all_eq_true.2 (ints_oneCell .u32 _)) ?_
    intro w21 hc21 hb21 hs21
    have Y2 : Hid (QS1 W E Z24 w21) := hid (by have hB := Y1.out.bl.trans (hb21.below (Nat.le_refl _) Y1.out.bl.size); exact ⟨hB, HEW.out.on hB, hc21⟩)
    clear hc21 hb21 hs21
    refine hK.out _ _ Y2.out (fun hHeld => ?_)
    clear hK KQ
    try simp only [Act.put]
    refine wpAnyH_ready (rs := [3]) (by kernel_rfl) (by simp) (AllReadyH.cons (o := { dst := some 3, op := Op.assign (Operand.tmp 15), type := 87, pos := "quote.go:45", after := #[{ on := 1, ground := Ground.data }, { on := 2, ground := Ground.chain }, { on := 0, ground := Ground.phase }, { on := 1, ground := Ground.phase }, { on := 2, ground := Ground.phase }], guard := none }) rfl (fun KQ hK => ?_) AllReadyH.nil)
    go_simp
    refine hK.out _ _ Y2.out (fun hHeld => ?_)
    clear hK KQ
    try simp only [Act.put, List.setIfInBounds_toArray, List.set_cons_zero, List.set_cons_succ]
    refine wpAnyH_done (by kernel_rfl) ?_ _
    go_wp2_with fail
    refine ret_q2 rfl rfl W.heap.size (Z24.map (Value.int .u32)) rfl (blk_cel Y2.out.b2) Tryd.underlying38 rfl (by rw [List.length_map, hYl]; exact size38) ⟨by rw [HR.out, HE.out]; rfl, Y2.out.bl⟩
  · have HA := hid (fun w => eightAt_any w s 20 (by omega) hs)
    have HB9 := hid (fun w => eightAt_any w s 90 (by omega) hs)
    have HC := hid (fun w => eightAt_any w s 159 (by omega) hs)
    have la := w8_length (s.extract 20 (20 + 64))
    have lb := w8_length (s.extract 90 (90 + 64))
    have lc := w8_length (s.extract 159 (159 + 64))
    have HFm : Hid (∀ w, TabW w → 0 < w.heap.size → Calls Tryd.prog 17 #[Ag (quoL (w8 (s.extract 20 (20 + 64))) (w8 (s.extract 90 (90 + 64))) (w8 (s.extract 159 (159 + 64))))] w fun e W' => e = .returned (.string (fmtQ (w8 (s.extract 20 (20 + 64))) (w8 (s.extract 90 (90 + 64))) (w8 (s.extract 159 (159 + 64))))) ∧ Below w.heap.size w W') := hid fun w h1 h2 => format_any w h1 h2 _ _ _ la lb lc (w8_wds _) (w8_wds _) (w8_wds _)
    have HQ : Hid (qok s ↔ decide (ok8 (s.extract 20 (20 + 64))) = true ∧ decide (ok8 (s.extract 90 (90 + 64))) = true ∧ decide (ok8 (s.extract 159 (159 + 64))) = true ∧ fmtQ (w8 (s.extract 20 (20 + 64))) (w8 (s.extract 90 (90 + 64))) (w8 (s.extract 159 (159 + 64))) = s) := hid (by
      simp only [decide_eq_true_eq]
      exact ⟨fun h => h.2, fun h => ⟨h224, h⟩⟩)
    have HP := hid (show qok s → Ag (pq s) = Ag (quoL (w8 (s.extract 20 (20 + 64))) (w8 (s.extract 90 (90 + 64))) (w8 (s.extract 159 (159 + 64)))) from fun h => by unfold pq at8; rw [if_pos h])
    have HN := hid (show ¬ qok s → Ag (pq s) = Ag zer24 from fun h => by unfold pq; rw [if_neg h])
    have HPE := hid (show qok s → pE E s = .nilIface from fun h => by unfold pE; rw [if_pos h])
    have HNE := hid (show ¬ qok s → pE E s = .iface 235 (.pointer (some (E 5))) from fun h => by unfold pE; rw [if_neg h])
    have hfs := fmtQ_size la lb lc
    generalize fmtQ (w8 (s.extract 20 (20 + 64))) (w8 (s.extract 90 (90 + 64))) (w8 (s.extract 159 (159 + 64))) = F at *
    generalize decide (ok8 (s.extract 20 (20 + 64))) = oa at *
    generalize decide (ok8 (s.extract 90 (90 + 64))) = ob at *
    generalize decide (ok8 (s.extract 159 (159 + 64))) = oc at *
    generalize w8 (s.extract 20 (20 + 64)) = A at *
    generalize w8 (s.extract 90 (90 + 64)) = B at *
    generalize w8 (s.extract 159 (159 + 64)) = C at *
    have hQl := quoL_length la lb lc
    have i1 : ((s.size : Int) != 224) = false := by simp; omega
    generalize zer24 = Z24 at *
    clear hT hE h224 hs
    unfold Ag at HA HB9 HC HFm
    go_enter Tryd.func47, Tryd.ntmps47
    go_upto_region 1 with fail
    rw [← hX]
    clear hX
    go_upto_region 3 with fail
    go_wp2_with fail
    refine (HA.out _).mono ?_
    rintro e w1 ⟨rfl, hb⟩
    have Y1 := hid (Y0.out.on hb)
    clear hb Y0 HA
    go_upto_region 4 with (first | (refine wpList_store_but rfl 23 _ _ rfl w1.heap.size A rfl rfl (Blk.new w1 .u32 23 Z) (by rw [la]; exact size26) (by rw [hZl, la]) ?_; intro w2 bA hbt hsz; have Y2 : Hid (QS0 W E Z24 w2 ∧ Blk w2 w1.heap.size .u32 23 A) := hid ⟨Y1.out.on (but_box hbt), bA⟩; clear bA hbt hsz))
    generalize w1.heap.size = g4 at *
    clear Y1
    go_wp2_with fail
    refine (HB9.out _).mono ?_
    rintro e w3 ⟨rfl, hb⟩
    have Y3 : Hid (QS0 W E Z24 w3 ∧ Blk w3 g4 .u32 23 A) := hid ⟨Y2.out.1.on hb, Y2.out.2.on hb⟩
    clear hb Y2 HB9
    go_upto_region 5 with (first | (refine wpList_store_but rfl 23 _ _ rfl w3.heap.size B rfl rfl (Blk.new w3 .u32 23 Z) (by rw [lb]; exact size26) (by rw [hZl, lb]) ?_; intro w4 bB hbt hsz; have Y4 : Hid (QS0 W E Z24 w4 ∧ Blk w4 g4 .u32 23 A ∧ Blk w4 w3.heap.size .u32 23 B) := hid ⟨Y3.out.1.on (but_box hbt), Y3.out.2.on (but_box hbt), bB⟩; clear bB hbt hsz))
    generalize w3.heap.size = g6 at *
    clear Y3
    go_wp2_with fail
    refine (HC.out _).mono ?_
    rintro e w5 ⟨rfl, hb⟩
    have Y5 : Hid (QS0 W E Z24 w5 ∧ Blk w5 g4 .u32 23 A ∧ Blk w5 g6 .u32 23 B) := hid ⟨Y4.out.1.on hb, Y4.out.2.1.on hb, Y4.out.2.2.on hb⟩
    clear hb Y4 HC
    go_upto_region 6 with (first | (refine wpList_store_but rfl 23 _ _ rfl w5.heap.size C rfl rfl (Blk.new w5 .u32 23 Z) (by rw [lc]; exact size26) (by rw [hZl, lc]) ?_; intro w6 bC hbt hsz; have Y6 : Hid (QS0 W E Z24 w6 ∧ Blk w6 g4 .u32 23 A ∧ Blk w6 g6 .u32 23 B ∧ Blk w6 w5.heap.size .u32 23 C) := hid ⟨Y5.out.1.on (but_box hbt), Y5.out.2.1.on (but_box hbt), Y5.out.2.2.on (but_box hbt), bC⟩; clear bC hbt hsz))
    generalize w5.heap.size = g8 at *
    clear Y5
    go_upto_region 7 with (first | (refine wpList_load_blk rfl 23 _ rfl g4 A rfl Y6.out.2.1 Tryd.underlying23 (by rw [la]; exact size26) ?_) | (refine wpList_load_blk rfl 23 _ rfl g6 B rfl Y6.out.2.2.1 Tryd.underlying23 (by rw [lb]; exact size26) ?_) | (refine wpList_load_blk rfl 23 _ rfl g8 C rfl Y6.out.2.2.2 Tryd.underlying23 (by rw [lc]; exact size26) ?_) | (refine wpList_build_q rfl _ _ _ rfl A B C la lb lc rfl rfl rfl ?_) | (refine wpList_store_but rfl 38 _ _ rfl w6.heap.size (quoL A B C) rfl rfl (Blk.new w6 .u32 38 Z24) (by rw [hQl]; exact size38) (by rw [hYl, hQl]) ?_; intro w7 bQ hbt hsz; have Y7 : Hid (QS0 W E Z24 w7 ∧ Blk w7 w6.heap.size .u32 38 (quoL A B C)) := hid ⟨Y6.out.1.on (but_box hbt), bQ⟩; clear bQ hbt hsz))
    generalize w6.heap.size = g10 at *
    clear Y6
    cases oa
    · have HNq := hid (show ¬ qok s from fun h => by have := (HQ.out.1 h).1; cases this)
      clear HQ HP HPE HFm
      go_upto_region 8 with fail
      have Y1 : Hid (QS1 W E Z24 w7.drew) := hid ⟨Y7.out.1.bl.drew, Y7.out.1.es.on (Below.refl _ _).drew, Y7.out.1.b2⟩
      have HR := hid (HN.out HNq.out)
      have HE := hid (HNE.out HNq.out)
      clear Y7
      refine wp_region_held_drew (S := fun w => QS1 W E Z24 w) (by kernel_rfl) Y1.out (fun hHeld => ?_)
      generalize World.drew _ = wz at *
      refine wpAnyH_take (i := 0) (oi := { dst := some 51, op := Op.build 38 #[], type := 38, pos := "quote.go:52", after := #[], guard := none }) (v := .agg (Z24.map (Value.int .u32)).toArray) rfl (by kernel_rfl) (by kernel_rfl) (by kernel_rfl) (fun _ _ _ h => h) (Or.inl ⟨by rfl, by intro w hSw; have hbu := HBu.out w; go_simp⟩) (by assumption) ?_
      simp only [Act.put, List.setIfInBounds_toArray, List.set_cons_zero, List.set_cons_succ]
      refine wpAnyH_take (i := 1) (oi := { dst := some 52, op := Op.load 87 (Operand.global 5), type := 87, pos := "quote.go:52", after := #[{ on := 2, ground := Ground.gcOnly Departure.lateStores }], guard := none }) (v := .iface 235 (.pointer (some (E 5)))) rfl (by kernel_rfl) (by kernel_rfl) (by kernel_rfl) (fun _ _ _ h => h) (Or.inl ⟨by rfl, by intro w hSw; have hc := hSw.es.cell 5 (by decide) (by decide); go_simp⟩) (by assumption) ?_
      simp only [Act.put, List.setIfInBounds_toArray, List.set_cons_zero, List.set_cons_succ]
      refine wpAnyH_ready (rs := [2]) (by kernel_rfl) (by simp) (AllReadyH.cons (o := { dst := none, op := Op.store 38 (Operand.tmp 2) (Operand.tmp 51), type := 0, pos := "quote.go:52", after := #[{ on := 0, ground := Ground.data }, { on := 0, ground := Ground.phase }, { on := 1, ground := Ground.textOnly Departure.lateStores }], guard := none }) rfl (fun KQ hK => ?_) AllReadyH.nil)
      rw [if_pos (by rfl)]
      refine wp_store_st 38 _ _ rfl W.heap.size (Z24.map (Value.int .u32)) rfl rfl (blk_cel Y1.out.b2) (by rw [List.length_map, hYl]; exact size38) rfl (List.all_eq_true.2 (ints_oneCell .u32 _)) ?_
      intro w21 hc21 hb21 hs21
      have Y2 : Hid (QS1 W E Z24 w21) := hid (by have hB := Y1.out.bl.trans (hb21.below (Nat.le_refl _) Y1.out.bl.size); exact ⟨hB, HEW.out.on hB, hc21⟩)
      clear hc21 hb21 hs21
      refine hK.out _ _ Y2.out (fun hHeld => ?_)
      clear hK KQ
      try simp only [Act.put]
      refine wpAnyH_ready (rs := [3]) (by kernel_rfl) (by simp) (AllReadyH.cons (o := { dst := some 3, op := Op.assign (Operand.tmp 52), type := 87, pos := "quote.go:52", after := #[{ on := 1, ground := Ground.data }, { on := 2, ground := Ground.chain }, { on := 0, ground := Ground.phase }, { on := 1, ground := Ground.phase }, { on := 2, ground := Ground.phase }], guard := none }) rfl (fun KQ hK => ?_) AllReadyH.nil)
      go_simp
      refine hK.out _ _ Y2.out (fun hHeld => ?_)
      clear hK KQ
      try simp only [Act.put, List.setIfInBounds_toArray, List.set_cons_zero, List.set_cons_succ]
      refine wpAnyH_done (by kernel_rfl) ?_ _
      go_wp2_with fail
      refine ret_q2 rfl rfl W.heap.size (Z24.map (Value.int .u32)) rfl (blk_cel Y2.out.b2) Tryd.underlying38 rfl (by rw [List.length_map, hYl]; exact size38) ⟨by rw [HR.out, HE.out]; rfl, Y2.out.bl⟩
    · cases ob
      · have HNq := hid (show ¬ qok s from fun h => by have := (HQ.out.1 h).2.1; cases this)
        clear HQ HP HPE HFm
        go_upto_region 8 with fail
        have Y1 : Hid (QS1 W E Z24 w7.drew) := hid ⟨Y7.out.1.bl.drew, Y7.out.1.es.on (Below.refl _ _).drew, Y7.out.1.b2⟩
        have HR := hid (HN.out HNq.out)
        have HE := hid (HNE.out HNq.out)
        clear Y7
        refine wp_region_held_drew (S := fun w => QS1 W E Z24 w) (by kernel_rfl) Y1.out (fun hHeld => ?_)
        generalize World.drew _ = wz at *
        refine wpAnyH_take (i := 0) (oi := { dst := some 51, op := Op.build 38 #[], type := 38, pos := "quote.go:52", after := #[], guard := none }) (v := .agg (Z24.map (Value.int .u32)).toArray) rfl (by kernel_rfl) (by kernel_rfl) (by kernel_rfl) (fun _ _ _ h => h) (Or.inl ⟨by rfl, by intro w hSw; have hbu := HBu.out w; go_simp⟩) (by assumption) ?_
        simp only [Act.put, List.setIfInBounds_toArray, List.set_cons_zero, List.set_cons_succ]
        refine wpAnyH_take (i := 1) (oi := { dst := some 52, op := Op.load 87 (Operand.global 5), type := 87, pos := "quote.go:52", after := #[{ on := 2, ground := Ground.gcOnly Departure.lateStores }], guard := none }) (v := .iface 235 (.pointer (some (E 5)))) rfl (by kernel_rfl) (by kernel_rfl) (by kernel_rfl) (fun _ _ _ h => h) (Or.inl ⟨by rfl, by intro w hSw; have hc := hSw.es.cell 5 (by decide) (by decide); go_simp⟩) (by assumption) ?_
        simp only [Act.put, List.setIfInBounds_toArray, List.set_cons_zero, List.set_cons_succ]
        refine wpAnyH_ready (rs := [2]) (by kernel_rfl) (by simp) (AllReadyH.cons (o := { dst := none, op := Op.store 38 (Operand.tmp 2) (Operand.tmp 51), type := 0, pos := "quote.go:52", after := #[{ on := 0, ground := Ground.data }, { on := 0, ground := Ground.phase }, { on := 1, ground := Ground.textOnly Departure.lateStores }], guard := none }) rfl (fun KQ hK => ?_) AllReadyH.nil)
        rw [if_pos (by rfl)]
        refine wp_store_st 38 _ _ rfl W.heap.size (Z24.map (Value.int .u32)) rfl rfl (blk_cel Y1.out.b2) (by rw [List.length_map, hYl]; exact size38) rfl (List.all_eq_true.2 (ints_oneCell .u32 _)) ?_
        intro w21 hc21 hb21 hs21
        have Y2 : Hid (QS1 W E Z24 w21) := hid (by have hB := Y1.out.bl.trans (hb21.below (Nat.le_refl _) Y1.out.bl.size); exact ⟨hB, HEW.out.on hB, hc21⟩)
        clear hc21 hb21 hs21
        refine hK.out _ _ Y2.out (fun hHeld => ?_)
        clear hK KQ
        try simp only [Act.put]
        refine wpAnyH_ready (rs := [3]) (by kernel_rfl) (by simp) (AllReadyH.cons (o := { dst := some 3, op := Op.assign (Operand.tmp 52), type := 87, pos := "quote.go:52", after := #[{ on := 1, ground := Ground.data }, { on := 2, ground := Ground.chain }, { on := 0, ground := Ground.phase }, { on := 1, ground := Ground.phase }, { on := 2, ground := Ground.phase }], guard := none }) rfl (fun KQ hK => ?_) AllReadyH.nil)
        go_simp
        refine hK.out _ _ Y2.out (fun hHeld => ?_)
        clear hK KQ
        try simp only [Act.put, List.setIfInBounds_toArray, List.set_cons_zero, List.set_cons_succ]
        refine wpAnyH_done (by kernel_rfl) ?_ _
        go_wp2_with fail
        refine ret_q2 rfl rfl W.heap.size (Z24.map (Value.int .u32)) rfl (blk_cel Y2.out.b2) Tryd.underlying38 rfl (by rw [List.length_map, hYl]; exact size38) ⟨by rw [HR.out, HE.out]; rfl, Y2.out.bl⟩
      · cases oc
        · have HNq := hid (show ¬ qok s from fun h => by have := (HQ.out.1 h).2.2.1; cases this)
          clear HQ HP HPE HFm
          go_upto_region 8 with fail
          have Y1 : Hid (QS1 W E Z24 w7.drew) := hid ⟨Y7.out.1.bl.drew, Y7.out.1.es.on (Below.refl _ _).drew, Y7.out.1.b2⟩
          have HR := hid (HN.out HNq.out)
          have HE := hid (HNE.out HNq.out)
          clear Y7
          refine wp_region_held_drew (S := fun w => QS1 W E Z24 w) (by kernel_rfl) Y1.out (fun hHeld => ?_)
          generalize World.drew _ = wz at *
          refine wpAnyH_take (i := 0) (oi := { dst := some 51, op := Op.build 38 #[], type := 38, pos := "quote.go:52", after := #[], guard := none }) (v := .agg (Z24.map (Value.int .u32)).toArray) rfl (by kernel_rfl) (by kernel_rfl) (by kernel_rfl) (fun _ _ _ h => h) (Or.inl ⟨by rfl, by intro w hSw; have hbu := HBu.out w; go_simp⟩) (by assumption) ?_
          simp only [Act.put, List.setIfInBounds_toArray, List.set_cons_zero, List.set_cons_succ]
          refine wpAnyH_take (i := 1) (oi := { dst := some 52, op := Op.load 87 (Operand.global 5), type := 87, pos := "quote.go:52", after := #[{ on := 2, ground := Ground.gcOnly Departure.lateStores }], guard := none }) (v := .iface 235 (.pointer (some (E 5)))) rfl (by kernel_rfl) (by kernel_rfl) (by kernel_rfl) (fun _ _ _ h => h) (Or.inl ⟨by rfl, by intro w hSw; have hc := hSw.es.cell 5 (by decide) (by decide); go_simp⟩) (by assumption) ?_
          simp only [Act.put, List.setIfInBounds_toArray, List.set_cons_zero, List.set_cons_succ]
          refine wpAnyH_ready (rs := [2]) (by kernel_rfl) (by simp) (AllReadyH.cons (o := { dst := none, op := Op.store 38 (Operand.tmp 2) (Operand.tmp 51), type := 0, pos := "quote.go:52", after := #[{ on := 0, ground := Ground.data }, { on := 0, ground := Ground.phase }, { on := 1, ground := Ground.textOnly Departure.lateStores }], guard := none }) rfl (fun KQ hK => ?_) AllReadyH.nil)
          rw [if_pos (by rfl)]
          refine wp_store_st 38 _ _ rfl W.heap.size (Z24.map (Value.int .u32)) rfl rfl (blk_cel Y1.out.b2) (by rw [List.length_map, hYl]; exact size38) rfl (List.all_eq_true.2 (ints_oneCell .u32 _)) ?_
          intro w21 hc21 hb21 hs21
          have Y2 : Hid (QS1 W E Z24 w21) := hid (by have hB := Y1.out.bl.trans (hb21.below (Nat.le_refl _) Y1.out.bl.size); exact ⟨hB, HEW.out.on hB, hc21⟩)
          clear hc21 hb21 hs21
          refine hK.out _ _ Y2.out (fun hHeld => ?_)
          clear hK KQ
          try simp only [Act.put]
          refine wpAnyH_ready (rs := [3]) (by kernel_rfl) (by simp) (AllReadyH.cons (o := { dst := some 3, op := Op.assign (Operand.tmp 52), type := 87, pos := "quote.go:52", after := #[{ on := 1, ground := Ground.data }, { on := 2, ground := Ground.chain }, { on := 0, ground := Ground.phase }, { on := 1, ground := Ground.phase }, { on := 2, ground := Ground.phase }], guard := none }) rfl (fun KQ hK => ?_) AllReadyH.nil)
          go_simp
          refine hK.out _ _ Y2.out (fun hHeld => ?_)
          clear hK KQ
          try simp only [Act.put, List.setIfInBounds_toArray, List.set_cons_zero, List.set_cons_succ]
          refine wpAnyH_done (by kernel_rfl) ?_ _
          go_wp2_with fail
          refine ret_q2 rfl rfl W.heap.size (Z24.map (Value.int .u32)) rfl (blk_cel Y2.out.b2) Tryd.underlying38 rfl (by rw [List.length_map, hYl]; exact size38) ⟨by rw [HR.out, HE.out]; rfl, Y2.out.bl⟩
        · by_cases hF : F = s
          · have HY := hid (HQ.out.2 ⟨rfl, rfl, rfl, hF⟩)
            subst hF
            have b2 : (F.toList != F.toList) = false := by simp
            go_upto_region 9 with (first | (revert Y7; intro Y7; refine wpList_load_mg (by rfl) 38 _ rfl g10 0 rfl _ _ (cel_range (blk_cel Y7.out.2)) Tryd.underlying38 rfl (by rw [List.length_map, hQl]; exact size38) ?_) | (go_at_call 17; refine (HFm.out _ Y7.out.1.tb (by have := Y7.out.1.b2.lt; omega)).mono ?_; rintro e w8 ⟨rfl, hb⟩; have Y8 : Hid (QS0 W E Z24 w8 ∧ Blk w8 g10 .u32 38 (quoL A B C)) := hid ⟨Y7.out.1.on hb, Y7.out.2.on hb⟩; clear hb Y7))
            go_wp2_with (first | (refine wpList_load_mid rfl 38 _ rfl g10 0 rfl _ _ (cel_range (blk_cel Y8.out.2)) Tryd.underlying38 rfl (by rw [List.length_map, hQl]; exact size38) ?_) | (refine wpList_store_blk rfl 38 _ _ rfl W.heap.size (quoL A B C) rfl rfl Y8.out.1.b2 (by rw [hQl]; exact size38) (by rw [hYl, hQl]) ?_))
            refine ret_q2 rfl rfl W.heap.size ((quoL A B C).map (Value.int .u32)) rfl (blk_cel (Y8.out.1.b2.setRow _)) Tryd.underlying38 rfl (by rw [List.length_map, hQl]; exact size38) ⟨by rw [HP.out HY.out, HPE.out HY.out]; rfl, below_setRow Y8.out.1.bl (Nat.le_refl _) _⟩
          · have HNq := hid (show ¬ qok s from fun h => hF (HQ.out.1 h).2.2.2)
            have b2 : (F.toList == s.toList) = false := by
              exact toList_ne hF
            clear hF
            go_upto_region 8 with (first | (revert Y7; intro Y7; refine wpList_load_mg (by rfl) 38 _ rfl g10 0 rfl _ _ (cel_range (blk_cel Y7.out.2)) Tryd.underlying38 rfl (by rw [List.length_map, hQl]; exact size38) ?_) | (go_at_call 17; refine (HFm.out _ Y7.out.1.tb (by have := Y7.out.1.b2.lt; omega)).mono ?_; rintro e w8 ⟨rfl, hb⟩; have Y8 : Hid (QS0 W E Z24 w8) := hid (Y7.out.1.on hb); clear hb Y7))
            have Y1 : Hid (QS1 W E Z24 w8.drew) := hid ⟨Y8.out.bl.drew, Y8.out.es.on (Below.refl _ _).drew, Y8.out.b2⟩
            have HR := hid (HN.out HNq.out)
            have HE := hid (HNE.out HNq.out)
            clear Y8
            refine wp_region_held_drew (S := fun w => QS1 W E Z24 w) (by kernel_rfl) Y1.out (fun hHeld => ?_)
            generalize World.drew _ = wz at *
            refine wpAnyH_take (i := 0) (oi := { dst := some 51, op := Op.build 38 #[], type := 38, pos := "quote.go:52", after := #[], guard := none }) (v := .agg (Z24.map (Value.int .u32)).toArray) rfl (by kernel_rfl) (by kernel_rfl) (by kernel_rfl) (fun _ _ _ h => h) (Or.inl ⟨by rfl, by intro w hSw; have hbu := HBu.out w; go_simp⟩) (by assumption) ?_
            simp only [Act.put, List.setIfInBounds_toArray, List.set_cons_zero, List.set_cons_succ]
            refine wpAnyH_take (i := 1) (oi := { dst := some 52, op := Op.load 87 (Operand.global 5), type := 87, pos := "quote.go:52", after := #[{ on := 2, ground := Ground.gcOnly Departure.lateStores }], guard := none }) (v := .iface 235 (.pointer (some (E 5)))) rfl (by kernel_rfl) (by kernel_rfl) (by kernel_rfl) (fun _ _ _ h => h) (Or.inl ⟨by rfl, by intro w hSw; have hc := hSw.es.cell 5 (by decide) (by decide); go_simp⟩) (by assumption) ?_
            simp only [Act.put, List.setIfInBounds_toArray, List.set_cons_zero, List.set_cons_succ]
            refine wpAnyH_ready (rs := [2]) (by kernel_rfl) (by simp) (AllReadyH.cons (o := { dst := none, op := Op.store 38 (Operand.tmp 2) (Operand.tmp 51), type := 0, pos := "quote.go:52", after := #[{ on := 0, ground := Ground.data }, { on := 0, ground := Ground.phase }, { on := 1, ground := Ground.textOnly Departure.lateStores }], guard := none }) rfl (fun KQ hK => ?_) AllReadyH.nil)
            rw [if_pos (by rfl)]
            refine wp_store_st 38 _ _ rfl W.heap.size (Z24.map (Value.int .u32)) rfl rfl (blk_cel Y1.out.b2) (by rw [List.length_map, hYl]; exact size38) rfl (List.all_eq_true.2 (ints_oneCell .u32 _)) ?_
            intro w21 hc21 hb21 hs21
            have Y2 : Hid (QS1 W E Z24 w21) := hid (by have hB := Y1.out.bl.trans (hb21.below (Nat.le_refl _) Y1.out.bl.size); exact ⟨hB, HEW.out.on hB, hc21⟩)
            clear hc21 hb21 hs21
            refine hK.out _ _ Y2.out (fun hHeld => ?_)
            clear hK KQ
            try simp only [Act.put]
            refine wpAnyH_ready (rs := [3]) (by kernel_rfl) (by simp) (AllReadyH.cons (o := { dst := some 3, op := Op.assign (Operand.tmp 52), type := 87, pos := "quote.go:52", after := #[{ on := 1, ground := Ground.data }, { on := 2, ground := Ground.chain }, { on := 0, ground := Ground.phase }, { on := 1, ground := Ground.phase }, { on := 2, ground := Ground.phase }], guard := none }) rfl (fun KQ hK => ?_) AllReadyH.nil)
            go_simp
            refine hK.out _ _ Y2.out (fun hHeld => ?_)
            clear hK KQ
            try simp only [Act.put, List.setIfInBounds_toArray, List.set_cons_zero, List.set_cons_succ]
            refine wpAnyH_done (by kernel_rfl) ?_ _
            go_wp2_with fail
            refine ret_q2 rfl rfl W.heap.size (Z24.map (Value.int .u32)) rfl (blk_cel Y2.out.b2) Tryd.underlying38 rfl (by rw [List.length_map, hYl]; exact size38) ⟨by rw [HR.out, HE.out]; rfl, Y2.out.bl⟩
end Go.Proofs.YtbpdmkohihgnjaaDoor
