/- The law AttestMacs 3. -/
import Derived.Test.YtbpdmkohihgnjaaDoorKb
namespace Go.Proofs.YtbpdmkohihgnjaaDoor
open Go.RowKit
set_option maxHeartbeats 4000000
set_option maxRecDepth 100000
theorem size_alloc (w : World) (o : Obj) : (w.alloc o).heap.size = w.heap.size + 1 := by simp
theorem at_mark (w : World) (k : IntKind) (e : TypeId) (L : List Int) (m : Nat × Nat) : At (w.alloc (.cells (L.map (Value.int k)).toArray e m)) k (some ⟨w.heap.size, 0, none⟩) L := by
  refine .inr ⟨_, 0, rfl, by simp, fun i hi => ?_⟩
  rw [Nat.zero_add, World.cell?_alloc_mark]
  simp [List.getD_eq_getElem?_getD, hi]
theorem bts_dec (bs : List Int) (h : (bs.all fun x => decide (0 ≤ x) && decide (x < 256)) = true) : Bts bs := fun i => by
  by_cases hi : i < bs.length
  · have := List.all_eq_true.1 h bs[i] (List.getElem_mem hi)
    simp only [Bool.and_eq_true, decide_eq_true_eq] at this
    simpa [List.getD_eq_getElem?_getD, hi] using this
  · simp [List.getD_eq_getElem?_getD, List.getElem?_eq_none (show bs.length ≤ i by omega)]
theorem mod256 (bit : Int) : ∃ q : Nat, (wrap64 (bit.tmod 256 + 256)).tmod 256 = (q : Int) ∧ q < 256 := by
  have h2 : -256 < bit.tmod 256 := by have := Int.tmod_lt_of_pos (-bit) (show (0:Int) < 256 by decide); rw [Int.neg_tmod] at this; omega
  have h3 : bit.tmod 256 < 256 := Int.tmod_lt_of_pos _ (by decide)
  have h4 : wrap64 (bit.tmod 256 + 256) = bit.tmod 256 + 256 := by unfold wrap64; omega
  rw [h4, Int.tmod_eq_emod_of_nonneg (by omega)]
  exact ⟨((bit.tmod 256 + 256) % 256).toNat, by omega, by omega⟩
theorem xor_other (x : Int) (r : Nat) (x0 : 0 ≤ x) (x1 : x < 4294967296) (hr : r < 32) : 0 ≤ bits .xor .u32 x (2 ^ r % 4294967296) ∧ bits .xor .u32 x (2 ^ r % 4294967296) < 4294967296 ∧ bits .xor .u32 x (2 ^ r % 4294967296) ≠ x := by
  obtain ⟨x, rfl⟩ := Int.eq_ofNat_of_zero_le x0
  have h1 : 2 ^ r < 2 ^ 32 := Nat.pow_lt_pow_right (by decide) hr
  have h2 : 0 < 2 ^ r := Nat.two_pow_pos r
  have h3 : ((2 : Int) ^ r % 4294967296) = ((2 ^ r : Nat) : Int) := by
    have : ((2 : Int) ^ r) = ((2 ^ r : Nat) : Int) := by simp
    rw [this]; omega
  rw [h3]
  generalize 2 ^ r = y at *
  have hx : x ^^^ y < 4294967296 := Nat.xor_lt_two_pow (n := 32) (by omega) (by omega)
  rw [u32_xor_nat _ _ (by omega) (by omega)]
  refine ⟨by omega, by omega, fun h => ?_⟩
  have h4 : x ^^^ y = x := by omega
  have h5 : x ^^^ (x ^^^ y) = x ^^^ x := by rw [h4]
  rw [← Nat.xor_assoc, Nat.xor_self, Nat.zero_xor] at h5
  omega
theorem bytesD_k3 : bytesD K3 = [119, 97, 114, 100, 101, 110, 32, 107, 101, 121, 32, 49] := by decide
/-- The three words lists in their boxes. -/
structure AM (W : World) (s m d : List Int) (w : World) : Prop where
  tb : Tabs w
  bl : Below W.heap.size W w
  b4 : Blk w W.heap.size .u32 23 s
  b5 : Blk w (W.heap.size + 1) .u32 23 m
  b6 : Blk w (W.heap.size + 1 + 1) .u32 23 d
  w13 : 12 < W.heap.size
theorem AM.on {W : World} {s m d : List Int} {w w' : World} (h : AM W s m d w) (hb : Below w.heap.size w w') : AM W s m d w' := ⟨h.tb.on hb, below_on h.bl hb, h.b4.on hb, h.b5.on hb, h.b6.on hb, h.w13⟩
theorem AM.lt {W : World} {s m d : List Int} {w : World} (h : AM W s m d w) : W.heap.size + 1 + 1 < w.heap.size := h.b6.lt
theorem AM.but {W : World} {s m d : List Int} {w w' : World} {g : Nat} (h : AM W s m d w) (hb : But g w w') (hg : W.heap.size + 1 + 1 < g) : AM W s m d w' :=
  ⟨h.tb.below (hb.below (B := 13) (by have := h.w13; omega) (by have := h.tb.sz; omega)) (by decide), h.bl.trans (hb.below (by omega) h.bl.size), hb.blk h.b4 (by omega), hb.blk h.b5 (by omega), hb.blk h.b6 (by omega), h.w13⟩
/-- A box that is new and filled. -/
theorem AM.box {W : World} {s m d : List Int} {w w' : World} {ob : Obj} (h : AM W s m d w) (hb : But w.heap.size (w.alloc ob) w') : AM W s m d w' := (h.on (below_one w ob)).but hb h.lt
theorem but_box {w w' : World} {ob : Obj} (hb : But w.heap.size (w.alloc ob) w') : Below w.heap.size w w' := (below_one w ob).trans (hb.below (Nat.le_refl _) (by simp))
theorem wpList_load_bg {P : Program} {ops : Array Oper} {rest : List Oper} {o : Oper} {a : Act} {w : World} {Q : Exit → Act → World → Prop} (hw : Region.wanted o (yielded ops a.tmps) = true) (ty : TypeId) (x : Operand) (ho : o.op = .load ty x)
    (g : Nat) (L : List Int) (hx : a.eval x = .pointer (some ⟨g, 0, none⟩)) {e t : TypeId} {n : Nat} (hg : Blk w g .u32 e L) (hu : P.underlying ty = some (.array n t)) (hi : (P.info? ty).map (·.size) = some L.length)
    (h : wpList P ops Q rest (a.put o.dst (.agg (L.map (Value.int .u32)).toArray)) w) : wpList P ops Q (o :: rest) a w := by
  rw [wpList, if_pos hw]
  refine .inl ?_
  exact wp_load_mid ty x ho g 0 hx _ _ (cel_range (blk_cel hg)) hu rfl (by rw [hi]; simp) h
structure A6 (W : World) (s m d K T : List Int) (g9 g11 : Nat) (w : World) : Prop where
  am : AM W s m d w
  b9 : Blk w g9 .u32 23 K
  b11 : Blk w g11 .u32 23 T
  l9 : W.heap.size + 1 + 1 < g9
  l11 : g9 < g11
theorem A6.on {W : World} {s m d K T : List Int} {g9 g11 : Nat} {w w' : World} (h : A6 W s m d K T g9 g11 w) (hb : Below w.heap.size w w') : A6 W s m d K T g9 g11 w' := ⟨h.am.on hb, h.b9.on hb, h.b11.on hb, h.l9, h.l11⟩
attribute [-simp] Tryd.isAgg23 Tryd.sizeOf23 Tryd.zeroValue23
theorem macs_l (W : World) (hT : Tabs W) (s m d : List Int) (hs : s.length = 8) (hm : m.length = 8) (hd : d.length = 8) (ws : Wds s) (wm : Wds m) (wd : Wds d) (bit : Int) :
    Calls Tryd.prog 3 #[Ag s, Ag m, Ag d, .int .i64 bit] W fun e W' => e = .returned (.bool true) ∧ Below W.heap.size W W' := by
  obtain ⟨i0, hi, hz0, hz1, hz2⟩ := info_parts Tryd.info22
  obtain ⟨Z, hZ⟩ : ∃ Z : List Int, Z = List.replicate 8 0 := ⟨_, rfl⟩
  have hZl : Z.length = 8 := by rw [hZ]; simp
  have hz : ∀ w, (zeroValue 23).run Tryd.prog w = .ok (.agg (Z.map (Value.int .u32)).toArray) w := fun w => by rw [Tryd.zeroValue23, hZ]; rfl
  clear hZ
  obtain ⟨X, hX⟩ : ∃ X, X = ((W.alloc (Obj.cells (List.map (Value.int IntKind.u32) s).toArray 23)).alloc (Obj.cells (List.map (Value.int IntKind.u32) m).toArray 23)).alloc (Obj.cells (List.map (Value.int IntKind.u32) d).toArray 23) := ⟨_, rfl⟩
  have Y0 : Hid (AM W s m d X) := hid (by
    have HB : Below W.heap.size W X := by rw [hX]; exact below_on (below_on (below_one W _) (below_one _ _)) (below_one _ _)
    refine ⟨hT.on HB, HB, ?_, ?_, ?_, hT.sz⟩
    · rw [hX]; exact ((Blk.new W .u32 23 s).alloc _).alloc _
    · rw [hX]; exact (Blk.newAt (by simp) .u32 23 m).alloc _
    · rw [hX]; exact Blk.newAt (by simp) .u32 23 d)
  have HK := hid (fun w (h : Tabs w) => key_any w h s hs ws)
  have hKl := keyOf_length s
  have wK : Wds (keyOf s) := hmac_wds _ _
  have HKB : Hid (∀ w g h, AM W s m d w → At w .u8 (some ⟨g, 0, none⟩) (bytesD s) → At w .u8 (some ⟨h, 0, none⟩) [119, 97, 114, 100, 101, 110, 32, 107, 101, 121, 32, 49] → Calls Tryd.prog 12 #[.slice (some ⟨g, 0, none⟩) 32 32, .slice (some ⟨h, 0, none⟩) 12 12] w fun e W' => e = .returned (Ag (keyOf s)) ∧ Below w.heap.size w W') := hid (by
    intro w g h hw h1 h2
    have := tagBytes_any w hw.tb _ 32 32 (bytesD s) (by rw [bytesD_length, hs]) (bytesD_bts s) h1 (by decide) (by decide) _ 12 12 [119, 97, 114, 100, 101, 110, 32, 107, 101, 121, 32, 49] rfl (bts_dec _ (by decide)) h2 (fun h => by cases h) (by decide)
    rw [← bytesD_k3] at this
    exact this)
  have HBy : Hid (∀ w, AM W s m d w → Calls Tryd.prog 13 #[.slice (some ⟨W.heap.size, 0, none⟩) 8 8] w fun e W' => e = .returned (.slice (some ⟨w.heap.size, 0, none⟩) 32 32) ∧ Below w.heap.size w W' ∧ At W' .u8 (some ⟨w.heap.size, 0, none⟩) (bytesD s)) := hid (by
    intro w hw
    refine (bytes_any w hw.tb.lows W.heap.size 0 8 8 s hs ws hw.b4.row (by decide) hw.b4.lt (by have := hw.tb.sz; omega)).mono ?_
    rintro e w' ⟨rfl, hF⟩
    exact ⟨rfl, hF.below, .inr ⟨_, 0, rfl, hF.lt, hF.row⟩⟩)
  generalize keyOf s = K at *
  have HT := hid (fun w (h : Tabs w) => tag_any w h K m d hKl hm hd wK wm wd)
  have hTl := tagOf_length K m d
  have wT : Wds (tagOf K m d) := hmac_wds _ _
  have HV := hid (fun w (h : Tabs w) t (ht : t.length = 8) (wt : Wds t) => verify_any w h K m d t hKl hm hd ht wK wm wd wt)
  have h16 : (m ++ d).length = 16 := by rw [List.length_append, hm, hd]
  have HM : Hid (∀ w g v X0, Tabs w → Blk w g .u32 23 K → Holds X0 w .u32 22 v (m ++ d) → Calls Tryd.prog 9 #[.slice (some ⟨g, 0, none⟩) 8 8, v] w fun e W' => e = .returned (Ag (tagOf K m d)) ∧ Below w.heap.size w W') := hid (by
    intro w g v X0 hw bw hv
    obtain ⟨p, c, rfl, hsl, hat, _⟩ := hv.at'
    rw [h16]
    exact macTag_any w hw _ 8 8 K hKl wK bw.atb (by decide) p 16 c (m ++ d) h16 (wm.app wd) hat (by decide))
  generalize tagOf K m d = T at *
  have HV1 : Hid (∀ w, Tabs w → Calls Tryd.prog 11 #[.agg (K.map (Value.int .u32)).toArray, .agg (m.map (Value.int .u32)).toArray, .agg (d.map (Value.int .u32)).toArray, .agg (T.map (Value.int .u32)).toArray] w fun e W' => e = .returned (.bool true) ∧ Below w.heap.size w W') := hid (by
    intro w hw
    have := HV.out w hw T hTl wT
    rwa [decide_eq_true rfl] at this)
  have hET : ∀ w, (Op.equalIn 10000 23 (.agg (T.map (Value.int .u32)).toArray) (.agg (T.map (Value.int .u32)).toArray)).run Tryd.prog w = .ok true w := fun w => by rw [eq26 T T hTl hTl, decide_eq_true rfl]
  have hEK : ∀ w, (Op.equalIn 10000 23 (.agg (K.map (Value.int .u32)).toArray) (.agg (K.map (Value.int .u32)).toArray)).run Tryd.prog w = .ok true w := fun w => by rw [eq26 K K hKl hKl, decide_eq_true rfl]
  have HN : Hid (∀ w v, Holds w v .u32 22 (.slice none 0 0) [] → True) := hid (fun _ _ _ => trivial)
  clear hT wK
  unfold Ag at HK HKB HT HM
  unfold Ag
  go_enter Tryd.func3, Tryd.ntmps3
  go_upto_region 1 with fail
  rw [← hX]
  clear hX
  go_upto_region 2 with (first | (revert Y0; intro Y0; refine wpList_load_blk rfl 23 _ rfl W.heap.size s rfl Y0.out.b4 Tryd.underlying23 (by rw [hs]; exact size26) ?_) | (go_at_call 8; refine (HK.out _ Y0.out.tb).mono ?_; rintro e w1 ⟨rfl, hb⟩; have Y1 := hid (Y0.out.on hb); clear hb Y0) | (revert Y1; intro Y1; refine wpList_store_but rfl 23 _ _ rfl w1.heap.size K rfl rfl (Blk.new w1 .u32 23 Z) (by rw [hKl]; exact size26) (by rw [hZl, hKl]) ?_; intro w2 bK hbt hsz; have Y2 : Hid (AM W s m d w2 ∧ Blk w2 w1.heap.size .u32 23 K ∧ W.heap.size + 1 + 1 < w1.heap.size) := hid ⟨Y1.out.box hbt, bK, Y1.out.lt⟩; clear bK hbt hsz Y1))
  generalize w1.heap.size = g9 at *
  clear HK HN
  have H0 : Hid (Holds w2 w2 .u32 22 (.slice none 0 0) []) := hid (Holds.start _ _ _)
  go_upto_region 4 with (first | (at_builtin; refine wpList_append_at (W := w2) rfl _ _ 25 rfl .u32 22 i0 (.int .u32 0) 4 Tryd.underlying25 hi hz0 hz1 hz2 rfl _ [] rfl H0.out (some ⟨W.heap.size + 1, 0, none⟩) 8 8 m rfl hm Y2.out.1.b5.atb (fun h => by cases h) (by decide) (by decide) ?_; intro v3 w3 H3))
  have H3' : Hid (Holds w2 w3 .u32 22 v3 m ∧ At w3 .u32 (some ⟨W.heap.size + 1 + 1, 0, none⟩) d) := hid ⟨by simpa using H3, Y2.out.1.b6.atb.below H3.below⟩
  clear H0 H3
  go_upto_region 5 with (first | (at_builtin; refine wpList_append_at (W := w2) rfl _ _ 25 rfl .u32 22 i0 (.int .u32 0) 4 Tryd.underlying25 hi hz0 hz1 hz2 rfl _ m rfl H3'.out.1 (some ⟨W.heap.size + 1 + 1, 0, none⟩) 8 8 d rfl hd H3'.out.2 (fun h => by cases h) (by rw [hm]; decide) (by rw [hm]; decide) ?_; intro v4 w4 H4))
  have Y4 : Hid (AM W s m d w4 ∧ Blk w4 g9 .u32 23 K ∧ W.heap.size + 1 + 1 < g9) := hid ⟨Y2.out.1.on H4.below, Y2.out.2.1.on H4.below, Y2.out.2.2⟩
  have H5 := hid H4
  clear H4 H3' Y2 hi hz0 hz1 hz2
  go_upto_region 6 with (first | (go_at_call 9; refine (HM.out _ _ _ _ Y4.out.1.tb Y4.out.2.1 H5.out).mono ?_; rintro e w5 ⟨rfl, hb⟩; have Y5 : Hid (AM W s m d w5 ∧ Blk w5 g9 .u32 23 K ∧ W.heap.size + 1 + 1 < g9) := hid ⟨Y4.out.1.on hb, Y4.out.2.1.on hb, Y4.out.2.2⟩; clear hb Y4 H5) | (revert Y5; intro Y5; refine wpList_store_but rfl 23 _ _ rfl w5.heap.size T rfl rfl (Blk.new w5 .u32 23 Z) (by rw [hTl]; exact size26) (by rw [hZl, hTl]) ?_; intro w6 bT hbt hsz; have Y6 : Hid (AM W s m d w6 ∧ Blk w6 g9 .u32 23 K ∧ Blk w6 w5.heap.size .u32 23 T ∧ W.heap.size + 1 + 1 < g9 ∧ g9 < w5.heap.size) := hid ⟨Y5.out.1.box hbt, Y5.out.2.1.on (but_box hbt), bT, Y5.out.2.2, Y5.out.2.1.lt⟩; clear bT hbt hsz Y5))
  generalize w5.heap.size = g11 at *
  clear HM
  have Y7 : Hid (A6 W s m d K T g9 g11 w6.drew) := hid ⟨Y6.out.1.on (Below.refl _ _).drew, Y6.out.2.1, Y6.out.2.2.1, Y6.out.2.2.2.1, Y6.out.2.2.2.2⟩
  clear Y6
  refine wp_region_held_drew (S := fun w => A6 W s m d K T g9 g11 w) (by kernel_rfl) Y7.out (fun hHeld => ?_)
  generalize World.drew _ = w7 at *
  refine wpAnyH_take (i := 0) (oi := { dst := some 25, op := Op.load 23 (Operand.tmp 9), type := 23, pos := "outright.go:19", after := #[], guard := none }) (v := .agg ((K).map (Value.int .u32)).toArray) rfl (by kernel_rfl) (by kernel_rfl) (by kernel_rfl) (fun _ _ _ h => h) (yieldsIf_load_mid (by rfl) _ _ rfl _ _ rfl _ _ (fun w hSw => cel_range (blk_cel hSw.b9)) Tryd.underlying23 rfl (by rw [List.length_map, hKl]; exact size26)) (by assumption) ?_
  simp only [Act.put, List.setIfInBounds_toArray, List.set_cons_zero, List.set_cons_succ]
  refine wpAnyH_take (i := 1) (oi := { dst := some 26, op := Op.load 23 (Operand.tmp 5), type := 23, pos := "outright.go:19", after := #[], guard := none }) (v := .agg ((m).map (Value.int .u32)).toArray) rfl (by kernel_rfl) (by kernel_rfl) (by kernel_rfl) (fun _ _ _ h => h) (yieldsIf_load_mid (by rfl) _ _ rfl _ _ rfl _ _ (fun w hSw => cel_range (blk_cel hSw.am.b5)) Tryd.underlying23 rfl (by rw [List.length_map, hm]; exact size26)) (by assumption) ?_
  simp only [Act.put, List.setIfInBounds_toArray, List.set_cons_zero, List.set_cons_succ]
  refine wpAnyH_take (i := 2) (oi := { dst := some 27, op := Op.load 23 (Operand.tmp 6), type := 23, pos := "outright.go:19", after := #[], guard := none }) (v := .agg ((d).map (Value.int .u32)).toArray) rfl (by kernel_rfl) (by kernel_rfl) (by kernel_rfl) (fun _ _ _ h => h) (yieldsIf_load_mid (by rfl) _ _ rfl _ _ rfl _ _ (fun w hSw => cel_range (blk_cel hSw.am.b6)) Tryd.underlying23 rfl (by rw [List.length_map, hd]; exact size26)) (by assumption) ?_
  simp only [Act.put, List.setIfInBounds_toArray, List.set_cons_zero, List.set_cons_succ]
  refine wpAnyH_take (i := 4) (oi := { dst := some 29, op := Op.load 23 (Operand.tmp 11), type := 23, pos := "outright.go:19", after := #[], guard := none }) (v := .agg ((T).map (Value.int .u32)).toArray) rfl (by kernel_rfl) (by kernel_rfl) (by kernel_rfl) (fun _ _ _ h => h) (yieldsIf_load_mid (by rfl) _ _ rfl _ _ rfl _ _ (fun w hSw => cel_range (blk_cel hSw.b11)) Tryd.underlying23 rfl (by rw [List.length_map, hTl]; exact size26)) (by assumption) ?_
  simp only [Act.put, List.setIfInBounds_toArray, List.set_cons_zero, List.set_cons_succ]
  refine wpAnyH_ready (rs := [3]) (by kernel_rfl) (by simp) (AllReadyH.cons (o := { dst := some 28, op := Op.call { callee := Callee.value (Operand.func 10), args := #[Operand.tmp 25, Operand.tmp 26, Operand.tmp 27], argTypes := #[23, 23, 23] }, type := 23, pos := "outright.go:19", after := #[{ on := 0, ground := Ground.data }, { on := 1, ground := Ground.data }, { on := 2, ground := Ground.data }], guard := none }) rfl (fun KQ hK => ?_) AllReadyH.nil)
  go_simp
  refine (HT.out _ Y7.out.am.tb).mono ?_
  rintro e w8 ⟨rfl, h1⟩
  have Y8 := hid (Y7.out.on h1)
  clear h1 Y7
  go_wp2_with fail
  refine hK.out _ _ Y8.out (fun hHeld => ?_)
  clear hK KQ
  try simp only [Act.put, List.setIfInBounds_toArray, List.set_cons_zero, List.set_cons_succ]
  refine wpAnyH_take (i := 5) (oi := { dst := some 30, op := Op.binOp BinOp.neq 23 (Operand.tmp 28) (Operand.tmp 29) 23, type := 4, pos := "outright.go:19", after := #[{ on := 3, ground := Ground.data }, { on := 4, ground := Ground.data }], guard := none }) (v := .bool false) rfl (by kernel_rfl) (by kernel_rfl) (by kernel_rfl) (fun _ _ _ h => h) (Or.inl ⟨by rfl, by intro w hSw; have he := hET w; go_simp⟩) (by assumption) ?_
  simp only [Act.put, List.setIfInBounds_toArray, List.set_cons_zero, List.set_cons_succ]
  refine wpAnyH_take (i := 6) (oi := { dst := some 31, op := Op.move (Operand.tmp 30), type := 4, pos := "outright.go:19", after := #[{ on := 5, ground := Ground.data }, { on := 3, ground := Ground.chain }], guard := none }) (v := .bool false) rfl (by kernel_rfl) (by kernel_rfl) (by kernel_rfl) (fun _ _ _ h => h) (Or.inl ⟨by rfl, by intro w hSw; go_simp⟩) (by assumption) ?_
  simp only [Act.put, List.setIfInBounds_toArray, List.set_cons_zero, List.set_cons_succ]
  refine wpAnyH_take (i := 7) (oi := { dst := some 32, op := Op.load 23 (Operand.tmp 9), type := 23, pos := "outright.go:19", after := #[{ on := 6, ground := Ground.guard }], guard := some (6, false) }) (v := .agg ((K).map (Value.int .u32)).toArray) rfl (by kernel_rfl) (by kernel_rfl) (by kernel_rfl) (fun _ _ _ h => h) (yieldsIf_load_mid (by rfl) _ _ rfl _ _ rfl _ _ (fun w hSw => cel_range (blk_cel hSw.b9)) Tryd.underlying23 rfl (by rw [List.length_map, hKl]; exact size26)) (by assumption) ?_
  simp only [Act.put, List.setIfInBounds_toArray, List.set_cons_zero, List.set_cons_succ]
  refine wpAnyH_take (i := 8) (oi := { dst := some 33, op := Op.load 23 (Operand.tmp 5), type := 23, pos := "outright.go:19", after := #[{ on := 6, ground := Ground.guard }], guard := some (6, false) }) (v := .agg ((m).map (Value.int .u32)).toArray) rfl (by kernel_rfl) (by kernel_rfl) (by kernel_rfl) (fun _ _ _ h => h) (yieldsIf_load_mid (by rfl) _ _ rfl _ _ rfl _ _ (fun w hSw => cel_range (blk_cel hSw.am.b5)) Tryd.underlying23 rfl (by rw [List.length_map, hm]; exact size26)) (by assumption) ?_
  simp only [Act.put, List.setIfInBounds_toArray, List.set_cons_zero, List.set_cons_succ]
  refine wpAnyH_take (i := 9) (oi := { dst := some 34, op := Op.load 23 (Operand.tmp 6), type := 23, pos := "outright.go:19", after := #[{ on := 6, ground := Ground.guard }], guard := some (6, false) }) (v := .agg ((d).map (Value.int .u32)).toArray) rfl (by kernel_rfl) (by kernel_rfl) (by kernel_rfl) (fun _ _ _ h => h) (yieldsIf_load_mid (by rfl) _ _ rfl _ _ rfl _ _ (fun w hSw => cel_range (blk_cel hSw.am.b6)) Tryd.underlying23 rfl (by rw [List.length_map, hd]; exact size26)) (by assumption) ?_
  simp only [Act.put, List.setIfInBounds_toArray, List.set_cons_zero, List.set_cons_succ]
  refine wpAnyH_take (i := 10) (oi := { dst := some 35, op := Op.load 23 (Operand.tmp 11), type := 23, pos := "outright.go:19", after := #[{ on := 6, ground := Ground.guard }], guard := some (6, false) }) (v := .agg ((T).map (Value.int .u32)).toArray) rfl (by kernel_rfl) (by kernel_rfl) (by kernel_rfl) (fun _ _ _ h => h) (yieldsIf_load_mid (by rfl) _ _ rfl _ _ rfl _ _ (fun w hSw => cel_range (blk_cel hSw.b11)) Tryd.underlying23 rfl (by rw [List.length_map, hTl]; exact size26)) (by assumption) ?_
  simp only [Act.put, List.setIfInBounds_toArray, List.set_cons_zero, List.set_cons_succ]
  refine wpAnyH_ready (rs := [11]) (by kernel_rfl) (by simp) (AllReadyH.cons (o := { dst := some 36, op := Op.call { callee := Callee.value (Operand.func 11), args := #[Operand.tmp 32, Operand.tmp 33, Operand.tmp 34, Operand.tmp 35], argTypes := #[23, 23, 23, 23] }, type := 4, pos := "outright.go:19", after := #[{ on := 7, ground := Ground.data }, { on := 8, ground := Ground.data }, { on := 9, ground := Ground.data }, { on := 10, ground := Ground.data }, { on := 6, ground := Ground.chain }, { on := 6, ground := Ground.guard }], guard := some (6, false) }) rfl (fun KQ hK => ?_) AllReadyH.nil)
  go_simp
  refine (HV1.out _ Y8.out.am.tb).mono ?_
  rintro e w9 ⟨rfl, h2⟩
  have Y9 := hid (Y8.out.on h2)
  clear h2 Y8
  go_wp2_with fail
  refine hK.out _ _ Y9.out (fun hHeld => ?_)
  clear hK KQ
  try simp only [Act.put, List.setIfInBounds_toArray, List.set_cons_zero, List.set_cons_succ]
  refine wpAnyH_take (i := 12) (oi := { dst := some 37, op := Op.unOp UnOp.not 4 (Operand.tmp 36), type := 4, pos := "outright.go:19", after := #[{ on := 11, ground := Ground.data }, { on := 6, ground := Ground.guard }], guard := some (6, false) }) (v := .bool false) rfl (by kernel_rfl) (by kernel_rfl) (by kernel_rfl) (fun _ _ _ h => h) (Or.inl ⟨by rfl, by intro w hSw; go_simp⟩) (by assumption) ?_
  simp only [Act.put, List.setIfInBounds_toArray, List.set_cons_zero, List.set_cons_succ]
  refine wpAnyH_take (i := 13) (oi := { dst := some 38, op := Op.pick (Operand.tmp 31) (Operand.const (Value.bool true)) (Operand.tmp 37), type := 4, pos := "outright.go:19", after := #[{ on := 6, ground := Ground.data }, { on := 12, ground := Ground.data }], guard := none }) (v := .bool false) rfl (by kernel_rfl) (by kernel_rfl) (by kernel_rfl) (fun _ _ _ h => h) (Or.inl ⟨by rfl, by intro w hSw; go_simp⟩) (by assumption) ?_
  simp only [Act.put, List.setIfInBounds_toArray, List.set_cons_zero, List.set_cons_succ]
  refine wpAnyH_done (by kernel_rfl) ?_ _
  clear HT HV1
  go_upto_region 8 with fail
  have kc := fun w => Lib.run_convert_bytes_const (P := Tryd.prog) w 30 5 #[.int .u8 119, .int .u8 97, .int .u8 114, .int .u8 100, .int .u8 101, .int .u8 110, .int .u8 32, .int .u8 107, .int .u8 101, .int .u8 121, .int .u8 32, .int .u8 49] 12 12 Tryd.underlying30 Tryd.underlying5
  go_upto_region 9 with (first | (go_at_call 13; refine (HBy.out _ Y9.out.am).mono ?_; rintro e w10 ⟨rfl, hb, hat⟩; have Y10 := hid (Y9.out.on hb); have HA := hid hat; clear hb hat Y9) | (go_at_call 12; refine (HKB.out _ _ _ (Y10.out.on (below_one w10 _)).am (HA.out.below (below_one w10 _)) (at_mark w10 .u8 5 [119, 97, 114, 100, 101, 110, 32, 107, 101, 121, 32, 49] (12, 13))).mono ?_; rintro e w11 ⟨rfl, hb⟩; have Y11 := hid ((Y10.out.on (below_one w10 _)).on hb); clear hb Y10 HA) | (revert Y11; intro Y11; refine wpList_store_but rfl 23 _ _ rfl w11.heap.size K rfl rfl (Blk.new w11 .u32 23 Z) (by rw [hKl]; exact size26) (by rw [hZl, hKl]) ?_; intro w12 bK hbt hsz; have Y12 : Hid (A6 W s m d K T g9 g11 w12 ∧ Blk w12 w11.heap.size .u32 23 K ∧ g11 < w11.heap.size) := hid ⟨Y11.out.on (but_box hbt), bK, Y11.out.b11.lt⟩; clear bK hbt hsz Y11))
  generalize w11.heap.size = g12 at *
  clear kc HBy HKB
  go_upto_region 10 with fail
  obtain ⟨q, hq, hq8⟩ := mod256 bit
  rw [hq]
  clear hq
  have d1 : (q : Int).tdiv 32 = ((q / 32 : Nat) : Int) := by rw [Int.tdiv_eq_ediv_of_nonneg (by omega)]; omega
  have d2 : (q : Int).tmod 32 = ((q % 32 : Nat) : Int) := by rw [Int.tmod_eq_emod_of_nonneg (by omega)]; omega
  have l1 : q / 32 < 8 := by omega
  have l2 : q % 32 < 32 := by omega
  generalize q / 32 = j at *
  generalize q % 32 = r at *
  have d3 : (j : Int) < 8 := by omega
  have d4 : (0 : Int) ≤ (j : Int) := by omega
  have d5 : (r : Int) < 32 := by omega
  have d6 : (0 : Int) ≤ (r : Int) := by omega
  have c1 : w12.cell? ⟨g11, j, none⟩ = some (.int .u32 (T.getD j 0)) := by have := Y12.out.1.b11.row j (by omega); rwa [Nat.zero_add] at this
  have f1 : w12.frozen? ⟨g11, j, none⟩ = false := Y12.out.1.b11.free j
  have HX := hid (xor_other (T.getD j 0) r (wT j).1 (wT j).2 l2)
  have HJ : Hid (T.getD j 0 = T.getD j 0) := hid rfl
  obtain ⟨x, hx⟩ : ∃ x, T.getD j 0 = x := ⟨_, rfl⟩
  rw [hx] at c1 HX
  have HJ' := hid hx
  clear hq8 hx HJ
  go_upto_region 11 with fail
  generalize bits BinOp.xor IntKind.u32 x (2 ^ r % 4294967296) = v at *
  have hUl : (T.set j v).length = 8 := by rw [List.length_set, hTl]
  have wU : Wds (T.set j v) := fun i => by
    have := wT i
    by_cases hij : j = i
    · subst hij
      by_cases hl : j < T.length
      · simp only [List.getD_eq_getElem?_getD, List.getElem?_set_self hl, Option.getD_some]; exact ⟨HX.out.1, HX.out.2.1⟩
      · omega
    · simpa [List.getD_eq_getElem?_getD, List.getElem?_set_ne hij] using this
  have nU : T ≠ T.set j v := fun h => by
    have h2 : T.getD j 0 = (T.set j v).getD j 0 := by rw [← h]
    rw [HJ'.out] at h2
    simp only [List.getD_eq_getElem?_getD, List.getElem?_set_self (show j < T.length by omega), Option.getD_some] at h2
    exact HX.out.2.2 h2.symm
  have Y13 : Hid (A6 W s m d K (T.set j v) g9 g11 (w12.setCell ⟨g11, j, none⟩ (.int .u32 v)) ∧ Blk (w12.setCell ⟨g11, j, none⟩ (.int .u32 v)) g12 .u32 23 K) := hid ⟨⟨Y12.out.1.am.but (but_setCell _ _ _ _) (by have := Y12.out.1.l9; have := Y12.out.1.l11; omega), Y12.out.1.b9.other _ (by have := Y12.out.1.l11; omega), Y12.out.1.b11.set j v, Y12.out.1.l9, Y12.out.1.l11⟩, Y12.out.2.1.other _ (by have := Y12.out.2.2; omega)⟩
  have HV2 : Hid (∀ w, Tabs w → Calls Tryd.prog 11 #[.agg (K.map (Value.int .u32)).toArray, .agg (m.map (Value.int .u32)).toArray, .agg (d.map (Value.int .u32)).toArray, .agg ((T.set j v).map (Value.int .u32)).toArray] w fun e W' => e = .returned (.bool false) ∧ Below w.heap.size w W') := hid (by
    intro w hw
    have := HV.out w hw (T.set j v) hUl wU
    rwa [decide_eq_false nU] at this)
  clear HV wT wU nU HX HJ' c1 f1 Y12 hET
  generalize T.set j v = U at *
  generalize World.setCell _ _ _ = w14 at *
  go_wp2_with (first | (refine wpList_load_bg (by rfl) 23 _ rfl g9 K rfl Y13.out.1.b9 Tryd.underlying23 (by rw [hKl]; exact size26) ?_) | (refine wpList_load_bg (by rfl) 23 _ rfl g12 K rfl Y13.out.2 Tryd.underlying23 (by rw [hKl]; exact size26) ?_) | (refine wpList_load_bg (by rfl) 23 _ rfl (W.heap.size + 1) m rfl Y13.out.1.am.b5 Tryd.underlying23 (by rw [hm]; exact size26) ?_) | (refine wpList_load_bg (by rfl) 23 _ rfl (W.heap.size + 1 + 1) d rfl Y13.out.1.am.b6 Tryd.underlying23 (by rw [hd]; exact size26) ?_) | (refine wpList_load_bg (by rfl) 23 _ rfl g11 U rfl Y13.out.1.b11 Tryd.underlying23 (by rw [hUl]; exact size26) ?_) | (go_at_call 11; refine (HV2.out _ Y13.out.1.am.tb).mono ?_; rintro e w15 ⟨rfl, hb⟩; have Y15 := hid (below_on Y13.out.1.am.bl hb); clear hb))
  go_ret
  exact ⟨rfl, Y15.out⟩
end Go.Proofs.YtbpdmkohihgnjaaDoor
