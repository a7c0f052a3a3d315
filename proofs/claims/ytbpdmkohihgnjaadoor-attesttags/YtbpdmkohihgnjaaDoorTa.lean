/- The document's Key 24, Tag 25, Verify 26. -/
import Derived.Test.YtbpdmkohihgnjaaDoorKb
import Derived.Test.YtbpdmkohihgnjaaDoorRMac2
namespace Go.Proofs.YtbpdmkohihgnjaaDoor
open Go.RowKit
set_option maxHeartbeats 4000000
set_option maxRecDepth 100000
structure TR (W : World) : Prop where
  tb : TabR W
  sz : 12 < W.heap.size
theorem TR.on {W w : World} (h : TR W) (hb : Below W.heap.size W w) : TR w := ⟨h.tb.on h.sz hb, by have := hb.size; have := h.sz; omega⟩
structure VR (W : World) (k m d t : List Int) (w : World) : Prop where
  tb : TR w
  bl : Below W.heap.size W w
  bk : Blk w W.heap.size .u32 23 k
  bm : Blk w (W.heap.size + 1) .u32 23 m
  bd : Blk w (W.heap.size + 1 + 1) .u32 23 d
  bt : Blk w (W.heap.size + 1 + 1 + 1) .u32 23 t
theorem VR.on {W : World} {k m d t : List Int} {w w' : World} (h : VR W k m d t w) (hb : Below w.heap.size w w') : VR W k m d t w' := ⟨h.tb.on hb, below_on h.bl hb, h.bk.on hb, h.bm.on hb, h.bd.on hb, h.bt.on hb⟩
attribute [-simp] Tryd.isAgg23 Tryd.sizeOf23 Tryd.zeroValue23
theorem rkey_any (W : World) (hT : TR W) (s : List Int) (hs : s.length = 8) (ws : Wds s) :
    Calls Tryd.prog 24 #[Ag s] W fun e W' => e = .returned (Ag (keyOf s)) ∧ Below W.heap.size W W' := by
  obtain ⟨Z, hZ⟩ : ∃ Z : List Int, Z = List.replicate 8 0 := ⟨_, rfl⟩
  have hZl : Z.length = 8 := by rw [hZ]; simp
  have hz : ∀ w, (zeroValue 23).run Tryd.prog w = .ok (.agg (Z.map (Value.int .u32)).toArray) w := fun w => by rw [Tryd.zeroValue23, hZ]; rfl
  clear hZ
  obtain ⟨X, hX⟩ : ∃ X, X = ((W.alloc (Obj.cells (List.map (Value.int IntKind.u32) s).toArray 23)).alloc (Obj.cells (List.map (Value.int IntKind.u32) Z).toArray 23)).alloc (Obj.cells #[.int .u32 2002874980, .int .u32 1701716075, .int .u32 1702436913] 22) := ⟨_, rfl⟩
  have HB : Hid (Below W.heap.size W X) := hid (by rw [hX]; exact below_on (below_on (below_one W _) (below_one _ _)) (below_one _ _))
  have bs : Hid (Blk X W.heap.size .u32 23 s) := hid (by rw [hX]; exact ((Blk.new W .u32 23 s).alloc _).alloc _)
  have bz : Hid (Blk X (W.heap.size + 1) .u32 23 Z) := hid (by rw [hX]; exact (Blk.newAt (by simp) .u32 23 Z).alloc _)
  have bk : Hid (Blk X (W.heap.size + 1 + 1) .u32 22 K3) := hid (by rw [hX]; exact Blk.newAt (by simp) .u32 22 K3)
  have HC : Hid (Calls Tryd.prog 55 #[.slice (some ⟨W.heap.size, 0, none⟩) 8 8, .slice (some ⟨W.heap.size + 1 + 1, 0, none⟩) 3 3] X fun e W' => e = .returned (Ag (keyOf s)) ∧ Below X.heap.size X W') :=
    hid (rtag_any X (hT.on HB.out).tb (hT.on HB.out).sz _ 8 8 s hs ws bs.out.atb (by decide) _ 3 3 K3 rfl wds_k3 bk.out.atb (by decide))
  have hMl := keyOf_length s
  generalize keyOf s = M at *
  clear hT bs bk ws
  unfold Ag at *
  go_enter Tryd.func24, Tryd.ntmps24
  go_wp2_with (first | (go_at_call 55; rw [← hX]; refine HC.out.mono ?_; rintro e w1 ⟨rfl, hb⟩; have B2 := hid (below_on HB.out hb); have Z2 := hid (bz.out.on hb); clear hb hX) | (refine wpList_store_blk rfl 23 _ _ rfl (W.heap.size + 1) M rfl rfl Z2.out (by rw [hMl]; exact size26) (by rw [hZl, hMl]) ?_))
  refine ret_cell rfl rfl (W.heap.size + 1) M rfl (Z2.out.setRow _) Tryd.underlying23 (by rw [hMl]; exact size26) ⟨rfl, below_setRow B2.out (by omega) _⟩
theorem rtagq_any (W : World) (hT : TR W) (k m d : List Int) (hk : k.length = 8) (hm : m.length = 8) (hd : d.length = 8) (wk : Wds k) (wm : Wds m) (wd : Wds d) :
    Calls Tryd.prog 25 #[Ag k, Ag m, Ag d] W fun e W' => e = .returned (Ag (tagOf k m d)) ∧ Below W.heap.size W W' := by
  obtain ⟨Z, hZ⟩ : ∃ Z : List Int, Z = List.replicate 8 0 := ⟨_, rfl⟩
  have hZl : Z.length = 8 := by rw [hZ]; simp
  have hz : ∀ w, (zeroValue 23).run Tryd.prog w = .ok (.agg (Z.map (Value.int .u32)).toArray) w := fun w => by rw [Tryd.zeroValue23, hZ]; rfl
  clear hZ
  obtain ⟨i0, hi, hz0, hz1, hz2⟩ := info_parts Tryd.info22
  have h4 : (m ++ d).length = 16 := by rw [List.length_append, hm, hd]
  obtain ⟨X, hX⟩ : ∃ X, X = (((W.alloc (Obj.cells (List.map (Value.int IntKind.u32) k).toArray 23)).alloc (Obj.cells (List.map (Value.int IntKind.u32) m).toArray 23)).alloc (Obj.cells (List.map (Value.int IntKind.u32) d).toArray 23)).alloc (Obj.cells (List.map (Value.int IntKind.u32) Z).toArray 23) := ⟨_, rfl⟩
  have Y0 : Hid (VR W k m d Z X) := hid (by
    have HB : Below W.heap.size W X := by rw [hX]; exact below_on (below_on (below_on (below_one W _) (below_one _ _)) (below_one _ _)) (below_one _ _)
    refine ⟨hT.on HB, HB, ?_, ?_, ?_, ?_⟩
    · rw [hX]; exact (((Blk.new W .u32 23 k).alloc _).alloc _).alloc _
    · rw [hX]; exact ((Blk.newAt (by simp) .u32 23 m).alloc _).alloc _
    · rw [hX]; exact (Blk.newAt (by simp) .u32 23 d).alloc _
    · rw [hX]; exact Blk.newAt (by simp) .u32 23 Z)
  have HC : Hid (∀ w v, TR w → Blk w W.heap.size .u32 23 k → ∀ X0, Holds X0 w .u32 22 v (m ++ d) → Calls Tryd.prog 55 #[.slice (some ⟨W.heap.size, 0, none⟩) 8 8, v] w fun e W' => e = .returned (Ag (tagOf k m d)) ∧ Below w.heap.size w W') := hid (by
    intro w v hw bw X0 hv
    obtain ⟨p, c, rfl, hsl, hat, _⟩ := hv.at'
    rw [h4]
    exact rtag_any w hw.tb hw.sz _ 8 8 k hk wk bw.atb (by decide) p 16 c (m ++ d) h4 (wm.app wd) hat (by decide))
  have H0 : Hid (Holds X X .u32 22 (.slice none 0 0) []) := hid (Holds.start _ _ _)
  have hMl := tagOf_length k m d
  generalize tagOf k m d = M at *
  clear hT wk wm wd h4
  unfold Ag at *
  go_enter Tryd.func25, Tryd.ntmps25
  go_upto_region 2 with fail
  rw [← hX]
  clear hX
  go_upto_region 3 with (first | (at_builtin; refine wpList_append_at (W := X) rfl _ _ 25 rfl .u32 22 i0 (.int .u32 0) 4 Tryd.underlying25 hi hz0 hz1 hz2 rfl _ [] rfl H0.out (some ⟨W.heap.size + 1, 0, none⟩) 8 8 m rfl hm Y0.out.bm.atb (fun h => by cases h) (by decide) (by decide) ?_; intro v3 w3 H3))
  have H3' : Hid (Holds X w3 .u32 22 v3 m) := hid H3
  have Y3 : Hid (VR W k m d Z w3) := hid (Y0.out.on H3.below)
  clear H3 H0
  go_upto_region 4 with (first | (at_builtin; refine wpList_append_at (W := X) rfl _ _ 25 rfl .u32 22 i0 (.int .u32 0) 4 Tryd.underlying25 hi hz0 hz1 hz2 rfl _ m rfl H3'.out (some ⟨W.heap.size + 1 + 1, 0, none⟩) 8 8 d rfl hd Y3.out.bd.atb (fun h => by cases h) (by rw [hm]; decide) (by rw [hm]; decide) ?_; intro v4 w4 H4))
  have H4' : Hid (Holds X w4 .u32 22 v4 (m ++ d)) := hid H4
  have Y4 : Hid (VR W k m d Z w4) := hid (Y0.out.on H4.below)
  clear H4 H3' Y3 Y0
  go_wp2_with (first | (go_at_call 55; refine (HC.out _ _ Y4.out.tb Y4.out.bk _ H4'.out).mono ?_; rintro e w5 ⟨rfl, h5⟩; have X5 := hid (And.intro (below_on Y4.out.bl h5) (Y4.out.bt.on h5)); clear h5 Y4 H4') | (refine wpList_store_blk rfl 23 _ _ rfl (W.heap.size + 1 + 1 + 1) M rfl rfl X5.out.2 (by rw [hMl]; exact size26) (by rw [hZl, hMl]) ?_))
  refine ret_cell rfl rfl (W.heap.size + 1 + 1 + 1) M rfl (X5.out.2.setRow _) Tryd.underlying23 (by rw [hMl]; exact size26) ⟨rfl, below_setRow X5.out.1 (by omega) _⟩
theorem rverify_any (W : World) (hT : TR W) (k m d t : List Int) (hk : k.length = 8) (hm : m.length = 8) (hd : d.length = 8) (ht : t.length = 8) (wk : Wds k) (wm : Wds m) (wd : Wds d) :
    Calls Tryd.prog 26 #[Ag k, Ag m, Ag d, Ag t] W fun e W' => e = .returned (.bool (decide (tagOf k m d = t))) ∧ Below W.heap.size W W' := by
  obtain ⟨X, hX⟩ : ∃ X, X = (((W.alloc (Obj.cells (List.map (Value.int IntKind.u32) k).toArray 23)).alloc (Obj.cells (List.map (Value.int IntKind.u32) m).toArray 23)).alloc (Obj.cells (List.map (Value.int IntKind.u32) d).toArray 23)).alloc (Obj.cells (List.map (Value.int IntKind.u32) t).toArray 23) := ⟨_, rfl⟩
  have Y0 : Hid (VR W k m d t X.drew) := hid (by
    have HB : Below W.heap.size W X := by rw [hX]; exact below_on (below_on (below_on (below_one W _) (below_one _ _)) (below_one _ _)) (below_one _ _)
    refine ⟨(hT.on HB).on (Below.refl _ _).drew, HB.drew, ?_, ?_, ?_, ?_⟩
    · rw [hX]; exact (((Blk.new W .u32 23 k).alloc _).alloc _).alloc _
    · rw [hX]; exact ((Blk.newAt (by simp) .u32 23 m).alloc _).alloc _
    · rw [hX]; exact (Blk.newAt (by simp) .u32 23 d).alloc _
    · rw [hX]; exact Blk.newAt (by simp) .u32 23 t)
  have H1 : Hid (∀ w, TR w → Calls Tryd.prog 25 #[.agg (k.map (Value.int .u32)).toArray, .agg (m.map (Value.int .u32)).toArray, .agg (d.map (Value.int .u32)).toArray] w fun e W' => e = .returned (.agg ((tagOf k m d).map (Value.int .u32)).toArray) ∧ Below w.heap.size w W') := hid fun w hw => rtagq_any w hw k m d hk hm hd wk wm wd
  have hEQ : ∀ w, (Op.equalIn 10000 23 (.agg ((tagOf k m d).map (Value.int .u32)).toArray) (.agg (t.map (Value.int .u32)).toArray)).run Tryd.prog w = .ok (decide (tagOf k m d = t)) w := fun w => eq26 _ _ (tagOf_length _ _ _) ht w
  generalize decide (tagOf k m d = t) = r at *
  generalize tagOf k m d = M at *
  clear hT wk wm wd
  unfold Ag at *
  go_enter Tryd.func26, Tryd.ntmps26
  go_upto_region 1 with fail
  rw [← hX]
  clear hX
  refine wp_region_held_drew (S := fun w => VR W k m d t w) (by kernel_rfl) Y0.out (fun hHeld => ?_)
  generalize World.drew _ = w0 at *
  refine wpAnyH_take (i := 0) (oi := { dst := some 9, op := Op.load 23 (Operand.tmp 4), type := 23, pos := "ref.go:53", after := #[], guard := none }) (v := .agg ((k).map (Value.int .u32)).toArray) rfl (by kernel_rfl) (by kernel_rfl) (by kernel_rfl) (fun _ _ _ h => h) (yieldsIf_load_mid (by rfl) _ _ rfl _ _ rfl _ _ (fun w hSw => cel_range (blk_cel hSw.bk)) Tryd.underlying23 rfl (by rw [List.length_map, hk]; exact size26)) (by assumption) ?_
  simp only [Act.put, List.setIfInBounds_toArray, List.set_cons_zero, List.set_cons_succ]
  refine wpAnyH_take (i := 1) (oi := { dst := some 10, op := Op.load 23 (Operand.tmp 5), type := 23, pos := "ref.go:53", after := #[], guard := none }) (v := .agg ((m).map (Value.int .u32)).toArray) rfl (by kernel_rfl) (by kernel_rfl) (by kernel_rfl) (fun _ _ _ h => h) (yieldsIf_load_mid (by rfl) _ _ rfl _ _ rfl _ _ (fun w hSw => cel_range (blk_cel hSw.bm)) Tryd.underlying23 rfl (by rw [List.length_map, hm]; exact size26)) (by assumption) ?_
  simp only [Act.put, List.setIfInBounds_toArray, List.set_cons_zero, List.set_cons_succ]
  refine wpAnyH_take (i := 2) (oi := { dst := some 11, op := Op.load 23 (Operand.tmp 6), type := 23, pos := "ref.go:53", after := #[], guard := none }) (v := .agg ((d).map (Value.int .u32)).toArray) rfl (by kernel_rfl) (by kernel_rfl) (by kernel_rfl) (fun _ _ _ h => h) (yieldsIf_load_mid (by rfl) _ _ rfl _ _ rfl _ _ (fun w hSw => cel_range (blk_cel hSw.bd)) Tryd.underlying23 rfl (by rw [List.length_map, hd]; exact size26)) (by assumption) ?_
  simp only [Act.put, List.setIfInBounds_toArray, List.set_cons_zero, List.set_cons_succ]
  refine wpAnyH_take (i := 4) (oi := { dst := some 13, op := Op.load 23 (Operand.tmp 7), type := 23, pos := "ref.go:53", after := #[], guard := none }) (v := .agg ((t).map (Value.int .u32)).toArray) rfl (by kernel_rfl) (by kernel_rfl) (by kernel_rfl) (fun _ _ _ h => h) (yieldsIf_load_mid (by rfl) _ _ rfl _ _ rfl _ _ (fun w hSw => cel_range (blk_cel hSw.bt)) Tryd.underlying23 rfl (by rw [List.length_map, ht]; exact size26)) (by assumption) ?_
  simp only [Act.put, List.setIfInBounds_toArray, List.set_cons_zero, List.set_cons_succ]
  refine wpAnyH_ready (rs := [3]) (by kernel_rfl) (by simp) (AllReadyH.cons (o := { dst := some 12, op := Op.call { callee := Callee.value (Operand.func 25), args := #[Operand.tmp 9, Operand.tmp 10, Operand.tmp 11], argTypes := #[23, 23, 23] }, type := 23, pos := "ref.go:53", after := #[{ on := 0, ground := Ground.data }, { on := 1, ground := Ground.data }, { on := 2, ground := Ground.data }], guard := none }) rfl (fun KQ hK => ?_) AllReadyH.nil)
  go_simp
  refine (H1.out _ Y0.out.tb).mono ?_
  rintro e w1 ⟨rfl, h1⟩
  have Y1 := hid (Y0.out.on h1)
  clear h1 Y0
  go_wp2_with fail
  refine hK.out _ _ Y1.out (fun hHeld => ?_)
  clear hK KQ
  try simp only [Act.put, List.setIfInBounds_toArray, List.set_cons_zero, List.set_cons_succ]
  refine wpAnyH_take (i := 5) (oi := { dst := some 14, op := Op.binOp BinOp.eql 23 (Operand.tmp 12) (Operand.tmp 13) 23, type := 4, pos := "ref.go:53", after := #[{ on := 3, ground := Ground.data }, { on := 4, ground := Ground.data }], guard := none }) (v := .bool r) rfl (by kernel_rfl) (by kernel_rfl) (by kernel_rfl) (fun _ _ _ h => h) (Or.inl ⟨by rfl, by intro w hSw; go_simp⟩) (by assumption) ?_
  simp only [Act.put, List.setIfInBounds_toArray, List.set_cons_zero, List.set_cons_succ]
  refine wpAnyH_ready (rs := [6]) (by kernel_rfl) (by simp) (AllReadyH.cons (o := { dst := some 8, op := Op.assign (Operand.tmp 14), type := 4, pos := "ref.go:53", after := #[{ on := 5, ground := Ground.data }, { on := 3, ground := Ground.chain }, { on := 0, ground := Ground.phase }, { on := 1, ground := Ground.phase }, { on := 2, ground := Ground.phase }, { on := 3, ground := Ground.phase }, { on := 4, ground := Ground.phase }, { on := 5, ground := Ground.phase }], guard := none }) rfl (fun KQ hK => ?_) AllReadyH.nil)
  go_simp
  refine hK.out _ _ Y1.out (fun hHeld => ?_)
  clear hK KQ
  try simp only [Act.put, List.setIfInBounds_toArray, List.set_cons_zero, List.set_cons_succ]
  refine wpAnyH_done (by kernel_rfl) ?_ _
  go_wp2_with fail
  go_ret
  exact ⟨rfl, Y1.out.bl⟩
end Go.Proofs.YtbpdmkohihgnjaaDoor
