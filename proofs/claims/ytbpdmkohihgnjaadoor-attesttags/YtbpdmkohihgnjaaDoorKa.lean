/- attest: Key 8, Tag 10, Verify 11. -/
import Derived.Test.YtbpdmkohihgnjaaDoorTwoLawA
import Derived.Test.YtbpdmkohihgnjaaDoorCatUSameD
namespace Go.Proofs.YtbpdmkohihgnjaaDoor
open Go.RowKit
set_option maxHeartbeats 4000000
set_option maxRecDepth 100000
theorem hid {p : Prop} (h : p) : Hid p := h
theorem below_on {X w w' : World} (h : Below X.heap.size X w) (k : Below w.heap.size w w') : Below X.heap.size X w' := h.trans (k.mono h.size)
theorem Cel.setr {w : World} {g : Nat} {t : TypeId} {cs : List Value} (h : Cel w g t cs) (vs : List Value) : Cel (w.setRow g vs.toArray) g t vs := setRow_heap w g _ _ t _ h
theorem Cel.on {w w' : World} {g : Nat} {t : TypeId} {cs : List Value} (h : Cel w g t cs) (hb : Below w.heap.size w w') : Cel w' g t cs := h.below hb h.lt
theorem blk_cel {w : World} {g t : Nat} {L : List Int} (h : Blk w g .u32 t L) : Cel w g t (L.map (Value.int .u32)) := h
theorem cel_range {w : World} {g : Nat} {t : TypeId} {cs : List Value} (h : Cel w g t cs) : w.rangeAt g 0 cs := fun j v hv => by rw [Nat.zero_add, h.cell j]; exact hv
theorem wp_store_st {P : Program} {op : Oper} {a : Act} {w : World} {K : Act → World → Prop} {Q : Exit → Act → World → Prop} (ty : TypeId) (x y : Operand) (ho : op.op = .store ty x y)
    (g : Nat) (vs : List Value) (hx : a.eval x = .pointer (some ⟨g, 0, none⟩)) (hy : a.eval y = .agg vs.toArray) {e : TypeId} {cs : List Value} (hg : Cel w g e cs) (hi : (P.info? ty).map (·.size) = some vs.length) (hl : cs.length = vs.length) (h1 : vs.all (·.oneCell') = true)
    (h : ∀ w', Cel w' g e vs → But g w w' → w'.heap.size = w.heap.size → K (a.put op.dst undef) w') : op.wp P a w K Q := by
  have hs : (Instr.storeAt ty (.pointer (some ⟨g, 0, none⟩)) (.agg vs.toArray)).run P w = .ok () (w.setRow g vs.toArray) := by
    simp only [Instr.storeAt, Instr.sureAddr, Sem.run_bind, Sem.run_pure, Result.andThen]
    exact run_storeVar_row w g e ty _ _ hg (by rw [hi]; simp) (by simp [hl]) (by simpa using h1)
  unfold Oper.wp execOp
  simp only [ho, hx, hy, Sem.run_bind, Sem.run_pure, hs, Result.andThen_ok]
  exact h _ (Cel.setr hg _) (but_setRow _ _ _) (by simp)
/-- The words of what the key is for. -/
def K3 : List Int := [2002874980, 1701716075, 1702436913]
theorem wds_k3 : Wds K3 := by intro i; unfold K3; match i with
  | 0 => decide
  | 1 => decide
  | 2 => decide
  | n + 3 => simp
def keyOf (s : List Int) : List Int := hmac (bytesD s) (bytesD K3)
def tagOf (k m d : List Int) : List Int := hmac (bytesD k) (bytesD (m ++ d))
theorem keyOf_length (s : List Int) : (keyOf s).length = 8 := hmac_length _ _
theorem tagOf_length (k m d : List Int) : (tagOf k m d).length = 8 := hmac_length _ _
theorem hmac_wds (k m : List Int) : Wds (hmac k m) := sumB_wds _
theorem Wds.app {a b : List Int} (ha : Wds a) (hb : Wds b) : Wds (a ++ b) := fun i => by
  by_cases h : i < a.length
  · have := ha i; simpa [List.getD_eq_getElem?_getD, List.getElem?_append_left h] using this
  · have := hb (i - a.length); simpa [List.getD_eq_getElem?_getD, List.getElem?_append_right (show a.length ≤ i by omega)] using this
theorem Blk.atb {W : World} {g e : Nat} {L : List Int} (h : Blk W g .u32 e L) : At W .u32 (some ⟨g, 0, none⟩) L := .inr ⟨g, 0, rfl, h.lt, h.row⟩
structure VS (W : World) (k m d t : List Int) (w : World) : Prop where
  tb : Tabs w
  bl : Below W.heap.size W w
  bk : Blk w W.heap.size .u32 23 k
  bm : Blk w (W.heap.size + 1) .u32 23 m
  bd : Blk w (W.heap.size + 1 + 1) .u32 23 d
  bt : Blk w (W.heap.size + 1 + 1 + 1) .u32 23 t
theorem VS.on {W : World} {k m d t : List Int} {w w' : World} (h : VS W k m d t w) (hb : Below w.heap.size w w') : VS W k m d t w' := ⟨h.tb.on hb, below_on h.bl hb, h.bk.on hb, h.bm.on hb, h.bd.on hb, h.bt.on hb⟩
attribute [-simp] Tryd.isAgg23 Tryd.sizeOf23 Tryd.zeroValue23
theorem key_any (W : World) (hT : Tabs W) (s : List Int) (hs : s.length = 8) (ws : Wds s) :
    Calls Tryd.prog 8 #[Ag s] W fun e W' => e = .returned (Ag (keyOf s)) ∧ Below W.heap.size W W' := by
  obtain ⟨Z, hZ⟩ : ∃ Z : List Int, Z = List.replicate 8 0 := ⟨_, rfl⟩
  have hZl : Z.length = 8 := by rw [hZ]; simp
  have hz : ∀ w, (zeroValue 23).run Tryd.prog w = .ok (.agg (Z.map (Value.int .u32)).toArray) w := fun w => by rw [Tryd.zeroValue23, hZ]; rfl
  clear hZ
  obtain ⟨X, hX⟩ : ∃ X, X = ((W.alloc (Obj.cells (List.map (Value.int IntKind.u32) s).toArray 23)).alloc (Obj.cells (List.map (Value.int IntKind.u32) Z).toArray 23)).alloc (Obj.cells #[.int .u32 2002874980, .int .u32 1701716075, .int .u32 1702436913] 22) := ⟨_, rfl⟩
  have HB : Hid (Below W.heap.size W X) := hid (by rw [hX]; exact below_on (below_on (below_one W _) (below_one _ _)) (below_one _ _))
  have bs : Hid (Blk X W.heap.size .u32 23 s) := hid (by rw [hX]; exact ((Blk.new W .u32 23 s).alloc _).alloc _)
  have bz : Hid (Blk X (W.heap.size + 1) .u32 23 Z) := hid (by rw [hX]; exact (Blk.newAt (by simp) .u32 23 Z).alloc _)
  have bk : Hid (Blk X (W.heap.size + 1 + 1) .u32 22 K3) := hid (by rw [hX]; exact Blk.newAt (by simp) .u32 22 K3)
  have HC : Hid (Calls Tryd.prog 9 #[.slice (some ⟨W.heap.size, 0, none⟩) 8 8, .slice (some ⟨W.heap.size + 1 + 1, 0, none⟩) 3 3] X fun e W' => e = .returned (Ag (keyOf s)) ∧ Below X.heap.size X W') :=
    hid (macTag_any X (hT.on HB.out) _ 8 8 s hs ws bs.out.atb (by decide) _ 3 3 K3 rfl wds_k3 bk.out.atb (by decide))
  have hMl := keyOf_length s
  generalize keyOf s = M at *
  clear hT bs bk ws
  unfold Ag at *
  go_enter Tryd.func8, Tryd.ntmps8
  go_wp2_with (first | (go_at_call 9; rw [← hX]; refine HC.out.mono ?_; rintro e w1 ⟨rfl, hb⟩; have B2 := hid (below_on HB.out hb); have Z2 := hid (bz.out.on hb); clear hb hX) | (refine wpList_store_blk rfl 23 _ _ rfl (W.heap.size + 1) M rfl rfl Z2.out (by rw [hMl]; exact size26) (by rw [hZl, hMl]) ?_))
  refine ret_cell rfl rfl (W.heap.size + 1) M rfl (Z2.out.setRow _) Tryd.underlying23 (by rw [hMl]; exact size26) ⟨rfl, below_setRow B2.out (by omega) _⟩
theorem tag_any (W : World) (hT : Tabs W) (k m d : List Int) (hk : k.length = 8) (hm : m.length = 8) (hd : d.length = 8) (wk : Wds k) (wm : Wds m) (wd : Wds d) :
    Calls Tryd.prog 10 #[Ag k, Ag m, Ag d] W fun e W' => e = .returned (Ag (tagOf k m d)) ∧ Below W.heap.size W W' := by
  obtain ⟨Z, hZ⟩ : ∃ Z : List Int, Z = List.replicate 8 0 := ⟨_, rfl⟩
  have hZl : Z.length = 8 := by rw [hZ]; simp
  have hz : ∀ w, (zeroValue 23).run Tryd.prog w = .ok (.agg (Z.map (Value.int .u32)).toArray) w := fun w => by rw [Tryd.zeroValue23, hZ]; rfl
  clear hZ
  have h4 : (m ++ d).length = 16 := by rw [List.length_append, hm, hd]
  obtain ⟨X, hX⟩ : ∃ X, X = (((W.alloc (Obj.cells (List.map (Value.int IntKind.u32) k).toArray 23)).alloc (Obj.cells (List.map (Value.int IntKind.u32) m).toArray 23)).alloc (Obj.cells (List.map (Value.int IntKind.u32) d).toArray 23)).alloc (Obj.cells (List.map (Value.int IntKind.u32) Z).toArray 23) := ⟨_, rfl⟩
  have Y0 : Hid (VS W k m d Z X.drew) := hid (by
    have HB : Below W.heap.size W X := by rw [hX]; exact below_on (below_on (below_on (below_one W _) (below_one _ _)) (below_one _ _)) (below_one _ _)
    refine ⟨(hT.on HB).on (Below.refl _ _).drew, HB.drew, ?_, ?_, ?_, ?_⟩
    · rw [hX]; exact (((Blk.new W .u32 23 k).alloc _).alloc _).alloc _
    · rw [hX]; exact ((Blk.newAt (by simp) .u32 23 m).alloc _).alloc _
    · rw [hX]; exact (Blk.newAt (by simp) .u32 23 d).alloc _
    · rw [hX]; exact Blk.newAt (by simp) .u32 23 Z)
  have HC : Hid (∀ w v, Tabs w → Blk w W.heap.size .u32 23 k → ∀ X0, Holds X0 w .u32 22 v (m ++ d) → Calls Tryd.prog 9 #[.slice (some ⟨W.heap.size, 0, none⟩) 8 8, v] w fun e W' => e = .returned (Ag (tagOf k m d)) ∧ Below w.heap.size w W') := hid (by
    intro w v hw bw X0 hv
    obtain ⟨p, c, rfl, hsl, hat, _⟩ := hv.at'
    rw [h4]
    exact macTag_any w hw _ 8 8 k hk wk bw.atb (by decide) p 16 c (m ++ d) h4 (wm.app wd) hat (by decide))
  have HJ : Hid (∀ w g, Blk w (W.heap.size + 1) .u32 23 m → Blk w (W.heap.size + 1 + 1) .u32 23 d → Cel w g 25 [.slice (some ⟨W.heap.size + 1, 0, none⟩) 8 8, .slice (some ⟨W.heap.size + 1 + 1, 0, none⟩) 8 8] → Calls Tryd.prog 33 #[.slice (some ⟨g, 0, none⟩) 2 2] w fun e W' => ∃ v, e = .returned v ∧ Holds w W' .u32 22 v (m ++ d)) := hid (by
    intro w g bm bd hc
    have := concatU_any w g 2 2 (fun t => if t = 0 then some ⟨W.heap.size + 1, 0, none⟩ else some ⟨W.heap.size + 1 + 1, 0, none⟩) (fun _ => 8) (fun _ => 8) (fun t => if t = 0 then m else d) (by decide) (by
      intro t ht
      match t, ht with
      | 0, _ => exact (hc.cell 0).trans rfl
      | 1, _ => exact (hc.cell 1).trans rfl) hc.lt (by intro t ht; match t, ht with | 0, _ => exact hm | 1, _ => exact hd) (by intro t ht; match t, ht with | 0, _ => exact bm.atb | 1, _ => exact bd.atb) (by intro t ht h0; match t, ht with | 0, _ => cases h0 | 1, _ => cases h0) (by show (([] ++ m) ++ d).length ≤ _; simp [hm, hd])
    refine this.mono ?_
    rintro e w' ⟨v, rfl, h⟩
    refine ⟨v, rfl, ?_⟩
    have h2 : joinX (fun t => if t = 0 then m else d) 2 = m ++ d := by show ([] ++ m) ++ d = m ++ d; rw [List.nil_append]
    rwa [h2] at h)
  have hMl := tagOf_length k m d
  generalize tagOf k m d = M at *
  clear hT wk wm wd h4 hk hm hd
  unfold Ag at *
  go_enter Tryd.func10, Tryd.ntmps10
  go_upto_region 1 with fail
  rw [← hX]
  clear hX
  refine wp_region_held_drew (S := fun w => Below W.heap.size W w) (by kernel_rfl) Y0.out.bl (fun hHeld => ?_)
  generalize World.drew _ = w0 at *
  refine wpAnyH_take (i := 0) (oi := { dst := some 7, op := Op.slice 23 (Operand.tmp 3) none none none, type := 25, pos := "attest.go:19", after := #[], guard := none }) (v := .slice (some ⟨W.heap.size, 0, none⟩) 8 8) rfl (by kernel_rfl) (by kernel_rfl) (by kernel_rfl) (fun _ _ _ h => h) (Or.inl ⟨by rfl, by intro w hSw; go_simp⟩) (by assumption) ?_
  simp only [Act.put, List.setIfInBounds_toArray, List.set_cons_zero, List.set_cons_succ]
  refine wpAnyH_take (i := 1) (oi := { dst := some 8, op := Op.slice 23 (Operand.tmp 4) none none none, type := 25, pos := "attest.go:19", after := #[], guard := none }) (v := .slice (some ⟨W.heap.size + 1, 0, none⟩) 8 8) rfl (by kernel_rfl) (by kernel_rfl) (by kernel_rfl) (fun _ _ _ h => h) (Or.inl ⟨by rfl, by intro w hSw; go_simp⟩) (by assumption) ?_
  simp only [Act.put, List.setIfInBounds_toArray, List.set_cons_zero, List.set_cons_succ]
  refine wpAnyH_take (i := 2) (oi := { dst := some 9, op := Op.slice 23 (Operand.tmp 5) none none none, type := 25, pos := "attest.go:19", after := #[], guard := none }) (v := .slice (some ⟨W.heap.size + 1 + 1, 0, none⟩) 8 8) rfl (by kernel_rfl) (by kernel_rfl) (by kernel_rfl) (fun _ _ _ h => h) (Or.inl ⟨by rfl, by intro w hSw; go_simp⟩) (by assumption) ?_
  simp only [Act.put, List.setIfInBounds_toArray, List.set_cons_zero, List.set_cons_succ]
  refine wpAnyH_ready (rs := [3]) (by kernel_rfl) (by simp) (AllReadyH.cons (o := { dst := some 10, op := Op.buildSlice 116 2 #[(0, Operand.tmp 8), (1, Operand.tmp 9)], type := 116, pos := "attest.go:19", after := #[{ on := 1, ground := Ground.data }, { on := 2, ground := Ground.data }], guard := none }) rfl (fun KQ hK => ?_) AllReadyH.nil)
  go_simp
  have X1 := hid (Y0.out.on (below_one w0 (.cells #[.slice (some ⟨W.heap.size + 1, 0, none⟩) 8 8, .slice (some ⟨W.heap.size + 1 + 1, 0, none⟩) 8 8] 25)))
  have HL : Hid (Cel (w0.alloc (.cells #[.slice (some ⟨W.heap.size + 1, 0, none⟩) 8 8, .slice (some ⟨W.heap.size + 1 + 1, 0, none⟩) 8 8] 25)) w0.heap.size 25 [.slice (some ⟨W.heap.size + 1, 0, none⟩) 8 8, .slice (some ⟨W.heap.size + 1 + 1, 0, none⟩) 8 8]) := hid (heap_alloc_new _ _)
  clear Y0
  generalize World.alloc _ _ = w1 at *
  generalize w0.heap.size = g1 at *
  refine hK.out _ _ X1.out.bl (fun hHeld => ?_)
  clear hK KQ
  try simp only [Act.put, List.setIfInBounds_toArray, List.set_cons_zero, List.set_cons_succ]
  refine wpAnyH_ready (rs := [4]) (by kernel_rfl) (by simp) (AllReadyH.cons (o := { dst := some 11, op := Op.call { callee := Callee.value (Operand.func 33), args := #[Operand.tmp 10], argTypes := #[116] }, type := 25, pos := "attest.go:19", after := #[{ on := 3, ground := Ground.data }], guard := none }) rfl (fun KQ hK => ?_) AllReadyH.nil)
  go_simp
  refine (HJ.out _ _ X1.out.bm X1.out.bd HL.out).mono ?_
  rintro e w2 ⟨v2, rfl, h2⟩
  have X2 := hid (And.intro (X1.out.on h2.below) h2)
  clear h2 HL
  go_wp2_with fail
  refine hK.out _ _ X2.out.1.bl (fun hHeld => ?_)
  clear hK KQ
  try simp only [Act.put, List.setIfInBounds_toArray, List.set_cons_zero, List.set_cons_succ]
  refine wpAnyH_ready (rs := [5]) (by kernel_rfl) (by simp) (AllReadyH.cons (o := { dst := some 12, op := Op.call { callee := Callee.value (Operand.func 9), args := #[Operand.tmp 7, Operand.tmp 11], argTypes := #[25, 25] }, type := 23, pos := "attest.go:19", after := #[{ on := 0, ground := Ground.data }, { on := 4, ground := Ground.data }, { on := 4, ground := Ground.chain }], guard := none }) rfl (fun KQ hK => ?_) AllReadyH.nil)
  go_simp
  refine (HC.out _ _ X2.out.1.tb X2.out.1.bk _ X2.out.2).mono ?_
  rintro e w3 ⟨rfl, h3⟩
  have X3 := hid (And.intro (below_on X2.out.1.bl h3) (X2.out.1.bt.on h3))
  clear h3 X2 X1
  go_wp2_with fail
  refine hK.out _ _ X3.out.1 (fun hHeld => ?_)
  clear hK KQ
  try simp only [Act.put, List.setIfInBounds_toArray, List.set_cons_zero, List.set_cons_succ]
  refine wpAnyH_ready (rs := [6]) (by kernel_rfl) (by simp) (AllReadyH.cons (o := { dst := none, op := Op.store 23 (Operand.tmp 6) (Operand.tmp 12), type := 0, pos := "attest.go:19", after := #[{ on := 5, ground := Ground.data }, { on := 5, ground := Ground.chain }, { on := 0, ground := Ground.phase }, { on := 1, ground := Ground.phase }, { on := 2, ground := Ground.phase }, { on := 3, ground := Ground.phase }, { on := 4, ground := Ground.phase }, { on := 5, ground := Ground.phase }], guard := none }) rfl (fun KQ hK => ?_) AllReadyH.nil)
  rw [if_pos (by rfl)]
  refine wp_store_st 23 _ _ rfl (W.heap.size + 1 + 1 + 1) (M.map (Value.int .u32)) rfl rfl (blk_cel X3.out.2) (by rw [List.length_map, hMl]; exact size26) (by rw [List.length_map, List.length_map, hZl, hMl]) (List.all_eq_true.2 (ints_oneCell .u32 _)) ?_
  intro w4 hc4 hb4 hs4
  have X5 : Hid (Below W.heap.size W w4 ∧ Blk w4 (W.heap.size + 1 + 1 + 1) .u32 23 M) := hid ⟨X3.out.1.trans (hb4.below (by omega) X3.out.1.size), hc4⟩
  clear hc4 hb4 hs4 X3
  refine hK.out _ _ X5.out.1 (fun hHeld => ?_)
  clear hK KQ
  try simp only [Act.put]
  refine wpAnyH_done (by kernel_rfl) ?_ _
  go_wp2_with fail
  refine ret_cell rfl rfl (W.heap.size + 1 + 1 + 1) M rfl X5.out.2 Tryd.underlying23 (by rw [hMl]; exact size26) ⟨rfl, X5.out.1⟩
end Go.Proofs.YtbpdmkohihgnjaaDoor
