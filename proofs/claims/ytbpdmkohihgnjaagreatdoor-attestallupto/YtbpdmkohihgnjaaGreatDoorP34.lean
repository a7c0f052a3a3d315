import Derived.Test.YtbpdmkohihgnjaaGreatDoorP14
import Derived.Test.YtbpdmkohihgnjaaGreatDoorP01
import Derived.Test.YtbpdmkohihgnjaaGreatDoorP33
import Derived.Test.YtbpdmkohihgnjaaGreatDoorP28
import Derived.Test.YtbpdmkohihgnjaaGreatDoorP27
namespace Go.Proofs.YtbpdmkohihgnjaaGreatDoor
open Go.RowKit
set_option maxHeartbeats 4000000
set_option maxRecDepth 100000
structure TR (W : World) : Prop where
  tb : TabR W
  sz : 12 < W.heap.size
theorem TR.on {W w : World} (h : TR W) (hb : Below W.heap.size W w) : TR w := ⟨h.tb.on h.sz hb, by have := hb.size; have := h.sz; omega⟩
structure VR (W : World) (k m d t : List Int) (w : World) : Prop where
  tb : TR w
  bl : Below W.heap.size W w
  bk : Blk w W.heap.size .u32 26 k
  bm : Blk w (W.heap.size + 1) .u32 26 m
  bd : Blk w (W.heap.size + 1 + 1) .u32 26 d
  bt : Blk w (W.heap.size + 1 + 1 + 1) .u32 26 t
theorem VR.on {W : World} {k m d t : List Int} {w w' : World} (h : VR W k m d t w) (hb : Below w.heap.size w w') : VR W k m d t w' := ⟨h.tb.on hb, below_on h.bl hb, h.bk.on hb, h.bm.on hb, h.bd.on hb, h.bt.on hb⟩
attribute [-simp] Tryz.isAgg26 Tryz.sizeOf26 Tryz.zeroValue26
theorem rkey_any (W : World) (hT : TR W) (s : List Int) (hs : s.length = 8) (ws : Wds s) :
    Calls Tryz.prog 34 #[Ag s] W fun e W' => e = .returned (Ag (keyOf s)) ∧ Below W.heap.size W W' := by
  obtain ⟨Z, hZ⟩ : ∃ Z : List Int, Z = List.replicate 8 0 := ⟨_, rfl⟩
  have hZl : Z.length = 8 := by rw [hZ]; simp
  have hz : ∀ w, (zeroValue 26).run Tryz.prog w = .ok (.agg (Z.map (Value.int .u32)).toArray) w := fun w => by rw [Tryz.zeroValue26, hZ]; rfl
  clear hZ
  obtain ⟨X, hX⟩ : ∃ X, X = ((W.alloc (Obj.cells (List.map (Value.int IntKind.u32) s).toArray 26)).alloc (Obj.cells (List.map (Value.int IntKind.u32) Z).toArray 26)).alloc (Obj.cells #[.int .u32 2002874980, .int .u32 1701716075, .int .u32 1702436913] 25) := ⟨_, rfl⟩
  have HB : Hid (Below W.heap.size W X) := hid (by rw [hX]; exact below_on (below_on (below_one W _) (below_one _ _)) (below_one _ _))
  have bs : Hid (Blk X W.heap.size .u32 26 s) := hid (by rw [hX]; exact ((Blk.new W .u32 26 s).alloc _).alloc _)
  have bz : Hid (Blk X (W.heap.size + 1) .u32 26 Z) := hid (by rw [hX]; exact (Blk.newAt (by simp) .u32 26 Z).alloc _)
  have bk : Hid (Blk X (W.heap.size + 1 + 1) .u32 25 K3) := hid (by rw [hX]; exact Blk.newAt (by simp) .u32 25 K3)
  have HC : Hid (Calls Tryz.prog 65 #[.slice (some ⟨W.heap.size, 0, none⟩) 8 8, .slice (some ⟨W.heap.size + 1 + 1, 0, none⟩) 3 3] X fun e W' => e = .returned (Ag (keyOf s)) ∧ Below X.heap.size X W') :=
    hid (rtag_any X (hT.on HB.out).tb (hT.on HB.out).sz _ 8 8 s hs ws bs.out.atb (by decide) _ 3 3 K3 rfl wds_k3 bk.out.atb (by decide))
  have hMl := keyOf_length s
  generalize keyOf s = M at *
  clear hT bs bk ws
  unfold Ag at *
  go_enter Tryz.func34, Tryz.ntmps34
  go_wp2_with (first | (go_at_call 65; rw [← hX]; refine HC.out.mono ?_; rintro e w1 ⟨rfl, hb⟩; have B2 := hid (below_on HB.out hb); have Z2 := hid (bz.out.on hb); clear hb hX) | (refine wpList_store_blk rfl 26 _ _ rfl (W.heap.size + 1) M rfl rfl Z2.out (by rw [hMl]; exact size26) (by rw [hZl, hMl]) ?_))
  refine ret_cell rfl rfl (W.heap.size + 1) M rfl (Z2.out.setRow _) Tryz.underlying26 (by rw [hMl]; exact size26) ⟨rfl, below_setRow B2.out (by omega) _⟩
theorem rtagq_any (W : World) (hT : TR W) (k m d : List Int) (hk : k.length = 8) (hm : m.length = 8) (hd : d.length = 8) (wk : Wds k) (wm : Wds m) (wd : Wds d) :
    Calls Tryz.prog 64 #[Ag k, Ag m, Ag d] W fun e W' => e = .returned (Ag (tagOf k m d)) ∧ Below W.heap.size W W' := by
  obtain ⟨Z, hZ⟩ : ∃ Z : List Int, Z = List.replicate 8 0 := ⟨_, rfl⟩
  have hZl : Z.length = 8 := by rw [hZ]; simp
  have hz : ∀ w, (zeroValue 26).run Tryz.prog w = .ok (.agg (Z.map (Value.int .u32)).toArray) w := fun w => by rw [Tryz.zeroValue26, hZ]; rfl
  clear hZ
  obtain ⟨i0, hi, hz0, hz1, hz2⟩ := info_parts Tryz.info25
  have h4 : (m ++ d).length = 16 := by rw [List.length_append, hm, hd]
  obtain ⟨X, hX⟩ : ∃ X, X = (((W.alloc (Obj.cells (List.map (Value.int IntKind.u32) k).toArray 26)).alloc (Obj.cells (List.map (Value.int IntKind.u32) m).toArray 26)).alloc (Obj.cells (List.map (Value.int IntKind.u32) d).toArray 26)).alloc (Obj.cells (List.map (Value.int IntKind.u32) Z).toArray 26) := ⟨_, rfl⟩
  have Y0 : Hid (VR W k m d Z X) := hid (by
    have HB : Below W.heap.size W X := by rw [hX]; exact below_on (below_on (below_on (below_one W _) (below_one _ _)) (below_one _ _)) (below_one _ _)
    refine ⟨hT.on HB, HB, ?_, ?_, ?_, ?_⟩
    · rw [hX]; exact (((Blk.new W .u32 26 k).alloc _).alloc _).alloc _
    · rw [hX]; exact ((Blk.newAt (by simp) .u32 26 m).alloc _).alloc _
    · rw [hX]; exact (Blk.newAt (by simp) .u32 26 d).alloc _
    · rw [hX]; exact Blk.newAt (by simp) .u32 26 Z)
  have HC : Hid (∀ w v, TR w → Blk w W.heap.size .u32 26 k → ∀ X0, Holds X0 w .u32 25 v (m ++ d) → Calls Tryz.prog 65 #[.slice (some ⟨W.heap.size, 0, none⟩) 8 8, v] w fun e W' => e = .returned (Ag (tagOf k m d)) ∧ Below w.heap.size w W') := hid (by
    intro w v hw bw X0 hv
    obtain ⟨p, c, rfl, hsl, hat, _⟩ := hv.at'
    rw [h4]
    exact rtag_any w hw.tb hw.sz _ 8 8 k hk wk bw.atb (by decide) p 16 c (m ++ d) h4 (wm.app wd) hat (by decide))
  have H0 : Hid (Holds X X .u32 25 (.slice none 0 0) []) := hid (Holds.start _ _ _)
  have hMl := tagOf_length k m d
  generalize tagOf k m d = M at *
  clear hT wk wm wd h4
  unfold Ag at *
  go_enter Tryz.func64, Tryz.ntmps64
  go_upto_region 2 with fail
  rw [← hX]
  clear hX
  go_upto_region 3 with (first | (at_builtin; refine wpList_append_at (W := X) rfl _ _ 127 rfl .u32 25 i0 (.int .u32 0) 4 Tryz.underlying127 hi hz0 hz1 hz2 rfl _ [] rfl H0.out (some ⟨W.heap.size + 1, 0, none⟩) 8 8 m rfl hm Y0.out.bm.atb (fun h => by cases h) (by decide) (by decide) ?_; intro v3 w3 H3))
  have H3' : Hid (Holds X w3 .u32 25 v3 m) := hid H3
  have Y3 : Hid (VR W k m d Z w3) := hid (Y0.out.on H3.below)
  clear H3 H0
  go_upto_region 4 with (first | (at_builtin; refine wpList_append_at (W := X) rfl _ _ 127 rfl .u32 25 i0 (.int .u32 0) 4 Tryz.underlying127 hi hz0 hz1 hz2 rfl _ m rfl H3'.out (some ⟨W.heap.size + 1 + 1, 0, none⟩) 8 8 d rfl hd Y3.out.bd.atb (fun h => by cases h) (by rw [hm]; decide) (by rw [hm]; decide) ?_; intro v4 w4 H4))
  have H4' : Hid (Holds X w4 .u32 25 v4 (m ++ d)) := hid H4
  have Y4 : Hid (VR W k m d Z w4) := hid (Y0.out.on H4.below)
  clear H4 H3' Y3 Y0
  go_wp2_with (first | (go_at_call 65; refine (HC.out _ _ Y4.out.tb Y4.out.bk _ H4'.out).mono ?_; rintro e w5 ⟨rfl, h5⟩; have X5 := hid (And.intro (below_on Y4.out.bl h5) (Y4.out.bt.on h5)); clear h5 Y4 H4') | (refine wpList_store_blk rfl 26 _ _ rfl (W.heap.size + 1 + 1 + 1) M rfl rfl X5.out.2 (by rw [hMl]; exact size26) (by rw [hZl, hMl]) ?_))
  refine ret_cell rfl rfl (W.heap.size + 1 + 1 + 1) M rfl (X5.out.2.setRow _) Tryz.underlying26 (by rw [hMl]; exact size26) ⟨rfl, below_setRow X5.out.1 (by omega) _⟩
theorem rverify_any (W : World) (hT : TR W) (k m d t : List Int) (hk : k.length = 8) (hm : m.length = 8) (hd : d.length = 8) (ht : t.length = 8) (wk : Wds k) (wm : Wds m) (wd : Wds d) :
    Calls Tryz.prog 67 #[Ag k, Ag m, Ag d, Ag t] W fun e W' => e = .returned (.bool (decide (tagOf k m d = t))) ∧ Below W.heap.size W W' := by
  obtain ⟨X, hX⟩ : ∃ X, X = (((W.alloc (Obj.cells (List.map (Value.int IntKind.u32) k).toArray 26)).alloc (Obj.cells (List.map (Value.int IntKind.u32) m).toArray 26)).alloc (Obj.cells (List.map (Value.int IntKind.u32) d).toArray 26)).alloc (Obj.cells (List.map (Value.int IntKind.u32) t).toArray 26) := ⟨_, rfl⟩
  have Y0 : Hid (VR W k m d t X.drew) := hid (by
    have HB : Below W.heap.size W X := by rw [hX]; exact below_on (below_on (below_on (below_one W _) (below_one _ _)) (below_one _ _)) (below_one _ _)
    refine ⟨(hT.on HB).on (Below.refl _ _).drew, HB.drew, ?_, ?_, ?_, ?_⟩
    · rw [hX]; exact (((Blk.new W .u32 26 k).alloc _).alloc _).alloc _
    · rw [hX]; exact ((Blk.newAt (by simp) .u32 26 m).alloc _).alloc _
    · rw [hX]; exact (Blk.newAt (by simp) .u32 26 d).alloc _
    · rw [hX]; exact Blk.newAt (by simp) .u32 26 t)
  have H1 : Hid (∀ w, TR w → Calls Tryz.prog 64 #[.agg (k.map (Value.int .u32)).toArray, .agg (m.map (Value.int .u32)).toArray, .agg (d.map (Value.int .u32)).toArray] w fun e W' => e = .returned (.agg ((tagOf k m d).map (Value.int .u32)).toArray) ∧ Below w.heap.size w W') := hid fun w hw => rtagq_any w hw k m d hk hm hd wk wm wd
  have hEQ : ∀ w, (Op.equalIn 10000 26 (.agg ((tagOf k m d).map (Value.int .u32)).toArray) (.agg (t.map (Value.int .u32)).toArray)).run Tryz.prog w = .ok (decide (tagOf k m d = t)) w := fun w => eq26 _ _ (tagOf_length _ _ _) ht w
  generalize decide (tagOf k m d = t) = r at *
  generalize tagOf k m d = M at *
  clear hT wk wm wd
  unfold Ag at *
  go_enter Tryz.func67, Tryz.ntmps67
  go_upto_region 1 with fail
  rw [← hX]
  clear hX
  refine wp_region_held_drew (S := fun w => VR W k m d t w) (by kernel_rfl) Y0.out (fun hHeld => ?_)
  generalize World.drew _ = w0 at *
  refine tk 0 ⟨some 9, .load 26 (.tmp 4), 26, "ref.go:53", #[], none⟩ (.agg ((k).map (Value.int .u32)).toArray) ?_ (hy := yieldsIf_load_mid (by rfl) _ _ rfl _ _ rfl _ _ (fun w hSw => cel_range (blk_cel hSw.bk)) Tryz.underlying26 rfl (by rw [List.length_map, hk]; exact size26))
  simp only [Act.put, List.setIfInBounds_toArray, List.set_cons_zero, List.set_cons_succ]
  refine tk 1 ⟨some 10, .load 26 (.tmp 5), 26, "ref.go:53", #[], none⟩ (.agg ((m).map (Value.int .u32)).toArray) ?_ (hy := yieldsIf_load_mid (by rfl) _ _ rfl _ _ rfl _ _ (fun w hSw => cel_range (blk_cel hSw.bm)) Tryz.underlying26 rfl (by rw [List.length_map, hm]; exact size26))
  simp only [Act.put, List.setIfInBounds_toArray, List.set_cons_zero, List.set_cons_succ]
  refine tk 2 ⟨some 11, .load 26 (.tmp 6), 26, "ref.go:53", #[], none⟩ (.agg ((d).map (Value.int .u32)).toArray) ?_ (hy := yieldsIf_load_mid (by rfl) _ _ rfl _ _ rfl _ _ (fun w hSw => cel_range (blk_cel hSw.bd)) Tryz.underlying26 rfl (by rw [List.length_map, hd]; exact size26))
  simp only [Act.put, List.setIfInBounds_toArray, List.set_cons_zero, List.set_cons_succ]
  refine tk 4 ⟨some 13, .load 26 (.tmp 7), 26, "ref.go:53", #[], none⟩ (.agg ((t).map (Value.int .u32)).toArray) ?_ (hy := yieldsIf_load_mid (by rfl) _ _ rfl _ _ rfl _ _ (fun w hSw => cel_range (blk_cel hSw.bt)) Tryz.underlying26 rfl (by rw [List.length_map, ht]; exact size26))
  simp only [Act.put, List.setIfInBounds_toArray, List.set_cons_zero, List.set_cons_succ]
  refine wpAnyH_ready (rs := [3]) (by kernel_rfl) (by simp) (AllReadyH.cons (o := ⟨some 12, .call { callee := .value (.func 64), args := #[.tmp 9, .tmp 10, .tmp 11], argTypes := #[26, 26, 26] }, 26, "ref.go:53", #[⟨0, .data⟩, ⟨1, .data⟩, ⟨2, .data⟩], none⟩) rfl (fun KQ hK => ?_) AllReadyH.nil)
  go_simp
  refine (H1.out _ Y0.out.tb).mono ?_
  rintro e w1 ⟨rfl, h1⟩
  have Y1 := hid (Y0.out.on h1)
  clear h1 Y0
  go_wp2_with fail
  refine hK.out _ _ Y1.out (fun hHeld => ?_)
  clear hK KQ
  try simp only [Act.put, List.setIfInBounds_toArray, List.set_cons_zero, List.set_cons_succ]
  refine tk 5 ⟨some 14, .binOp .eql 26 (.tmp 12) (.tmp 13) 26, 4, "ref.go:53", #[⟨3, .data⟩, ⟨4, .data⟩], none⟩ (.bool r) ?_
  simp only [Act.put, List.setIfInBounds_toArray, List.set_cons_zero, List.set_cons_succ]
  refine wpAnyH_ready (rs := [6]) (by kernel_rfl) (by simp) (AllReadyH.cons (o := ⟨some 8, .assign (.tmp 14), 4, "ref.go:53", #[⟨5, .data⟩, ⟨3, .chain⟩, ⟨0, .phase⟩, ⟨1, .phase⟩, ⟨2, .phase⟩, ⟨3, .phase⟩, ⟨4, .phase⟩, ⟨5, .phase⟩], none⟩) rfl (fun KQ hK => ?_) AllReadyH.nil)
  go_simp
  refine hK.out _ _ Y1.out (fun hHeld => ?_)
  clear hK KQ
  try simp only [Act.put, List.setIfInBounds_toArray, List.set_cons_zero, List.set_cons_succ]
  refine wpAnyH_done (by kernel_rfl) ?_ _
  go_wp2_with fail
  go_ret
  exact ⟨rfl, Y1.out.bl⟩
end Go.Proofs.YtbpdmkohihgnjaaGreatDoor
namespace Go.Proofs.YtbpdmkohihgnjaaGreatDoor
open Go.RowKit
set_option maxHeartbeats 8000000
set_option maxRecDepth 100000
theorem three8 (L : List Int) (h : L.length = 24) : ∃ a b c, L = quoL a b c ∧ a.length = 8 ∧ b.length = 8 ∧ c.length = 8 := by
  refine ⟨L.take 8, (L.drop 8).take 8, (L.drop 8).drop 8, ?_, ?_, ?_, ?_⟩
  · unfold quoL
    rw [List.take_append_drop, List.take_append_drop]
  · rw [List.length_take]; omega
  · rw [List.length_take, List.length_drop]; omega
  · rw [List.length_drop, List.length_drop]; omega
theorem ret_q1 {P : Program} {fn : Func} {p : Tmp} {ty e : TypeId} {d : TypeDesc} {a : Act} {w : World} {post : Ending → World → Prop} (hr : fn.results = #[.cell p ty]) (hd : a.defers = []) (g : Nat) (cs : List Value)
    (hp : a.tmps.getD p undef = .pointer (some ⟨g, 0, none⟩)) (hb : Cel w g e cs) (hu : P.underlying ty = some d) (hdd : (match d with | .struct _ | .array _ _ => true | _ => false) = true) (hi : (P.info? ty).map (·.size) = some cs.length) (h : post (.returned (.agg cs.toArray)) w) :
    bodyPost P fn post .ret a w := by
  refine bodyPost_ret (v := .agg cs.toArray) ?_ hd h
  have hp' : a.tmps[p]?.getD undef = .pointer (some ⟨g, 0, none⟩) := by simpa using hp
  have := run_loadVar_row (P := P) w g e ty _ (0, 0) _ hb hu hdd (by rw [hi]; simp)
  simp [results, hr, hp', asAddr, this]
theorem splm {α : Type} (a b b' c : List α) (off : Nat) (h : a.length = off) (h2 : b.length = b'.length) : splice (a ++ (b ++ c)) off b' = a ++ (b' ++ c) := by
  subst h
  rw [splice, List.take_left, ← h2, ← List.append_assoc a b c, List.drop_left' (by simp)]
theorem sp8 {m d t x : List Int} (hm : m.length = 8) (hd : d.length = 8) (hx : x.length = 8) : splice ((quoL m d t).map (Value.int .u32)) 8 (x.map (Value.int .u32)) = (quoL m x t).map (Value.int .u32) := by
  unfold quoL
  rw [List.map_append, List.map_append, splm _ _ _ _ 8 (by simp [hm]) (by simp [hd, hx]), List.map_append, List.map_append]
theorem sp16 {m d t x : List Int} (hm : m.length = 8) (hd : d.length = 8) (ht : t.length = 8) (hx : x.length = 8) : splice ((quoL m d t).map (Value.int .u32)) 16 (x.map (Value.int .u32)) = (quoL m d x).map (Value.int .u32) := by
  have e : (quoL m d t).map (Value.int .u32) = (m ++ d).map (Value.int .u32) ++ (t.map (Value.int .u32) ++ []) := by simp [quoL]
  rw [e, splm _ _ _ _ 16 (by simp [hm, hd]) (by simp [ht, hx])]
  simp [quoL]
theorem wp_store_pt {P : Program} {op : Oper} {a : Act} {w : World} {K : Act → World → Prop} {Q : Exit → Act → World → Prop} (ty : TypeId) (x y : Operand) (ho : op.op = .store ty x y)
    (g off : Nat) (L' : List Int) (hx : a.eval x = .pointer (some ⟨g, off, none⟩)) (hy : a.eval y = Ag L') {e : TypeId} {cs : List Value} (hg : Cel w g e cs) (hi : (P.info? ty).map (·.size) = some L'.length) (hl : off + L'.length ≤ cs.length)
    (h : ∀ w', Cel w' g e (splice cs off (L'.map (Value.int .u32))) → But g w w' → w'.heap.size = w.heap.size → K (a.put op.dst undef) w') : op.wp P a w K Q := by
  have := h _ (setRow_heap w g _ (splice cs off (L'.map (Value.int .u32))).toArray e _ hg) (but_setRow w g _) (by simp)
  unfold Oper.wp execOp
  simp only [ho, hx, hy, Instr.storeAt, Instr.sureAddr, Sem.run_bind, Sem.run_pure, Result.andThen_ok, run_storeVar_part w g off ty e L' hg hi hl]
  exact this
attribute [-simp] Tryz.isAgg26 Tryz.zeroValue26 Tryz.isAgg95 Tryz.zeroValue95 Tryz.isAgg28 Tryz.zeroValue28 Tryz.isAgg30 Tryz.zeroValue30
theorem doc_any (W : World) (L : List Int) (hL : L.length = 24) :
    Calls Tryz.prog 39 #[Ag L] W fun e W' => e = .returned (Ag L) ∧ Below W.heap.size W W' := by
  obtain ⟨m, d, t, rfl, hm, hd, ht⟩ := three8 L hL
  have hy : ∀ w, (zeroValue 95).run Tryz.prog w = .ok (.agg (zer24.map (Value.int .u32)).toArray) w := fun w => by rw [Tryz.zeroValue95]; rfl
  have hYl : zer24.length = 24 := rfl
  obtain ⟨X, hX⟩ : ∃ X, X = (W.alloc (Obj.cells (List.map (Value.int IntKind.u32) (quoL m d t)).toArray 28)).alloc (Obj.cells (List.map (Value.int IntKind.u32) zer24).toArray 95) := ⟨_, rfl⟩
  have HB : Hid (Below W.heap.size W X) := hid (by rw [hX]; exact below_on (below_one W _) (below_one _ _))
  have b1 : Hid (Blk X W.heap.size .u32 28 (quoL m d t)) := hid (by rw [hX]; exact (Blk.new W .u32 28 _).alloc _)
  have b2 : Hid (Blk X (W.heap.size + 1) .u32 95 zer24) := hid (by rw [hX]; exact Blk.newAt (by simp) .u32 95 zer24)
  generalize zer24 = Z24 at *
  unfold Ag
  go_enter Tryz.func39, Tryz.ntmps39
  go_upto_region 1 with fail
  rw [← hX]
  clear hX
  go_wp2_with (first | (refine wpList_load_mid rfl 26 _ rfl W.heap.size 0 rfl _ _ (quo0 (cel_range (blk_cel b1.out))) Tryz.underlying26 rfl (by rw [List.length_map, hm]; exact size26) ?_) | (refine wpList_load_mid rfl 26 _ rfl W.heap.size 8 rfl _ _ (by have := quo8 (cel_range (blk_cel b1.out)) hm; rwa [Nat.zero_add] at this) Tryz.underlying26 rfl (by rw [List.length_map, hd]; exact size26) ?_) | (refine wpList_load_mid rfl 26 _ rfl W.heap.size 16 rfl _ _ (by have := quo16 (cel_range (blk_cel b1.out)) hm hd; rwa [Nat.zero_add] at this) Tryz.underlying26 rfl (by rw [List.length_map, ht]; exact size26) ?_) | (refine wpList_build_r rfl _ _ _ rfl m d t hm hd ht rfl rfl rfl ?_) | (refine wpList_store_blk rfl 95 _ _ rfl (W.heap.size + 1) (quoL m d t) rfl rfl b2.out (by rw [hL]; exact size61) (by rw [hYl, hL]) ?_))
  refine ret_q1 rfl rfl (W.heap.size + 1) ((quoL m d t).map (Value.int .u32)) rfl (blk_cel (b2.out.setRow _)) Tryz.underlying95 rfl (by rw [List.length_map, hL]; exact size61) ⟨rfl, below_setRow HB.out (by omega) _⟩
structure FT (W : World) (s o q : List Int) (ri sa : Bool) (Z m d t : List Int) (w : World) : Prop where
  bl : Below W.heap.size W w
  tr : TR w
  c : Cel w W.heap.size 30 (claC s o q ri sa)
  b2 : Blk w (W.heap.size + 1) .u32 28 Z
  b3 : Blk w (W.heap.size + 1 + 1) .u32 28 (quoL m d t)
theorem FT.on {W : World} {s o q : List Int} {ri sa : Bool} {Z m d t : List Int} {w w' : World} (h : FT W s o q ri sa Z m d t w) (hb : Below w.heap.size w w') : FT W s o q ri sa Z m d t w' := ⟨below_on h.bl hb, h.tr.on hb, h.c.on hb, h.b2.on hb, h.b3.on hb⟩
theorem FT.but {W : World} (hT : TR W) {s o q : List Int} {ri sa : Bool} {Z m d t : List Int} {w w' : World} (h : FT W s o q ri sa Z m d t w) (hb : But (W.heap.size + 1 + 1) w w') (m' d' t' : List Int) (hc : Blk w' (W.heap.size + 1 + 1) .u32 28 (quoL m' d' t')) : FT W s o q ri sa Z m' d' t' w' := by
  have hB : Below W.heap.size W w' := h.bl.trans (hb.below (by omega) h.bl.size)
  exact ⟨hB, hT.on hB, h.c.but hb (by omega), hb.blk h.b2 (by omega), hc⟩
theorem claC_length {s o q : List Int} {ri sa : Bool} (hs : s.length = 8) (ho : o.length = 8) (hq : q.length = 24) : (claC s o q ri sa).length = 42 := by simp [claC, hs, ho, hq]
theorem fitted_any (W : World) (hT : TR W) (s o m d t : List Int) (ri sa : Bool) (hs : s.length = 8) (ho : o.length = 8) (hm : m.length = 8) (hd : d.length = 8) (ht : t.length = 8) (ws : Wds s) (wo : Wds o) (wm : Wds m) (wd : Wds d) :
    Calls Tryz.prog 33 #[.agg (claC s o (quoL m d t) ri sa).toArray] W fun e W' => e = .returned (Ag (quoL m (if sa then o else d) (if ri then tagOf (keyOf s) m (if sa then o else d) else t))) ∧ Below W.heap.size W W' := by
  have hy : ∀ w, (zeroValue 28).run Tryz.prog w = .ok (.agg (zer24.map (Value.int .u32)).toArray) w := fun w => by rw [Tryz.zeroValue28]; rfl
  have hYl : zer24.length = 24 := rfl
  have hQl := quoL_length hm hd ht
  obtain ⟨X, hX⟩ : ∃ X, X = ((W.alloc (Obj.cells (claC s o (quoL m d t) ri sa).toArray 30)).alloc (Obj.cells (List.map (Value.int IntKind.u32) zer24).toArray 28)) := ⟨_, rfl⟩
  have HB : Hid (Below W.heap.size W X) := hid (by rw [hX]; exact below_on (below_one W _) (below_one _ _))
  have c1 : Hid (Cel X W.heap.size 30 (claC s o (quoL m d t) ri sa)) := hid (by rw [hX]; exact Cel.on (show Cel (W.alloc (Obj.cells (claC s o (quoL m d t) ri sa).toArray 30)) W.heap.size 30 (claC s o (quoL m d t) ri sa) from heap_alloc_new _ _) (below_one _ _))
  have b2 : Hid (Blk X (W.heap.size + 1) .u32 28 zer24) := hid (by rw [hX]; exact Blk.newAt (by simp) .u32 28 zer24)
  have hXs : X.heap.size = W.heap.size + 1 + 1 := by rw [hX]; simp
  have HQ : Hid (∀ w, FT W s o (quoL m d t) ri sa zer24 m d t w → w.cell? ⟨W.heap.size, 40, none⟩ = some (.bool ri) ∧ w.cell? ⟨W.heap.size, 41, none⟩ = some (.bool sa)) := hid (fun w h => cla40 h.c hs ho hQl)
  have HK1 : Hid (∀ w, TR w → Calls Tryz.prog 34 #[.agg (s.map (Value.int .u32)).toArray] w fun e W' => e = .returned (.agg ((keyOf s).map (Value.int .u32)).toArray) ∧ Below w.heap.size w W') := hid fun w h => rkey_any w h s hs ws
  have HK2 : Hid (∀ w, TR w → ∀ d, d.length = 8 → Wds d → Calls Tryz.prog 64 #[.agg ((keyOf s).map (Value.int .u32)).toArray, .agg (m.map (Value.int .u32)).toArray, .agg (d.map (Value.int .u32)).toArray] w fun e W' => e = .returned (.agg ((tagOf (keyOf s) m d).map (Value.int .u32)).toArray) ∧ Below w.heap.size w W') := hid fun w h d hd wd => rtagq_any w h (keyOf s) m d (keyOf_length s) hm hd (hmac_wds _ _) wm wd
  have HTW := hid hT
  have HSX := hid hXs
  generalize zer24 = Z24 at *
  clear hT ws hXs
  unfold Ag
  go_enter Tryz.func33, Tryz.ntmps33
  go_upto_region 1 with fail
  rw [← hX]
  clear hX
  go_upto_region 2 with (first | (refine wpList_load_mid rfl 28 _ rfl W.heap.size 16 rfl _ _ (cla16 c1.out hs ho) Tryz.underlying28 rfl (by rw [List.length_map, hQl]; exact size38) ?_) | (refine wpList_store_but rfl 28 _ _ rfl X.heap.size (quoL m d t) rfl rfl (Blk.new X .u32 28 Z24) (by rw [hQl]; exact size38) (by rw [hYl, hQl]) ?_; intro w2 bM hbt hsz; have Y2 : Hid (FT W s o (quoL m d t) ri sa Z24 m d t w2) := hid (by have hB := but_box hbt; have e := HSX.out; exact ⟨below_on HB.out hB, HTW.out.on (below_on HB.out hB), c1.out.on hB, b2.out.on hB, by rw [← e]; exact bM⟩); clear bM hbt hsz))
  have hG := HSX.out
  rw [hG]
  clear HSX hG HB c1 b2
  cases sa
  · have hc := (HQ.out _ Y2.out).2
    go_upto_region 4 with fail
    clear hc
    have Y4 : Hid (FT W s o (quoL m d t) ri false Z24 m d t w2) := hid (by have := Y2.out; exact this)
    clear Y2
    have hcr : ∀ w, FT W s o (quoL m d t) ri false Z24 m d t w → w.cell? ⟨W.heap.size, 40, none⟩ = some (.bool ri) := fun w h => (cla40 h.c hs ho (quoL_length hm hd ht)).1
    have HCR := hid hcr
    clear hcr HQ
    have HD : Hid (∀ w, TR w → Calls Tryz.prog 64 #[.agg ((keyOf s).map (Value.int .u32)).toArray, .agg (m.map (Value.int .u32)).toArray, .agg (d.map (Value.int .u32)).toArray] w fun e W' => e = .returned (.agg ((tagOf (keyOf s) m d).map (Value.int .u32)).toArray) ∧ Below w.heap.size w W') := hid fun w h => HK2.out w h d hd wd
    clear HK2
    have hMl := tagOf_length (keyOf s) m d
    have HR := hid (show ∀ b : Bool, (if b then tagOf (keyOf s) m d else t) = (if b then tagOf (keyOf s) m d else t) from fun _ => rfl)
    cases ri
    · have hc := HCR.out _ Y4.out
      go_upto_region 6 with fail
      clear hc
      have hQ2 := quoL_length hm hd ht
      go_wp2_with (first | (refine wpList_load_mid rfl 28 _ rfl (W.heap.size + 1 + 1) 0 rfl _ _ (cel_range (blk_cel Y4.out.b3)) Tryz.underlying28 rfl (by rw [List.length_map, hQ2]; exact size38) ?_) | (refine wpList_store_blk rfl 28 _ _ rfl (W.heap.size + 1) (quoL m d t) rfl rfl Y4.out.b2 (by rw [hQ2]; exact size38) (by rw [hYl, hQ2]) ?_))
      refine ret_q1 rfl rfl (W.heap.size + 1) ((quoL m d t).map (Value.int .u32)) rfl (blk_cel (Y4.out.b2.setRow _)) Tryz.underlying28 rfl (by rw [List.length_map, hQ2]; exact size38) ⟨rfl, below_setRow Y4.out.bl (by omega) _⟩
    · have hc := HCR.out _ Y4.out
      go_upto_region 5 with fail
      clear hc
      have hQ2 := quoL_length hm hd hMl
      generalize hM : tagOf (keyOf s) m d = M at *
      generalize hKs : keyOf s = K at *
      have HM := hid hM
      have HKs := hid hKs
      clear hM hKs
      have Y5 : Hid (FT W s o (quoL m d t) true false Z24 m d t (w2).drew) := hid (Y4.out.on (Below.refl _ _).drew)
      clear Y4
      refine wp_region_held_drew (S := fun w => ∃ t2, FT W s o (quoL m d t) true false Z24 m d t2 w) (by kernel_rfl) ⟨_, Y5.out⟩ (fun hHeld => ?_)
      generalize World.drew _ = w5 at *
      refine tk 0 ⟨some 13, .fieldAddr 30 (.tmp 1) 0, 0, "law.go:83", #[], none⟩ (.pointer (some ⟨W.heap.size, 0, none⟩)) ?_
      simp only [Act.put, List.setIfInBounds_toArray, List.set_cons_zero, List.set_cons_succ]
      refine tk 1 ⟨some 14, .load 26 (.tmp 13), 26, "law.go:83", #[⟨0, .data⟩], none⟩ (.agg ((s).map (Value.int .u32)).toArray) ?_ (hy := yieldsIf_load_mid (by rfl) _ _ rfl _ _ rfl _ _ (fun w hSw => cla0 hSw.choose_spec.c) Tryz.underlying26 rfl (by rw [List.length_map, hs]; exact size26))
      simp only [Act.put, List.setIfInBounds_toArray, List.set_cons_zero, List.set_cons_succ]
      refine tk 3 ⟨some 16, .fieldAddr 28 (.tmp 3) 0, 0, "law.go:83", #[], none⟩ (.pointer (some ⟨W.heap.size + 1 + 1, 0, none⟩)) ?_
      simp only [Act.put, List.setIfInBounds_toArray, List.set_cons_zero, List.set_cons_succ]
      refine tk 4 ⟨some 17, .load 26 (.tmp 16), 26, "law.go:83", #[⟨3, .data⟩], none⟩ (.agg ((m).map (Value.int .u32)).toArray) ?_ (hy := yieldsIf_load_mid (by rfl) _ _ rfl _ _ rfl _ _ (fun w hSw => quo0 (cel_range (blk_cel hSw.choose_spec.b3))) Tryz.underlying26 rfl (by rw [List.length_map, hm]; exact size26))
      simp only [Act.put, List.setIfInBounds_toArray, List.set_cons_zero, List.set_cons_succ]
      refine tk 5 ⟨some 18, .fieldAddr 28 (.tmp 3) 1, 0, "law.go:83", #[], none⟩ (.pointer (some ⟨W.heap.size + 1 + 1, 8, none⟩)) ?_
      simp only [Act.put, List.setIfInBounds_toArray, List.set_cons_zero, List.set_cons_succ]
      refine tk 6 ⟨some 19, .load 26 (.tmp 18), 26, "law.go:83", #[⟨5, .data⟩], none⟩ (.agg ((d).map (Value.int .u32)).toArray) ?_ (hy := yieldsIf_load_mid (by rfl) _ _ rfl _ _ rfl _ _ (fun w hSw => (by have := quo8 (cel_range (blk_cel hSw.choose_spec.b3)) hm; rwa [Nat.zero_add] at this)) Tryz.underlying26 rfl (by rw [List.length_map, hd]; exact size26))
      simp only [Act.put, List.setIfInBounds_toArray, List.set_cons_zero, List.set_cons_succ]
      refine wpAnyH_ready (rs := [2]) (by kernel_rfl) (by simp) (AllReadyH.cons (o := ⟨some 15, .call { callee := .value (.func 34), args := #[.tmp 14], argTypes := #[26] }, 26, "law.go:83", #[⟨1, .data⟩], none⟩) rfl (fun KQ hK => ?_) AllReadyH.nil)
      go_simp
      refine (HK1.out _ Y5.out.tr).mono ?_
      rintro e w6 ⟨rfl, h1⟩
      have Y6 := hid (Y5.out.on h1)
      clear h1 Y5
      go_wp2_with fail
      refine hK.out _ _ ⟨_, Y6.out⟩ (fun hHeld => ?_)
      clear hK KQ
      try simp only [Act.put, List.setIfInBounds_toArray, List.set_cons_zero, List.set_cons_succ]
      refine wpAnyH_ready (rs := [7]) (by kernel_rfl) (by simp) (AllReadyH.cons (o := ⟨some 20, .call { callee := .value (.func 64), args := #[.tmp 15, .tmp 17, .tmp 19], argTypes := #[26, 26, 26] }, 26, "law.go:83", #[⟨2, .data⟩, ⟨4, .data⟩, ⟨6, .data⟩, ⟨2, .chain⟩], none⟩) rfl (fun KQ hK => ?_) AllReadyH.nil)
      go_simp
      refine (HD.out _ Y6.out.tr).mono ?_
      rintro e w7 ⟨rfl, h1⟩
      have Y7 := hid (Y6.out.on h1)
      clear h1 Y6
      go_wp2_with fail
      refine hK.out _ _ ⟨_, Y7.out⟩ (fun hHeld => ?_)
      clear hK KQ
      try simp only [Act.put, List.setIfInBounds_toArray, List.set_cons_zero, List.set_cons_succ]
      refine tk 8 ⟨some 21, .fieldAddr 28 (.tmp 3) 2, 0, "law.go:83", #[⟨0, .phase⟩, ⟨1, .phase⟩, ⟨2, .phase⟩, ⟨3, .phase⟩, ⟨4, .phase⟩, ⟨5, .phase⟩, ⟨6, .phase⟩, ⟨7, .phase⟩], none⟩ (.pointer (some ⟨W.heap.size + 1 + 1, 16, none⟩)) ?_
      simp only [Act.put, List.setIfInBounds_toArray, List.set_cons_zero, List.set_cons_succ]
      refine wpAnyH_ready (rs := [9]) (by kernel_rfl) (by simp) (AllReadyH.cons (o := ⟨none, .store 26 (.tmp 21) (.tmp 20), 0, "law.go:83", #[⟨8, .data⟩, ⟨7, .data⟩, ⟨7, .chain⟩, ⟨0, .phase⟩, ⟨1, .phase⟩, ⟨2, .phase⟩, ⟨3, .phase⟩, ⟨4, .phase⟩, ⟨5, .phase⟩, ⟨6, .phase⟩, ⟨7, .phase⟩], none⟩) rfl (fun KQ hK => ?_) AllReadyH.nil)
      rw [if_pos (by rfl)]
      refine wp_store_pt 26 _ _ rfl (W.heap.size + 1 + 1) 16 M rfl rfl (blk_cel Y7.out.b3) (by rw [hMl]; exact size26) (by rw [List.length_map, hMl, quoL_length hm hd ht]; decide) ?_
      intro w8 hc8 hb8 hs8
      have Y8 : Hid (FT W s o (quoL m d t) true false Z24 m d M w8) := hid (Y7.out.but HTW.out hb8 m d M (by rw [sp16 hm hd ht hMl] at hc8; exact hc8))
      clear hc8 hb8 hs8
      refine hK.out _ _ ⟨_, Y8.out⟩ (fun hHeld => ?_)
      clear hK KQ
      try simp only [Act.put]
      refine wpAnyH_done (by kernel_rfl) ?_ _
      go_upto_region 6 with fail
      go_wp2_with (first | (refine wpList_load_mid rfl 28 _ rfl (W.heap.size + 1 + 1) 0 rfl _ _ (cel_range (blk_cel Y8.out.b3)) Tryz.underlying28 rfl (by rw [List.length_map, hQ2]; exact size38) ?_) | (refine wpList_store_blk rfl 28 _ _ rfl (W.heap.size + 1) (quoL m d M) rfl rfl Y8.out.b2 (by rw [hQ2]; exact size38) (by rw [hYl, hQ2]) ?_))
      refine ret_q1 rfl rfl (W.heap.size + 1) ((quoL m d M).map (Value.int .u32)) rfl (blk_cel (Y8.out.b2.setRow _)) Tryz.underlying28 rfl (by rw [List.length_map, hQ2]; exact size38) ⟨by rw [← HM.out, ← HKs.out], below_setRow Y8.out.bl (by omega) _⟩
  · have hc := (HQ.out _ Y2.out).2
    go_upto_region 4 with (first | (refine wpList_load_mid rfl 26 _ rfl W.heap.size 8 rfl _ _ (cla8 Y2.out.c hs) Tryz.underlying26 rfl (by rw [List.length_map, ho]; exact size26) ?_) | (refine wpList_store_part rfl 26 _ _ rfl (W.heap.size + 1 + 1) 8 o rfl rfl (blk_cel Y2.out.b3) (by rw [ho]; exact size26) (by rw [List.length_map, ho, quoL_length hm hd ht]; decide) ?_; intro w4 hc4 hb4 hs4; have Y4 : Hid (FT W s o (quoL m d t) ri true Z24 m o t w4) := hid (Y2.out.but HTW.out hb4 m o t (by rw [sp8 hm hd ho] at hc4; exact hc4)); clear hc4 hb4 hs4))
    clear hc Y2
    have hcr : ∀ w, FT W s o (quoL m d t) ri true Z24 m o t w → w.cell? ⟨W.heap.size, 40, none⟩ = some (.bool ri) := fun w h => (cla40 h.c hs ho (quoL_length hm hd ht)).1
    have HCR := hid hcr
    clear hcr HQ
    have HD : Hid (∀ w, TR w → Calls Tryz.prog 64 #[.agg ((keyOf s).map (Value.int .u32)).toArray, .agg (m.map (Value.int .u32)).toArray, .agg (o.map (Value.int .u32)).toArray] w fun e W' => e = .returned (.agg ((tagOf (keyOf s) m o).map (Value.int .u32)).toArray) ∧ Below w.heap.size w W') := hid fun w h => HK2.out w h o ho wo
    clear HK2
    have hMl := tagOf_length (keyOf s) m o
    have HR := hid (show ∀ b : Bool, (if b then tagOf (keyOf s) m o else t) = (if b then tagOf (keyOf s) m o else t) from fun _ => rfl)
    cases ri
    · have hc := HCR.out _ Y4.out
      go_upto_region 6 with fail
      clear hc
      have hQ2 := quoL_length hm ho ht
      go_wp2_with (first | (refine wpList_load_mid rfl 28 _ rfl (W.heap.size + 1 + 1) 0 rfl _ _ (cel_range (blk_cel Y4.out.b3)) Tryz.underlying28 rfl (by rw [List.length_map, hQ2]; exact size38) ?_) | (refine wpList_store_blk rfl 28 _ _ rfl (W.heap.size + 1) (quoL m o t) rfl rfl Y4.out.b2 (by rw [hQ2]; exact size38) (by rw [hYl, hQ2]) ?_))
      refine ret_q1 rfl rfl (W.heap.size + 1) ((quoL m o t).map (Value.int .u32)) rfl (blk_cel (Y4.out.b2.setRow _)) Tryz.underlying28 rfl (by rw [List.length_map, hQ2]; exact size38) ⟨rfl, below_setRow Y4.out.bl (by omega) _⟩
    · have hc := HCR.out _ Y4.out
      go_upto_region 5 with fail
      clear hc
      have hQ2 := quoL_length hm ho hMl
      generalize hM : tagOf (keyOf s) m o = M at *
      generalize hKs : keyOf s = K at *
      have HM := hid hM
      have HKs := hid hKs
      clear hM hKs
      have Y5 : Hid (FT W s o (quoL m d t) true true Z24 m o t (w4).drew) := hid (Y4.out.on (Below.refl _ _).drew)
      clear Y4
      refine wp_region_held_drew (S := fun w => ∃ t2, FT W s o (quoL m d t) true true Z24 m o t2 w) (by kernel_rfl) ⟨_, Y5.out⟩ (fun hHeld => ?_)
      generalize World.drew _ = w5 at *
      refine tk 0 ⟨some 13, .fieldAddr 30 (.tmp 1) 0, 0, "law.go:83", #[], none⟩ (.pointer (some ⟨W.heap.size, 0, none⟩)) ?_
      simp only [Act.put, List.setIfInBounds_toArray, List.set_cons_zero, List.set_cons_succ]
      refine tk 1 ⟨some 14, .load 26 (.tmp 13), 26, "law.go:83", #[⟨0, .data⟩], none⟩ (.agg ((s).map (Value.int .u32)).toArray) ?_ (hy := yieldsIf_load_mid (by rfl) _ _ rfl _ _ rfl _ _ (fun w hSw => cla0 hSw.choose_spec.c) Tryz.underlying26 rfl (by rw [List.length_map, hs]; exact size26))
      simp only [Act.put, List.setIfInBounds_toArray, List.set_cons_zero, List.set_cons_succ]
      refine tk 3 ⟨some 16, .fieldAddr 28 (.tmp 3) 0, 0, "law.go:83", #[], none⟩ (.pointer (some ⟨W.heap.size + 1 + 1, 0, none⟩)) ?_
      simp only [Act.put, List.setIfInBounds_toArray, List.set_cons_zero, List.set_cons_succ]
      refine tk 4 ⟨some 17, .load 26 (.tmp 16), 26, "law.go:83", #[⟨3, .data⟩], none⟩ (.agg ((m).map (Value.int .u32)).toArray) ?_ (hy := yieldsIf_load_mid (by rfl) _ _ rfl _ _ rfl _ _ (fun w hSw => quo0 (cel_range (blk_cel hSw.choose_spec.b3))) Tryz.underlying26 rfl (by rw [List.length_map, hm]; exact size26))
      simp only [Act.put, List.setIfInBounds_toArray, List.set_cons_zero, List.set_cons_succ]
      refine tk 5 ⟨some 18, .fieldAddr 28 (.tmp 3) 1, 0, "law.go:83", #[], none⟩ (.pointer (some ⟨W.heap.size + 1 + 1, 8, none⟩)) ?_
      simp only [Act.put, List.setIfInBounds_toArray, List.set_cons_zero, List.set_cons_succ]
      refine tk 6 ⟨some 19, .load 26 (.tmp 18), 26, "law.go:83", #[⟨5, .data⟩], none⟩ (.agg ((o).map (Value.int .u32)).toArray) ?_ (hy := yieldsIf_load_mid (by rfl) _ _ rfl _ _ rfl _ _ (fun w hSw => (by have := quo8 (cel_range (blk_cel hSw.choose_spec.b3)) hm; rwa [Nat.zero_add] at this)) Tryz.underlying26 rfl (by rw [List.length_map, ho]; exact size26))
      simp only [Act.put, List.setIfInBounds_toArray, List.set_cons_zero, List.set_cons_succ]
      refine wpAnyH_ready (rs := [2]) (by kernel_rfl) (by simp) (AllReadyH.cons (o := ⟨some 15, .call { callee := .value (.func 34), args := #[.tmp 14], argTypes := #[26] }, 26, "law.go:83", #[⟨1, .data⟩], none⟩) rfl (fun KQ hK => ?_) AllReadyH.nil)
      go_simp
      refine (HK1.out _ Y5.out.tr).mono ?_
      rintro e w6 ⟨rfl, h1⟩
      have Y6 := hid (Y5.out.on h1)
      clear h1 Y5
      go_wp2_with fail
      refine hK.out _ _ ⟨_, Y6.out⟩ (fun hHeld => ?_)
      clear hK KQ
      try simp only [Act.put, List.setIfInBounds_toArray, List.set_cons_zero, List.set_cons_succ]
      refine wpAnyH_ready (rs := [7]) (by kernel_rfl) (by simp) (AllReadyH.cons (o := ⟨some 20, .call { callee := .value (.func 64), args := #[.tmp 15, .tmp 17, .tmp 19], argTypes := #[26, 26, 26] }, 26, "law.go:83", #[⟨2, .data⟩, ⟨4, .data⟩, ⟨6, .data⟩, ⟨2, .chain⟩], none⟩) rfl (fun KQ hK => ?_) AllReadyH.nil)
      go_simp
      refine (HD.out _ Y6.out.tr).mono ?_
      rintro e w7 ⟨rfl, h1⟩
      have Y7 := hid (Y6.out.on h1)
      clear h1 Y6
      go_wp2_with fail
      refine hK.out _ _ ⟨_, Y7.out⟩ (fun hHeld => ?_)
      clear hK KQ
      try simp only [Act.put, List.setIfInBounds_toArray, List.set_cons_zero, List.set_cons_succ]
      refine tk 8 ⟨some 21, .fieldAddr 28 (.tmp 3) 2, 0, "law.go:83", #[⟨0, .phase⟩, ⟨1, .phase⟩, ⟨2, .phase⟩, ⟨3, .phase⟩, ⟨4, .phase⟩, ⟨5, .phase⟩, ⟨6, .phase⟩, ⟨7, .phase⟩], none⟩ (.pointer (some ⟨W.heap.size + 1 + 1, 16, none⟩)) ?_
      simp only [Act.put, List.setIfInBounds_toArray, List.set_cons_zero, List.set_cons_succ]
      refine wpAnyH_ready (rs := [9]) (by kernel_rfl) (by simp) (AllReadyH.cons (o := ⟨none, .store 26 (.tmp 21) (.tmp 20), 0, "law.go:83", #[⟨8, .data⟩, ⟨7, .data⟩, ⟨7, .chain⟩, ⟨0, .phase⟩, ⟨1, .phase⟩, ⟨2, .phase⟩, ⟨3, .phase⟩, ⟨4, .phase⟩, ⟨5, .phase⟩, ⟨6, .phase⟩, ⟨7, .phase⟩], none⟩) rfl (fun KQ hK => ?_) AllReadyH.nil)
      rw [if_pos (by rfl)]
      refine wp_store_pt 26 _ _ rfl (W.heap.size + 1 + 1) 16 M rfl rfl (blk_cel Y7.out.b3) (by rw [hMl]; exact size26) (by rw [List.length_map, hMl, quoL_length hm ho ht]; decide) ?_
      intro w8 hc8 hb8 hs8
      have Y8 : Hid (FT W s o (quoL m d t) true true Z24 m o M w8) := hid (Y7.out.but HTW.out hb8 m o M (by rw [sp16 hm ho ht hMl] at hc8; exact hc8))
      clear hc8 hb8 hs8
      refine hK.out _ _ ⟨_, Y8.out⟩ (fun hHeld => ?_)
      clear hK KQ
      try simp only [Act.put]
      refine wpAnyH_done (by kernel_rfl) ?_ _
      go_upto_region 6 with fail
      go_wp2_with (first | (refine wpList_load_mid rfl 28 _ rfl (W.heap.size + 1 + 1) 0 rfl _ _ (cel_range (blk_cel Y8.out.b3)) Tryz.underlying28 rfl (by rw [List.length_map, hQ2]; exact size38) ?_) | (refine wpList_store_blk rfl 28 _ _ rfl (W.heap.size + 1) (quoL m o M) rfl rfl Y8.out.b2 (by rw [hQ2]; exact size38) (by rw [hYl, hQ2]) ?_))
      refine ret_q1 rfl rfl (W.heap.size + 1) ((quoL m o M).map (Value.int .u32)) rfl (blk_cel (Y8.out.b2.setRow _)) Tryz.underlying28 rfl (by rw [List.length_map, hQ2]; exact size38) ⟨by rw [← HM.out, ← HKs.out], below_setRow Y8.out.bl (by omega) _⟩
end Go.Proofs.YtbpdmkohihgnjaaGreatDoor
