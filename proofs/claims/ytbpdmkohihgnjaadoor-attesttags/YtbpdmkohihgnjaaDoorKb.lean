/- attest: Verify 11. -/
import Derived.Test.YtbpdmkohihgnjaaDoorKa
namespace Go.Proofs.YtbpdmkohihgnjaaDoor
open Go.RowKit
set_option maxHeartbeats 4000000
set_option maxRecDepth 100000
attribute [-simp] Tryd.isAgg23 Tryd.sizeOf23 Tryd.zeroValue23
theorem verify_any (W : World) (hT : Tabs W) (k m d t : List Int) (hk : k.length = 8) (hm : m.length = 8) (hd : d.length = 8) (ht : t.length = 8) (wk : Wds k) (wm : Wds m) (wd : Wds d) (wt : Wds t) :
    Calls Tryd.prog 11 #[Ag k, Ag m, Ag d, Ag t] W fun e W' => e = .returned (.bool (decide (tagOf k m d = t))) ∧ Below W.heap.size W W' := by
  obtain ⟨X, hX⟩ : ∃ X, X = (((W.alloc (Obj.cells (List.map (Value.int IntKind.u32) k).toArray 23)).alloc (Obj.cells (List.map (Value.int IntKind.u32) m).toArray 23)).alloc (Obj.cells (List.map (Value.int IntKind.u32) d).toArray 23)).alloc (Obj.cells (List.map (Value.int IntKind.u32) t).toArray 23) := ⟨_, rfl⟩
  have Y0 : Hid (VS W k m d t X.drew) := hid (by
    have HB : Below W.heap.size W X := by rw [hX]; exact below_on (below_on (below_on (below_one W _) (below_one _ _)) (below_one _ _)) (below_one _ _)
    refine ⟨(hT.on HB).on (Below.refl _ _).drew, HB.drew, ?_, ?_, ?_, ?_⟩
    · rw [hX]; exact (((Blk.new W .u32 23 k).alloc _).alloc _).alloc _
    · rw [hX]; exact ((Blk.newAt (by simp) .u32 23 m).alloc _).alloc _
    · rw [hX]; exact (Blk.newAt (by simp) .u32 23 d).alloc _
    · rw [hX]; exact Blk.newAt (by simp) .u32 23 t)
  have H1 : Hid (∀ w, Tabs w → Calls Tryd.prog 10 #[.agg (k.map (Value.int .u32)).toArray, .agg (m.map (Value.int .u32)).toArray, .agg (d.map (Value.int .u32)).toArray] w fun e W' => e = .returned (.agg ((tagOf k m d).map (Value.int .u32)).toArray) ∧ Below w.heap.size w W') := hid fun w hw => tag_any w hw k m d hk hm hd wk wm wd
  have H2 : Hid (∀ w, Calls Tryd.prog 34 #[.agg ((tagOf k m d).map (Value.int .u32)).toArray, .agg (t.map (Value.int .u32)).toArray] w fun e W' => e = .returned (.tuple #[.bool (decide (tagOf k m d = t)), .int .i64 8]) ∧ Below w.heap.size w W') := hid fun w => macSame_any w _ _ (tagOf_length _ _ _) ht (hmac_wds _ _) wt
  generalize decide (tagOf k m d = t) = r at *
  generalize tagOf k m d = M at *
  clear hT wk wm wd wt
  unfold Ag at *
  go_enter Tryd.func11, Tryd.ntmps11
  go_upto_region 1 with fail
  rw [← hX]
  clear hX
  refine wp_region_held_drew (S := fun w => VS W k m d t w) (by kernel_rfl) Y0.out (fun hHeld => ?_)
  generalize World.drew _ = w0 at *
  refine wpAnyH_take (i := 0) (oi := { dst := some 12, op := Op.load 23 (Operand.tmp 4), type := 23, pos := "attest.go:23", after := #[], guard := none }) (v := .agg ((k).map (Value.int .u32)).toArray) rfl (by kernel_rfl) (by kernel_rfl) (by kernel_rfl) (fun _ _ _ h => h) (yieldsIf_load_mid (by rfl) _ _ rfl _ _ rfl _ _ (fun w hSw => cel_range (blk_cel hSw.bk)) Tryd.underlying23 rfl (by rw [List.length_map, hk]; exact size26)) (by assumption) ?_
  simp only [Act.put, List.setIfInBounds_toArray, List.set_cons_zero, List.set_cons_succ]
  refine wpAnyH_take (i := 1) (oi := { dst := some 13, op := Op.load 23 (Operand.tmp 5), type := 23, pos := "attest.go:23", after := #[], guard := none }) (v := .agg ((m).map (Value.int .u32)).toArray) rfl (by kernel_rfl) (by kernel_rfl) (by kernel_rfl) (fun _ _ _ h => h) (yieldsIf_load_mid (by rfl) _ _ rfl _ _ rfl _ _ (fun w hSw => cel_range (blk_cel hSw.bm)) Tryd.underlying23 rfl (by rw [List.length_map, hm]; exact size26)) (by assumption) ?_
  simp only [Act.put, List.setIfInBounds_toArray, List.set_cons_zero, List.set_cons_succ]
  refine wpAnyH_take (i := 2) (oi := { dst := some 14, op := Op.load 23 (Operand.tmp 6), type := 23, pos := "attest.go:23", after := #[], guard := none }) (v := .agg ((d).map (Value.int .u32)).toArray) rfl (by kernel_rfl) (by kernel_rfl) (by kernel_rfl) (fun _ _ _ h => h) (yieldsIf_load_mid (by rfl) _ _ rfl _ _ rfl _ _ (fun w hSw => cel_range (blk_cel hSw.bd)) Tryd.underlying23 rfl (by rw [List.length_map, hd]; exact size26)) (by assumption) ?_
  simp only [Act.put, List.setIfInBounds_toArray, List.set_cons_zero, List.set_cons_succ]
  refine wpAnyH_take (i := 4) (oi := { dst := some 16, op := Op.load 23 (Operand.tmp 7), type := 23, pos := "attest.go:23", after := #[], guard := none }) (v := .agg ((t).map (Value.int .u32)).toArray) rfl (by kernel_rfl) (by kernel_rfl) (by kernel_rfl) (fun _ _ _ h => h) (yieldsIf_load_mid (by rfl) _ _ rfl _ _ rfl _ _ (fun w hSw => cel_range (blk_cel hSw.bt)) Tryd.underlying23 rfl (by rw [List.length_map, ht]; exact size26)) (by assumption) ?_
  simp only [Act.put, List.setIfInBounds_toArray, List.set_cons_zero, List.set_cons_succ]
  refine wpAnyH_ready (rs := [3]) (by kernel_rfl) (by simp) (AllReadyH.cons (o := { dst := some 15, op := Op.call { callee := Callee.value (Operand.func 10), args := #[Operand.tmp 12, Operand.tmp 13, Operand.tmp 14], argTypes := #[23, 23, 23] }, type := 23, pos := "attest.go:23", after := #[{ on := 0, ground := Ground.data }, { on := 1, ground := Ground.data }, { on := 2, ground := Ground.data }], guard := none }) rfl (fun KQ hK => ?_) AllReadyH.nil)
  go_simp
  refine (H1.out _ Y0.out.tb).mono ?_
  rintro e w1 ⟨rfl, h1⟩
  have Y1 := hid (Y0.out.on h1)
  clear h1 Y0
  go_wp2_with fail
  refine hK.out _ _ Y1.out (fun hHeld => ?_)
  clear hK KQ
  try simp only [Act.put, List.setIfInBounds_toArray, List.set_cons_zero, List.set_cons_succ]
  refine wpAnyH_ready (rs := [5]) (by kernel_rfl) (by simp) (AllReadyH.cons (o := { dst := some 17, op := Op.call { callee := Callee.value (Operand.func 34), args := #[Operand.tmp 15, Operand.tmp 16], argTypes := #[23, 23] }, type := 75, pos := "attest.go:23", after := #[{ on := 3, ground := Ground.data }, { on := 4, ground := Ground.data }, { on := 3, ground := Ground.chain }], guard := none }) rfl (fun KQ hK => ?_) AllReadyH.nil)
  go_simp
  refine (H2.out _).mono ?_
  rintro e w2 ⟨rfl, h2⟩
  have Y2 := hid (Y1.out.on h2)
  clear h2 Y1
  go_wp2_with fail
  refine hK.out _ _ Y2.out (fun hHeld => ?_)
  clear hK KQ
  try simp only [Act.put, List.setIfInBounds_toArray, List.set_cons_zero, List.set_cons_succ]
  refine wpAnyH_take (i := 6) (oi := { dst := some 11, op := Op.move (Operand.tmp 17), type := 75, pos := "attest.go:23", after := #[{ on := 5, ground := Ground.data }], guard := none }) (v := .tuple #[.bool r, .int .i64 8]) rfl (by kernel_rfl) (by kernel_rfl) (by kernel_rfl) (fun _ _ _ h => h) (Or.inl ⟨by rfl, by intro w hSw; go_simp⟩) (by assumption) ?_
  simp only [Act.put, List.setIfInBounds_toArray, List.set_cons_zero, List.set_cons_succ]
  refine wpAnyH_take (i := 7) (oi := { dst := some 18, op := Op.extract (Operand.tmp 11) 0, type := 4, pos := "attest.go:23", after := #[{ on := 6, ground := Ground.data }], guard := none }) (v := .bool r) rfl (by kernel_rfl) (by kernel_rfl) (by kernel_rfl) (fun _ _ _ h => h) (Or.inl ⟨by rfl, by intro w hSw; go_simp⟩) (by assumption) ?_
  simp only [Act.put, List.setIfInBounds_toArray, List.set_cons_zero, List.set_cons_succ]
  refine wpAnyH_take (i := 8) (oi := { dst := some 19, op := Op.extract (Operand.tmp 11) 1, type := 3, pos := "attest.go:23", after := #[{ on := 6, ground := Ground.data }, { on := 9, ground := Ground.gcOnly Departure.lateStores }], guard := none }) (v := .int .i64 8) rfl (by kernel_rfl) (by kernel_rfl) (by kernel_rfl) (fun _ _ _ h => h) (Or.inl ⟨by rfl, by intro w hSw; go_simp⟩) (by assumption) ?_
  simp only [Act.put, List.setIfInBounds_toArray, List.set_cons_zero, List.set_cons_succ]
  refine wpAnyH_ready (rs := [9]) (by kernel_rfl) (by simp) (AllReadyH.cons (o := { dst := some 9, op := Op.assign (Operand.tmp 18), type := 4, pos := "attest.go:23", after := #[{ on := 7, ground := Ground.data }, { on := 5, ground := Ground.chain }, { on := 0, ground := Ground.phase }, { on := 1, ground := Ground.phase }, { on := 2, ground := Ground.phase }, { on := 3, ground := Ground.phase }, { on := 4, ground := Ground.phase }, { on := 5, ground := Ground.phase }, { on := 6, ground := Ground.phase }, { on := 7, ground := Ground.phase }, { on := 8, ground := Ground.textOnly Departure.lateStores }], guard := none }) rfl (fun KQ hK => ?_) AllReadyH.nil)
  go_simp
  refine hK.out _ _ Y2.out (fun hHeld => ?_)
  clear hK KQ
  try simp only [Act.put, List.setIfInBounds_toArray, List.set_cons_zero, List.set_cons_succ]
  refine wpAnyH_ready (rs := [10]) (by kernel_rfl) (by simp) (AllReadyH.cons (o := { dst := some 10, op := Op.assign (Operand.tmp 19), type := 3, pos := "attest.go:23", after := #[{ on := 8, ground := Ground.data }, { on := 9, ground := Ground.chain }, { on := 0, ground := Ground.phase }, { on := 1, ground := Ground.phase }, { on := 2, ground := Ground.phase }, { on := 3, ground := Ground.phase }, { on := 4, ground := Ground.phase }, { on := 5, ground := Ground.phase }, { on := 6, ground := Ground.phase }, { on := 7, ground := Ground.phase }, { on := 8, ground := Ground.phase }, { on := 9, ground := Ground.phase }], guard := none }) rfl (fun KQ hK => ?_) AllReadyH.nil)
  go_simp
  refine hK.out _ _ Y2.out (fun hHeld => ?_)
  clear hK KQ
  try simp only [Act.put, List.setIfInBounds_toArray, List.set_cons_zero, List.set_cons_succ]
  refine wpAnyH_done (by kernel_rfl) ?_ _
  go_wp2_with fail
  go_ret
  exact ⟨rfl, Y2.out.bl⟩
end Go.Proofs.YtbpdmkohihgnjaaDoor
