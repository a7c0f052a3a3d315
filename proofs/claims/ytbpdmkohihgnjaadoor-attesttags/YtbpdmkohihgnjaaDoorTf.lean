/- The law AttestTags 7. -/
import Derived.Test.YtbpdmkohihgnjaaDoorTe
namespace Go.Proofs.YtbpdmkohihgnjaaDoor
open Go.RowKit
set_option maxHeartbeats 8000000
set_option maxRecDepth 100000
structure LT (W : World) (s : List Int) (C : List Value) (g5 g6 : Nat) (K m d t : List Int) (w : World) : Prop where
  bl : Below W.heap.size W w
  tb : Tabs w
  tr : TR w
  cs : w.rangeAt W.heap.size 0 (s.map (Value.int .u32))
  c : Cel w W.heap.size 40 C
  b5 : Blk w g5 .u32 23 K
  b6 : Blk w g6 .u32 38 (quoL m d t)
theorem LT.on {W : World} {s : List Int} {C : List Value} {g5 g6 : Nat} {K m d t : List Int} {w w' : World} (h : LT W s C g5 g6 K m d t w) (hb : Below w.heap.size w w') : LT W s C g5 g6 K m d t w' := ⟨below_on h.bl hb, h.tb.on hb, h.tr.on hb, range_below h.cs hb h.c.lt, h.c.on hb, h.b5.on hb, h.b6.on hb⟩
structure LU (W : World) (g6 g7 g9 : Nat) (Q M : List Int) (w : World) : Prop where
  bl : Below W.heap.size W w
  b6 : Blk w g6 .u32 38 Q
  b7 : Blk w g7 .u32 38 M
  b9 : Blk w g9 .u32 61 M
theorem LU.on {W : World} {g6 g7 g9 : Nat} {Q M : List Int} {w w' : World} (h : LU W g6 g7 g9 Q M w) (hb : Below w.heap.size w w') : LU W g6 g7 g9 Q M w' := ⟨below_on h.bl hb, h.b6.on hb, h.b7.on hb, h.b9.on hb⟩
attribute [-simp] Tryd.isAgg23 Tryd.zeroValue23 Tryd.isAgg61 Tryd.zeroValue61 Tryd.isAgg38 Tryd.zeroValue38 Tryd.isAgg40 Tryd.zeroValue40
theorem tags_l (W : World) (hT : Tabs W) (hR : TR W) (E : Nat → Addr) (hE : ErrS W E) (s o m d t : List Int) (ri sa : Bool) (hs : s.length = 8) (ho : o.length = 8) (hm : m.length = 8) (hd : d.length = 8) (ht : t.length = 8) (ws : Wds s) (wo : Wds o) (wm : Wds m) (wd : Wds d) (wt : Wds t) (x : ByteArray) (hx : x.size ≤ 140737488355328) :
    Calls Tryd.prog 7 #[.agg (claC s o (quoL m d t) ri sa).toArray, .string x] W fun e W' => e = .returned (.bool true) ∧ Below W.heap.size W W' := by
  obtain ⟨Z, hZ⟩ : ∃ Z : List Int, Z = List.replicate 8 0 := ⟨_, rfl⟩
  have hZl : Z.length = 8 := by rw [hZ]; simp
  have hz : ∀ w, (zeroValue 23).run Tryd.prog w = .ok (.agg (Z.map (Value.int .u32)).toArray) w := fun w => by rw [Tryd.zeroValue23, hZ]; rfl
  clear hZ
  have hy : ∀ w, (zeroValue 38).run Tryd.prog w = .ok (.agg (zer24.map (Value.int .u32)).toArray) w := fun w => by rw [Tryd.zeroValue38]; rfl
  have hyr : ∀ w, (zeroValue 61).run Tryd.prog w = .ok (.agg (zer24.map (Value.int .u32)).toArray) w := fun w => by rw [Tryd.zeroValue61]; rfl
  have hYl : zer24.length = 24 := rfl
  have hCl := claC_length (ri := ri) (sa := sa) hs ho (quoL_length hm hd ht)
  have HFi : Hid (∀ w, TR w → Calls Tryd.prog 23 #[.agg (claC s o (quoL m d t) ri sa).toArray] w fun e W' => e = .returned (.agg ((quoL m (if sa then o else d) (if ri then tagOf (keyOf s) m (if sa then o else d) else t)).map (Value.int .u32)).toArray) ∧ Below w.heap.size w W') := hid fun w h => fitted_any w h s o m d t ri sa hs ho hm hd ht ws wo wm wd
  have hd' : (if sa then o else d).length = 8 := by split <;> assumption
  have wd' : Wds (if sa then o else d) := by split <;> assumption
  have ht' : (if ri then tagOf (keyOf s) m (if sa then o else d) else t).length = 8 := by split; exact tagOf_length _ _ _; exact ht
  have wt' : Wds (if ri then tagOf (keyOf s) m (if sa then o else d) else t) := by split; exact hmac_wds _ _; exact wt
  have HC0 : Hid (∀ w, Cel w W.heap.size 40 (claC s o (quoL m d t) ri sa) → w.rangeAt W.heap.size 0 (s.map (Value.int .u32))) := hid fun w h => cla0 h
  have HK : Hid (∀ w, Tabs w → Calls Tryd.prog 8 #[.agg (s.map (Value.int .u32)).toArray] w fun e W' => e = .returned (.agg ((keyOf s).map (Value.int .u32)).toArray) ∧ Below w.heap.size w W') := hid fun w h => key_any w h s hs ws
  have HKr : Hid (∀ w, TR w → Calls Tryd.prog 24 #[.agg (s.map (Value.int .u32)).toArray] w fun e W' => e = .returned (.agg ((keyOf s).map (Value.int .u32)).toArray) ∧ Below w.heap.size w W') := hid fun w h => rkey_any w h s hs ws
  obtain ⟨X, hX⟩ : ∃ X, X = W.alloc (Obj.cells (claC s o (quoL m d t) ri sa).toArray 40) := ⟨_, rfl⟩
  have Y0 : Hid (Below W.heap.size W X ∧ Cel X W.heap.size 40 (claC s o (quoL m d t) ri sa)) := hid (by rw [hX]; exact ⟨below_one W _, heap_alloc_new _ _⟩)
  have hKl := keyOf_length s
  have wK : Wds (keyOf s) := hmac_wds _ _
  generalize keyOf s = K at *
  generalize claC s o (quoL m d t) ri sa = C at *
  generalize (if ri then tagOf K m (if sa then o else d) else t) = t' at *
  generalize (if sa then o else d) = d' at *
  have HT1 : Hid (∀ w, Tabs w → Calls Tryd.prog 10 #[.agg (K.map (Value.int .u32)).toArray, .agg (m.map (Value.int .u32)).toArray, .agg (d'.map (Value.int .u32)).toArray] w fun e W' => e = .returned (.agg ((tagOf K m d').map (Value.int .u32)).toArray) ∧ Below w.heap.size w W') := hid fun w h => tag_any w h K m d' hKl hm hd' wK wm wd'
  have HT2 : Hid (∀ w, TR w → Calls Tryd.prog 25 #[.agg (K.map (Value.int .u32)).toArray, .agg (m.map (Value.int .u32)).toArray, .agg (d'.map (Value.int .u32)).toArray] w fun e W' => e = .returned (.agg ((tagOf K m d').map (Value.int .u32)).toArray) ∧ Below w.heap.size w W') := hid fun w h => rtagq_any w h K m d' hKl hm hd' wK wm wd'
  have HV1 : Hid (∀ w, Tabs w → Calls Tryd.prog 11 #[.agg (K.map (Value.int .u32)).toArray, .agg (m.map (Value.int .u32)).toArray, .agg (d'.map (Value.int .u32)).toArray, .agg (t'.map (Value.int .u32)).toArray] w fun e W' => e = .returned (.bool (decide (tagOf K m d' = t'))) ∧ Below w.heap.size w W') := hid fun w h => verify_any w h K m d' t' hKl hm hd' ht' wK wm wd' wt'
  have HV2 : Hid (∀ w, TR w → Calls Tryd.prog 26 #[.agg (K.map (Value.int .u32)).toArray, .agg (m.map (Value.int .u32)).toArray, .agg (d'.map (Value.int .u32)).toArray, .agg (t'.map (Value.int .u32)).toArray] w fun e W' => e = .returned (.bool (decide (tagOf K m d' = t'))) ∧ Below w.heap.size w W') := hid fun w h => rverify_any w h K m d' t' hKl hm hd' ht' wK wm wd'
  have hTl := tagOf_length K m d'
  generalize decide (tagOf K m d' = t') = r at *
  generalize tagOf K m d' = T at *
  have hQl := quoL_length hm hd' ht'
  have h13 := hE.sz
  have HP1 : Hid (∀ w, Below W.heap.size W w → Calls Tryd.prog 18 #[.string x] w fun e W' => e = .returned (.tuple #[.agg ((pq x).map (Value.int .u32)).toArray, .int .i64 (pN x)]) ∧ Below w.heap.size w W') := hid fun w h => parse_any w (hT.lows.below h (by omega)) E (hE.on h) x hx
  have HP2 : Hid (∀ w, Calls Tryd.prog 27 #[.string x] w fun e W' => e = .returned (.tuple #[.agg ((pq x).map (Value.int .u32)).toArray, .int .i64 (pN x)]) ∧ Below w.heap.size w W') := hid fun w => rparse_any w x hx
  have hMl := pq_length x
  generalize pq x = M at *
  generalize pN x = pn at *
  have HD1 : Hid (∀ w, Calls Tryd.prog 29 #[.agg ((quoL m d' t').map (Value.int .u32)).toArray] w fun e W' => e = .returned (.agg ((quoL m d' t').map (Value.int .u32)).toArray) ∧ Below w.heap.size w W') := hid fun w => doc_any w _ hQl
  have HD2 : Hid (∀ w, Calls Tryd.prog 29 #[.agg (M.map (Value.int .u32)).toArray] w fun e W' => e = .returned (.agg (M.map (Value.int .u32)).toArray) ∧ Below w.heap.size w W') := hid fun w => doc_any w _ hMl
  have HF1 : Hid (∀ w, Below W.heap.size W w → Calls Tryd.prog 17 #[.agg ((quoL m d' t').map (Value.int .u32)).toArray] w fun e W' => e = .returned (.string (fmtQ m d' t')) ∧ Below w.heap.size w W') := hid fun w h => format_any w (hT.lows.below h (by omega)) (by have := h.size; omega) m d' t' hm hd' ht' wm wd' wt'
  have HF2 : Hid (∀ w, Calls Tryd.prog 28 #[.agg ((quoL m d' t').map (Value.int .u32)).toArray] w fun e W' => e = .returned (.string (fmtQ m d' t')) ∧ Below w.heap.size w W') := hid fun w => rformat_any w m d' t' hm hd' ht' wm wd' wt'
  generalize fmtQ m d' t' = F at *
  have hEK : ∀ w, (Op.equalIn 10000 23 (.agg (K.map (Value.int .u32)).toArray) (.agg (K.map (Value.int .u32)).toArray)).run Tryd.prog w = .ok true w := fun w => by rw [eq26 K K hKl hKl, decide_eq_true rfl]
  have hET : ∀ w, (Op.equalIn 10000 23 (.agg (T.map (Value.int .u32)).toArray) (.agg (T.map (Value.int .u32)).toArray)).run Tryd.prog w = .ok true w := fun w => by rw [eq26 T T hTl hTl, decide_eq_true rfl]
  have hEM : ∀ w, (Op.equalIn 10000 61 (.agg (M.map (Value.int .u32)).toArray) (.agg (M.map (Value.int .u32)).toArray)).run Tryd.prog w = .ok true w := fun w => eq61_self w M hMl
  have HNu := hid (fun w x => num_any w x)
  have HTW := hid hT
  have HRW := hid hR
  generalize zer24 = Z24 at *
  clear hT hR hE hx h13 ws wo wm wd wt wd' wt' wK ho hd ht
  go_enter Tryd.func7, Tryd.ntmps7
  go_upto_region 1 with fail
  rw [← hX]
  clear hX
  go_upto_region 2 with (first | (revert Y0; intro Y0; refine wpList_load_mid rfl 23 _ rfl W.heap.size 0 rfl _ _ (HC0.out _ Y0.out.2) Tryd.underlying23 rfl (by rw [List.length_map, hs]; exact size26) ?_) | (go_at_call 8; refine (HK.out _ (HTW.out.on Y0.out.1)).mono ?_; rintro e w1 ⟨rfl, hb⟩; have Y1 : Hid (Below W.heap.size W w1 ∧ Cel w1 W.heap.size 40 C) := hid ⟨below_on Y0.out.1 hb, Y0.out.2.on hb⟩; clear hb Y0) | (revert Y1; intro Y1; refine wpList_store_but rfl 23 _ _ rfl w1.heap.size K rfl rfl (Blk.new w1 .u32 23 Z) (by rw [hKl]; exact size26) (by rw [hZl, hKl]) ?_; intro w2 bK hbt hsz; have Y2 : Hid (Below W.heap.size W w2 ∧ Cel w2 W.heap.size 40 C ∧ Blk w2 w1.heap.size .u32 23 K) := hid ⟨below_on Y1.out.1 (but_box hbt), Y1.out.2.on (but_box hbt), bK⟩; clear bK hbt hsz Y1))
  generalize w1.heap.size = g5 at *
  clear HK
  go_upto_region 3 with (first | (revert Y2; intro Y2; refine wpList_load_mid rfl 40 _ rfl W.heap.size 0 rfl _ _ (cel_range Y2.out.2.1) Tryd.underlying40 rfl (by rw [hCl]; exact size40) ?_) | (go_at_call 23; refine (HFi.out _ (HRW.out.on Y2.out.1)).mono ?_; rintro e w3 ⟨rfl, hb⟩; have Y3 : Hid (Below W.heap.size W w3 ∧ Cel w3 W.heap.size 40 C ∧ Blk w3 g5 .u32 23 K) := hid ⟨below_on Y2.out.1 hb, Y2.out.2.1.on hb, Y2.out.2.2.on hb⟩; clear hb Y2) | (revert Y3; intro Y3; refine wpList_store_but rfl 38 _ _ rfl w3.heap.size (quoL m d' t') rfl rfl (Blk.new w3 .u32 38 Z24) (by rw [hQl]; exact size38) (by rw [hYl, hQl]) ?_; intro w4 bQ hbt hsz; have Y4 : Hid (LT W s C g5 w3.heap.size K m d' t' w4.drew) := hid (by have hB := but_box hbt; have hBB := below_on Y3.out.1 hB; have hC := Y3.out.2.1.on hB; exact LT.on (w := w4) ⟨hBB, HTW.out.on hBB, HRW.out.on hBB, HC0.out _ hC, hC, Y3.out.2.2.on hB, bQ⟩ (Below.refl _ _).drew); clear bQ hbt hsz Y3))
  generalize w3.heap.size = g6 at *
  clear HFi HC0
  refine wp_region_held_drew (S := fun w => LT W s C g5 g6 K m d' t' w) (by kernel_rfl) Y4.out (fun hHeld => ?_)
  generalize World.drew _ = w4d at *
  refine wpAnyH_take (i := 0) (oi := { dst := some 16, op := Op.load 23 (Operand.tmp 5), type := 23, pos := "law.go:92", after := #[], guard := none }) (v := .agg ((K).map (Value.int .u32)).toArray) rfl (by kernel_rfl) (by kernel_rfl) (by kernel_rfl) (fun _ _ _ h => h) (yieldsIf_load_mid (by rfl) _ _ rfl _ _ rfl _ _ (fun w hSw => cel_range (blk_cel hSw.b5)) Tryd.underlying23 rfl (by rw [List.length_map, hKl]; exact size26)) (by assumption) ?_
  simp only [Act.put, List.setIfInBounds_toArray, List.set_cons_zero, List.set_cons_succ]
  refine wpAnyH_take (i := 1) (oi := { dst := some 17, op := Op.fieldAddr 40 (Operand.tmp 2) 0, type := 0, pos := "law.go:92", after := #[], guard := none }) (v := .pointer (some ⟨W.heap.size, 0, none⟩)) rfl (by kernel_rfl) (by kernel_rfl) (by kernel_rfl) (fun _ _ _ h => h) (Or.inl ⟨by rfl, by intro w hSw; go_simp⟩) (by assumption) ?_
  simp only [Act.put, List.setIfInBounds_toArray, List.set_cons_zero, List.set_cons_succ]
  refine wpAnyH_take (i := 2) (oi := { dst := some 18, op := Op.load 23 (Operand.tmp 17), type := 23, pos := "law.go:92", after := #[{ on := 1, ground := Ground.data }], guard := none }) (v := .agg ((s).map (Value.int .u32)).toArray) rfl (by kernel_rfl) (by kernel_rfl) (by kernel_rfl) (fun _ _ _ h => h) (yieldsIf_load_mid (by rfl) _ _ rfl _ _ rfl _ _ (fun w hSw => hSw.cs) Tryd.underlying23 rfl (by rw [List.length_map, hs]; exact size26)) (by assumption) ?_
  simp only [Act.put, List.setIfInBounds_toArray, List.set_cons_zero, List.set_cons_succ]
  refine wpAnyH_ready (rs := [3]) (by kernel_rfl) (by simp) (AllReadyH.cons (o := { dst := some 19, op := Op.call { callee := Callee.value (Operand.func 24), args := #[Operand.tmp 18], argTypes := #[23] }, type := 23, pos := "law.go:92", after := #[{ on := 2, ground := Ground.data }], guard := none }) rfl (fun KQ hK => ?_) AllReadyH.nil)
  go_simp
  refine (HKr.out _ Y4.out.tr).mono ?_
  rintro e w5 ⟨rfl, hb5⟩
  have Y5 := hid (Y4.out.on hb5)
  clear hb5 Y4
  go_wp2_with fail
  refine hK.out _ _ Y5.out (fun hHeld => ?_)
  clear hK KQ
  try simp only [Act.put, List.setIfInBounds_toArray, List.set_cons_zero, List.set_cons_succ]
  refine wpAnyH_take (i := 4) (oi := { dst := some 20, op := Op.binOp BinOp.neq 23 (Operand.tmp 16) (Operand.tmp 19) 23, type := 4, pos := "law.go:92", after := #[{ on := 0, ground := Ground.data }, { on := 3, ground := Ground.data }], guard := none }) (v := .bool false) rfl (by kernel_rfl) (by kernel_rfl) (by kernel_rfl) (fun _ _ _ h => h) (Or.inl ⟨by rfl, by intro w hSw; go_simp⟩) (by assumption) ?_
  simp only [Act.put, List.setIfInBounds_toArray, List.set_cons_zero, List.set_cons_succ]
  refine wpAnyH_take (i := 5) (oi := { dst := some 21, op := Op.move (Operand.tmp 20), type := 4, pos := "law.go:92", after := #[{ on := 4, ground := Ground.data }, { on := 3, ground := Ground.chain }], guard := none }) (v := .bool false) rfl (by kernel_rfl) (by kernel_rfl) (by kernel_rfl) (fun _ _ _ h => h) (Or.inl ⟨by rfl, by intro w hSw; go_simp⟩) (by assumption) ?_
  simp only [Act.put, List.setIfInBounds_toArray, List.set_cons_zero, List.set_cons_succ]
  refine wpAnyH_take (i := 6) (oi := { dst := some 22, op := Op.load 23 (Operand.tmp 5), type := 23, pos := "law.go:92", after := #[{ on := 5, ground := Ground.guard }], guard := some (5, false) }) (v := .agg ((K).map (Value.int .u32)).toArray) rfl (by kernel_rfl) (by kernel_rfl) (by kernel_rfl) (fun _ _ _ h => h) (yieldsIf_load_mid (by rfl) _ _ rfl _ _ rfl _ _ (fun w hSw => cel_range (blk_cel hSw.b5)) Tryd.underlying23 rfl (by rw [List.length_map, hKl]; exact size26)) (by assumption) ?_
  simp only [Act.put, List.setIfInBounds_toArray, List.set_cons_zero, List.set_cons_succ]
  refine wpAnyH_take (i := 7) (oi := { dst := some 23, op := Op.fieldAddr 38 (Operand.tmp 6) 0, type := 0, pos := "law.go:92", after := #[{ on := 5, ground := Ground.guard }], guard := some (5, false) }) (v := .pointer (some ⟨g6, 0, none⟩)) rfl (by kernel_rfl) (by kernel_rfl) (by kernel_rfl) (fun _ _ _ h => h) (Or.inl ⟨by rfl, by intro w hSw; go_simp⟩) (by assumption) ?_
  simp only [Act.put, List.setIfInBounds_toArray, List.set_cons_zero, List.set_cons_succ]
  refine wpAnyH_take (i := 8) (oi := { dst := some 24, op := Op.load 23 (Operand.tmp 23), type := 23, pos := "law.go:92", after := #[{ on := 7, ground := Ground.data }, { on := 5, ground := Ground.guard }], guard := some (5, false) }) (v := .agg ((m).map (Value.int .u32)).toArray) rfl (by kernel_rfl) (by kernel_rfl) (by kernel_rfl) (fun _ _ _ h => h) (yieldsIf_load_mid (by rfl) _ _ rfl _ _ rfl _ _ (fun w hSw => quo0 (cel_range (blk_cel hSw.b6))) Tryd.underlying23 rfl (by rw [List.length_map, hm]; exact size26)) (by assumption) ?_
  simp only [Act.put, List.setIfInBounds_toArray, List.set_cons_zero, List.set_cons_succ]
  refine wpAnyH_take (i := 9) (oi := { dst := some 25, op := Op.fieldAddr 38 (Operand.tmp 6) 1, type := 0, pos := "law.go:92", after := #[{ on := 5, ground := Ground.guard }], guard := some (5, false) }) (v := .pointer (some ⟨g6, 8, none⟩)) rfl (by kernel_rfl) (by kernel_rfl) (by kernel_rfl) (fun _ _ _ h => h) (Or.inl ⟨by rfl, by intro w hSw; go_simp⟩) (by assumption) ?_
  simp only [Act.put, List.setIfInBounds_toArray, List.set_cons_zero, List.set_cons_succ]
  refine wpAnyH_take (i := 10) (oi := { dst := some 26, op := Op.load 23 (Operand.tmp 25), type := 23, pos := "law.go:92", after := #[{ on := 9, ground := Ground.data }, { on := 5, ground := Ground.guard }], guard := some (5, false) }) (v := .agg ((d').map (Value.int .u32)).toArray) rfl (by kernel_rfl) (by kernel_rfl) (by kernel_rfl) (fun _ _ _ h => h) (yieldsIf_load_mid (by rfl) _ _ rfl _ _ rfl _ _ (fun w hSw => (by have := quo8 (cel_range (blk_cel hSw.b6)) hm; rwa [Nat.zero_add] at this)) Tryd.underlying23 rfl (by rw [List.length_map, hd']; exact size26)) (by assumption) ?_
  simp only [Act.put, List.setIfInBounds_toArray, List.set_cons_zero, List.set_cons_succ]
  refine wpAnyH_take (i := 12) (oi := { dst := some 28, op := Op.load 23 (Operand.tmp 5), type := 23, pos := "law.go:92", after := #[{ on := 5, ground := Ground.guard }], guard := some (5, false) }) (v := .agg ((K).map (Value.int .u32)).toArray) rfl (by kernel_rfl) (by kernel_rfl) (by kernel_rfl) (fun _ _ _ h => h) (yieldsIf_load_mid (by rfl) _ _ rfl _ _ rfl _ _ (fun w hSw => cel_range (blk_cel hSw.b5)) Tryd.underlying23 rfl (by rw [List.length_map, hKl]; exact size26)) (by assumption) ?_
  simp only [Act.put, List.setIfInBounds_toArray, List.set_cons_zero, List.set_cons_succ]
  refine wpAnyH_take (i := 13) (oi := { dst := some 29, op := Op.fieldAddr 38 (Operand.tmp 6) 0, type := 0, pos := "law.go:92", after := #[{ on := 5, ground := Ground.guard }], guard := some (5, false) }) (v := .pointer (some ⟨g6, 0, none⟩)) rfl (by kernel_rfl) (by kernel_rfl) (by kernel_rfl) (fun _ _ _ h => h) (Or.inl ⟨by rfl, by intro w hSw; go_simp⟩) (by assumption) ?_
  simp only [Act.put, List.setIfInBounds_toArray, List.set_cons_zero, List.set_cons_succ]
  refine wpAnyH_take (i := 14) (oi := { dst := some 30, op := Op.load 23 (Operand.tmp 29), type := 23, pos := "law.go:92", after := #[{ on := 13, ground := Ground.data }, { on := 5, ground := Ground.guard }], guard := some (5, false) }) (v := .agg ((m).map (Value.int .u32)).toArray) rfl (by kernel_rfl) (by kernel_rfl) (by kernel_rfl) (fun _ _ _ h => h) (yieldsIf_load_mid (by rfl) _ _ rfl _ _ rfl _ _ (fun w hSw => quo0 (cel_range (blk_cel hSw.b6))) Tryd.underlying23 rfl (by rw [List.length_map, hm]; exact size26)) (by assumption) ?_
  simp only [Act.put, List.setIfInBounds_toArray, List.set_cons_zero, List.set_cons_succ]
  refine wpAnyH_take (i := 15) (oi := { dst := some 31, op := Op.fieldAddr 38 (Operand.tmp 6) 1, type := 0, pos := "law.go:92", after := #[{ on := 5, ground := Ground.guard }], guard := some (5, false) }) (v := .pointer (some ⟨g6, 8, none⟩)) rfl (by kernel_rfl) (by kernel_rfl) (by kernel_rfl) (fun _ _ _ h => h) (Or.inl ⟨by rfl, by intro w hSw; go_simp⟩) (by assumption) ?_
  simp only [Act.put, List.setIfInBounds_toArray, List.set_cons_zero, List.set_cons_succ]
  refine wpAnyH_take (i := 16) (oi := { dst := some 32, op := Op.load 23 (Operand.tmp 31), type := 23, pos := "law.go:92", after := #[{ on := 15, ground := Ground.data }, { on := 5, ground := Ground.guard }], guard := some (5, false) }) (v := .agg ((d').map (Value.int .u32)).toArray) rfl (by kernel_rfl) (by kernel_rfl) (by kernel_rfl) (fun _ _ _ h => h) (yieldsIf_load_mid (by rfl) _ _ rfl _ _ rfl _ _ (fun w hSw => (by have := quo8 (cel_range (blk_cel hSw.b6)) hm; rwa [Nat.zero_add] at this)) Tryd.underlying23 rfl (by rw [List.length_map, hd']; exact size26)) (by assumption) ?_
  simp only [Act.put, List.setIfInBounds_toArray, List.set_cons_zero, List.set_cons_succ]
  refine wpAnyH_ready (rs := [11]) (by kernel_rfl) (by simp) (AllReadyH.cons (o := { dst := some 27, op := Op.call { callee := Callee.value (Operand.func 10), args := #[Operand.tmp 22, Operand.tmp 24, Operand.tmp 26], argTypes := #[23, 23, 23] }, type := 23, pos := "law.go:92", after := #[{ on := 6, ground := Ground.data }, { on := 8, ground := Ground.data }, { on := 10, ground := Ground.data }, { on := 5, ground := Ground.chain }, { on := 5, ground := Ground.guard }], guard := some (5, false) }) rfl (fun KQ hK => ?_) AllReadyH.nil)
  go_simp
  refine (HT1.out _ Y5.out.tb).mono ?_
  rintro e w6 ⟨rfl, hb6⟩
  have Y6 := hid (Y5.out.on hb6)
  clear hb6 Y5
  go_wp2_with fail
  refine hK.out _ _ Y6.out (fun hHeld => ?_)
  clear hK KQ
  try simp only [Act.put, List.setIfInBounds_toArray, List.set_cons_zero, List.set_cons_succ]
  refine wpAnyH_ready (rs := [17]) (by kernel_rfl) (by simp) (AllReadyH.cons (o := { dst := some 33, op := Op.call { callee := Callee.value (Operand.func 25), args := #[Operand.tmp 28, Operand.tmp 30, Operand.tmp 32], argTypes := #[23, 23, 23] }, type := 23, pos := "law.go:92", after := #[{ on := 12, ground := Ground.data }, { on := 14, ground := Ground.data }, { on := 16, ground := Ground.data }, { on := 11, ground := Ground.chain }, { on := 5, ground := Ground.guard }], guard := some (5, false) }) rfl (fun KQ hK => ?_) AllReadyH.nil)
  go_simp
  refine (HT2.out _ Y6.out.tr).mono ?_
  rintro e w7 ⟨rfl, hb7⟩
  have Y7 := hid (Y6.out.on hb7)
  clear hb7 Y6
  go_wp2_with fail
  refine hK.out _ _ Y7.out (fun hHeld => ?_)
  clear hK KQ
  try simp only [Act.put, List.setIfInBounds_toArray, List.set_cons_zero, List.set_cons_succ]
  refine wpAnyH_take (i := 18) (oi := { dst := some 34, op := Op.binOp BinOp.neq 23 (Operand.tmp 27) (Operand.tmp 33) 23, type := 4, pos := "law.go:92", after := #[{ on := 11, ground := Ground.data }, { on := 17, ground := Ground.data }, { on := 5, ground := Ground.guard }], guard := some (5, false) }) (v := .bool false) rfl (by kernel_rfl) (by kernel_rfl) (by kernel_rfl) (fun _ _ _ h => h) (Or.inl ⟨by rfl, by intro w hSw; go_simp⟩) (by assumption) ?_
  simp only [Act.put, List.setIfInBounds_toArray, List.set_cons_zero, List.set_cons_succ]
  refine wpAnyH_take (i := 19) (oi := { dst := some 35, op := Op.pick (Operand.tmp 21) (Operand.const (Value.bool true)) (Operand.tmp 34), type := 4, pos := "law.go:92", after := #[{ on := 5, ground := Ground.data }, { on := 18, ground := Ground.data }], guard := none }) (v := .bool false) rfl (by kernel_rfl) (by kernel_rfl) (by kernel_rfl) (fun _ _ _ h => h) (Or.inl ⟨by rfl, by intro w hSw; go_simp⟩) (by assumption) ?_
  simp only [Act.put, List.setIfInBounds_toArray, List.set_cons_zero, List.set_cons_succ]
  refine wpAnyH_done (by kernel_rfl) ?_ _
  go_upto_region 5 with fail
  have Y8 : Hid (LT W s C g5 g6 K m d' t' w7.drew) := hid (Y7.out.on (Below.refl _ _).drew)
  clear Y7 HKr HT1 HT2
  refine wp_region_held_drew (S := fun w => LT W s C g5 g6 K m d' t' w) (by kernel_rfl) Y8.out (fun hHeld => ?_)
  generalize World.drew _ = w8 at *
  refine wpAnyH_take (i := 0) (oi := { dst := some 36, op := Op.load 23 (Operand.tmp 5), type := 23, pos := "law.go:95", after := #[], guard := none }) (v := .agg ((K).map (Value.int .u32)).toArray) rfl (by kernel_rfl) (by kernel_rfl) (by kernel_rfl) (fun _ _ _ h => h) (yieldsIf_load_mid (by rfl) _ _ rfl _ _ rfl _ _ (fun w hSw => cel_range (blk_cel hSw.b5)) Tryd.underlying23 rfl (by rw [List.length_map, hKl]; exact size26)) (by assumption) ?_
  simp only [Act.put, List.setIfInBounds_toArray, List.set_cons_zero, List.set_cons_succ]
  refine wpAnyH_take (i := 1) (oi := { dst := some 37, op := Op.fieldAddr 38 (Operand.tmp 6) 0, type := 0, pos := "law.go:95", after := #[], guard := none }) (v := .pointer (some ⟨g6, 0, none⟩)) rfl (by kernel_rfl) (by kernel_rfl) (by kernel_rfl) (fun _ _ _ h => h) (Or.inl ⟨by rfl, by intro w hSw; go_simp⟩) (by assumption) ?_
  simp only [Act.put, List.setIfInBounds_toArray, List.set_cons_zero, List.set_cons_succ]
  refine wpAnyH_take (i := 2) (oi := { dst := some 38, op := Op.load 23 (Operand.tmp 37), type := 23, pos := "law.go:95", after := #[{ on := 1, ground := Ground.data }], guard := none }) (v := .agg ((m).map (Value.int .u32)).toArray) rfl (by kernel_rfl) (by kernel_rfl) (by kernel_rfl) (fun _ _ _ h => h) (yieldsIf_load_mid (by rfl) _ _ rfl _ _ rfl _ _ (fun w hSw => quo0 (cel_range (blk_cel hSw.b6))) Tryd.underlying23 rfl (by rw [List.length_map, hm]; exact size26)) (by assumption) ?_
  simp only [Act.put, List.setIfInBounds_toArray, List.set_cons_zero, List.set_cons_succ]
  refine wpAnyH_take (i := 3) (oi := { dst := some 39, op := Op.fieldAddr 38 (Operand.tmp 6) 1, type := 0, pos := "law.go:95", after := #[], guard := none }) (v := .pointer (some ⟨g6, 8, none⟩)) rfl (by kernel_rfl) (by kernel_rfl) (by kernel_rfl) (fun _ _ _ h => h) (Or.inl ⟨by rfl, by intro w hSw; go_simp⟩) (by assumption) ?_
  simp only [Act.put, List.setIfInBounds_toArray, List.set_cons_zero, List.set_cons_succ]
  refine wpAnyH_take (i := 4) (oi := { dst := some 40, op := Op.load 23 (Operand.tmp 39), type := 23, pos := "law.go:95", after := #[{ on := 3, ground := Ground.data }], guard := none }) (v := .agg ((d').map (Value.int .u32)).toArray) rfl (by kernel_rfl) (by kernel_rfl) (by kernel_rfl) (fun _ _ _ h => h) (yieldsIf_load_mid (by rfl) _ _ rfl _ _ rfl _ _ (fun w hSw => (by have := quo8 (cel_range (blk_cel hSw.b6)) hm; rwa [Nat.zero_add] at this)) Tryd.underlying23 rfl (by rw [List.length_map, hd']; exact size26)) (by assumption) ?_
  simp only [Act.put, List.setIfInBounds_toArray, List.set_cons_zero, List.set_cons_succ]
  refine wpAnyH_take (i := 5) (oi := { dst := some 41, op := Op.fieldAddr 38 (Operand.tmp 6) 2, type := 0, pos := "law.go:95", after := #[], guard := none }) (v := .pointer (some ⟨g6, 16, none⟩)) rfl (by kernel_rfl) (by kernel_rfl) (by kernel_rfl) (fun _ _ _ h => h) (Or.inl ⟨by rfl, by intro w hSw; go_simp⟩) (by assumption) ?_
  simp only [Act.put, List.setIfInBounds_toArray, List.set_cons_zero, List.set_cons_succ]
  refine wpAnyH_take (i := 6) (oi := { dst := some 42, op := Op.load 23 (Operand.tmp 41), type := 23, pos := "law.go:95", after := #[{ on := 5, ground := Ground.data }], guard := none }) (v := .agg ((t').map (Value.int .u32)).toArray) rfl (by kernel_rfl) (by kernel_rfl) (by kernel_rfl) (fun _ _ _ h => h) (yieldsIf_load_mid (by rfl) _ _ rfl _ _ rfl _ _ (fun w hSw => (by have := quo16 (cel_range (blk_cel hSw.b6)) hm hd'; rwa [Nat.zero_add] at this)) Tryd.underlying23 rfl (by rw [List.length_map, ht']; exact size26)) (by assumption) ?_
  simp only [Act.put, List.setIfInBounds_toArray, List.set_cons_zero, List.set_cons_succ]
  refine wpAnyH_take (i := 8) (oi := { dst := some 44, op := Op.load 23 (Operand.tmp 5), type := 23, pos := "law.go:95", after := #[], guard := none }) (v := .agg ((K).map (Value.int .u32)).toArray) rfl (by kernel_rfl) (by kernel_rfl) (by kernel_rfl) (fun _ _ _ h => h) (yieldsIf_load_mid (by rfl) _ _ rfl _ _ rfl _ _ (fun w hSw => cel_range (blk_cel hSw.b5)) Tryd.underlying23 rfl (by rw [List.length_map, hKl]; exact size26)) (by assumption) ?_
  simp only [Act.put, List.setIfInBounds_toArray, List.set_cons_zero, List.set_cons_succ]
  refine wpAnyH_take (i := 9) (oi := { dst := some 45, op := Op.fieldAddr 38 (Operand.tmp 6) 0, type := 0, pos := "law.go:95", after := #[], guard := none }) (v := .pointer (some ⟨g6, 0, none⟩)) rfl (by kernel_rfl) (by kernel_rfl) (by kernel_rfl) (fun _ _ _ h => h) (Or.inl ⟨by rfl, by intro w hSw; go_simp⟩) (by assumption) ?_
  simp only [Act.put, List.setIfInBounds_toArray, List.set_cons_zero, List.set_cons_succ]
  refine wpAnyH_take (i := 10) (oi := { dst := some 46, op := Op.load 23 (Operand.tmp 45), type := 23, pos := "law.go:95", after := #[{ on := 9, ground := Ground.data }], guard := none }) (v := .agg ((m).map (Value.int .u32)).toArray) rfl (by kernel_rfl) (by kernel_rfl) (by kernel_rfl) (fun _ _ _ h => h) (yieldsIf_load_mid (by rfl) _ _ rfl _ _ rfl _ _ (fun w hSw => quo0 (cel_range (blk_cel hSw.b6))) Tryd.underlying23 rfl (by rw [List.length_map, hm]; exact size26)) (by assumption) ?_
  simp only [Act.put, List.setIfInBounds_toArray, List.set_cons_zero, List.set_cons_succ]
  refine wpAnyH_take (i := 11) (oi := { dst := some 47, op := Op.fieldAddr 38 (Operand.tmp 6) 1, type := 0, pos := "law.go:95", after := #[], guard := none }) (v := .pointer (some ⟨g6, 8, none⟩)) rfl (by kernel_rfl) (by kernel_rfl) (by kernel_rfl) (fun _ _ _ h => h) (Or.inl ⟨by rfl, by intro w hSw; go_simp⟩) (by assumption) ?_
  simp only [Act.put, List.setIfInBounds_toArray, List.set_cons_zero, List.set_cons_succ]
  refine wpAnyH_take (i := 12) (oi := { dst := some 48, op := Op.load 23 (Operand.tmp 47), type := 23, pos := "law.go:95", after := #[{ on := 11, ground := Ground.data }], guard := none }) (v := .agg ((d').map (Value.int .u32)).toArray) rfl (by kernel_rfl) (by kernel_rfl) (by kernel_rfl) (fun _ _ _ h => h) (yieldsIf_load_mid (by rfl) _ _ rfl _ _ rfl _ _ (fun w hSw => (by have := quo8 (cel_range (blk_cel hSw.b6)) hm; rwa [Nat.zero_add] at this)) Tryd.underlying23 rfl (by rw [List.length_map, hd']; exact size26)) (by assumption) ?_
  simp only [Act.put, List.setIfInBounds_toArray, List.set_cons_zero, List.set_cons_succ]
  refine wpAnyH_take (i := 13) (oi := { dst := some 49, op := Op.fieldAddr 38 (Operand.tmp 6) 2, type := 0, pos := "law.go:95", after := #[], guard := none }) (v := .pointer (some ⟨g6, 16, none⟩)) rfl (by kernel_rfl) (by kernel_rfl) (by kernel_rfl) (fun _ _ _ h => h) (Or.inl ⟨by rfl, by intro w hSw; go_simp⟩) (by assumption) ?_
  simp only [Act.put, List.setIfInBounds_toArray, List.set_cons_zero, List.set_cons_succ]
  refine wpAnyH_take (i := 14) (oi := { dst := some 50, op := Op.load 23 (Operand.tmp 49), type := 23, pos := "law.go:95", after := #[{ on := 13, ground := Ground.data }], guard := none }) (v := .agg ((t').map (Value.int .u32)).toArray) rfl (by kernel_rfl) (by kernel_rfl) (by kernel_rfl) (fun _ _ _ h => h) (yieldsIf_load_mid (by rfl) _ _ rfl _ _ rfl _ _ (fun w hSw => (by have := quo16 (cel_range (blk_cel hSw.b6)) hm hd'; rwa [Nat.zero_add] at this)) Tryd.underlying23 rfl (by rw [List.length_map, ht']; exact size26)) (by assumption) ?_
  simp only [Act.put, List.setIfInBounds_toArray, List.set_cons_zero, List.set_cons_succ]
  refine wpAnyH_ready (rs := [7]) (by kernel_rfl) (by simp) (AllReadyH.cons (o := { dst := some 43, op := Op.call { callee := Callee.value (Operand.func 11), args := #[Operand.tmp 36, Operand.tmp 38, Operand.tmp 40, Operand.tmp 42], argTypes := #[23, 23, 23, 23] }, type := 4, pos := "law.go:95", after := #[{ on := 0, ground := Ground.data }, { on := 2, ground := Ground.data }, { on := 4, ground := Ground.data }, { on := 6, ground := Ground.data }], guard := none }) rfl (fun KQ hK => ?_) AllReadyH.nil)
  go_simp
  refine (HV1.out _ Y8.out.tb).mono ?_
  rintro e w9 ⟨rfl, hb9⟩
  have Y9 := hid (Y8.out.on hb9)
  clear hb9 Y8
  go_wp2_with fail
  refine hK.out _ _ Y9.out (fun hHeld => ?_)
  clear hK KQ
  try simp only [Act.put, List.setIfInBounds_toArray, List.set_cons_zero, List.set_cons_succ]
  refine wpAnyH_ready (rs := [15]) (by kernel_rfl) (by simp) (AllReadyH.cons (o := { dst := some 51, op := Op.call { callee := Callee.value (Operand.func 26), args := #[Operand.tmp 44, Operand.tmp 46, Operand.tmp 48, Operand.tmp 50], argTypes := #[23, 23, 23, 23] }, type := 4, pos := "law.go:95", after := #[{ on := 8, ground := Ground.data }, { on := 10, ground := Ground.data }, { on := 12, ground := Ground.data }, { on := 14, ground := Ground.data }, { on := 7, ground := Ground.chain }], guard := none }) rfl (fun KQ hK => ?_) AllReadyH.nil)
  go_simp
  refine (HV2.out _ Y9.out.tr).mono ?_
  rintro e w10 ⟨rfl, hb10⟩
  have Y10 := hid (Y9.out.on hb10)
  clear hb10 Y9
  go_wp2_with fail
  refine hK.out _ _ Y10.out (fun hHeld => ?_)
  clear hK KQ
  try simp only [Act.put, List.setIfInBounds_toArray, List.set_cons_zero, List.set_cons_succ]
  refine wpAnyH_take (i := 16) (oi := { dst := some 52, op := Op.binOp BinOp.neq 4 (Operand.tmp 43) (Operand.tmp 51) 4, type := 4, pos := "law.go:95", after := #[{ on := 7, ground := Ground.data }, { on := 15, ground := Ground.data }], guard := none }) (v := .bool false) rfl (by kernel_rfl) (by kernel_rfl) (by kernel_rfl) (fun _ _ _ h => h) (Or.inl ⟨by rfl, by intro w hSw; go_simp⟩) (by assumption) ?_
  simp only [Act.put, List.setIfInBounds_toArray, List.set_cons_zero, List.set_cons_succ]
  refine wpAnyH_done (by kernel_rfl) ?_ _
  go_upto_region 7 with fail
  clear HV1 HV2
  go_upto_region 8 with (first | (go_at_call 18; refine (HP1.out _ Y10.out.bl).mono ?_; rintro e w11 ⟨rfl, hb⟩; have Y11 := hid (Y10.out.on hb); clear hb Y10) | (revert Y11; intro Y11; refine wpList_store_but rfl 38 _ _ rfl w11.heap.size M rfl rfl (Blk.new w11 .u32 38 Z24) (by rw [hMl]; exact size38) (by rw [hYl, hMl]) ?_; intro w12 bM hbt hsz; have Y12 : Hid (LT W s C g5 g6 K m d' t' w12 ∧ Blk w12 w11.heap.size .u32 38 M) := hid ⟨Y11.out.on (but_box hbt), bM⟩; clear bM hbt hsz Y11))
  generalize w11.heap.size = g7 at *
  clear HP1
  go_upto_region 9 with (first | (go_at_call 27; refine (HP2.out _).mono ?_; rintro e w13 ⟨rfl, hb⟩; have Y13 : Hid (LT W s C g5 g6 K m d' t' w13 ∧ Blk w13 g7 .u32 38 M) := hid ⟨Y12.out.1.on hb, Y12.out.2.on hb⟩; clear hb Y12) | (revert Y13; intro Y13; refine wpList_store_but rfl 61 _ _ rfl w13.heap.size M rfl rfl (Blk.new w13 .u32 61 Z24) (by rw [hMl]; exact size61) (by rw [hYl, hMl]) ?_; intro w14 bM hbt hsz; have Y14 : Hid (LU W g6 g7 w13.heap.size (quoL m d' t') M w14.drew) := hid (by have hB := but_box hbt; exact LU.on (w := w14) ⟨below_on Y13.out.1.bl hB, Y13.out.1.b6.on hB, Y13.out.2.on hB, bM⟩ (Below.refl _ _).drew); clear bM hbt hsz Y13))
  generalize w13.heap.size = g9 at *
  clear HP2
  generalize quoL m d' t' = Q at *
  clear hEK hET
  refine wp_region_held_drew (S := fun w => LU W g6 g7 g9 Q M w) (by kernel_rfl) Y14.out (fun hHeld => ?_)
  generalize World.drew _ = w14d at *
  refine wpAnyH_take (i := 0) (oi := { dst := some 63, op := Op.load 38 (Operand.tmp 6), type := 38, pos := "law.go:100", after := #[], guard := none }) (v := .agg ((Q).map (Value.int .u32)).toArray) rfl (by kernel_rfl) (by kernel_rfl) (by kernel_rfl) (fun _ _ _ h => h) (yieldsIf_load_mid (by rfl) _ _ rfl _ _ rfl _ _ (fun w hSw => cel_range (blk_cel hSw.b6)) Tryd.underlying38 rfl (by rw [List.length_map, hQl]; exact size38)) (by assumption) ?_
  simp only [Act.put, List.setIfInBounds_toArray, List.set_cons_zero, List.set_cons_succ]
  refine wpAnyH_take (i := 2) (oi := { dst := some 65, op := Op.load 38 (Operand.tmp 6), type := 38, pos := "law.go:100", after := #[], guard := none }) (v := .agg ((Q).map (Value.int .u32)).toArray) rfl (by kernel_rfl) (by kernel_rfl) (by kernel_rfl) (fun _ _ _ h => h) (yieldsIf_load_mid (by rfl) _ _ rfl _ _ rfl _ _ (fun w hSw => cel_range (blk_cel hSw.b6)) Tryd.underlying38 rfl (by rw [List.length_map, hQl]; exact size38)) (by assumption) ?_
  simp only [Act.put, List.setIfInBounds_toArray, List.set_cons_zero, List.set_cons_succ]
  refine wpAnyH_ready (rs := [1]) (by kernel_rfl) (by simp) (AllReadyH.cons (o := { dst := some 64, op := Op.call { callee := Callee.value (Operand.func 17), args := #[Operand.tmp 63], argTypes := #[38] }, type := 9, pos := "law.go:100", after := #[{ on := 0, ground := Ground.data }], guard := none }) rfl (fun KQ hK => ?_) AllReadyH.nil)
  go_simp
  refine (HF1.out _ Y14.out.bl).mono ?_
  rintro e w15 ⟨rfl, hb15⟩
  have Y15 := hid (Y14.out.on hb15)
  clear hb15 Y14
  go_wp2_with fail
  refine hK.out _ _ Y15.out (fun hHeld => ?_)
  clear hK KQ
  try simp only [Act.put, List.setIfInBounds_toArray, List.set_cons_zero, List.set_cons_succ]
  refine wpAnyH_ready (rs := [3]) (by kernel_rfl) (by simp) (AllReadyH.cons (o := { dst := some 66, op := Op.call { callee := Callee.value (Operand.func 29), args := #[Operand.tmp 65], argTypes := #[38] }, type := 61, pos := "law.go:100", after := #[{ on := 2, ground := Ground.data }, { on := 1, ground := Ground.chain }], guard := none }) rfl (fun KQ hK => ?_) AllReadyH.nil)
  go_simp
  refine (HD1.out _).mono ?_
  rintro e w16 ⟨rfl, hb16⟩
  have Y16 := hid (Y15.out.on hb16)
  clear hb16 Y15
  go_wp2_with fail
  refine hK.out _ _ Y16.out (fun hHeld => ?_)
  clear hK KQ
  try simp only [Act.put, List.setIfInBounds_toArray, List.set_cons_zero, List.set_cons_succ]
  refine wpAnyH_ready (rs := [4]) (by kernel_rfl) (by simp) (AllReadyH.cons (o := { dst := some 67, op := Op.call { callee := Callee.value (Operand.func 28), args := #[Operand.tmp 66], argTypes := #[61] }, type := 9, pos := "law.go:100", after := #[{ on := 3, ground := Ground.data }, { on := 3, ground := Ground.chain }], guard := none }) rfl (fun KQ hK => ?_) AllReadyH.nil)
  go_simp
  refine (HF2.out _).mono ?_
  rintro e w17 ⟨rfl, hb17⟩
  have Y17 := hid (Y16.out.on hb17)
  clear hb17 Y16
  go_wp2_with fail
  refine hK.out _ _ Y17.out (fun hHeld => ?_)
  clear hK KQ
  try simp only [Act.put, List.setIfInBounds_toArray, List.set_cons_zero, List.set_cons_succ]
  refine wpAnyH_take (i := 5) (oi := { dst := some 68, op := Op.binOp BinOp.eql 9 (Operand.tmp 64) (Operand.tmp 67) 9, type := 4, pos := "law.go:100", after := #[{ on := 1, ground := Ground.data }, { on := 4, ground := Ground.data }], guard := none }) (v := .bool true) rfl (by kernel_rfl) (by kernel_rfl) (by kernel_rfl) (fun _ _ _ h => h) (Or.inl ⟨by rfl, by intro w hSw; go_simp⟩) (by assumption) ?_
  simp only [Act.put, List.setIfInBounds_toArray, List.set_cons_zero, List.set_cons_succ]
  refine wpAnyH_take (i := 6) (oi := { dst := some 69, op := Op.move (Operand.tmp 68), type := 4, pos := "law.go:100", after := #[{ on := 5, ground := Ground.data }, { on := 4, ground := Ground.chain }], guard := none }) (v := .bool true) rfl (by kernel_rfl) (by kernel_rfl) (by kernel_rfl) (fun _ _ _ h => h) (Or.inl ⟨by rfl, by intro w hSw; go_simp⟩) (by assumption) ?_
  simp only [Act.put, List.setIfInBounds_toArray, List.set_cons_zero, List.set_cons_succ]
  refine wpAnyH_take (i := 7) (oi := { dst := some 70, op := Op.load 38 (Operand.tmp 7), type := 38, pos := "law.go:100", after := #[{ on := 6, ground := Ground.guard }], guard := some (6, true) }) (v := .agg ((M).map (Value.int .u32)).toArray) rfl (by kernel_rfl) (by kernel_rfl) (by kernel_rfl) (fun _ _ _ h => h) (yieldsIf_load_mid (by rfl) _ _ rfl _ _ rfl _ _ (fun w hSw => cel_range (blk_cel hSw.b7)) Tryd.underlying38 rfl (by rw [List.length_map, hMl]; exact size38)) (by assumption) ?_
  simp only [Act.put, List.setIfInBounds_toArray, List.set_cons_zero, List.set_cons_succ]
  refine wpAnyH_take (i := 9) (oi := { dst := some 72, op := Op.load 61 (Operand.tmp 9), type := 61, pos := "law.go:100", after := #[{ on := 6, ground := Ground.guard }], guard := some (6, true) }) (v := .agg ((M).map (Value.int .u32)).toArray) rfl (by kernel_rfl) (by kernel_rfl) (by kernel_rfl) (fun _ _ _ h => h) (yieldsIf_load_mid (by rfl) _ _ rfl _ _ rfl _ _ (fun w hSw => cel_range (blk_cel hSw.b9)) Tryd.underlying61 rfl (by rw [List.length_map, hMl]; exact size61)) (by assumption) ?_
  simp only [Act.put, List.setIfInBounds_toArray, List.set_cons_zero, List.set_cons_succ]
  refine wpAnyH_ready (rs := [8]) (by kernel_rfl) (by simp) (AllReadyH.cons (o := { dst := some 71, op := Op.call { callee := Callee.value (Operand.func 29), args := #[Operand.tmp 70], argTypes := #[38] }, type := 61, pos := "law.go:100", after := #[{ on := 7, ground := Ground.data }, { on := 6, ground := Ground.chain }, { on := 6, ground := Ground.guard }], guard := some (6, true) }) rfl (fun KQ hK => ?_) AllReadyH.nil)
  go_simp
  refine (HD2.out _).mono ?_
  rintro e w18 ⟨rfl, hb18⟩
  have Y18 := hid (Y17.out.on hb18)
  clear hb18 Y17
  go_wp2_with fail
  refine hK.out _ _ Y18.out (fun hHeld => ?_)
  clear hK KQ
  try simp only [Act.put, List.setIfInBounds_toArray, List.set_cons_zero, List.set_cons_succ]
  refine wpAnyH_take (i := 10) (oi := { dst := some 73, op := Op.binOp BinOp.eql 61 (Operand.tmp 71) (Operand.tmp 72) 61, type := 4, pos := "law.go:100", after := #[{ on := 8, ground := Ground.data }, { on := 9, ground := Ground.data }, { on := 6, ground := Ground.guard }], guard := some (6, true) }) (v := .bool true) rfl (by kernel_rfl) (by kernel_rfl) (by kernel_rfl) (fun _ _ _ h => h) (Or.inl ⟨by rfl, by intro w hSw; go_simp⟩) (by assumption) ?_
  simp only [Act.put, List.setIfInBounds_toArray, List.set_cons_zero, List.set_cons_succ]
  refine wpAnyH_take (i := 11) (oi := { dst := some 74, op := Op.pick (Operand.tmp 69) (Operand.tmp 73) (Operand.const (Value.bool false)), type := 4, pos := "law.go:100", after := #[{ on := 6, ground := Ground.data }, { on := 10, ground := Ground.data }], guard := none }) (v := .bool true) rfl (by kernel_rfl) (by kernel_rfl) (by kernel_rfl) (fun _ _ _ h => h) (Or.inl ⟨by rfl, by intro w hSw; go_simp⟩) (by assumption) ?_
  simp only [Act.put, List.setIfInBounds_toArray, List.set_cons_zero, List.set_cons_succ]
  refine wpAnyH_take (i := 12) (oi := { dst := some 75, op := Op.move (Operand.tmp 74), type := 4, pos := "law.go:100", after := #[{ on := 11, ground := Ground.data }, { on := 8, ground := Ground.chain }], guard := none }) (v := .bool true) rfl (by kernel_rfl) (by kernel_rfl) (by kernel_rfl) (fun _ _ _ h => h) (Or.inl ⟨by rfl, by intro w hSw; go_simp⟩) (by assumption) ?_
  simp only [Act.put, List.setIfInBounds_toArray, List.set_cons_zero, List.set_cons_succ]
  refine wpAnyH_take (i := 13) (oi := { dst := some 76, op := Op.move (Operand.tmp 8), type := 45, pos := "law.go:100", after := #[{ on := 12, ground := Ground.guard }], guard := some (12, true) }) (v := .int .i64 pn) rfl (by kernel_rfl) (by kernel_rfl) (by kernel_rfl) (fun _ _ _ h => h) (Or.inl ⟨by rfl, by intro w hSw; go_simp⟩) (by assumption) ?_
  simp only [Act.put, List.setIfInBounds_toArray, List.set_cons_zero, List.set_cons_succ]
  refine wpAnyH_take (i := 15) (oi := { dst := some 78, op := Op.move (Operand.tmp 10), type := 3, pos := "law.go:100", after := #[{ on := 12, ground := Ground.guard }], guard := some (12, true) }) (v := .int .i64 pn) rfl (by kernel_rfl) (by kernel_rfl) (by kernel_rfl) (fun _ _ _ h => h) (Or.inl ⟨by rfl, by intro w hSw; go_simp⟩) (by assumption) ?_
  simp only [Act.put, List.setIfInBounds_toArray, List.set_cons_zero, List.set_cons_succ]
  refine wpAnyH_ready (rs := [14]) (by kernel_rfl) (by simp) (AllReadyH.cons (o := { dst := some 77, op := Op.call { callee := Callee.value (Operand.func 16), args := #[Operand.tmp 76], argTypes := #[45] }, type := 3, pos := "law.go:100", after := #[{ on := 13, ground := Ground.data }, { on := 12, ground := Ground.chain }, { on := 12, ground := Ground.guard }], guard := some (12, true) }) rfl (fun KQ hK => ?_) AllReadyH.nil)
  go_simp
  refine (HNu.out _ _).mono ?_
  rintro e wn ⟨rfl, rfl⟩
  go_wp2_with fail
  refine hK.out _ _ Y18.out (fun hHeld => ?_)
  clear hK KQ
  try simp only [Act.put, List.setIfInBounds_toArray, List.set_cons_zero, List.set_cons_succ]
  refine wpAnyH_take (i := 16) (oi := { dst := some 79, op := Op.binOp BinOp.eql 3 (Operand.tmp 77) (Operand.tmp 78) 3, type := 4, pos := "law.go:100", after := #[{ on := 14, ground := Ground.data }, { on := 15, ground := Ground.data }, { on := 12, ground := Ground.guard }], guard := some (12, true) }) (v := .bool true) rfl (by kernel_rfl) (by kernel_rfl) (by kernel_rfl) (fun _ _ _ h => h) (Or.inl ⟨by rfl, by intro w hSw; go_simp⟩) (by assumption) ?_
  simp only [Act.put, List.setIfInBounds_toArray, List.set_cons_zero, List.set_cons_succ]
  refine wpAnyH_take (i := 17) (oi := { dst := some 80, op := Op.pick (Operand.tmp 75) (Operand.tmp 79) (Operand.const (Value.bool false)), type := 4, pos := "law.go:100", after := #[{ on := 12, ground := Ground.data }, { on := 16, ground := Ground.data }], guard := none }) (v := .bool true) rfl (by kernel_rfl) (by kernel_rfl) (by kernel_rfl) (fun _ _ _ h => h) (Or.inl ⟨by rfl, by intro w hSw; go_simp⟩) (by assumption) ?_
  simp only [Act.put, List.setIfInBounds_toArray, List.set_cons_zero, List.set_cons_succ]
  refine wpAnyH_ready (rs := [18]) (by kernel_rfl) (by simp) (AllReadyH.cons (o := { dst := some 4, op := Op.assign (Operand.tmp 80), type := 4, pos := "law.go:100", after := #[{ on := 17, ground := Ground.data }, { on := 14, ground := Ground.chain }, { on := 0, ground := Ground.phase }, { on := 1, ground := Ground.phase }, { on := 2, ground := Ground.phase }, { on := 3, ground := Ground.phase }, { on := 4, ground := Ground.phase }, { on := 5, ground := Ground.phase }, { on := 6, ground := Ground.phase }, { on := 7, ground := Ground.phase }, { on := 8, ground := Ground.phase }, { on := 9, ground := Ground.phase }, { on := 10, ground := Ground.phase }, { on := 11, ground := Ground.phase }, { on := 12, ground := Ground.phase }, { on := 13, ground := Ground.phase }, { on := 14, ground := Ground.phase }, { on := 15, ground := Ground.phase }, { on := 16, ground := Ground.phase }, { on := 17, ground := Ground.phase }], guard := none }) rfl (fun KQ hK => ?_) AllReadyH.nil)
  go_simp
  refine hK.out _ _ Y18.out (fun hHeld => ?_)
  clear hK KQ
  try simp only [Act.put, List.setIfInBounds_toArray, List.set_cons_zero, List.set_cons_succ]
  refine wpAnyH_done (by kernel_rfl) ?_ _
  go_wp2_with fail
  go_ret
  exact ⟨rfl, Y18.out.bl⟩
end Go.Proofs.YtbpdmkohihgnjaaDoor
