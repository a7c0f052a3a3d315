/- Parse 18. -/
import Derived.Test.YtbpdmkohihgnjaaDoorFc
namespace Go.Proofs.YtbpdmkohihgnjaaDoor
open Go.RowKit
set_option maxHeartbeats 8000000
set_option maxRecDepth 100000
def pN (s : ByteArray) : Int := if qok s then 0 else 160
theorem pE_number (W : World) (E : Nat → Addr) (h : ErrS W E) (s : ByteArray) : Calls Tryd.prog 44 #[pE E s] W fun e w' => e = .returned (.int .i64 (pN s)) ∧ w' = W := by
  unfold pE pN
  split
  · exact number_0 W E h
  · exact number_5 W E h
structure PS (W : World) (E : Nat → Addr) (g : Nat) (M : List Int) (w : World) : Prop where
  bl : Below W.heap.size W w
  es : ErrS w E
  b4 : Blk w g .u32 38 M
attribute [-simp] Tryd.isAgg23 Tryd.zeroValue23 Tryd.isAgg38 Tryd.zeroValue38
theorem parse_any (W : World) (hT : TabW W) (E : Nat → Addr) (hE : ErrS W E) (s : ByteArray) (hs : s.size ≤ 140737488355328) :
    Calls Tryd.prog 18 #[.string s] W fun e W' => e = .returned (.tuple #[Ag (pq s), .int .i64 (pN s)]) ∧ Below W.heap.size W W' := by
  have hy : ∀ w, (zeroValue 38).run Tryd.prog w = .ok (.agg (zer24.map (Value.int .u32)).toArray) w := fun w => by rw [Tryd.zeroValue38]; rfl
  have hYl : zer24.length = 24 := rfl
  obtain ⟨X, hX⟩ : ∃ X, X = W.alloc (Obj.cells (List.map (Value.int IntKind.u32) zer24).toArray 38) := ⟨_, rfl⟩
  have HB : Hid (Below W.heap.size W X) := hid (by rw [hX]; exact below_one W _)
  have bz : Hid (Blk X W.heap.size .u32 38 zer24) := hid (by rw [hX]; exact Blk.new W .u32 38 zer24)
  have HP : Hid (Calls Tryd.prog 47 #[.string s] X fun e W' => e = .returned (.tuple #[.agg ((pq s).map (Value.int .u32)).toArray, pE E s]) ∧ Below X.heap.size X W') := hid (quoteOf_any X (hT.below HB.out (by have := hE.sz; omega)) E (hE.on HB.out) s hs)
  have HN := hid (fun w (h : ErrS w E) => pE_number w E h s)
  have hMl := pq_length s
  have HEW := hid hE
  generalize pq s = M at *
  generalize pE E s = ev at *
  generalize pN s = en at *
  generalize zer24 = Z24 at *
  clear hT hE hs
  go_enter Tryd.func18, Tryd.ntmps18
  go_upto_region 1 with fail
  rw [← hX]
  clear hX
  go_wp2_with fail
  refine HP.out.mono ?_
  rintro e w1 ⟨rfl, hb⟩
  have Y1 : Hid (Below W.heap.size W w1 ∧ Blk w1 W.heap.size .u32 38 Z24) := hid ⟨below_on HB.out hb, bz.out.on hb⟩
  clear hb HB bz HP
  go_upto_region 2 with (first | (refine wpList_store_but rfl 38 _ _ rfl w1.heap.size M rfl rfl (Blk.new w1 .u32 38 Z24) (by rw [hMl]; exact size38) (by rw [hYl, hMl]) ?_; intro w2 bM hbt hsz; have Y2 : Hid (Below W.heap.size W w2 ∧ Blk w2 W.heap.size .u32 38 Z24 ∧ Blk w2 w1.heap.size .u32 38 M ∧ W.heap.size < w1.heap.size) := hid ⟨below_on Y1.out.1 (but_box hbt), Y1.out.2.on (but_box hbt), bM, Y1.out.2.lt⟩; clear bM hbt hsz))
  generalize w1.heap.size = g4 at *
  clear Y1
  have Y3 : Hid (PS W E g4 M w2.drew) := hid ⟨Y2.out.1.drew, HEW.out.on Y2.out.1.drew, Y2.out.2.2.1⟩
  have Y4 : Hid (Blk w2.drew W.heap.size .u32 38 Z24 ∧ W.heap.size < g4) := hid ⟨Y2.out.2.1, Y2.out.2.2.2⟩
  clear Y2
  refine wp_region_held_drew (S := fun w => PS W E g4 M w) (by kernel_rfl) Y3.out (fun hHeld => ?_)
  generalize World.drew _ = w3 at *
  refine wpAnyH_take (i := 0) (oi := { dst := some 11, op := Op.load 38 (Operand.tmp 4), type := 38, pos := "quote.go:39", after := #[], guard := none }) (v := .agg ((M).map (Value.int .u32)).toArray) rfl (by kernel_rfl) (by kernel_rfl) (by kernel_rfl) (fun _ _ _ h => h) (yieldsIf_load_mid (by rfl) _ _ rfl _ _ rfl _ _ (fun w hSw => cel_range (blk_cel hSw.b4)) Tryd.underlying38 rfl (by rw [List.length_map, hMl]; exact size38)) (by assumption) ?_
  simp only [Act.put, List.setIfInBounds_toArray, List.set_cons_zero, List.set_cons_succ]
  refine wpAnyH_take (i := 1) (oi := { dst := some 12, op := Op.move (Operand.tmp 5), type := 87, pos := "quote.go:39", after := #[], guard := none }) (v := ev) rfl (by kernel_rfl) (by kernel_rfl) (by kernel_rfl) (fun _ _ _ h => h) (Or.inl ⟨by rfl, by intro w hSw; go_simp⟩) (by assumption) ?_
  simp only [Act.put, List.setIfInBounds_toArray, List.set_cons_zero, List.set_cons_succ]
  refine wpAnyH_ready (rs := [2]) (by kernel_rfl) (by simp) (AllReadyH.cons (o := { dst := some 13, op := Op.call { callee := Callee.value (Operand.func 44), args := #[Operand.tmp 12], argTypes := #[87] }, type := 45, pos := "quote.go:39", after := #[{ on := 1, ground := Ground.data }], guard := none }) rfl (fun KQ hK => ?_) AllReadyH.nil)
  go_simp
  refine (HN.out _ Y3.out.es).mono ?_
  rintro e wn ⟨rfl, rfl⟩
  go_wp2_with fail
  refine hK.out _ _ Y3.out (fun hHeld => ?_)
  clear hK KQ
  try simp only [Act.put, List.setIfInBounds_toArray, List.set_cons_zero, List.set_cons_succ]
  refine wpAnyH_ready (rs := [3]) (by kernel_rfl) (by simp) (AllReadyH.cons (o := { dst := none, op := Op.store 38 (Operand.tmp 2) (Operand.tmp 11), type := 0, pos := "quote.go:39", after := #[{ on := 0, ground := Ground.data }, { on := 2, ground := Ground.chain }, { on := 0, ground := Ground.phase }, { on := 1, ground := Ground.textOnly Departure.lateStores }, { on := 2, ground := Ground.textOnly Departure.lateStoresUnsure }], guard := none }) rfl (fun KQ hK => ?_) AllReadyH.nil)
  rw [if_pos (by rfl)]
  refine wp_store_st 38 _ _ rfl W.heap.size (M.map (Value.int .u32)) rfl rfl (blk_cel Y4.out.1) (by rw [List.length_map, hMl]; exact size38) (by rw [List.length_map, List.length_map, hYl, hMl]) (List.all_eq_true.2 (ints_oneCell .u32 _)) ?_
  intro w21 hc21 hb21 hs21
  have Y5 : Hid (PS W E g4 M w21) := hid (by have hB := Y3.out.bl.trans (hb21.below (Nat.le_refl _) Y3.out.bl.size); exact ⟨hB, HEW.out.on hB, hb21.blk Y3.out.b4 (by have := Y4.out.2; omega)⟩)
  have Y6 : Hid (Blk w21 W.heap.size .u32 38 M) := hid hc21
  clear hc21 hb21 hs21
  refine hK.out _ _ Y5.out (fun hHeld => ?_)
  clear hK KQ
  try simp only [Act.put]
  refine wpAnyH_ready (rs := [4]) (by kernel_rfl) (by simp) (AllReadyH.cons (o := { dst := some 3, op := Op.assign (Operand.tmp 13), type := 45, pos := "quote.go:39", after := #[{ on := 2, ground := Ground.data }, { on := 3, ground := Ground.chain }, { on := 0, ground := Ground.phase }, { on := 1, ground := Ground.phase }, { on := 2, ground := Ground.phase }, { on := 3, ground := Ground.phase }], guard := none }) rfl (fun KQ hK => ?_) AllReadyH.nil)
  go_simp
  refine hK.out _ _ Y5.out (fun hHeld => ?_)
  clear hK KQ
  try simp only [Act.put, List.setIfInBounds_toArray, List.set_cons_zero, List.set_cons_succ]
  refine wpAnyH_done (by kernel_rfl) ?_ _
  go_wp2_with fail
  refine ret_q2 rfl rfl W.heap.size (M.map (Value.int .u32)) rfl (blk_cel Y6.out) Tryd.underlying38 rfl (by rw [List.length_map, hMl]; exact size38) ⟨rfl, Y5.out.bl⟩
end Go.Proofs.YtbpdmkohihgnjaaDoor
