/- Start, Extend, Finish. -/
import Derived.Test.YtmomidkodjihjaaDoorMgMhMi
namespace Go.Proofs.YtmomidkodjihjaaDoor
open Go.RowKit
open H
set_option maxHeartbeats 4000000
set_option maxRecDepth 100000
/-- Saved words are taken up again. -/
theorem loadSaved_any (W : World) (gs : Nat) (L : List Int) (wL : Wds L) (hL : L.length ≤ 36028797018963968) (hb : Blk W gs .u32 37 (saveOf L)) :
    Calls Tryd.prog 43 #[.slice (some ⟨gs, 0, none⟩) 26 26] W fun e W' => ∃ g, W.heap.size ≤ g ∧ e = .returned (.tuple #[.pointer (some ⟨g, 0, none⟩), .int .i64 0]) ∧ DigL W' g L ∧ Below W.heap.size W W' := by
  refine (load_any W gs 0 26 (saveOf L) (saveOf_length L) (wds_saveOf wL hL) hb.row hb.lt (Nat.le_refl _)).mono ?_
  have hA := run_length S.First L rfl (L.length / 16)
  have hp : (L.drop (16 * (L.length / 16))).length = L.length % 16 := by rw [List.length_drop]; omega
  rintro e w ⟨hw, ⟨_, g, hg, rfl, D⟩ | ⟨hno, _⟩⟩
  · refine ⟨g, hg, rfl, ?_, hw⟩
    unfold saveOf at D
    rw [saveL_head _ _ _ hA, saveL_num _ _ _ hA, saveL_wait _ _ _ hA hp] at D
    exact D
  · refine absurd ?_ hno
    refine saveL_ok _ _ _ hA hp hL ?_
    by_cases h : 16 ≤ L.length
    · exact .inl h
    · right; rw [show L.length / 16 = 0 by omega]; rfl
attribute [-simp] Tryd.isAgg37 Tryd.sizeOf37 Tryd.zeroValue37 Tryd.isAgg44 Tryd.sizeOf44 Tryd.zeroValue44
theorem start_any (W : World) : Calls Tryd.prog 15 #[] W fun e W' => e = .returned (Ag (saveOf [])) ∧ Below W.heap.size W W' := by
  obtain ⟨Z, hZ⟩ : ∃ Z : List Int, Z = List.replicate 26 0 := ⟨_, rfl⟩
  have hZl : Z.length = 26 := by rw [hZ]; simp
  have hz : ∀ w, (zeroValue 37).run Tryd.prog w = .ok (.agg (Z.map (Value.int .u32)).toArray) w := fun w => by rw [Tryd.zeroValue37, hZ]; rfl
  clear hZ
  have B1 : Hid (Below W.heap.size W (W.alloc (Obj.cells (List.map (Value.int IntKind.u32) Z).toArray 37))) := below_one _ _
  have Z1 : Hid (Blk (W.alloc (Obj.cells (List.map (Value.int IntKind.u32) Z).toArray 37)) W.heap.size .u32 37 Z) := Blk.new W .u32 37 Z
  have hMl := saveOf_length []
  have HN := hid (fun w => newL_any w)
  have HS := hid (fun w g (D : DigL w g []) => saveOfL_any w g [] D)
  simp only [show ∀ M : List Int, Value.agg (M.map (Value.int .u32)).toArray = Ag M from fun _ => rfl] at HS
  generalize saveOf [] = M at *
  go_enter Tryd.func15, Tryd.ntmps15
  go_wp2_with (first | (go_at_call 41; refine (HN.out _).mono ?_; rintro e w1 ⟨g, hg, rfl, hd, hb⟩; have D1 := hid hd; have B2 := hid (below_on B1.out hb); have Z2 := hid (Z1.out.on hb); clear hd hb hg) | (go_at_call 42; refine (HS.out _ _ D1.out).mono ?_; rintro e w2 ⟨rfl, hb⟩; have B3 := hid (below_on B2.out hb); have Z3 := hid (Z2.out.on hb); clear hb) | (refine wpList_store_blk rfl 37 _ _ rfl W.heap.size M rfl rfl Z3.out (by rw [hMl]; exact size40) (by rw [hZl, hMl]) ?_))
  refine ret_cell rfl rfl W.heap.size M rfl (Z3.out.setRow _) Tryd.underlying37 (by rw [hMl]; exact size40) ⟨rfl, below_setRow B3.out (Nat.le_refl _) _⟩
theorem finish_ok (W : World) (hT : Tab W) (h2 : 1 < W.heap.size) (L : List Int) (wL : Wds L) (hL : L.length ≤ 36028797018963968) :
    Calls Tryd.prog 18 #[Ag (saveOf L)] W fun e W' => e = .returned (.tuple #[Ag (sumW L), .int .i64 0]) ∧ Below W.heap.size W W' := by
  obtain ⟨Z, hZ⟩ : ∃ Z : List Int, Z = List.replicate 8 0 := ⟨_, rfl⟩
  have hZl : Z.length = 8 := by rw [hZ]; simp
  have hz : ∀ w, (zeroValue 44).run Tryd.prog w = .ok (.agg (Z.map (Value.int .u32)).toArray) w := fun w => by rw [Tryd.zeroValue44, hZ]; rfl
  clear hZ
  have hsl := saveOf_length L
  have HLd := hid (fun w gs (hb : Blk w gs .u32 37 (saveOf L)) => loadSaved_any w gs L wL hL hb)
  have HSu : Hid (∀ w g, Below W.heap.size W w → DigL w g L → Calls Tryd.prog 45 #[.pointer (some ⟨g, 0, none⟩)] w fun e W' => e = .returned (Ag (sumW L)) ∧ Below w.heap.size w W') := hid (fun w g hw D => dsum_any w (hT.below hw h2) (by have := hw.size; omega) g _ _ _ D)
  have hMl := sumW_length L
  generalize sumW L = M at *
  generalize saveOf L = s at *
  have B1 : Hid (Below W.heap.size W ((W.alloc (Obj.cells (List.map (Value.int IntKind.u32) s).toArray 37)).alloc (Obj.cells (List.map (Value.int IntKind.u32) Z).toArray 44))) := (below_one _ _).alloc (by simp) _
  have S1 : Hid (Blk ((W.alloc (Obj.cells (List.map (Value.int IntKind.u32) s).toArray 37)).alloc (Obj.cells (List.map (Value.int IntKind.u32) Z).toArray 44)) W.heap.size .u32 37 s) := (Blk.new W .u32 37 s).alloc _
  have Z1 : Hid (Blk ((W.alloc (Obj.cells (List.map (Value.int IntKind.u32) s).toArray 37)).alloc (Obj.cells (List.map (Value.int IntKind.u32) Z).toArray 44)) (W.heap.size + 1) .u32 44 Z) := Blk.newAt (by simp) .u32 44 Z
  clear hT h2 wL hL
  unfold Ag
  go_enter Tryd.func18, Tryd.ntmps18
  go_wp2_with (first | (go_at_call 43; refine (HLd.out _ _ S1.out).mono ?_; rintro e w1 ⟨g, hg, rfl, hd, hb⟩; have D1 := hid hd; have B2 := hid (below_on B1.out hb); have Z2 := hid (Z1.out.on hb); clear hd hb hg) | (go_at_call 45; refine (HSu.out _ _ B2.out D1.out).mono ?_; rintro e w2 ⟨rfl, hb⟩; have B3 := hid (below_on B2.out hb); have Z3 := hid (Z2.out.on hb); clear hb) | (refine wpList_store_blk rfl 44 _ _ rfl (W.heap.size + 1) M rfl rfl Z3.out (by rw [hMl]; exact size27) (by rw [hZl, hMl]) ?_))
  refine ret_cell2 rfl rfl (W.heap.size + 1) M rfl (Z3.out.setRow _) Tryd.underlying44 (by rw [hMl]; exact size27) ⟨rfl, below_setRow B3.out (Nat.le_succ _) _⟩
end Go.Proofs.YtmomidkodjihjaaDoor
