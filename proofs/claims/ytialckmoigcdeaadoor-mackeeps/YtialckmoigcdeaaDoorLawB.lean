/- The law's first: a tag of RFC 4231. -/
import Derived.Test.YtialckmoigcdeaaDoorLawA
import Derived.Test.YtialckmoigcdeaaDoorFst
namespace Go.Proofs.YtialckmoigcdeaaDoor
open Go.RowKit

theorem size_alloc (w : World) (o : Obj) : (w.alloc o).heap.size = w.heap.size + 1 := by simp
theorem at_mark (w : World) (k : IntKind) (e : TypeId) (L : List Int) (m : Nat × Nat) : At (w.alloc (.cells (L.map (Value.int k)).toArray e m)) k (some ⟨w.heap.size, 0, none⟩) L := by
  refine .inr ⟨_, 0, rfl, by simp, fun i hi => ?_⟩
  rw [Nat.zero_add, World.cell?_alloc_mark]
  simp [List.getD_eq_getElem?_getD, hi]
theorem bts_dec (bs : List Int) (h : (bs.all fun x => decide (0 ≤ x) && decide (x < 256)) = true) : Bts bs := fun i => by
  by_cases hi : i < bs.length
  · have := List.all_eq_true.1 h bs[i] (List.getElem_mem hi)
    simp only [Bool.and_eq_true, decide_eq_true_eq] at this
    simpa [List.getD_eq_getElem?_getD, hi] using this
  · simp [List.getD_eq_getElem?_getD, List.getElem?_eq_none (show bs.length ≤ i by omega)]
attribute [-simp] Tryd.isAgg26 Tryd.sizeOf26
set_option maxRecDepth 20000 in
set_option maxHeartbeats 1000000 in
theorem first_law (W : World) (hT : Tabs W) : Calls Tryd.prog 9 #[] W fun e W' => e = .returned (.bool true) ∧ Below W.heap.size W W' := by
  have hsz := hT.sz
  go_enter Tryd.func9, Tryd.ntmps9
  go_wp2_with fail
  refine (new_mac W hT none 0 0 [] rfl (fun i => by simp) (.inl rfl) (by decide)).mono ?_
  rintro e w1 ⟨gm, gi, go, hgm, hgi, hgo, rfl, M1, hb1⟩
  have TX : Hid (Tabs w1) := hT.on hb1
  have HB : Hid (Below W.heap.size W w1) := hb1
  clear M1 hb1
  obtain ⟨Y, hY⟩ : ∃ Y, Y = (w1.alloc (Obj.cells #[.int .u8 74, .int .u8 101, .int .u8 102, .int .u8 101] 5 (4, 5))).alloc (Obj.cells #[.int .u8 119, .int .u8 104, .int .u8 97, .int .u8 116, .int .u8 32, .int .u8 100, .int .u8 111, .int .u8 32, .int .u8 121, .int .u8 97, .int .u8 32, .int .u8 119, .int .u8 97, .int .u8 110, .int .u8 116, .int .u8 32, .int .u8 102, .int .u8 111, .int .u8 114, .int .u8 32, .int .u8 110, .int .u8 111, .int .u8 116, .int .u8 104, .int .u8 105, .int .u8 110, .int .u8 103, .int .u8 63] 5 (28, 29)) := ⟨_, rfl⟩
  have bY : Below w1.heap.size w1 Y := by rw [hY]; exact (below_one _ _).alloc (by simp) _
  have B1 : Hid (At Y .u8 (some ⟨w1.heap.size, 0, none⟩) [74, 101, 102, 101]) := by rw [hY]; exact (at_mark w1 .u8 5 [74, 101, 102, 101] (4, 5)).below (below_one _ _)
  have B2 : Hid (At Y .u8 (some ⟨w1.heap.size + 1, 0, none⟩) [119, 104, 97, 116, 32, 100, 111, 32, 121, 97, 32, 119, 97, 110, 116, 32, 102, 111, 114, 32, 110, 111, 116, 104, 105, 110, 103, 63]) := by
    rw [hY]
    have := at_mark (w1.alloc (Obj.cells #[.int .u8 74, .int .u8 101, .int .u8 102, .int .u8 101] 5 (4, 5))) .u8 5 [119, 104, 97, 116, 32, 100, 111, 32, 121, 97, 32, 119, 97, 110, 116, 32, 102, 111, 114, 32, 110, 111, 116, 104, 105, 110, 103, 63] (28, 29)
    rw [size_alloc] at this
    exact this
  have CA : Hid (Calls Tryd.prog 16 #[.slice (some ⟨w1.heap.size, 0, none⟩) 4 4, .slice (some ⟨w1.heap.size + 1, 0, none⟩) 28 28] Y fun e W' => e = .returned (Ag [1541194054, 3210769742, 1778656294, 144012743, 1509965576, 2636593539, 2649512121, 1693202499]) ∧ Below W.heap.size W W') := by
    refine (tagBytes_any Y (TX.out.on bY) _ 4 4 [74, 101, 102, 101] rfl (bts_dec _ (by decide)) B1.out (by decide) (by decide) _ 28 28 [119, 104, 97, 116, 32, 100, 111, 32, 121, 97, 32, 119, 97, 110, 116, 32, 102, 111, 114, 32, 110, 111, 116, 104, 105, 110, 103, 63] rfl (bts_dec _ (by decide)) B2.out (fun h => by cases h) (by decide)).mono ?_
    rintro e w ⟨rfl, hb⟩
    rw [hmac_first]
    exact ⟨rfl, HB.out.trans ((bY.trans (hb.mono bY.size)).mono HB.out.size)⟩
  clear B1 B2 bY
  have kc1 := Lib.run_convert_bytes_const (P := Tryd.prog) w1 22 5 #[.int .u8 74, .int .u8 101, .int .u8 102, .int .u8 101] 4 4 Tryd.underlying22 Tryd.underlying5
  have kc2 := Lib.run_convert_bytes_const (P := Tryd.prog) (w1.alloc (Obj.cells #[.int .u8 74, .int .u8 101, .int .u8 102, .int .u8 101] 5 (4, 5))) 22 5 #[.int .u8 119, .int .u8 104, .int .u8 97, .int .u8 116, .int .u8 32, .int .u8 100, .int .u8 111, .int .u8 32, .int .u8 121, .int .u8 97, .int .u8 32, .int .u8 119, .int .u8 97, .int .u8 110, .int .u8 116, .int .u8 32, .int .u8 102, .int .u8 111, .int .u8 114, .int .u8 32, .int .u8 110, .int .u8 111, .int .u8 116, .int .u8 104, .int .u8 105, .int .u8 110, .int .u8 103, .int .u8 63] 28 28 Tryd.underlying22 Tryd.underlying5
  rw [size_alloc] at kc2
  go_wp2_with fail
  rw [← hY]
  clear hY
  refine CA.out.mono ?_
  rintro e w2 ⟨rfl, hb2⟩
  have HB2 : Hid (Below W.heap.size W w2) := hb2
  have z2 := hb2.size
  have heq := eq26 [1541194054, 3210769742, 1778656294, 144012743, 1509965576, 2636593539, 2649512121, 1693202499] [1541194054, 3210769742, 1778656294, 144012743, 1509965576, 2636593539, 2649512121, 1693202499] rfl rfl
  rw [show decide ([1541194054, 3210769742, 1778656294, 144012743, 1509965576, 2636593539, 2649512121, 1693202499] = ([1541194054, 3210769742, 1778656294, 144012743, 1509965576, 2636593539, 2649512121, 1693202499] : List Int)) = true from by simp] at heq
  simp only [List.map_cons, List.map_nil] at heq
  clear hb2 CA
  obtain ⟨R, hR⟩ : ∃ R : List Int, R = [1541194054, 3210769742, 1778656294, 144012743, 1509965576, 2636593539, 2649512121, 1693202499] := ⟨_, rfl⟩
  go_wp2_with (first | (refine wpList_store_but rfl 26 _ _ rfl w2.heap.size [1541194054, 3210769742, 1778656294, 144012743, 1509965576, 2636593539, 2649512121, 1693202499] rfl rfl (Blk.new w2 .u32 26 [0, 0, 0, 0, 0, 0, 0, 0]) size26 rfl ?_; intro w3 b3 hw3 hs3; have HB3 : Hid (Below W.heap.size W w3) := (HB2.out.alloc z2 _).trans (hw3.below z2 (by simp; omega))) | (refine wpList_load_blk rfl 26 _ rfl w2.heap.size [1541194054, 3210769742, 1778656294, 144012743, 1509965576, 2636593539, 2649512121, 1693202499] rfl b3 Tryd.underlying26 size26 ?_; simp only [Ag, List.map_cons, List.map_nil]))
  go_ret
  exact ⟨rfl, HB3.out⟩
end Go.Proofs.YtialckmoigcdeaaDoor
