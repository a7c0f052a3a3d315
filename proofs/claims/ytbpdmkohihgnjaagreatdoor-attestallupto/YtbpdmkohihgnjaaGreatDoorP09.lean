import Derived.Test.YtbpdmkohihgnjaaGreatDoorP08
namespace Go.Proofs.YtbpdmkohihgnjaaGreatDoor
open Go.RowKit

attribute [-simp] Tryz.isAgg26 Tryz.sizeOf26 Tryz.zeroValue26
set_option maxRecDepth 20000 in
set_option maxHeartbeats 1000000 in
theorem dsum_any (W : World) (hT : Tab W) (h2 : 12 < W.heap.size) (g : Nat) (A : List Int) (n : Nat) (p : List Int) (D : Dig W g A n p) :
    Calls Tryz.prog 143 #[.pointer (some ⟨g, 0, none⟩)] W fun e W' => e = .returned (Ag (S.fin A (p ++ [2147483648]) (32 * (n : Int)))) ∧ Below W.heap.size W W' := by
  obtain ⟨Z, hZ⟩ : ∃ Z : List Int, Z = List.replicate 8 0 := ⟨_, rfl⟩
  have hZl : Z.length = 8 := by rw [hZ]; simp
  have hz : ∀ w, (zeroValue 26).run Tryz.prog w = .ok (.agg (Z.map (Value.int .u32)).toArray) w := fun w => by rw [Tryz.zeroValue26, hZ]; rfl
  clear hZ
  have hgl := D.lt
  have nl := D.nl
  have i1 : (n : Int) ≤ 36028797018963968 := by omega
  have cn := D.cellN
  have hMl : (S.fin A (p ++ [2147483648]) (32 * (n : Int))).length = 8 := run_length _ _ D.al _
  have FI : Hid (∀ w gs, Below W.heap.size W w → Blk w gs .u32 25 [2147483648] → Blk w W.heap.size .u32 26 Z → Calls Tryz.prog 149 #[.pointer (some ⟨g, 0, none⟩), .slice (some ⟨gs, 0, none⟩) 1 1, .int .u64 (32 * (n : Int))] w fun e W' => e = .returned (Ag (S.fin A (p ++ [2147483648]) (32 * (n : Int)))) ∧ Below W.heap.size W W' ∧ Blk W' W.heap.size .u32 26 Z) := fun w gs hw hgs hbz => by
    have := hw.size
    refine (finish_any w (hT.below hw h2) (by omega) g A n p (D.below hw hgl) _ 1 1 [2147483648] rfl hgs.at (by decide) (by decide) _ (by omega) (by omega)).mono ?_
    rintro e w' ⟨rfl, hb⟩
    exact ⟨rfl, hw.trans (hb.mono hw.size), hbz.on hb⟩
  have B1 : Hid (Below W.heap.size W ((W.alloc (Obj.cells (List.map (Value.int IntKind.u32) Z).toArray 26)).alloc (Obj.cells #[.int .u32 2147483648] 25))) := (below_one _ _).alloc (by simp) _
  have S1 : Hid (Blk ((W.alloc (Obj.cells (List.map (Value.int IntKind.u32) Z).toArray 26)).alloc (Obj.cells #[.int .u32 2147483648] 25)) (W.heap.size + 1) .u32 25 [2147483648]) := Blk.newAt (by simp) .u32 25 [2147483648]
  have Z1 : Hid (Blk ((W.alloc (Obj.cells (List.map (Value.int IntKind.u32) Z).toArray 26)).alloc (Obj.cells #[.int .u32 2147483648] 25)) W.heap.size .u32 26 Z) := (Blk.new W .u32 26 Z).alloc _
  have hcm : (n : Int) * 32 = 32 * (n : Int) := by omega
  clear D nl
  generalize S.fin A (p ++ [2147483648]) (32 * (n : Int)) = M at *
  go_enter Tryz.func143, Tryz.ntmps143
  go_wp2_with (first | (go_at_call 149; refine (FI.out _ _ B1.out S1.out Z1.out).mono ?_; rintro en w1 ⟨rfl, hb1, bz1⟩) | (refine wpList_store_blk rfl 26 _ _ rfl W.heap.size M rfl rfl bz1 (by rw [hMl]; exact size26) (by rw [hZl, hMl]) ?_))
  refine ret_cell rfl rfl W.heap.size M rfl (bz1.setRow _) Tryz.underlying26 (by rw [hMl]; exact size26) ⟨rfl, below_setRow hb1 (Nat.le_refl _) _⟩
end Go.Proofs.YtbpdmkohihgnjaaGreatDoor
