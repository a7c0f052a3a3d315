import Derived.Test.YtmomidkodjihjaaDoorP08
namespace Go.Proofs.YtmomidkodjihjaaDoor.H
open Go.RowKit

attribute [-simp] Tryd.isAgg44 Tryd.sizeOf44 Tryd.zeroValue44
set_option maxRecDepth 20000 in
set_option maxHeartbeats 1000000 in
theorem dsum_any (W : World) (hT : Tab W) (h2 : 1 < W.heap.size) (g : Nat) (A : List Int) (n : Nat) (p : List Int) (D : Dig W g A n p) :
    Calls Tryd.prog 45 #[.pointer (some ⟨g, 0, none⟩)] W fun e W' => e = .returned (Ag (S.fin A (p ++ [2147483648]) (32 * (n : Int)))) ∧ Below W.heap.size W W' := by
  obtain ⟨Z, hZ⟩ : ∃ Z : List Int, Z = List.replicate 8 0 := ⟨_, rfl⟩
  have hZl : Z.length = 8 := by rw [hZ]; simp
  have hz : ∀ w, (zeroValue 44).run Tryd.prog w = .ok (.agg (Z.map (Value.int .u32)).toArray) w := fun w => by rw [Tryd.zeroValue44, hZ]; rfl
  clear hZ
  have hgl := D.lt
  have nl := D.nl
  have i1 : (n : Int) ≤ 36028797018963968 := by omega
  have cn := D.cellN
  have hMl : (S.fin A (p ++ [2147483648]) (32 * (n : Int))).length = 8 := run_length _ _ D.al _
  have FI : Hid (∀ w gs, Below W.heap.size W w → Blk w gs .u32 24 [2147483648] → Blk w W.heap.size .u32 44 Z → Calls Tryd.prog 62 #[.pointer (some ⟨g, 0, none⟩), .slice (some ⟨gs, 0, none⟩) 1 1, .int .u64 (32 * (n : Int))] w fun e W' => e = .returned (Ag (S.fin A (p ++ [2147483648]) (32 * (n : Int)))) ∧ Below W.heap.size W W' ∧ Blk W' W.heap.size .u32 44 Z) := fun w gs hw hgs hbz => by
    have := hw.size
    refine (finish_any w (hT.below hw h2) (by omega) g A n p (D.below hw hgl) _ 1 1 [2147483648] rfl hgs.at (by decide) (by decide) _ (by omega) (by omega)).mono ?_
    rintro e w' ⟨rfl, hb⟩
    exact ⟨rfl, hw.trans (hb.mono hw.size), hbz.on hb⟩
  have B1 : Hid (Below W.heap.size W ((W.alloc (Obj.cells (List.map (Value.int IntKind.u32) Z).toArray 44)).alloc (Obj.cells #[.int .u32 2147483648] 24))) := (below_one _ _).alloc (by simp) _
  have S1 : Hid (Blk ((W.alloc (Obj.cells (List.map (Value.int IntKind.u32) Z).toArray 44)).alloc (Obj.cells #[.int .u32 2147483648] 24)) (W.heap.size + 1) .u32 24 [2147483648]) := Blk.newAt (by simp) .u32 24 [2147483648]
  have Z1 : Hid (Blk ((W.alloc (Obj.cells (List.map (Value.int IntKind.u32) Z).toArray 44)).alloc (Obj.cells #[.int .u32 2147483648] 24)) W.heap.size .u32 44 Z) := (Blk.new W .u32 44 Z).alloc _
  have hcm : (n : Int) * 32 = 32 * (n : Int) := by omega
  clear D nl
  generalize S.fin A (p ++ [2147483648]) (32 * (n : Int)) = M at *
  go_enter Tryd.func45, Tryd.ntmps45
  go_wp2_with (first | (go_at_call 62; refine (FI.out _ _ B1.out S1.out Z1.out).mono ?_; rintro en w1 ⟨rfl, hb1, bz1⟩) | (refine wpList_store_blk rfl 44 _ _ rfl W.heap.size M rfl rfl bz1 (by rw [hMl]; exact size27) (by rw [hZl, hMl]) ?_))
  refine ret_cell rfl rfl W.heap.size M rfl (bz1.setRow _) Tryd.underlying44 (by rw [hMl]; exact size27) ⟨rfl, below_setRow hb1 (Nat.le_refl _) _⟩
set_option maxRecDepth 20000 in
set_option maxHeartbeats 1000000 in
theorem sum_any (W : World) (hT : Tab W) (h2 : 1 < W.heap.size) (ao : Option Addr) (m c : Nat) (xs : List Int) (hx : xs.length = m) (hat : At W .u32 ao xs) (hm : m ≤ 35184372087808) :
    Calls Tryd.prog 20 #[.slice ao m c] W fun e W' => e = .returned (Ag (S.fin (S.run S.First xs (m / 16)) (xs.drop (16 * (m / 16)) ++ [2147483648]) (32 * (m : Int)))) ∧ Below W.heap.size W W' := by
  obtain ⟨Z, hZ⟩ : ∃ Z : List Int, Z = List.replicate 8 0 := ⟨_, rfl⟩
  have hZl : Z.length = 8 := by rw [hZ]; simp
  have hz : ∀ w, (zeroValue 44).run Tryd.prog w = .ok (.agg (Z.map (Value.int .u32)).toArray) w := fun w => by rw [Tryd.zeroValue44, hZ]; rfl
  clear hZ
  have hMl : (S.fin (S.run S.First xs (m / 16)) (xs.drop (16 * (m / 16)) ++ [2147483648]) (32 * (m : Int))).length = 8 := run_length _ _ (run_length _ _ rfl _) _
  have B1 : Hid (Below W.heap.size W (W.alloc (Obj.cells (List.map (Value.int IntKind.u32) Z).toArray 44))) := below_one _ _
  have Z1 : Hid (Blk (W.alloc (Obj.cells (List.map (Value.int IntKind.u32) Z).toArray 44)) W.heap.size .u32 44 Z) := Blk.new W .u32 44 Z
  have NW : Hid (Calls Tryd.prog 41 #[] (W.alloc (Obj.cells (List.map (Value.int IntKind.u32) Z).toArray 44)) fun e W' => ∃ g, W.heap.size + 1 ≤ g ∧ e = .returned (.pointer (some ⟨g, 0, none⟩)) ∧ Dig W' g S.First 0 [] ∧ Below W.heap.size W W' ∧ Blk W' W.heap.size .u32 44 Z) := by
    refine (new_any _).mono ?_
    rintro e w ⟨g, hg, rfl, D, hb⟩
    exact ⟨g, by simpa using hg, rfl, D, B1.out.trans (hb.mono (by simp)), Z1.out.on hb⟩
  have AD : Hid (∀ w g, W.heap.size + 1 ≤ g → Below W.heap.size W w → Dig w g S.First 0 [] → Blk w W.heap.size .u32 44 Z → Calls Tryd.prog 44 #[.pointer (some ⟨g, 0, none⟩), .slice ao m c] w fun e W' => e = .returned (.tuple #[]) ∧ Dig W' g (S.run S.First xs (m / 16)) m (xs.drop (16 * (m / 16))) ∧ Below W.heap.size W W' ∧ Blk W' W.heap.size .u32 44 Z) := fun w g hg hw D hbz => by
    have := hw.size
    refine (add_fits w (hT.below hw h2) (by omega) g S.First 0 [] D ao m c xs hx (hat.below hw) hm (by omega)).mono ?_
    rintro e w' ⟨rfl, D', hb⟩
    rw [Nat.zero_mod, Nat.zero_add, List.nil_append] at D'
    exact ⟨rfl, D', hw.trans (hb.below (by omega) (by omega)), hb.blk hbz (by omega)⟩
  have SM : Hid (∀ w g, W.heap.size + 1 ≤ g → Below W.heap.size W w → Dig w g (S.run S.First xs (m / 16)) m (xs.drop (16 * (m / 16))) → Blk w W.heap.size .u32 44 Z → Calls Tryd.prog 45 #[.pointer (some ⟨g, 0, none⟩)] w fun e W' => e = .returned (Ag (S.fin (S.run S.First xs (m / 16)) (xs.drop (16 * (m / 16)) ++ [2147483648]) (32 * (m : Int)))) ∧ Below W.heap.size W W' ∧ Blk W' W.heap.size .u32 44 Z) := fun w g hg hw D hbz => by
    have := hw.size
    refine (dsum_any w (hT.below hw h2) (by omega) g _ m _ D).mono ?_
    rintro e w' ⟨rfl, hb⟩
    exact ⟨rfl, hw.trans (hb.mono hw.size), hbz.on hb⟩
  generalize S.fin (S.run S.First xs (m / 16)) (xs.drop (16 * (m / 16)) ++ [2147483648]) (32 * (m : Int)) = M at *
  go_enter Tryd.func20, Tryd.ntmps20
  go_wp2_with (first | (go_at_call 41; refine NW.out.mono ?_; rintro en w1 ⟨g, hg, rfl, d1, hb1, bz1⟩) | (go_at_call 44; refine (AD.out _ _ hg hb1 d1 bz1).mono ?_; rintro en w2 ⟨rfl, d2, hb2, bz2⟩) | (go_at_call 45; refine (SM.out _ _ hg hb2 d2 bz2).mono ?_; rintro en w3 ⟨rfl, hb3, bz3⟩) | (refine wpList_store_blk rfl 44 _ _ rfl W.heap.size M rfl rfl bz3 (by rw [hMl]; exact size27) (by rw [hZl, hMl]) ?_))
  refine ret_cell rfl rfl W.heap.size M rfl (bz3.setRow _) Tryd.underlying44 (by rw [hMl]; exact size27) ⟨rfl, below_setRow hb3 (Nat.le_refl _) _⟩
end Go.Proofs.YtmomidkodjihjaaDoor.H
