/- Package mac: started, outerSum. -/
import Derived.Test.YtialckmoigcdeaaDoorMPad
namespace Go.Proofs.YtialckmoigcdeaaDoor
open Go.RowKit

theorem DigL.ne_blk {W : World} {g i : Nat} {L : List Int} {k : IntKind} {e : TypeId} {xs : List Int} (h : DigL W g L) (hb : Blk W i k e xs) (he : e ≠ 70) : i ≠ g := by
  rintro rfl
  obtain ⟨r, _, hc⟩ := Dig.cells h
  have := hc.symm.trans hb
  simp only [Option.some.injEq, Obj.cells.injEq] at this
  exact he this.2.1.symm
attribute [-simp] Tryd.isAgg26 Tryd.sizeOf26 Tryd.zeroValue26 Tryd.isAgg64 Tryd.sizeOf64 Tryd.zeroValue64
set_option maxRecDepth 20000 in
set_option maxHeartbeats 1000000 in
theorem started_any (W : World) (hT : Tabs W) (K : List Int) (hK : K.length = 16) (p : Int) :
    Calls Tryd.prog 32 #[Ag K, .int .u32 p] W fun e W' => ∃ g, W.heap.size ≤ g ∧ e = .returned (.pointer (some ⟨g, 0, none⟩)) ∧ DigL W' g (xorL p K) ∧ Below W.heap.size W W' := by
  obtain ⟨Z, hZ⟩ : ∃ Z : List Int, Z = List.replicate 16 0 := ⟨_, rfl⟩
  have hZl : Z.length = 16 := by rw [hZ]; simp
  have hz : ∀ w, (zeroValue 64).run Tryd.prog w = .ok (.agg (Z.map (Value.int .u32)).toArray) w := fun w => by rw [Tryd.zeroValue64, hZ]; rfl
  clear hZ
  have B1 : Hid (Blk (W.alloc (Obj.cells (List.map (Value.int IntKind.u32) K).toArray 64)) W.heap.size .u32 64 K) := Blk.new W .u32 64 K
  have HB : Hid (Below W.heap.size W (W.alloc (Obj.cells (List.map (Value.int IntKind.u32) K).toArray 64))) := below_one W _
  have T1 : Hid (Tabs (W.alloc (Obj.cells (List.map (Value.int IntKind.u32) K).toArray 64))) := hT.on (below_one W _)
  have hsK : (Tryd.prog.info? 64).map (·.size) = some K.length := by rw [hK]; exact size64
  have hl : (xorL p K).length = 16 := by rw [xorL_length, hK]
  have hs : (Tryd.prog.info? 64).map (·.size) = some (xorL p K).length := by rw [hl]; exact size64
  unfold Ag
  go_enter Tryd.func32, Tryd.ntmps32
  go_wp2_with (first | (refine wpList_load_blk rfl 64 _ rfl W.heap.size K rfl B1.out Tryd.underlying64 hsK ?_))
  refine (padded_any _ K hK p).mono ?_
  rintro e w1 ⟨rfl, hb1⟩
  have h1s := hb1.size
  simp at h1s
  replace HB : Hid (Below W.heap.size W w1) := HB.out.trans (hb1.mono (by simp))
  replace T1 : Hid (Tabs w1) := T1.out.on hb1
  clear hb1 B1
  obtain ⟨M, hM⟩ : ∃ M, xorL p K = M := ⟨_, rfl⟩
  rw [hM] at hl hs ⊢
  go_wp2_with (first | (refine wpList_store_but rfl 64 _ _ rfl w1.heap.size M rfl rfl (Blk.new w1 .u32 64 Z) hs (hZl.trans hl.symm) ?_; intro w2 b2 hw2 hs2))
  replace HB : Hid (Below W.heap.size W w2) := (HB.out.alloc (by omega) _).trans (hw2.below (by omega) (by simp; omega))
  replace T1 : Hid (Tabs w2) := (T1.out.on (below_one w1 _)).but hw2 (by have := T1.out.sz; omega)
  have B2 : Hid (Blk w2 w1.heap.size .u32 64 M) := b2
  have z2 : W.heap.size < w2.heap.size := by simp at hs2; omega
  clear hw2 b2 hs2 h1s
  generalize w1.heap.size = ga at *
  refine (newL_any _).mono ?_
  rintro e w3 ⟨g, hg, rfl, D, hb3⟩
  have B3 : Hid (Blk w3 ga .u32 64 M) := B2.out.on hb3
  replace HB : Hid (Below W.heap.size W w3) := HB.out.trans (hb3.mono (by omega))
  replace T1 : Hid (Tabs w3) := T1.out.on hb3
  have hgW : W.heap.size < g := by omega
  clear hb3 B2 hg z2
  have DD : Hid (DigL w3 g []) := D
  clear D
  go_wp2_with fail
  refine (addL_any _ T1.out.sha T1.out.sz g [] DD.out _ 16 16 M hl B3.out.at (by decide) (by simp)).mono ?_
  rintro e w4 ⟨rfl, D4, bt4⟩
  have HD : Hid (DigL w4 g (xorL p K)) := by rw [hM]; exact D4
  have H4 : Hid (Below W.heap.size W w4) := HB.out.trans (bt4.below (by omega) (by have := DD.out.lt; omega))
  clear D4 bt4
  go_wp2_with fail
  go_ret
  exact ⟨g, by omega, rfl, HD.out, H4.out⟩
set_option maxRecDepth 20000 in
set_option maxHeartbeats 1000000 in
theorem outerSum_any (W : World) (hT : Tabs W) (g : Nat) (L : List Int) (D : DigL W g L) (hL : L.length ≤ 1000) (hg : 3 ≤ g) (I : List Int) (hI : I.length = 8) :
    Calls Tryd.prog 31 #[.pointer (some ⟨g, 0, none⟩), Ag I] W fun e W' => e = .returned (Ag (sumW (L ++ I))) ∧ But g W W' := by
  obtain ⟨Z, hZ⟩ : ∃ Z : List Int, Z = List.replicate 8 0 := ⟨_, rfl⟩
  have hZl : Z.length = 8 := by rw [hZ]; simp
  have hz : ∀ w, (zeroValue 26).run Tryd.prog w = .ok (.agg (Z.map (Value.int .u32)).toArray) w := fun w => by rw [Tryd.zeroValue26, hZ]; rfl
  clear hZ
  have HB0 := (below_one W (Obj.cells (List.map (Value.int IntKind.u32) I).toArray 26)).trans ((below_one (W.alloc (Obj.cells (List.map (Value.int IntKind.u32) I).toArray 26)) (Obj.cells (List.map (Value.int IntKind.u32) Z).toArray 26)).mono (by simp))
  have B1 : Hid (Blk ((W.alloc (Obj.cells (List.map (Value.int IntKind.u32) I).toArray 26)).alloc (Obj.cells (List.map (Value.int IntKind.u32) Z).toArray 26)) W.heap.size .u32 26 I) := (Blk.new W .u32 26 I).alloc _
  have B2 : Hid (Blk ((W.alloc (Obj.cells (List.map (Value.int IntKind.u32) I).toArray 26)).alloc (Obj.cells (List.map (Value.int IntKind.u32) Z).toArray 26)) (W.heap.size + 1) .u32 26 Z) := Blk.newAt (by simp) .u32 26 Z
  have T1 : Hid (Tabs ((W.alloc (Obj.cells (List.map (Value.int IntKind.u32) I).toArray 26)).alloc (Obj.cells (List.map (Value.int IntKind.u32) Z).toArray 26))) := hT.on HB0
  have D1 : Hid (DigL ((W.alloc (Obj.cells (List.map (Value.int IntKind.u32) I).toArray 26)).alloc (Obj.cells (List.map (Value.int IntKind.u32) Z).toArray 26)) g L) := D.below HB0
  have HB : Hid (But g W ((W.alloc (Obj.cells (List.map (Value.int IntKind.u32) I).toArray 26)).alloc (Obj.cells (List.map (Value.int IntKind.u32) Z).toArray 26))) := Below.but HB0
  have hgs := D.lt
  clear HB0 D
  have hML : (sumW (L ++ I)).length = 8 := sumW_length _
  have hs : (Tryd.prog.info? 26).map (·.size) = some (sumW (L ++ I)).length := by rw [hML]; exact size26
  unfold Ag
  go_enter Tryd.func31, Tryd.ntmps31
  go_wp2_with fail
  generalize ((W.alloc (Obj.cells (List.map (Value.int IntKind.u32) I).toArray 26)).alloc (Obj.cells (List.map (Value.int IntKind.u32) Z).toArray 26)) = X at *
  refine (addL_any _ T1.out.sha T1.out.sz g L D1.out _ 8 8 I hI B1.out.at (by decide) (by omega)).mono ?_
  rintro e w1 ⟨rfl, D2, bt1⟩
  replace B2 : Hid (Blk w1 (W.heap.size + 1) .u32 26 Z) := bt1.blk B2.out (by omega)
  replace T1 : Hid (Tabs w1) := T1.out.but bt1 hg
  replace HB : Hid (But g W w1) := HB.out.trans bt1
  replace D1 : Hid (DigL w1 g (L ++ I)) := D2
  clear D2 bt1 B1
  go_wp2_with fail
  refine (sumL_any _ T1.out.sha T1.out.sz g (L ++ I) D1.out).mono ?_
  rintro e w2 ⟨rfl, hb2⟩
  replace HB : Hid (But g W w2) := HB.out.trans (Below.but hb2)
  replace B2 : Hid (Blk w2 (W.heap.size + 1) .u32 26 Z) := B2.out.on hb2
  clear hb2 T1 D1
  go_wp2_with (first | (refine wpList_store_blk rfl 26 _ _ rfl (W.heap.size + 1) (sumW (L ++ I)) rfl rfl B2.out hs (hZl.trans hML.symm) ?_))
  refine ret_cell rfl rfl (W.heap.size + 1) (sumW (L ++ I)) rfl (B2.out.setRow _) Tryd.underlying26 hs ⟨rfl, ?_⟩
  have := HB.out
  refine ⟨this.os, this.tape, this.output, by simpa using this.size, fun k hk hkg => ?_⟩
  rw [Go.setRow_other _ _ _ _ (by omega)]
  exact this.block k hk hkg
end Go.Proofs.YtialckmoigcdeaaDoor
