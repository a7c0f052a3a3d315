import Derived.Test.YtdfnbcbnmiohnaaGreatDoorP14
import Derived.Test.YtdfnbcbnmiohnaaGreatDoorP20
import Derived.Test.YtdfnbcbnmiohnaaGreatDoorP19
namespace Go.Proofs.YtdfnbcbnmiohnaaGreatDoor.Q
open Go.RowKit
open H
set_option maxHeartbeats 4000000
set_option maxRecDepth 100000
attribute [-simp] Tryz.isAgg44 Tryz.sizeOf44 Tryz.zeroValue44 Tryz.isAgg55 Tryz.sizeOf55 Tryz.zeroValue55 Tryz.isAgg196 Tryz.sizeOf196 Tryz.zeroValue196
theorem tabR_below {W w : World} {B : Nat} (h : TabR W) (hb : Below B W w) (hB : 1 < B) : TabR w := Row.below h hb hB
theorem box_below {w w' : World} (ob : Obj) (hb : But w.heap.size (w.alloc ob) w') : Below w.heap.size w w' := (below_one w ob).trans (hb.below (Nat.le_refl _) (by simp))
theorem size105 : (Tryz.prog.info? 196).map (·.size) = some 10 := by kernel_rfl
theorem wpList_load_cl {P : Program} {ops : Array Oper} {rest : List Oper} {o : Oper} {a : Act} {w : World} {Q : Exit → Act → World → Prop} (hw : Region.wanted o (yielded ops a.tmps) = true) (ty : TypeId) (x : Operand) (ho : o.op = .load ty x)
    (g : Nat) (cs : List Value) (hx : a.eval x = .pointer (some ⟨g, 0, none⟩)) {e : TypeId} {d : TypeDesc} (hg : Cel w g e cs) (hu : P.underlying ty = some d) (hd : d.isRow = true) (hi : (P.info? ty).map (·.size) = some cs.length)
    (h : wpList P ops Q rest (a.put o.dst (.agg cs.toArray)) w) : wpList P ops Q (o :: rest) a w := by
  rw [wpList, if_pos hw]
  exact .inl (wp_load_mid ty x ho g 0 hx _ _ (cel_range hg) hu hd hi h)
theorem rload_yes (W : World) (gs : Nat) (s : List Int) (hs : s.length = 26) (ws : Wds s) (hok : LoadOk s) (hb : Blk W gs .u32 44 s) :
    Calls Tryz.prog 142 #[.slice (some ⟨gs, 0, none⟩) 26 26] W fun e W' => ∃ ao c, e = .returned (.tuple #[.agg (rdC (s.take 8) (.slice ao (numL s % 16) c) (numL s : Int)).toArray, .int .i64 0]) ∧ At W' .u32 ao (waitL s) ∧ Below W.heap.size W W' := by
  refine (rload_any W gs 0 26 s hs ws hb.row hb.lt).mono ?_
  rintro e w ⟨hw, ⟨_, ao, c, rfl, _, h1⟩ | ⟨hno, _⟩⟩
  · exact ⟨ao, c, by rw [wait_len hs], h1.wat.at, hw⟩
  · exact absurd hok hno
theorem rload_no (W : World) (gs : Nat) (s : List Int) (hs : s.length = 26) (ws : Wds s) (hok : ¬ LoadOk s) (hb : Blk W gs .u32 44 s) :
    Calls Tryz.prog 142 #[.slice (some ⟨gs, 0, none⟩) 26 26] W fun e W' => e = .returned (.tuple #[.agg zero59.toArray, .int .i64 20]) ∧ Below W.heap.size W W' := by
  refine (rload_any W gs 0 26 s hs ws hb.row hb.lt).mono ?_
  rintro e w ⟨hw, ⟨h1, _⟩ | ⟨_, h1⟩⟩
  · exact absurd h1 hok
  · exact ⟨h1, hw⟩
theorem rstart_any (W : World) : Calls Tryz.prog 83 #[] W fun e W' => e = .returned (Ag (saveOf [])) ∧ Below W.heap.size W W' := by
  obtain ⟨Z, hZ⟩ : ∃ Z : List Int, Z = List.replicate 26 0 := ⟨_, rfl⟩
  have hZl : Z.length = 26 := by rw [hZ]; simp
  have hz : ∀ w, (zeroValue 44).run Tryz.prog w = .ok (.agg (Z.map (Value.int .u32)).toArray) w := fun w => by rw [Tryz.zeroValue44, hZ]; rfl
  clear hZ
  obtain ⟨Q, hQ⟩ : ∃ Q : List Value, Q = zero59 := ⟨_, rfl⟩
  have hq : ∀ w, (zeroValue 196).run Tryz.prog w = .ok (.agg Q.toArray) w := fun w => by rw [Tryz.zeroValue196, hQ]; rfl
  have hQl : Q.length = 10 := by rw [hQ]; rfl
  have hQ1 : Q.length = 10 := hQl
  clear hQ
  have B1 : Hid (Below W.heap.size W (W.alloc (Obj.cells (List.map (Value.int IntKind.u32) Z).toArray 44))) := below_one _ _
  have Z1 : Hid (Blk (W.alloc (Obj.cells (List.map (Value.int IntKind.u32) Z).toArray 44)) W.heap.size .u32 44 Z) := Blk.new W .u32 44 Z
  have hMl := saveOf_length []
  have HN := hid (fun w => rnew_any w)
  have HS : Hid (∀ w, Calls Tryz.prog 129 #[.agg (rdC S.First (.slice none 0 0) 0).toArray] w fun e W' => e = .returned (Ag (saveOf [])) ∧ Below w.heap.size w W') := hid (fun w => rdsave_any w S.First rfl none 0 0 0 (by decide) [] rfl (by decide) (.inl rfl))
  have HD1 := hid (rdC_one S.First none 0 0 0)
  have hDl : (rdC S.First (.slice none 0 0) 0).length = 10 := rfl
  generalize saveOf [] = M at *
  generalize rdC S.First (.slice none 0 0) 0 = D at *
  go_enter Tryz.func83, Tryz.ntmps83
  go_upto_region 2 with (first | (go_at_call 128; refine (HN.out _).mono ?_; rintro e w1 ⟨rfl, hb⟩; have B2 := hid (below_on B1.out hb); have Z2 := hid (Z1.out.on hb); clear hb) | (revert B2; intro B2; refine wpList_store_cel rfl 196 _ _ rfl w1.heap.size D rfl rfl (show Cel (w1.alloc (.cells Q.toArray 196)) w1.heap.size 196 Q from heap_alloc_new _ _) (by rw [hDl]; exact size105) (by rw [hDl, hQ1]) HD1.out ?_; intro w2 c2 b2 s2; have X2 := hid (And.intro (below_on B2.out (box_below _ b2)) (And.intro (Z2.out.on (box_below _ b2)) c2)); clear c2 b2 s2 B2))
  generalize w1.heap.size = g1 at *
  go_wp2_with (first | (revert X2; intro X2; refine wpList_load_cl rfl 196 _ rfl g1 D rfl X2.out.2.2 Tryz.underlying196 rfl (by rw [hDl]; exact size105) ?_) | (go_at_call 129; refine (HS.out _).mono ?_; rintro e w3 ⟨rfl, hb⟩; have X3 := hid (And.intro (below_on X2.out.1 hb) (X2.out.2.1.on hb)); clear hb X2) | (revert X3; intro X3; refine wpList_store_blk rfl 44 _ _ rfl W.heap.size M rfl rfl X3.out.2 (by rw [hMl]; exact size40) (by rw [hZl, hMl]) ?_))
  refine ret_cell rfl rfl W.heap.size M rfl (X3.out.2.setRow _) Tryz.underlying44 (by rw [hMl]; exact size40) ⟨rfl, below_setRow X3.out.1 (Nat.le_refl _) _⟩
theorem rfinish_gen (W : World) (hR : TabR W) (h2 : 1 < W.heap.size) (s : List Int) (hs : s.length = 26) (ws : Wds s) (hok : LoadOk s) :
    Calls Tryz.prog 124 #[Ag s] W fun e W' => e = .returned (.tuple #[Ag (fiS s), .int .i64 0]) ∧ Below W.heap.size W W' := by
  obtain ⟨Z, hZ⟩ : ∃ Z : List Int, Z = List.replicate 8 0 := ⟨_, rfl⟩
  have hZl : Z.length = 8 := by rw [hZ]; simp
  have hz : ∀ w, (zeroValue 55).run Tryz.prog w = .ok (.agg (Z.map (Value.int .u32)).toArray) w := fun w => by rw [Tryz.zeroValue55, hZ]; rfl
  clear hZ
  obtain ⟨Q, hQ⟩ : ∃ Q : List Value, Q = zero59 := ⟨_, rfl⟩
  have hq : ∀ w, (zeroValue 196).run Tryz.prog w = .ok (.agg Q.toArray) w := fun w => by rw [Tryz.zeroValue196, hQ]; rfl
  have hQl : Q.length = 10 := by rw [hQ]; rfl
  clear hQ
  have HLd := hid (fun w gs (hb : Blk w gs .u32 44 s) => rload_yes w gs s hs ws hok hb)
  have HSu : Hid (∀ w ao c, Below W.heap.size W w → At w .u32 ao (waitL s) → Calls Tryz.prog 143 #[.agg (rdC (s.take 8) (.slice ao (numL s % 16) c) (numL s : Int)).toArray] w fun e W' => e = .returned (Ag (fiS s)) ∧ Below w.heap.size w W') := hid (fun w ao c hw hp => rdsum_any w (tabR_below hR hw h2) (by have := hw.size; omega) (s.take 8) (by rw [List.length_take, hs]; rfl) ao _ c (numL s) hok.1 (waitL s) (wait_len hs) (by omega) (wds_take (wds_drop ws 10) _) hp)
  have HD1 := hid (fun ao c => rdC_one (s.take 8) ao (numL s % 16) c (numL s : Int))
  have hDl : ∀ ao c, (rdC (s.take 8) (.slice ao (numL s % 16) c) (numL s : Int)).length = 10 := fun ao c => rdC_length _ _ _ (by rw [List.length_take, hs]; rfl)
  have HDl := hid hDl
  have hMl := fiS_len hs
  clear hDl hR h2 ws hok
  generalize fiS s = M at *
  have B1 : Hid (Below W.heap.size W ((W.alloc (Obj.cells (List.map (Value.int IntKind.u32) s).toArray 44)).alloc (Obj.cells (List.map (Value.int IntKind.u32) Z).toArray 55))) := (below_one _ _).alloc (by simp) _
  have S1 : Hid (Blk ((W.alloc (Obj.cells (List.map (Value.int IntKind.u32) s).toArray 44)).alloc (Obj.cells (List.map (Value.int IntKind.u32) Z).toArray 55)) W.heap.size .u32 44 s) := (Blk.new W .u32 44 s).alloc _
  have Z1 : Hid (Blk ((W.alloc (Obj.cells (List.map (Value.int IntKind.u32) s).toArray 44)).alloc (Obj.cells (List.map (Value.int IntKind.u32) Z).toArray 55)) (W.heap.size + 1) .u32 55 Z) := Blk.newAt (by simp) .u32 55 Z
  unfold Ag
  go_enter Tryz.func124, Tryz.ntmps124
  go_upto_region 2 with (first | (go_at_call 142; refine (HLd.out _ _ S1.out).mono ?_; rintro e w1 ⟨ao, c, rfl, ha, hb⟩; have B2 := hid (below_on B1.out hb); have Z2 := hid (And.intro (Z1.out.on hb) ha); have hDa := HDl.out ao c; have HDb := hid (HD1.out ao c); clear hb ha) | (revert B2; intro B2; refine wpList_store_cel rfl 196 _ _ rfl w1.heap.size (rdC (s.take 8) (.slice ao (numL s % 16) c) (numL s : Int)) rfl rfl (show Cel (w1.alloc (.cells Q.toArray 196)) w1.heap.size 196 Q from heap_alloc_new _ _) (by rw [hDa]; exact size105) (by rw [hDa, hQl]) HDb.out ?_; intro w2 c2 b2 s2; have X2 := hid (And.intro (below_on B2.out (box_below _ b2)) (And.intro (Z2.out.1.on (box_below _ b2)) (And.intro (Z2.out.2.below (box_below _ b2)) c2))); clear c2 b2 s2 B2))
  generalize w1.heap.size = g1 at *
  go_wp2_with (first | (revert X2; intro X2; refine wpList_load_cl rfl 196 _ rfl g1 _ rfl X2.out.2.2.2 Tryz.underlying196 rfl (by rw [hDa]; exact size105) ?_) | (go_at_call 143; refine (HSu.out _ _ _ X2.out.1 X2.out.2.2.1).mono ?_; rintro e w3 ⟨rfl, hb⟩; have X3 := hid (And.intro (below_on X2.out.1 hb) (X2.out.2.1.on hb)); clear hb X2) | (revert X3; intro X3; refine wpList_store_blk rfl 55 _ _ rfl (W.heap.size + 1) M rfl rfl X3.out.2 (by rw [hMl]; exact size27) (by rw [hZl, hMl]) ?_))
  refine ret_cell2 rfl rfl (W.heap.size + 1) M rfl (X3.out.2.setRow _) Tryz.underlying55 (by rw [hMl]; exact size27) ⟨rfl, below_setRow X3.out.1 (Nat.le_succ _) _⟩
theorem rfinish_no (W : World) (s : List Int) (hs : s.length = 26) (ws : Wds s) (hok : ¬ LoadOk s) :
    Calls Tryz.prog 124 #[Ag s] W fun e W' => e = .returned (.tuple #[Ag (List.replicate 8 0), .int .i64 20]) ∧ Below W.heap.size W W' := by
  obtain ⟨Z, hZ⟩ : ∃ Z : List Int, Z = List.replicate 8 0 := ⟨_, rfl⟩
  have hZl : Z.length = 8 := by rw [hZ]; simp
  have hz : ∀ w, (zeroValue 55).run Tryz.prog w = .ok (.agg (Z.map (Value.int .u32)).toArray) w := fun w => by rw [Tryz.zeroValue55, hZ]; rfl
  rw [← hZ]
  clear hZ
  obtain ⟨Q, hQ⟩ : ∃ Q : List Value, Q = zero59 := ⟨_, rfl⟩
  have hq : ∀ w, (zeroValue 196).run Tryz.prog w = .ok (.agg Q.toArray) w := fun w => by rw [Tryz.zeroValue196, hQ]; rfl
  have hQl : Q.length = 10 := by rw [hQ]; rfl
  have HLd := hid (fun w gs (hb : Blk w gs .u32 44 s) => rload_no w gs s hs ws hok hb)
  have HD1 : Hid (∀ u ∈ Q, u.oneCell' = true) := hid (by rw [hQ]; exact rdC_one [0, 0, 0, 0, 0, 0, 0, 0] none 0 0 0)
  rw [← hQ] at HLd
  clear hQ ws hok
  have B1 : Hid (Below W.heap.size W ((W.alloc (Obj.cells (List.map (Value.int IntKind.u32) s).toArray 44)).alloc (Obj.cells (List.map (Value.int IntKind.u32) Z).toArray 55))) := (below_one _ _).alloc (by simp) _
  have S1 : Hid (Blk ((W.alloc (Obj.cells (List.map (Value.int IntKind.u32) s).toArray 44)).alloc (Obj.cells (List.map (Value.int IntKind.u32) Z).toArray 55)) W.heap.size .u32 44 s) := (Blk.new W .u32 44 s).alloc _
  have Z1 : Hid (Blk ((W.alloc (Obj.cells (List.map (Value.int IntKind.u32) s).toArray 44)).alloc (Obj.cells (List.map (Value.int IntKind.u32) Z).toArray 55)) (W.heap.size + 1) .u32 55 Z) := Blk.newAt (by simp) .u32 55 Z
  unfold Ag
  go_enter Tryz.func124, Tryz.ntmps124
  go_upto_region 2 with (first | (go_at_call 142; refine (HLd.out _ _ S1.out).mono ?_; rintro e w1 ⟨rfl, hb⟩; have B2 := hid (below_on B1.out hb); have Z2 := hid (Z1.out.on hb); clear hb) | (revert B2; intro B2; refine wpList_store_cel rfl 196 _ _ rfl w1.heap.size Q rfl rfl (show Cel (w1.alloc (.cells Q.toArray 196)) w1.heap.size 196 Q from heap_alloc_new _ _) (by rw [hQl]; exact size105) rfl HD1.out ?_; intro w2 c2 b2 s2; have X2 := hid (And.intro (below_on B2.out (box_below _ b2)) (Z2.out.on (box_below _ b2))); clear c2 b2 s2 B2))
  go_wp2_with (revert X2; intro X2; refine wpList_store_blk rfl 55 _ _ rfl (W.heap.size + 1) Z rfl rfl X2.out.2 (by rw [hZl]; exact size27) rfl ?_)
  refine ret_cell2 rfl rfl (W.heap.size + 1) Z rfl (X2.out.2.setRow _) Tryz.underlying55 (by rw [hZl]; exact size27) ⟨rfl, below_setRow X2.out.1 (Nat.le_succ _) _⟩
end Go.Proofs.YtdfnbcbnmiohnaaGreatDoor.Q
