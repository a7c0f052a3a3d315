import Derived.Test.YtmomidkodjihjaaDoorP03
namespace Go.Proofs.YtmomidkodjihjaaDoor.H
open Go.RowKit

def Tab (W : World) : Prop := Row W .u32 0 0 S.K
theorem Tab.below {W w : World} {B : Nat} (h : Tab W) (hb : Below B W w) (hB : 1 < B) : Tab w := Row.below h hb (by omega)
theorem Tab.cell {W : World} (h : Tab W) (i : Nat) (hi : i < 64) : W.cell? ⟨0, i, none⟩ = some (.int .u32 (S.K.getD i 0)) := by
  have := h i hi
  rwa [Nat.zero_add] at this
theorem rounds_length (A M : List Int) (hA : A.length = 8) (k : Nat) : (S.rounds A M k).length = 8 := by
  cases k with
  | zero => exact hA
  | succ k => rfl
theorem plus_length (a b : List Int) (t : Nat) : (S.plus a b t).length = 8 := by simp [S.plus]
theorem block_length (A B : List Int) : (S.block A B).length = 8 := plus_length _ _ _
theorem plus_zero (a b : List Int) (ha : a.length = 8) : S.plus a b 0 = a := by
  apply List.ext_getElem
  · simp [S.plus, ha]
  · intro i h1 h2
    simp [S.plus, List.getD_eq_getElem?_getD, h2]
theorem plus_getD (a b : List Int) (t : Nat) (ht : t < 8) : (S.plus a b t).getD t 0 = a.getD t 0 := by
  simp [S.plus, List.getD_eq_getElem?_getD, ht]
theorem plus_set (a b : List Int) (t : Nat) (u : Int) (hu : u = (a.getD t 0 + b.getD t 0) % 4294967296) : (S.plus a b t).set t u = S.plus a b (t + 1) := by
  subst hu
  apply List.ext_getElem
  · simp [S.plus]
  · intro i h1 h2
    rw [List.getElem_set]
    simp only [S.plus, List.getElem_map, List.getElem_range]
    split
    · subst_vars
      rw [if_pos (by omega)]
      rfl
    · by_cases h : i < t
      · rw [if_pos h, if_pos (by omega)]
      · rw [if_neg h, if_neg (by omega)]

theorem index_ag {P : Program} {ty : TypeId} {n : Nat} (hu : P.underlying ty = some (.array n 24)) (he : P.underlying 24 = some (.int .u32)) (hs : (P.info? 24).map (·.size) = some 1) (L : List Int) (k : Nat) (hL : L.length = n) (hk : k < n) (w : World) :
    (Instr.index ty (Ag L) (.int .i64 (k : Int))).run P w = .ok (.int .u32 (L.getD k 0)) w := by
  have hk' : (L.map (Value.int .u32)).toArray[k]? = some (.int .u32 (L.getD k 0)) := by simp [List.getD_eq_getElem?_getD, show k < L.length by omega]
  cases hq : P.info? 24 with
  | none => simp [hq] at hs
  | some i =>
    have hi : i.size = 1 := by simpa [hq] using hs
    simp [Instr.index, Ag, asIntOf, run_underlying hu, sizeOf, typeInfo, hq, hi, hk, part, isAgg, run_underlying he, show k < L.length by omega, List.getD_eq_getElem?_getD]
theorem cells_blk {P : Program} {w : World} {g : Nat} {e : TypeId} {L : List Int} (h : Blk w g .u32 e L) (n : Nat) (hn : L.length = n) : (loadCellsFrom ⟨g, 0, none⟩ 0 n #[]).run P w = .ok (L.map (Value.int .u32)).toArray w := by
  subst hn
  have := run_loadCells_list (P := P) w ⟨g, 0, none⟩ (L.map (Value.int .u32)) (fun j v hv => by
    have hadd : (⟨g, 0, none⟩ : Addr).add j = ⟨g, j, none⟩ := by unfold Addr.add; split <;> simp_all
    have := h.at.cells j v hv
    rwa [hadd] at this ⊢)
  simpa [loadCells] using this
theorem storeCells_blk {P : Program} {w : World} {g : Nat} {e : TypeId} {L L' : List Int} (h : Blk w g .u32 e L) (hl : L.length = L'.length) : (storeCells ⟨g, 0, none⟩ (L'.map (Value.int .u32)) 0).run P w = .ok () (w.setRow g (L'.map (Value.int .u32)).toArray) := by
  have := run_storeCells_from (P := P) g e (L'.map (Value.int .u32)) 0 _ w h (by simp [hl]) (ints_oneCell .u32 L')
  rw [this]
  simp

attribute [-simp] Tryd.isAgg44 Tryd.sizeOf44 Tryd.zeroValue44 Tryd.isAgg119 Tryd.sizeOf119 Tryd.isAgg139 Tryd.sizeOf139
set_option maxRecDepth 20000 in
set_option maxHeartbeats 2000000 in
theorem block_any (W : World) (hT : Tab W) (h2 : 1 < W.heap.size) (A B : List Int) (hA : A.length = 8) (hB : B.length = 16) :
    Calls Tryd.prog 71 #[Ag A, Ag B] W fun en W' => en = .returned (Ag (S.block A B)) ∧ Below W.heap.size W W' := by
  obtain ⟨Z, hZ⟩ : ∃ Z : List Int, Z = List.replicate 8 0 := ⟨_, rfl⟩
  have hZl : Z.length = 8 := by rw [hZ]; simp
  have hz : ∀ w, (zeroValue 44).run Tryd.prog w = .ok (.agg (Z.map (Value.int .u32)).toArray) w := fun w => by rw [Tryd.zeroValue44, hZ]; rfl
  clear hZ
  obtain ⟨wl, hwl⟩ : ∃ wl, wl = S.sched B 48 := ⟨_, rfl⟩
  have hwll : wl.length = 64 := by rw [hwl, sched_length, hB]
  have SC : Hid (∀ w, Calls Tryd.prog 75 #[Ag B] w fun en W' => en = .returned (Ag wl) ∧ Below w.heap.size w W') := by rw [hwl]; exact fun w => schedule_any w B hB
  have HF : Hid (S.plus (S.rounds A wl 64) A 8 = S.block A B) := by rw [hwl]; rfl
  clear hwl
  have bA : Blk (((W.alloc (Obj.cells (List.map (Value.int IntKind.u32) A).toArray 44)).alloc (Obj.cells (List.map (Value.int IntKind.u32) B).toArray 119)).alloc (Obj.cells (List.map (Value.int IntKind.u32) Z).toArray 44)) W.heap.size .u32 44 A := ((Blk.new W .u32 44 A).alloc _).alloc _
  have bB : Blk (((W.alloc (Obj.cells (List.map (Value.int IntKind.u32) A).toArray 44)).alloc (Obj.cells (List.map (Value.int IntKind.u32) B).toArray 119)).alloc (Obj.cells (List.map (Value.int IntKind.u32) Z).toArray 44)) (W.heap.size + 1) .u32 119 B := (Blk.newAt (by simp) .u32 119 B).alloc _
  have bZ : Blk (((W.alloc (Obj.cells (List.map (Value.int IntKind.u32) A).toArray 44)).alloc (Obj.cells (List.map (Value.int IntKind.u32) B).toArray 119)).alloc (Obj.cells (List.map (Value.int IntKind.u32) Z).toArray 44)) (W.heap.size + 1 + 1) .u32 44 Z := Blk.newAt (by simp) .u32 44 Z
  have hX : Below W.heap.size W (((W.alloc (Obj.cells (List.map (Value.int IntKind.u32) A).toArray 44)).alloc (Obj.cells (List.map (Value.int IntKind.u32) B).toArray 119)).alloc (Obj.cells (List.map (Value.int IntKind.u32) Z).toArray 44)) := ((below_one W _).alloc (by simp) _).alloc (by simp; omega) _
  have BA : Hid (Blk _ W.heap.size .u32 44 A) := bA
  have BB : Hid (Blk _ (W.heap.size + 1) .u32 119 B) := bB
  have BZ : Hid (Blk _ (W.heap.size + 1 + 1) .u32 44 Z) := bZ
  have HX : Hid _ := hX
  clear bA bB bZ hX
  have z8 : (Tryd.prog.info? 44).map (·.size) = some A.length := by rw [hA]; exact size27
  have z16 : (Tryd.prog.info? 119).map (·.size) = some B.length := by rw [hB]; exact size51
  have zz : Z.length = A.length := by rw [hZl, hA]
  unfold Ag
  go_enter Tryd.func71, Tryd.ntmps71
  go_wp2_with (first | (refine wpList_load_blk rfl 44 _ rfl W.heap.size A rfl BA.out Tryd.underlying44 z8 ?_) | (refine wpList_store_but rfl 44 _ _ rfl (W.heap.size + 1 + 1 + 1) A rfl rfl (Blk.newAt (by simp) .u32 44 Z) z8 zz ?_; intro w1 bs hw1 hs1; have bB := hw1.blk (BB.out.alloc _) (by omega)) | (refine wpList_load_blk rfl 119 _ rfl (W.heap.size + 1) B rfl bB Tryd.underlying119 z16 ?_) | (go_at_call 75; refine (SC.out _).mono ?_; rintro en w2 ⟨rfl, hb2⟩))
  have hs0 : w1.heap.size = W.heap.size + 4 := by rw [hs1]; simp
  have bA := (hw1.blk (BA.out.alloc _) (by omega)).below hb2 (by omega)
  have bZ := (hw1.blk (BZ.out.alloc _) (by omega)).below hb2 (by omega)
  have bS := bs.below hb2 (by omega)
  have hb3 := ((HX.out.alloc (by simp; omega) _).trans (hw1.below (B := W.heap.size) (by omega) (by simp; omega))).trans (hb2.mono (by omega))
  clear hw1 hs1 BA BB BZ HX bs bB hb2
  go_loopw [6, 7, 12] (fun _ _ i wr => ∃ k : Nat, k ≤ 64 ∧ i = .int .i64 (k : Int) ∧ Blk wr W.heap.size .u32 44 A ∧ Blk wr (W.heap.size + 1 + 1) .u32 44 Z ∧ Blk wr (W.heap.size + 1 + 1 + 1) .u32 44 (S.rounds A wl k) ∧ Below W.heap.size W wr) (fun _ _ i _ => 64 - (intOf i).toNat)
  case atStart => exact ⟨0, by decide, rfl, bA, bZ, bS, hb3⟩
  case round =>
    clear bA bZ bS hb3
    obtain ⟨k, hk, rfl, bA, bZ, bS, hb⟩ := hrel
    by_cases hlt : k < 64
    · have hl := rounds_length A wl hA k
      have hc := (hT.below hb h2).cell k hlt
      have hix := index_ag Tryd.underlying139 Tryd.underlying24 size26 wl k hwll hlt
      have HR : Hid (S.round (S.rounds A wl k) ((S.K.getD k 0 + wl.getD k 0) % 4294967296) = S.rounds A wl (k + 1)) := rfl
      generalize S.rounds A wl k = L at *
      generalize S.K.getD k 0 = x at *
      generalize wl.getD k 0 = y at *
      have z27 := Tryd.sizeOf44
      obtain ⟨N, hN⟩ : ∃ N : Nat, N = 8 := ⟨_, rfl⟩
      have hlN : L.length = N := by rw [hN]; exact hl
      have hMN : (S.rounds A wl (k + 1)).length = N := by rw [hN]; exact rounds_length A wl hA (k + 1)
      rw [← hN] at z27
      have hld : (loadCellsFrom ⟨W.heap.size + 1 + 1 + 1, 0, none⟩ 0 N #[]).run Tryd.prog wr.drew = .ok (L.map (Value.int .u32)).toArray wr.drew := cells_blk (e := 44) bS.drew N hlN
      have a27 := Tryd.isAgg44
      have HM : Hid (∀ w, Calls Tryd.prog 76 #[Ag L, .int .u32 ((x + y) % 4294967296)] w fun en w' => en = .returned (Ag (S.rounds A wl (k + 1))) ∧ Below w.heap.size w w') := fun w => by
        rw [← HR.out]; exact round_any w L _ hl
      clear HR
      generalize hE : S.rounds A wl (k + 1) = M at *
      have HE : Hid (S.rounds A wl (k + 1) = M) := hE
      clear hE
      have RD : Hid (Calls Tryd.prog 76 #[.agg (L.map (Value.int .u32)).toArray, .int .u32 ((x + y) % 4294967296)] wr.drew fun en w' => en = .returned (.agg (M.map (Value.int .u32)).toArray) ∧ Below wr.heap.size wr w' ∧ (storeCells ⟨W.heap.size + 1 + 1 + 1, 0, none⟩ (M.map (Value.int .u32)) 0).run Tryd.prog w' = .ok () (w'.setRow (W.heap.size + 1 + 1 + 1) (M.map (Value.int .u32)).toArray)) := by
        refine (HM.out wr.drew).mono ?_
        rintro en w' ⟨rfl, hb'⟩
        have hb'' : Below wr.heap.size wr w' := Below.trans (Below.drew (Below.refl _ _)) hb'
        exact ⟨rfl, hb'', storeCells_blk (e := 44) (bS.below hb'' bS.lt) (by rw [hlN, hMN])⟩
      have HX : Hid (∀ w', Below wr.heap.size wr w' → Blk (w'.setRow (W.heap.size + 1 + 1 + 1) (M.map (Value.int .u32)).toArray) W.heap.size .u32 44 A ∧ Blk (w'.setRow (W.heap.size + 1 + 1 + 1) (M.map (Value.int .u32)).toArray) (W.heap.size + 1 + 1) .u32 44 Z ∧ Blk (w'.setRow (W.heap.size + 1 + 1 + 1) (M.map (Value.int .u32)).toArray) (W.heap.size + 1 + 1 + 1) .u32 44 M ∧ Below W.heap.size W (w'.setRow (W.heap.size + 1 + 1 + 1) (M.map (Value.int .u32)).toArray)) := fun w' hb' =>
        ⟨(bA.below hb' bA.lt).setRow_other _ (by omega), (bZ.below hb' bZ.lt).setRow_other _ (by omega), (bS.below hb' bS.lt).setRow _, below_setRow (hb.trans (hb'.mono hb.size)) (by omega) _⟩
      clear bA bZ bS hb HM hN hl hlN
      go_wp2
      go_region_with (first | (go_at_call 76; refine RD.out.mono ?_; rintro en w' ⟨rfl, hb', hst⟩))
      all_goals
        have HY : Hid _ := HX.out _ hb'
        clear hb' hst
        go_wp2
        go_roundw
        case rel => exact ⟨k + 1, by omega, by go_num, by rw [HE.out]; exact HY.out⟩
        case measure => simp [intOf]; omega
    · obtain rfl : k = 64 := by omega
      go_wp2
      have hl := rounds_length A wl hA 64
      have HF' : Hid _ := HF.out
      clear HF
      generalize S.rounds A wl 64 = L at *
      rw [← plus_zero L A hl] at bS
      go_loopw [8, 24] (fun _ i wr => ∃ k : Nat, k ≤ 8 ∧ i = .int .i64 (k : Int) ∧ Blk wr W.heap.size .u32 44 A ∧ Blk wr (W.heap.size + 1 + 1) .u32 44 Z ∧ Blk wr (W.heap.size + 1 + 1 + 1) .u32 44 (S.plus L A k) ∧ Below W.heap.size W wr) (fun _ i _ => 8 - (intOf i).toNat)
      case atStart => exact ⟨0, by decide, rfl, bA, bZ, bS, hb⟩
      case round =>
        clear bA bZ bS hb
        obtain ⟨k, hk, rfl, bA, bZ, bS, hb⟩ := hrel
        by_cases hlt : k < 8
        · have c1 := bA.cell k (by omega)
          have c2 := bS.cell k (by rw [plus_length]; exact hlt)
          have f2 := bS.free k
          rw [plus_getD L A k hlt] at c2
          have HP : Hid (∀ u, u = _ → _) := plus_set L A k
          have HX : Hid (∀ u, u = (L.getD k 0 + A.getD k 0) % 4294967296 → Blk (wr.drew.setCell ⟨W.heap.size + 1 + 1 + 1, k, none⟩ (.int .u32 u)) W.heap.size .u32 44 A ∧ Blk (wr.drew.setCell ⟨W.heap.size + 1 + 1 + 1, k, none⟩ (.int .u32 u)) (W.heap.size + 1 + 1) .u32 44 Z ∧ Blk (wr.drew.setCell ⟨W.heap.size + 1 + 1 + 1, k, none⟩ (.int .u32 u)) (W.heap.size + 1 + 1 + 1) .u32 44 (S.plus L A (k + 1)) ∧ Below W.heap.size W (wr.drew.setCell ⟨W.heap.size + 1 + 1 + 1, k, none⟩ (.int .u32 u))) := fun u hu => by
            refine ⟨bA.drew.other _ (by omega), bZ.drew.other _ (by omega), ?_, hb.drew.setCell (show W.heap.size ≤ W.heap.size + 1 + 1 + 1 by omega) _⟩
            have := bS.drew.set k u
            rwa [plus_set L A k u hu] at this
          clear bA bZ bS hb HP
          generalize L.getD k 0 = x at *
          generalize A.getD k 0 = y at *
          go_wp2
          go_region
          go_wp2
          go_roundw
          case rel => exact ⟨k + 1, by omega, by go_num, HX.out _ rfl⟩
          case measure => simp [intOf]; omega
        · obtain rfl : k = 8 := by omega
          rw [HF'.out] at bS
          have hbl := block_length A B
          have BS : Hid (Blk wr (W.heap.size + 1 + 1 + 1) .u32 44 (S.block A B)) := bS
          have BZ : Hid (Blk wr (W.heap.size + 1 + 1) .u32 44 Z) := bZ
          have HB : Hid (Below W.heap.size W wr) := hb
          clear bA bZ bS hb
          go_wp2_with (first | (refine wpList_load_blk rfl 44 _ rfl (W.heap.size + 1 + 1 + 1) (S.block A B) rfl BS.out Tryd.underlying44 (by rw [hbl]; exact size27) ?_) | (refine wpList_store_blk rfl 44 _ _ rfl (W.heap.size + 1 + 1) (S.block A B) rfl rfl BZ.out (by rw [hbl]; exact size27) (by rw [hbl, hZl]) ?_))
          refine ret_cell rfl rfl (W.heap.size + 1 + 1) (S.block A B) rfl (BZ.out.setRow _) Tryd.underlying44 (by rw [hbl]; exact size27) ⟨rfl, ?_⟩
          exact below_setRow HB.out (by omega) _
end Go.Proofs.YtmomidkodjihjaaDoor.H
