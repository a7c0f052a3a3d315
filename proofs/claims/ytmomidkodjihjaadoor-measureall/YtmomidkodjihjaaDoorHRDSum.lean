import Derived.Test.YtmomidkodjihjaaDoorHLentHSumsAHSumsMHRD
namespace Go.Proofs.YtmomidkodjihjaaDoor.H
open Go.RowKit

theorem Cel.rowA {w : World} {g : Nat} {e : TypeId} {A : List Int} {v : Value} {n : Int} (h : Cel w g e (rdC A v n)) : Row w .u32 g 0 A := by
  intro i hi
  rw [Nat.zero_add, h.cell i, rdC, List.getElem?_append_left (by simpa using hi)]
  simp [List.getD_eq_getElem?_getD, hi]
theorem Cel.wait {w : World} {g : Nat} {e : TypeId} {A : List Int} {v : Value} {n : Int} (h : Cel w g e (rdC A v n)) (hA : A.length = 8) : w.cell? ⟨g, 8, none⟩ = some v := by
  rw [h.cell 8, rdC, List.getElem?_append_right (by simp [hA])]
  simp [hA]
theorem Cel.num {w : World} {g : Nat} {e : TypeId} {A : List Int} {v : Value} {n : Int} (h : Cel w g e (rdC A v n)) (hA : A.length = 8) : w.cell? ⟨g, 9, none⟩ = some (.int .i64 n) := by
  rw [h.cell 9, rdC, List.getElem?_append_right (by simp [hA])]
  simp [hA]
theorem At.but {w w' : World} {g : Nat} {k : IntKind} {b off : Nat} {L : List Int} (hr : Row w k b off L) (hb : But g w w') (h1 : b < w.heap.size) (h2 : b ≠ g) : Row w' k b off L := hb.row hr h1 h2
theorem wp_store_row8 {P : Program} {op : Oper} {a : Act} {w : World} {K : Act → World → Prop} {Q : Exit → Act → World → Prop} (ty : TypeId) (x y : Operand) (ho : op.op = .store ty x y)
    (g : Nat) (L' : List Int) (hx : a.eval x = .pointer (some ⟨g, 0, none⟩)) (hy : a.eval y = Ag L') {e : TypeId} {L : List Int} (hg : Blk w g .u32 e L) (hi : (P.info? ty).map (·.size) = some L.length) (hl : L.length = L'.length)
    (h : K (a.put op.dst undef) (w.setRow g (L'.map (Value.int .u32)).toArray)) : op.wp P a w K Q := by
  have hs : (Instr.storeAt ty (.pointer (some ⟨g, 0, none⟩)) (Ag L')).run P w = .ok () (w.setRow g (L'.map (Value.int .u32)).toArray) := store_blk hg hi hl
  unfold Oper.wp execOp
  simp only [ho, hx, hy, Sem.run_bind, Sem.run_pure, hs, Result.andThen_ok]
  exact h
attribute [-simp] Tryd.isAgg105 Tryd.sizeOf105 Tryd.zeroValue105 Tryd.isAgg44 Tryd.sizeOf44 Tryd.zeroValue44
set_option maxRecDepth 20000 in
set_option maxHeartbeats 2000000 in
theorem rdsum_any (W : World) (hR : TabR W) (h2 : 1 < W.heap.size) (A : List Int) (hA : A.length = 8) (ao : Option Addr) (k c : Nat) (n : Nat) (hn : n ≤ 36028797018963968) (p : List Int) (hp : p.length = k) (hk : k < 16) (wp : Wds p) (hat : At W .u32 ao p) :
    Calls Tryd.prog 70 #[.agg (rdC A (.slice ao k c) (n : Int)).toArray] W fun e w => e = .returned (Ag (S.fin A (p ++ [2147483648]) (32 * (n : Int)))) ∧ Below W.heap.size W w := by
  obtain ⟨Z, hZ⟩ : ∃ Z : List Int, Z = List.replicate 8 0 := ⟨_, rfl⟩
  have hZl : Z.length = 8 := by rw [hZ]; simp
  have hz : ∀ w, (zeroValue 44).run Tryd.prog w = .ok (.agg (Z.map (Value.int .u32)).toArray) w := fun w => by rw [Tryd.zeroValue44, hZ]; rfl
  clear hZ
  have i1 : (n : Int) ≤ 36028797018963968 := by omega
  go_enter Tryd.func70, Tryd.ntmps70
  go_wp2_with fail
  have cR : Cel ((W.alloc (Obj.cells (rdC A (Value.slice ao k c) (n : Int)).toArray 105)).alloc (Obj.cells (List.map (Value.int IntKind.u32) Z).toArray 44)) W.heap.size 105 (rdC A (.slice ao k c) (n : Int)) := (show Cel (W.alloc _) W.heap.size 105 _ from heap_alloc_new _ _).below (below_one _ _) (by simp)
  have bZ : Blk ((W.alloc (Obj.cells (rdC A (Value.slice ao k c) (n : Int)).toArray 105)).alloc (Obj.cells (List.map (Value.int IntKind.u32) Z).toArray 44)) (W.heap.size + 1) .u32 44 Z := Blk.newAt (by simp) .u32 44 Z
  have hW0 : Below W.heap.size W ((W.alloc (Obj.cells (rdC A (Value.slice ao k c) (n : Int)).toArray 105)).alloc (Obj.cells (List.map (Value.int IntKind.u32) Z).toArray 44)) := (below_one W _).alloc (by simp) _
  generalize (W.alloc _).alloc _ = w0 at *
  have hgW := cR.lt
  obtain ⟨M, hM⟩ : ∃ M, M = S.fin A (p ++ [2147483648]) (32 * (n : Int)) := ⟨_, rfl⟩
  have hMl : M.length = 8 := by rw [hM]; exact run_length _ _ hA _
  have BL : Hid (∀ w, But (W.heap.size + 1) w0 w → Below W.heap.size W w) := fun w hw => hW0.trans (hw.below (by omega) hW0.size)
  have RA : Hid (∀ w, But (W.heap.size + 1) w0 w → w.rangeAt W.heap.size 0 (A.map (Value.int .u32))) := fun w hw => ((cR.but hw (by omega)).rowA).range
  have c8 : ∀ w, But (W.heap.size + 1) w0 w → w.cell? ⟨W.heap.size, 8, none⟩ = some (.slice ao k c) := fun w hw => (cR.but hw (by omega)).wait hA
  have c9 : ∀ w, But (W.heap.size + 1) w0 w → w.cell? ⟨W.heap.size, 9, none⟩ = some (.int .i64 (n : Int)) := fun w hw => (cR.but hw (by omega)).num hA
  have C43 : Hid (∀ w, But (W.heap.size + 1) w0 w → Blk w (W.heap.size + 1) .u32 44 Z → Calls Tryd.prog 65 #[.slice ao k c] w fun e w' => ∃ a1 c1, e = .returned (.slice a1 (4 * k) c1) ∧ But (W.heap.size + 1) w0 w' ∧ At w' .u8 a1 (bytesD p) ∧ Blk w' (W.heap.size + 1) .u32 44 Z) := fun w hw hb => by
    refine (rbytesOf_any w ao k c p hp (hat.below (BL.out w hw)) (by omega)).mono ?_
    rintro e w' ⟨v, rfl, F⟩
    obtain ⟨a1, c1, rfl, _, h1, _⟩ := F.at'
    rw [bytesD_length, hp]
    exact ⟨a1, c1, rfl, hw.trans (Below.but F.below), h1, hb.on F.below⟩
  have C45 : Hid (∀ w a1 c1, But (W.heap.size + 1) w0 w → At w .u8 a1 (bytesD p) → Blk w (W.heap.size + 1) .u32 44 Z → Calls Tryd.prog 74 #[.agg (A.map (Value.int .u32)).toArray, .slice a1 (4 * k) c1, .int .u64 (4 * (n : Int))] w fun e w' => e = .returned (.agg (M.map (Value.int .u32)).toArray) ∧ But (W.heap.size + 1) w0 w' ∧ Blk w' (W.heap.size + 1) .u32 44 Z) := fun w a1 c1 hw ha hb => by
    have hW := BL.out w hw
    have := hW.size
    refine (ended_any w (hR.below hW (by omega)) (by omega) A (bytesD p) hA a1 (4 * k) c1 (by rw [bytesD_length, hp]) (bytesD_bts p) ha (by omega) (4 * (n : Int)) (by omega) (by omega)).mono ?_
    rintro e w' ⟨rfl, hb'⟩
    rw [hM, show (8 : Int) * (4 * (n : Int)) = 32 * (n : Int) by omega, endR_words A p wp _ (by omega) (by omega)]
    exact ⟨rfl, hw.trans (Below.but hb'), hb.on hb'⟩
  have sA : (Tryd.prog.info? 44).map (·.size) = some (A.map (Value.int .u32)).length := by rw [List.length_map, hA]; exact size27
  have HB0 : Hid (But (W.heap.size + 1) w0 w0.drew) := Below.but (Below.refl _ _).drew
  have bZ0 : Hid (Blk w0.drew (W.heap.size + 1) .u32 44 Z) := bZ.drew
  have z27 := Tryd.sizeOf44
  have HM : Hid (M = S.fin A (p ++ [2147483648]) (32 * (n : Int))) := hM
  clear hM
  have u1 : IntKind.u64.wrap (n : Int) = (n : Int) := by rw [IntKind.wrap_u64]; omega
  have u2 : IntKind.u64.wrap (4 * (n : Int)) = 4 * (n : Int) := by rw [IntKind.wrap_u64]; omega
  refine wp_region_held_drew (S := fun w => But (W.heap.size + 1) w0 w) (by kernel_rfl) HB0.out (fun hHeld => ?_)
  refine wpAnyH_take (i := 0) (oi := { dst := some 3, op := Op.fieldAddr 105 (Operand.tmp 1) 0, type := 0, pos := "ref.go:216", after := #[], guard := none }) (v := .pointer (some ⟨W.heap.size, 0, none⟩)) rfl (by kernel_rfl) (by kernel_rfl) (by kernel_rfl) (fun _ _ _ h => h) (Or.inl ⟨by rfl, by intro w hSw; go_simp⟩) (by assumption) ?_
  simp only [Act.put, List.setIfInBounds_toArray, List.set_cons_zero, List.set_cons_succ]
  refine wpAnyH_take (i := 2) (oi := { dst := some 5, op := Op.fieldAddr 105 (Operand.tmp 1) 1, type := 0, pos := "ref.go:216", after := #[], guard := none }) (v := .pointer (some ⟨W.heap.size, 8, none⟩)) rfl (by kernel_rfl) (by kernel_rfl) (by kernel_rfl) (fun _ _ _ h => h) (Or.inl ⟨by rfl, by intro w hSw; go_simp⟩) (by assumption) ?_
  simp only [Act.put, List.setIfInBounds_toArray, List.set_cons_zero, List.set_cons_succ]
  refine wpAnyH_take (i := 5) (oi := { dst := some 8, op := Op.fieldAddr 105 (Operand.tmp 1) 2, type := 0, pos := "ref.go:216", after := #[], guard := none }) (v := .pointer (some ⟨W.heap.size, 9, none⟩)) rfl (by kernel_rfl) (by kernel_rfl) (by kernel_rfl) (fun _ _ _ h => h) (Or.inl ⟨by rfl, by intro w hSw; go_simp⟩) (by assumption) ?_
  simp only [Act.put, List.setIfInBounds_toArray, List.set_cons_zero, List.set_cons_succ]
  refine wpAnyH_take (i := 1) (oi := { dst := some 4, op := Op.load 44 (Operand.tmp 3), type := 44, pos := "ref.go:216", after := #[{ on := 0, ground := Ground.data }], guard := none }) (v := .agg (A.map (Value.int .u32)).toArray) rfl (by kernel_rfl) (by kernel_rfl) (by kernel_rfl) (fun _ _ _ h => h) (yieldsIf_load_mid (by rfl) _ _ rfl _ _ rfl _ _ (fun w hSw => (RA.out w hSw)) Tryd.underlying44 rfl sA) (by assumption) ?_
  simp only [Act.put, List.setIfInBounds_toArray, List.set_cons_zero, List.set_cons_succ]
  refine wpAnyH_take (i := 3) (oi := { dst := some 6, op := Op.load 22 (Operand.tmp 5), type := 22, pos := "ref.go:216", after := #[{ on := 2, ground := Ground.data }], guard := none }) (v := .slice ao k c) rfl (by kernel_rfl) (by kernel_rfl) (by kernel_rfl) (fun _ _ _ h => h) (Or.inl ⟨by rfl, by intro w hSw; go_simp⟩) (by assumption) ?_
  simp only [Act.put, List.setIfInBounds_toArray, List.set_cons_zero, List.set_cons_succ]
  refine wpAnyH_take (i := 6) (oi := { dst := some 9, op := Op.load 2 (Operand.tmp 8), type := 2, pos := "ref.go:216", after := #[{ on := 5, ground := Ground.data }], guard := none }) (v := .int .i64 (n : Int)) rfl (by kernel_rfl) (by kernel_rfl) (by kernel_rfl) (fun _ _ _ h => h) (Or.inl ⟨by rfl, by intro w hSw; go_simp⟩) (by assumption) ?_
  simp only [Act.put, List.setIfInBounds_toArray, List.set_cons_zero, List.set_cons_succ]
  refine wpAnyH_take (i := 7) (oi := { dst := some 10, op := Op.convert 2 123 (Operand.tmp 9), type := 123, pos := "ref.go:216", after := #[{ on := 6, ground := Ground.data }], guard := none }) (v := .int .u64 (n : Int)) rfl (by kernel_rfl) (by kernel_rfl) (by kernel_rfl) (fun _ _ _ h => h) (Or.inl ⟨by rfl, by intro w hSw; go_simp⟩) (by assumption) ?_
  simp only [Act.put, List.setIfInBounds_toArray, List.set_cons_zero, List.set_cons_succ]
  refine wpAnyH_take (i := 8) (oi := { dst := some 11, op := Op.binOp BinOp.mul 123 (Operand.const (Value.int IntKind.u64 4)) (Operand.tmp 10) 123, type := 123, pos := "ref.go:216", after := #[{ on := 7, ground := Ground.data }], guard := none }) (v := .int .u64 (4 * (n : Int))) rfl (by kernel_rfl) (by kernel_rfl) (by kernel_rfl) (fun _ _ _ h => h) (Or.inl ⟨by rfl, by intro w hSw; go_simp⟩) (by assumption) ?_
  simp only [Act.put, List.setIfInBounds_toArray, List.set_cons_zero, List.set_cons_succ]
  refine wpAnyH_ready (rs := [4]) (by kernel_rfl) (by simp) (AllReadyH.cons (o := { dst := some 7, op := Op.call { callee := Callee.value (Operand.func 65), args := #[Operand.tmp 6], argTypes := #[22] }, type := 130, pos := "ref.go:216", after := #[{ on := 3, ground := Ground.data }], guard := none }) rfl (fun K hK => ?_) AllReadyH.nil)
  go_simp
  refine (C43.out _ HB0.out bZ0.out).mono ?_
  rintro en w1 ⟨a1, c1, rfl, hw1, hat1, bz1⟩
  go_wp2_with fail
  refine hK.out _ _ hw1 (fun hHeld => ?_)
  clear hK K
  try simp only [Act.put, List.setIfInBounds_toArray, List.set_cons_zero, List.set_cons_succ]
  refine wpAnyH_ready (rs := [9]) (by kernel_rfl) (by simp) (AllReadyH.cons (o := { dst := some 12, op := Op.call { callee := Callee.value (Operand.func 74), args := #[Operand.tmp 4, Operand.tmp 7, Operand.tmp 11], argTypes := #[44, 130, 123] }, type := 44, pos := "ref.go:216", after := #[{ on := 1, ground := Ground.data }, { on := 4, ground := Ground.data }, { on := 8, ground := Ground.data }, { on := 4, ground := Ground.chain }], guard := none }) rfl (fun K hK => ?_) AllReadyH.nil)
  go_simp
  refine (C45.out _ _ _ hw1 hat1 bz1).mono ?_
  rintro en w2 ⟨rfl, hw2, bz2⟩
  go_wp2_with fail
  refine hK.out _ _ hw2 (fun hHeld => ?_)
  clear hK K
  try simp only [Act.put, List.setIfInBounds_toArray, List.set_cons_zero, List.set_cons_succ]
  refine wpAnyH_ready (rs := [10]) (by kernel_rfl) (by simp) (AllReadyH.cons (o := { dst := none, op := Op.store 44 (Operand.tmp 2) (Operand.tmp 12), type := 0, pos := "ref.go:216", after := #[{ on := 9, ground := Ground.data }, { on := 9, ground := Ground.chain }, { on := 0, ground := Ground.phase }, { on := 1, ground := Ground.phase }, { on := 2, ground := Ground.phase }, { on := 3, ground := Ground.phase }, { on := 4, ground := Ground.phase }, { on := 5, ground := Ground.phase }, { on := 6, ground := Ground.phase }, { on := 7, ground := Ground.phase }, { on := 8, ground := Ground.phase }, { on := 9, ground := Ground.phase }], guard := none }) rfl (fun K hK => ?_) AllReadyH.nil)
  rw [if_pos (by rfl)]
  refine wp_store_row8 44 _ _ rfl (W.heap.size + 1) M rfl rfl bz2 (by rw [hZl]; exact size27) (by rw [hZl, hMl]) ?_
  refine hK.out _ _ (hw2.trans (but_setRow _ _ _)) (fun hHeld => ?_)
  clear hK K
  simp only [Act.put]
  refine wpAnyH_done (by kernel_rfl) ?_ _
  have HB2 : Hid (Below W.heap.size W w2) := BL.out w2 hw2
  have BZ2 : Hid (Blk w2 (W.heap.size + 1) .u32 44 Z) := bz2
  clear hw1 hw2 hat1 bz1 bz2 hHeld cR bZ hW0
  go_wp2_with fail
  refine ret_cell rfl rfl (W.heap.size + 1) M rfl (BZ2.out.setRow _) Tryd.underlying44 (by rw [hMl]; exact size27) ⟨?_, below_setRow HB2.out (by omega) _⟩
  rw [HM.out]
end Go.Proofs.YtmomidkodjihjaaDoor.H
