import Derived.Test.YtjkkelkblccolaaDoorRtFits
import Derived.Test.YtjkkelkblccolaaDoorRtNum
namespace Go.Proofs.YtjkkelkblccolaaDoor
open Go.RowKit

theorem set_upto' {L : List Int} {n t : Nat} {f : Nat → Int} (hl : L.length = n) (ht : t < n) (h : ∀ j, j < t → L.getD j 0 = f j) (u : Int) (hu : u = f t) : (L.set t u).length = n ∧ ∀ j, j < t + 1 → (L.set t u).getD j 0 = f j := by
  refine ⟨by rw [List.length_set, hl], fun j hj => ?_⟩
  by_cases hjt : j = t
  · subst hjt; simp [List.getD_eq_getElem?_getD, hl, ht, hu]
  · have := h j (by omega)
    rw [← this]
    simp [List.getD_eq_getElem?_getD, Ne.symm hjt]
theorem full_list {L M : List Int} (hl : L.length = M.length) (h : ∀ j, j < M.length → L.getD j 0 = M.getD j 0) : L = M := by
  apply List.ext_getElem hl
  intro i h1 h2
  have := h i h2
  simpa [List.getD_eq_getElem?_getD, h1, h2] using this
theorem first_is {L : List Int} (hl : L.length = 8) (h : ∀ j, j < 8 → L.getD j 0 = bitsL (primesL.getD j 0) false) : L = S.First := by
  rw [← roots_first]
  refine full_list (by rw [hl]; rfl) fun j hj => ?_
  have h8 : j < 8 := hj
  rw [h j h8]
  simp only [List.getD_eq_getElem?_getD, List.getElem?_map, List.getElem?_take, if_pos h8]
  have : j < primesL.length := by show j < 64; omega
  rw [List.getElem?_eq_getElem this]
  rfl
theorem third_is {L : List Int} (hl : L.length = 64) (h : ∀ j, j < 64 → L.getD j 0 = bitsL (primesL.getD j 0) true) : L = S.K := by
  rw [← roots_third]
  refine full_list (by rw [hl]; rfl) fun j hj => ?_
  have h8 : j < 64 := hj
  rw [h j h8]
  simp only [List.getD_eq_getElem?_getD, List.getElem?_map]
  have : j < primesL.length := h8
  rw [List.getElem?_eq_getElem this]
  rfl
theorem wp_store_blk {P : Program} {op : Oper} {a : Act} {w : World} {K : Act → World → Prop} {Q : Exit → Act → World → Prop} (ty : TypeId) (x y : Operand) (ho : op.op = .store ty x y)
    (g : Nat) (L' : List Int) (hx : a.eval x = .pointer (some ⟨g, 0, none⟩)) (hy : a.eval y = Ag L') {e : TypeId} {L : List Int} (hg : Blk w g .u32 e L) (hi : (P.info? ty).map (·.size) = some L.length) (hl : L.length = L'.length)
    (h : K (a.put op.dst undef) (w.setRow g (L'.map (Value.int .u32)).toArray)) : op.wp P a w K Q := by
  have hs : (Instr.storeAt ty (.pointer (some ⟨g, 0, none⟩)) (Ag L')).run P w = .ok () (w.setRow g (L'.map (Value.int .u32)).toArray) := store_blk hg hi hl
  unfold Oper.wp execOp
  simp only [ho, hx, hy, Sem.run_bind, Sem.run_pure, hs, Result.andThen_ok]
  exact h
/-- Two results that lie in cells. -/
theorem ret_cells2 {P : Program} {fn : Func} {p q : Tmp} {ty ty' e e' t t' : TypeId} {n n' : Nat} {a : Act} {w : World} {post : Ending → World → Prop} (hr : fn.results = #[.cell p ty, .cell q ty']) (hd : a.defers = []) (g g' : Nat) (L L' : List Int)
    (hp : a.tmps.getD p undef = .pointer (some ⟨g, 0, none⟩)) (hq : a.tmps.getD q undef = .pointer (some ⟨g', 0, none⟩)) (hb : Blk w g .u32 e L) (hb' : Blk w g' .u32 e' L') (hu : P.underlying ty = some (.array n t)) (hu' : P.underlying ty' = some (.array n' t'))
    (hi : (P.info? ty).map (·.size) = some L.length) (hi' : (P.info? ty').map (·.size) = some L'.length) (h : post (.returned (.tuple #[Ag L, Ag L'])) w) :
    bodyPost P fn post .ret a w := by
  refine bodyPost_ret ?_ hd h
  have hp' : a.tmps[p]?.getD undef = .pointer (some ⟨g, 0, none⟩) := by simpa using hp
  have hq' : a.tmps[q]?.getD undef = .pointer (some ⟨g', 0, none⟩) := by simpa using hq
  simp [results, hr, hp', hq', asAddr, Ag, run_loadVar_row w g e ty _ (0, 0) _ hb hu rfl (by rw [hi]; simp), run_loadVar_row w g' e' ty' _ (0, 0) _ hb' hu' rfl (by rw [hi']; simp)]
attribute [-simp] Tryd.isAgg27 Tryd.sizeOf27 Tryd.zeroValue27 Tryd.isAgg48 Tryd.sizeOf48 Tryd.zeroValue48
set_option maxRecDepth 20000 in
set_option maxHeartbeats 4000000 in
theorem roots_any (W : World) (hP : Row W .u64 1 0 primesL) (h2 : 2 < W.heap.size) :
    Calls Tryd.prog 25 #[] W fun e w => e = .returned (.tuple #[Ag S.First, Ag S.K]) ∧ Below W.heap.size W w := by
  obtain ⟨Z, hZ⟩ : ∃ Z : List Int, Z = List.replicate 8 0 := ⟨_, rfl⟩
  have hZl : Z.length = 8 := by rw [hZ]; simp
  have hz : ∀ w, (zeroValue 27).run Tryd.prog w = .ok (.agg (Z.map (Value.int .u32)).toArray) w := fun w => by rw [Tryd.zeroValue27, hZ]; rfl
  clear hZ
  obtain ⟨Y, hY⟩ : ∃ Y : List Int, Y = List.replicate 64 0 := ⟨_, rfl⟩
  have hYl : Y.length = 64 := by rw [hY]; simp
  have hy : ∀ w, (zeroValue 48).run Tryd.prog w = .ok (.agg (Y.map (Value.int .u32)).toArray) w := fun w => by rw [Tryd.zeroValue48, hY]; rfl
  clear hY
  go_enter Tryd.func25, Tryd.ntmps25
  go_wp2
  have b0 : Blk ((((W.alloc (Obj.cells (List.map (Value.int IntKind.u32) Z).toArray 27)).alloc (Obj.cells (List.map (Value.int IntKind.u32) Y).toArray 48)).alloc (Obj.cells (List.map (Value.int IntKind.u32) Z).toArray 27)).alloc (Obj.cells (List.map (Value.int IntKind.u32) Y).toArray 48)) W.heap.size .u32 27 Z := (((Blk.new W .u32 27 Z).alloc _).alloc _).alloc _
  have b1 : Blk ((((W.alloc (Obj.cells (List.map (Value.int IntKind.u32) Z).toArray 27)).alloc (Obj.cells (List.map (Value.int IntKind.u32) Y).toArray 48)).alloc (Obj.cells (List.map (Value.int IntKind.u32) Z).toArray 27)).alloc (Obj.cells (List.map (Value.int IntKind.u32) Y).toArray 48)) (W.heap.size + 1) .u32 48 Y := ((Blk.newAt (by simp) .u32 48 Y).alloc _).alloc _
  have b2 : Blk ((((W.alloc (Obj.cells (List.map (Value.int IntKind.u32) Z).toArray 27)).alloc (Obj.cells (List.map (Value.int IntKind.u32) Y).toArray 48)).alloc (Obj.cells (List.map (Value.int IntKind.u32) Z).toArray 27)).alloc (Obj.cells (List.map (Value.int IntKind.u32) Y).toArray 48)) (W.heap.size + 1 + 1) .u32 27 Z := (Blk.newAt (by simp) .u32 27 Z).alloc _
  have b3 : Blk ((((W.alloc (Obj.cells (List.map (Value.int IntKind.u32) Z).toArray 27)).alloc (Obj.cells (List.map (Value.int IntKind.u32) Y).toArray 48)).alloc (Obj.cells (List.map (Value.int IntKind.u32) Z).toArray 27)).alloc (Obj.cells (List.map (Value.int IntKind.u32) Y).toArray 48)) (W.heap.size + 1 + 1 + 1) .u32 48 Y := Blk.newAt (by simp) .u32 48 Y
  have hX : Below W.heap.size W ((((W.alloc (Obj.cells (List.map (Value.int IntKind.u32) Z).toArray 27)).alloc (Obj.cells (List.map (Value.int IntKind.u32) Y).toArray 48)).alloc (Obj.cells (List.map (Value.int IntKind.u32) Z).toArray 27)).alloc (Obj.cells (List.map (Value.int IntKind.u32) Y).toArray 48)) := (((below_one W _).alloc (by simp) _).alloc (by simp; omega) _).alloc (by simp; omega) _
  generalize (((W.alloc _).alloc _).alloc _).alloc _ = X at *
  go_loopw [4] (fun i wr => ∃ (k : Nat) (F : List Int), k ≤ 8 ∧ i = .int .i64 (k : Int) ∧ F.length = 8 ∧ (∀ j, j < k → F.getD j 0 = bitsL (primesL.getD j 0) false) ∧ Blk wr W.heap.size .u32 27 Z ∧ Blk wr (W.heap.size + 1) .u32 48 Y ∧ Blk wr (W.heap.size + 1 + 1) .u32 27 F ∧ Blk wr (W.heap.size + 1 + 1 + 1) .u32 48 Y ∧ Below W.heap.size W wr) (fun i _ => 8 - (intOf i).toNat)
  case atStart => exact ⟨0, Z, by decide, rfl, hZl, fun j hj => by omega, b0, b1, b2, b3, hX⟩
  case round =>
    clear b0 b1 b2 b3 hX
    obtain ⟨k, F, hk, rfl, hFl, hF, b0, b1, b2, b3, hX⟩ := hrel
    by_cases hlt : k < 8
    · have cp := (hP.below hX (by omega)) k (by show k < 64; omega)
      rw [Nat.zero_add] at cp
      have q0 : (k : Int) < 64 := by omega
      have HP : Hid (Blk wr W.heap.size .u32 27 Z ∧ Blk wr (W.heap.size + 1) .u32 48 Y ∧ Blk wr (W.heap.size + 1 + 1) .u32 27 F ∧ Blk wr (W.heap.size + 1 + 1 + 1) .u32 48 Y ∧ Below W.heap.size W wr) := ⟨b0, b1, b2, b3, hX⟩
      obtain ⟨S1, S2⟩ := set_upto' hFl hlt hF (bitsL (primesL.getD k 0) false) rfl
      have S1' : Hid ((F.set k (bitsL (primesL.getD k 0) false)).length = 8) := S1
      have S2' : Hid (∀ j, j < k + 1 → (F.set k (bitsL (primesL.getD k 0) false)).getD j 0 = bitsL (primesL.getD j 0) false) := S2
      clear b0 b1 b2 b3 hX S1 S2 hF
      obtain ⟨p, hp⟩ : ∃ p, p = primesL.getD k 0 := ⟨_, rfl⟩
      rw [← hp] at cp S1' S2'
      clear hp
      go_wp2_with fail
      refine (bits_any wr p false).mono ?_
      rintro e w1 ⟨rfl, hb1⟩
      obtain ⟨b0, b1, b2, b3, hX⟩ := HP.out
      have b2' := b2.on hb1
      have c2 := b2'.cell k (by omega)
      have f2 := b2'.free k
      generalize bitsL p false = u at *
      have HN : Hid (Blk (w1.setCell ⟨W.heap.size + 1 + 1, k, none⟩ (.int .u32 u)) W.heap.size .u32 27 Z ∧ Blk (w1.setCell ⟨W.heap.size + 1 + 1, k, none⟩ (.int .u32 u)) (W.heap.size + 1) .u32 48 Y ∧ Blk (w1.setCell ⟨W.heap.size + 1 + 1, k, none⟩ (.int .u32 u)) (W.heap.size + 1 + 1) .u32 27 (F.set k u) ∧ Blk (w1.setCell ⟨W.heap.size + 1 + 1, k, none⟩ (.int .u32 u)) (W.heap.size + 1 + 1 + 1) .u32 48 Y ∧ Below W.heap.size W (w1.setCell ⟨W.heap.size + 1 + 1, k, none⟩ (.int .u32 u))) :=
        ⟨(b0.on hb1).other _ (by omega), (b1.on hb1).other _ (by omega), b2'.set k u, (b3.on hb1).other _ (by omega), (hX.trans (hb1.mono hX.size)).setCell (show W.heap.size ≤ W.heap.size + 1 + 1 by omega) _⟩
      clear b0 b1 b2 b3 hX b2' hb1 HP cp
      go_wp2
      go_roundw
      case rel => exact ⟨k + 1, _, by omega, by go_num, S1'.out, S2'.out, HN.out⟩
      case measure => simp [intOf]; omega
    · obtain rfl : k = 8 := by omega
      obtain rfl := first_is hFl hF
      clear hF
      have HP : Hid (Blk wr W.heap.size .u32 27 Z ∧ Blk wr (W.heap.size + 1) .u32 48 Y ∧ Blk wr (W.heap.size + 1 + 1) .u32 27 S.First ∧ Blk wr (W.heap.size + 1 + 1 + 1) .u32 48 Y ∧ Below W.heap.size W wr) := ⟨b0, b1, b2, b3, hX⟩
      clear b0 b1 b2 b3 hX
      generalize hFF : S.First = FI at *
      have HFF : Hid (S.First = FI) := hFF
      clear hFF
      rw [show ((8 : Nat) : Int) = 8 from rfl]
      go_wp2
      go_loopw [5] (fun i wr => ∃ (k : Nat) (F : List Int), k ≤ 64 ∧ i = .int .i64 (k : Int) ∧ F.length = 64 ∧ (∀ j, j < k → F.getD j 0 = bitsL (primesL.getD j 0) true) ∧ Blk wr W.heap.size .u32 27 Z ∧ Blk wr (W.heap.size + 1) .u32 48 Y ∧ Blk wr (W.heap.size + 1 + 1) .u32 27 FI ∧ Blk wr (W.heap.size + 1 + 1 + 1) .u32 48 F ∧ Below W.heap.size W wr) (fun i _ => 64 - (intOf i).toNat)
      case atStart => exact ⟨0, Y, by decide, rfl, hYl, fun j hj => by omega, HP.out⟩
      case round =>
        clear HP
        obtain ⟨k, F, hk, rfl, hKl, hF, b0, b1, b2, b3, hX⟩ := hrel
        by_cases hlt : k < 64
        · have cp := (hP.below hX (by omega)) k hlt
          rw [Nat.zero_add] at cp
          have q0 : (k : Int) < 64 := by omega
          have HP : Hid (Blk wr W.heap.size .u32 27 Z ∧ Blk wr (W.heap.size + 1) .u32 48 Y ∧ Blk wr (W.heap.size + 1 + 1) .u32 27 FI ∧ Blk wr (W.heap.size + 1 + 1 + 1) .u32 48 F ∧ Below W.heap.size W wr) := ⟨b0, b1, b2, b3, hX⟩
          obtain ⟨S1, S2⟩ := set_upto' hKl hlt hF (bitsL (primesL.getD k 0) true) rfl
          have S1' : Hid ((F.set k (bitsL (primesL.getD k 0) true)).length = 64) := S1
          have S2' : Hid (∀ j, j < k + 1 → (F.set k (bitsL (primesL.getD k 0) true)).getD j 0 = bitsL (primesL.getD j 0) true) := S2
          clear b0 b1 b2 b3 hX S1 S2 hF
          obtain ⟨p, hp⟩ : ∃ p, p = primesL.getD k 0 := ⟨_, rfl⟩
          rw [← hp] at cp S1' S2'
          clear hp
          go_wp2_with fail
          refine (bits_any wr p true).mono ?_
          rintro e w1 ⟨rfl, hb1⟩
          obtain ⟨b0, b1, b2, b3, hX⟩ := HP.out
          have b3' := b3.on hb1
          have c2 := b3'.cell k (by omega)
          have f2 := b3'.free k
          generalize bitsL p true = u at *
          have HN : Hid (Blk (w1.setCell ⟨W.heap.size + 1 + 1 + 1, k, none⟩ (.int .u32 u)) W.heap.size .u32 27 Z ∧ Blk (w1.setCell ⟨W.heap.size + 1 + 1 + 1, k, none⟩ (.int .u32 u)) (W.heap.size + 1) .u32 48 Y ∧ Blk (w1.setCell ⟨W.heap.size + 1 + 1 + 1, k, none⟩ (.int .u32 u)) (W.heap.size + 1 + 1) .u32 27 FI ∧ Blk (w1.setCell ⟨W.heap.size + 1 + 1 + 1, k, none⟩ (.int .u32 u)) (W.heap.size + 1 + 1 + 1) .u32 48 (F.set k u) ∧ Below W.heap.size W (w1.setCell ⟨W.heap.size + 1 + 1 + 1, k, none⟩ (.int .u32 u))) :=
            ⟨(b0.on hb1).other _ (by omega), (b1.on hb1).other _ (by omega), (b2.on hb1).other _ (by omega), b3'.set k u, (hX.trans (hb1.mono hX.size)).setCell (show W.heap.size ≤ W.heap.size + 1 + 1 + 1 by omega) _⟩
          clear b0 b1 b2 b3 hX b3' hb1 HP cp
          go_wp2
          go_roundw
          case rel => exact ⟨k + 1, _, by omega, by go_num, S1'.out, S2'.out, HN.out⟩
          case measure => simp [intOf]; omega
        · obtain rfl : k = 64 := by omega
          obtain rfl := third_is hKl hF
          clear hF
          have HP : Hid (Blk wr W.heap.size .u32 27 Z ∧ Blk wr (W.heap.size + 1) .u32 48 Y ∧ Blk wr (W.heap.size + 1 + 1) .u32 27 FI ∧ Blk wr (W.heap.size + 1 + 1 + 1) .u32 48 S.K ∧ Below W.heap.size W wr) := ⟨b0, b1, b2, b3, hX⟩
          clear b0 b1 b2 b3 hX
          generalize hKK : S.K = KI at *
          have HKK : Hid (S.K = KI) := hKK
          clear hKK
          obtain ⟨b0, b1, b2, b3, hX⟩ := HP.out
          have sF : (Tryd.prog.info? 27).map (·.size) = some (FI.map (Value.int .u32)).length := by rw [List.length_map, hFl]; exact size27
          have sK : (Tryd.prog.info? 48).map (·.size) = some (KI.map (Value.int .u32)).length := by rw [List.length_map, hKl]; exact size48
          have lZ : Z.length = FI.length := by rw [hZl, hFl]
          have lY : Y.length = KI.length := by rw [hYl, hKl]
          have wZ : (Tryd.prog.info? 27).map (·.size) = some Z.length := by rw [hZl]; exact size27
          have wY : (Tryd.prog.info? 48).map (·.size) = some Y.length := by rw [hYl]; exact size48
          have HR : Hid (Blk ((wr.drew.setRow W.heap.size (FI.map (Value.int .u32)).toArray).setRow (W.heap.size + 1) (KI.map (Value.int .u32)).toArray) W.heap.size .u32 27 FI ∧ Blk ((wr.drew.setRow W.heap.size (FI.map (Value.int .u32)).toArray).setRow (W.heap.size + 1) (KI.map (Value.int .u32)).toArray) (W.heap.size + 1) .u32 48 KI ∧ Below W.heap.size W ((wr.drew.setRow W.heap.size (FI.map (Value.int .u32)).toArray).setRow (W.heap.size + 1) (KI.map (Value.int .u32)).toArray)) :=
            ⟨(b0.drew.setRow _).setRow_other _ (by omega), (b1.drew.setRow_other _ (by omega)).setRow _, below_setRow (below_setRow hX.drew (Nat.le_refl _) _) (by omega) _⟩
          have B1 : Hid (Blk (wr.drew.setRow W.heap.size (FI.map (Value.int .u32)).toArray) (W.heap.size + 1) .u32 48 Y) := b1.drew.setRow_other _ (by omega)
          have HS : Hid (Blk (wr.drew.setRow W.heap.size (FI.map (Value.int .u32)).toArray) (W.heap.size + 1 + 1) .u32 27 FI ∧ Blk (wr.drew.setRow W.heap.size (FI.map (Value.int .u32)).toArray) (W.heap.size + 1 + 1 + 1) .u32 48 KI) := ⟨b2.drew.setRow_other _ (by omega), b3.drew.setRow_other _ (by omega)⟩
          have HS2 : Hid (Blk ((wr.drew.setRow W.heap.size (FI.map (Value.int .u32)).toArray).setRow (W.heap.size + 1) (KI.map (Value.int .u32)).toArray) (W.heap.size + 1 + 1) .u32 27 FI ∧ Blk ((wr.drew.setRow W.heap.size (FI.map (Value.int .u32)).toArray).setRow (W.heap.size + 1) (KI.map (Value.int .u32)).toArray) (W.heap.size + 1 + 1 + 1) .u32 48 KI) := ⟨HS.out.1.setRow_other _ (by omega), HS.out.2.setRow_other _ (by omega)⟩
          have B0 : Hid (Blk wr.drew W.heap.size .u32 27 Z) := b0.drew
          have H0 : Hid (Blk wr.drew (W.heap.size + 1 + 1) .u32 27 FI ∧ Blk wr.drew (W.heap.size + 1 + 1 + 1) .u32 48 KI) := ⟨b2.drew, b3.drew⟩
          clear b0 b1 b2 b3 hX HP
          go_wp2_with fail
          refine wp_region_held_drew (S := fun w => Blk w (W.heap.size + 1 + 1) .u32 27 FI ∧ Blk w (W.heap.size + 1 + 1 + 1) .u32 48 KI) (by kernel_rfl) H0.out (fun hHeld => ?_)
          refine wpAnyH_take (i := 0) (oi := { dst := some 26, op := Op.load 27 (Operand.tmp 2), type := 27, pos := "ref.go:102", after := #[], guard := none }) (v := .agg (FI.map (Value.int .u32)).toArray) rfl (by kernel_rfl) (by kernel_rfl) (by kernel_rfl) (fun _ _ _ h => h) (yieldsIf_load_mid (by rfl) _ _ rfl _ _ rfl _ _ (fun w hSw => hSw.1.row.range) Tryd.underlying27 rfl sF) (by assumption) ?_
          simp only [Act.put, List.setIfInBounds_toArray, List.set_cons_zero, List.set_cons_succ]
          refine wpAnyH_take (i := 1) (oi := { dst := some 27, op := Op.load 48 (Operand.tmp 3), type := 48, pos := "ref.go:102", after := #[{ on := 2, ground := Ground.gcOnly Departure.lateStores }], guard := none }) (v := .agg (KI.map (Value.int .u32)).toArray) rfl (by kernel_rfl) (by kernel_rfl) (by kernel_rfl) (fun _ _ _ h => h) (yieldsIf_load_mid (by rfl) _ _ rfl _ _ rfl _ _ (fun w hSw => hSw.2.row.range) Tryd.underlying48 rfl sK) (by assumption) ?_
          simp only [Act.put, List.setIfInBounds_toArray, List.set_cons_zero, List.set_cons_succ]
          refine wpAnyH_ready (rs := [2]) (by kernel_rfl) (by simp) (AllReadyH.cons (o := { dst := none, op := Op.store 27 (Operand.tmp 0) (Operand.tmp 26), type := 0, pos := "ref.go:102", after := #[{ on := 0, ground := Ground.data }, { on := 0, ground := Ground.phase }, { on := 1, ground := Ground.textOnly Departure.lateStores }], guard := none }) rfl (fun K hK => ?_) AllReadyH.nil)
          rw [if_pos (by rfl)]
          refine wp_store_blk 27 _ _ rfl W.heap.size FI rfl rfl B0.out wZ lZ ?_
          refine hK.out _ _ HS.out (fun hHeld => ?_)
          clear hK K
          simp only [Act.put]
          refine wpAnyH_ready (rs := [3]) (by kernel_rfl) (by simp) (AllReadyH.cons (o := { dst := none, op := Op.store 48 (Operand.tmp 1) (Operand.tmp 27), type := 0, pos := "ref.go:102", after := #[{ on := 1, ground := Ground.data }, { on := 2, ground := Ground.chain }, { on := 0, ground := Ground.phase }, { on := 1, ground := Ground.phase }, { on := 2, ground := Ground.phase }], guard := none }) rfl (fun K hK => ?_) AllReadyH.nil)
          rw [if_pos (by rfl)]
          refine wp_store_blk 48 _ _ rfl (W.heap.size + 1) KI rfl rfl B1.out wY lY ?_
          refine hK.out _ _ HS2.out (fun hHeld => ?_)
          clear hK K
          simp only [Act.put]
          refine wpAnyH_done (by kernel_rfl) ?_ _
          go_wp2_with fail
          refine ret_cells2 rfl rfl W.heap.size (W.heap.size + 1) FI KI rfl rfl HR.out.1 HR.out.2.1 Tryd.underlying27 Tryd.underlying48 (by rw [hFl]; exact size27) (by rw [hKl]; exact size48) ⟨?_, HR.out.2.2⟩
          rw [HFF.out, HKK.out]
end Go.Proofs.YtjkkelkblccolaaDoor
