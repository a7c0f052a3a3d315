import Derived.Test.YtdfnbcbnmiohnaaGreatDoorP19
import Derived.Test.YtdfnbcbnmiohnaaGreatDoorP01
namespace Go.Proofs.YtdfnbcbnmiohnaaGreatDoor.H
open Go.RowKit

theorem ret_cel2 {P : Program} {fn : Func} {p q : Tmp} {ty e : TypeId} {d : TypeDesc} {a : Act} {w : World} {post : Ending → World → Prop} (hr : fn.results = #[.cell p ty, .tmp q]) (hd : a.defers = []) (g : Nat) (cs : List Value)
    (hp : a.tmps.getD p undef = .pointer (some ⟨g, 0, none⟩)) (hb : Cel w g e cs) (hu : P.underlying ty = some d) (hdd : (match d with | .struct _ | .array _ _ => true | _ => false) = true) (hi : (P.info? ty).map (·.size) = some cs.length) (h : post (.returned (.tuple #[.agg cs.toArray, a.tmps.getD q undef])) w) :
    bodyPost P fn post .ret a w := by
  refine bodyPost_ret (v := .tuple #[.agg cs.toArray, a.tmps.getD q undef]) ?_ hd h
  have hp' : a.tmps[p]?.getD undef = .pointer (some ⟨g, 0, none⟩) := by simpa using hp
  have := run_loadVar_row (P := P) w g e ty _ (0, 0) _ hb hu hdd (by rw [hi]; simp)
  simp [results, hr, hp', asAddr, this]
theorem zero59_one : ∀ u ∈ zero59, u.oneCell' = true := rdC_one _ none 0 0 0
attribute [-simp] Tryz.isAgg196 Tryz.sizeOf196 Tryz.zeroValue196 Tryz.isAgg55 Tryz.sizeOf55 Tryz.zeroValue55
theorem Holds.notOwn {W w : World} {k : IntKind} {e t' : TypeId} {v : Value} {L : List Int} {g : Nat} {cs : List Value} (H : Holds W w k e v L) (hc : Cel w g t' cs) (hne : t' ≠ e) : v.ownBlock ≠ some g := fun hv => by
  rcases H.own.2 with ⟨rfl, _⟩ | ⟨g', cap, cur, rfl, _, hh, _⟩
  · cases hv
  · obtain rfl : g' = g := by simpa [Value.ownBlock] using hv
    have := Option.some.inj (hc.symm.trans hh)
    injection this with _ e2 _
    exact hne e2
theorem Holds.but {W w w' : World} {k : IntKind} {e t' : TypeId} {v : Value} {L : List Int} {g : Nat} {cs : List Value} (H : Holds W w k e v L) (hc : Cel w g t' cs) (hne : t' ≠ e) (hg : W.heap.size ≤ g) (hb : But g w w') : Holds W w' k e v L :=
  ⟨H.own.kept (row := some g) ⟨hb.os, hb.tape, hb.output, hb.size, fun j hj hn => hb.block j hj (fun h => hn (by rw [h]))⟩ (.inr (H.notOwn hc hne)), H.below.trans (hb.below hg H.below.size)⟩
theorem set_state (A : List Int) (v : Value) (n : Int) (i : Nat) (u : Int) (hi : i < A.length) : (rdC A v n).set i (.int .u32 u) = rdC (A.set i u) v n := by
  unfold rdC
  rw [List.set_append_left _ _ (by simpa using hi), List.map_set]
theorem set_num (A : List Int) (v : Value) (n n' : Int) (hA : A.length = 8) : (rdC A v n).set 9 (.int .i64 n') = rdC A v n' := by
  unfold rdC
  rw [List.set_append_right _ _ (by simp [hA])]
  simp [hA]
theorem Cel.set {w : World} {g : Nat} {e : TypeId} {cs : List Value} (h : Cel w g e cs) (j : Nat) (u : Value) : Cel (w.setCell ⟨g, j, none⟩ u) g e (cs.set j u) := by
  unfold Cel at h ⊢
  rw [heap_setCell_same w g j _ e _ h, tqA]
theorem loadOk_iff (ys : List Int) (hy : ys.length = 26) (wy : Wds ys) : LoadOk ys ↔ numL ys ≤ 36028797018963968 ∧ (16 ≤ numL ys ∨ ys.take 8 = S.First) ∧ ∀ j, 10 + numL ys % 16 ≤ j → j < 26 → ys.getD j 0 = 0 := by
  have hA : (ys.take 8).length = 8 := by rw [List.length_take]; omega
  have hw : (waitL ys).length = numL ys % 16 := by unfold waitL; rw [List.length_take, List.length_drop]; omega
  unfold LoadOk
  refine and_congr Iff.rfl (and_congr Iff.rfl ⟨fun h j h1 h2 => ?_, fun h => ?_⟩)
  · rw [← h]; exact saveL_z _ _ _ hA j (by rw [hw]; exact h1)
  · have hl : (saveL (ys.take 8) (numL ys) (waitL ys)).length = 26 := saveL_length _ _ _ hA (by omega)
    apply list_ext_getD (by rw [hl, hy])
    intro i hi
    rw [hl] at hi
    have w8 := wy 8
    have w9 := wy 9
    rcases (by omega : i < 8 ∨ i = 8 ∨ i = 9 ∨ (10 ≤ i ∧ i < 10 + numL ys % 16) ∨ (10 + numL ys % 16 ≤ i)) with c | rfl | rfl | ⟨c1, c2⟩ | c
    · rw [saveL_A _ _ _ hA i c, getD_take c]
    · rw [saveL_n8 _ _ _ hA]; unfold numL; omega
    · rw [saveL_n9 _ _ _ hA]; unfold numL; omega
    · obtain ⟨j, rfl⟩ : ∃ j, i = 10 + j := ⟨i - 10, by omega⟩
      rw [saveL_p _ _ _ hA j (by omega)]
      unfold waitL
      rw [getD_take (by omega), getD_drop]
    · rw [saveL_z _ _ _ hA i (by omega), h i c hi]
theorem wp_append_keep {P : Program} {W w : World} {o : Oper} {a : Act} {K : Act → World → Prop} {Q : Exit → Act → World → Prop} (s x : Operand) (t : TypeId)
    (ho : o.op = .call { callee := .builtin .append, args := #[s, x], argTypes := #[t, t] }) (k : IntKind) (e : TypeId) (i : TypeInfo) (z : Value) (bytes : Nat) (ht : P.underlying t = some (.slice e)) (hi : P.info? e = some i) (hz : i.zero = some z) (hsize : i.size = 1) (hby : i.bytes = bytes) (hzs : z.cells.size = 1)
    (v : Value) (L : List Int) (hs : a.eval s = v) (H : Holds W w k e v L) (gs m c : Nat) (xs : List Int) (hx : a.eval x = .slice (some ⟨gs, 0, none⟩) m c) (hl : xs.length = m) (hgs : Row w k gs 0 xs) (h63 : L.length + m ≤ maxLen) (hbytes : (L.length + m) * bytes ≤ 140737488355328)
    (h : ∀ v' w', Holds W w' k e v' (L ++ xs) → (∀ g t' cs, t' ≠ e → Cel w g t' cs → Cel w' g t' cs) → K (a.put o.dst v') w') : o.wp P a w K Q := by
  obtain ⟨v', w', hr, h1, h2, _⟩ := run_append_own (P := P) w W.heap.size t o.type e i z 1 bytes ht hi hz hsize hby hzs (by decide) v L.length _ H.own ⟨gs, 0, none⟩ m c (xs.map (Value.int k)) (by simp [hl]) (fun j v hv => by rw [Addr.add_mid]; exact hgs.range j v hv) (ints_oneCell k xs) h63 hbytes H.below.size
  have hH : Holds W w' k e v' (L ++ xs) := Holds.grow H.below (fun g hg => (H.own.lt g hg).1) h1 h2 (by simp [hl]) (by simp)
  have hk : ∀ g t' cs, t' ≠ e → Cel w g t' cs → Cel w' g t' cs := fun g t' cs hne hc => (h2.block g hc.lt (Ne.symm (H.notOwn hc hne))).trans hc
  unfold Oper.wp execOp
  simp only [ho, resolve, invoke, builtin, Sem.run_bind, Sem.run_pure, Result.andThen_ok, List.map_toArray, List.map_cons, List.map_nil, hs, hx, hr]
  exact h _ _ hH hk
set_option maxRecDepth 200000 in
set_option maxHeartbeats 8000000 in
theorem rload_any (W : World) (b off c : Nat) (ys : List Int) (hy : ys.length = 26) (wy : Wds ys) (h1 : Row W .u32 b off ys) (hb : b < W.heap.size) :
    Calls Tryz.prog 142 #[.slice (some ⟨b, off, none⟩) 26 c] W fun e w => Below W.heap.size W w ∧ ((LoadOk ys ∧ ∃ ao' c', e = .returned (.tuple #[.agg (rdC (ys.take 8) (.slice ao' (waitL ys).length c') (numL ys : Int)).toArray, .int .i64 0]) ∧ (waitL ys).length ≤ c' ∧ WatN W.heap.size w ao' (waitL ys)) ∨ (¬ LoadOk ys ∧ e = .returned (.tuple #[.agg zero59.toArray, .int .i64 20]))) := by
  obtain ⟨i0, hi, hz0, hz1, hz2⟩ := info_parts Tryz.info43
  obtain ⟨Z, hZ⟩ : ∃ Z : List Value, Z = zero59 := ⟨_, rfl⟩
  have hz : ∀ w, (zeroValue 196).run Tryz.prog w = .ok (.agg Z.toArray) w := fun w => by rw [Tryz.zeroValue196, hZ]; rfl
  have hZl : Z.length = 10 := by rw [hZ]; rfl
  have HZ1 : Hid (∀ u ∈ Z, u.oneCell' = true) := by unfold Hid; rw [hZ]; exact zero59_one
  have CR0 : Cel ((W.alloc (.cells Z.toArray 196)).alloc (.cells Z.toArray 196)) W.heap.size 196 Z := (show Cel (W.alloc _) W.heap.size 196 _ from heap_alloc_new _ _).below (below_one _ _) (by simp)
  have CD0 : Cel ((W.alloc (.cells Z.toArray 196)).alloc (.cells Z.toArray 196)) (W.heap.size + 1) 196 (rdC [0, 0, 0, 0, 0, 0, 0, 0] (.slice none 0 0) 0) := by
    have := heap_alloc_new (W.alloc (Obj.cells Z.toArray 196)) (Obj.cells Z.toArray 196)
    rw [show (W.alloc (Obj.cells Z.toArray 196)).heap.size = W.heap.size + 1 by simp] at this
    unfold Cel
    rw [this, hZ]
    rfl
  have HB0 : Below W.heap.size W ((W.alloc (.cells Z.toArray 196)).alloc (.cells Z.toArray 196)) := (below_one W _).alloc (by simp) _
  rw [← hZ]
  clear hZ
  obtain ⟨A, hA⟩ : ∃ A, A = ys.take 8 := ⟨_, rfl⟩
  have hAl : A.length = 8 := by rw [hA, List.length_take]; omega
  have U0 : Upto [0, 0, 0, 0, 0, 0, 0, 0] A 0 := Upto.start A 8 hAl
  have tA : ∀ j, j < 8 → A.getD j 0 = ys.getD j 0 := fun j hj => by rw [hA]; exact getD_take hj
  have z27 := Tryz.sizeOf55
  have HA : Hid (A = ys.take 8) := hA
  have H1 : Hid (Row W .u32 b off ys) := h1
  rw [← hA]
  clear hA h1
  go_enter Tryz.func142, Tryz.ntmps142
  go_wp2
  generalize (W.alloc _).alloc _ = w0 at *
  go_loopw [5] (fun i wr => ∃ (t : Nat) (L : List Int), t ≤ 8 ∧ i = .int .i64 (t : Int) ∧ Upto L A t ∧ Cel wr W.heap.size 196 Z ∧ Cel wr (W.heap.size + 1) 196 (rdC L (.slice none 0 0) 0) ∧ Below W.heap.size W wr) (fun i _ => 8 - (intOf i).toNat)
  case atStart => exact ⟨0, _, by decide, rfl, U0, CR0, CD0, HB0⟩
  case round =>
    clear U0 CR0 CD0 HB0
    obtain ⟨t, L, ht, rfl, U, CR, CD, hX⟩ := hrel
    have hLl : L.length = 8 := by rw [U.len, hAl]
    by_cases hlt : t < 8
    · have cy := H1.out.below hX hb t (by omega)
      have cd := CD.rowA t (by omega)
      rw [Nat.zero_add] at cd
      have fd := CD.free t
      have UN : Hid (Upto (L.set t (ys.getD t 0)) A (t + 1)) := U.step (by omega) _ (tA t hlt).symm
      have CRN : Hid (Cel (wr.setCell ⟨W.heap.size + 1, t, none⟩ (.int .u32 (ys.getD t 0))) W.heap.size 196 Z) := CR.but (but_setCell _ _ _ _) (by omega)
      have CDN : Hid (Cel (wr.setCell ⟨W.heap.size + 1, t, none⟩ (.int .u32 (ys.getD t 0))) (W.heap.size + 1) 196 (rdC (L.set t (ys.getD t 0)) (.slice none 0 0) 0)) := by
        unfold Hid
        rw [← set_state L (.slice none 0 0) 0 t _ (by omega)]
        exact CD.set t _
      have HXN : Hid (Below W.heap.size W (wr.setCell ⟨W.heap.size + 1, t, none⟩ (.int .u32 (ys.getD t 0)))) := hX.setCell (show W.heap.size ≤ W.heap.size + 1 by omega) _
      clear U CR CD hX tA
      generalize ys.getD t 0 = x at *
      generalize L.getD t 0 = x' at *
      have q0 : (t : Int) < 8 := by omega
      go_wp2
      go_roundw
      case rel => exact ⟨t + 1, _, by omega, by go_num, UN.out, CRN.out, CDN.out, HXN.out⟩
      case measure => simp [intOf]; omega
    · obtain rfl : t = 8 := by omega
      rw [show ((8 : Nat) : Int) = 8 from rfl]
      obtain rfl := U.full (fun j hj => by simp [List.getD_eq_getElem?_getD, List.getElem?_eq_none (show A.length ≤ j by omega)])
      have d8 := H1.out.below hX hb 8 (by omega)
      have d9 := H1.out.below hX hb 9 (by omega)
      obtain ⟨x0, x1⟩ := wy 8
      obtain ⟨y0, y1⟩ := wy 9
      obtain ⟨n, hn⟩ : ∃ n, n = numL ys := ⟨_, rfl⟩
      have hnum : (n : Int) = ys.getD 8 0 * 4294967296 + ys.getD 9 0 := by rw [hn]; unfold numL; omega
      have HN : Hid (n = numL ys) := hn
      clear hn U tA
      generalize ys.getD 8 0 = x at *
      generalize ys.getD 9 0 = y at *
      have vx : IntKind.u64.wrap (x * 4294967296) = x * 4294967296 := by rw [IntKind.wrap_u64]; omega
      have vx1 : IntKind.u64.wrap x = x := by rw [IntKind.wrap_u64]; omega
      have vy1 : IntKind.u64.wrap y = y := by rw [IntKind.wrap_u64]; omega
      have vs : IntKind.u64.wrap (x * 4294967296 + y) = (n : Int) := by rw [IntKind.wrap_u64]; omega
      have n64 : (n : Int) < 18446744073709551616 := by omega
      have CR1 : Hid (Cel wr W.heap.size 196 Z) := CR
      have CD1 : Hid (Cel wr (W.heap.size + 1) 196 (rdC L (.slice none 0 0) 0)) := CD
      have HX1 : Hid (Below W.heap.size W wr) := hX
      clear CR CD hX hnum
      go_wp2
      go_quiet (fail)
      have hb2 : Below wr.heap.size wr (wr.drewN nq) := below_drewN (Below.refl _ _) nq
      have CR2 := CR1.out.below hb2 CR1.out.lt
      have CD2 := CD1.out.below hb2 CD1.out.lt
      have hX2 := HX1.out.trans (hb2.mono HX1.out.size)
      clear hb2 CR1 CD1 HX1 d8 d9 vx vx1 vy1 vs x0 x1 y0 y1
      generalize wr.drewN nq = w2 at *
      go_upto_region 9 with fail
      have BX : Hid (Below w2.heap.size w2 w2.drew) := (Below.refl _ _).drew
      have BQ : Hid (∀ k, Below w2.heap.size w2 (w2.drewN k)) := fun k => below_drewN (Below.refl _ _) k
      have CD2' : Hid (Cel w2 (W.heap.size + 1) 196 (rdC L (.slice none 0 0) 0)) := CD2
      have CR2' : Hid (Cel w2 W.heap.size 196 Z) := CR2
      have HX2 : Hid (Below W.heap.size W w2) := hX2
      clear CD2 CR2 hX2
      go_cut [44] (fun c w => c = .bool (decide (36028797018963968 < n ∨ (n < 16 ∧ L ≠ S.First))) ∧ Below w2.heap.size w2 w)
      case first =>
        by_cases hfar : 36028797018963968 < n
        · have i1 : (36028797018963968 : Int) < (n : Int) := by omega
          have d1 : decide ((36028797018963968 : Int) < (n : Int)) = true := by simp; omega
          have HD : Hid (true = decide (36028797018963968 < n ∨ (n < 16 ∧ L ≠ S.First))) := (decide_eq_true (.inl hfar)).symm
          go_quiet (fail)
          go_wp2
          go_meet
          exact ⟨congrArg Value.bool HD.out, BQ.out _⟩
        · have i1 : (n : Int) ≤ 36028797018963968 := by omega
          have d1 : decide ((36028797018963968 : Int) < (n : Int)) = false := by simp; omega
          by_cases hlow : n < 16
          · have i2 : (n : Int) < 16 := by omega
            have d2 : decide ((n : Int) < 16) = true := by simp; omega
            obtain ⟨N, hN⟩ : ∃ N : Nat, N = 8 := ⟨_, rfl⟩
            have a27 := Tryz.isAgg55
            rw [← hN] at z27
            have n0 : ¬ N = 0 := by omega
            have ld1 : ∀ w, Below w2.heap.size w2 w → (loadCellsFrom ⟨W.heap.size + 1, 0, none⟩ 0 N #[]).run Tryz.prog w = .ok (L.map (Value.int .u32)).toArray w := fun w hw => cells_row (CD2'.out.below hw CD2'.out.lt).rowA N (by rw [hLl, hN])
            have e1 := eq27 L S.First hLl rfl
            obtain ⟨FI, hFI⟩ : ∃ FI, FI = S.First := ⟨_, rfl⟩
            have FS : Hid (∀ w, Below w2.heap.size w2 w → Calls Tryz.prog 145 #[] w fun e w' => e = .returned (.agg (FI.map (Value.int .u32)).toArray) ∧ Below w2.heap.size w2 w') := fun w hw => by
              rw [hFI]
              refine (rfirst_any w).mono ?_
              rintro e w' ⟨rfl, hb⟩
              exact ⟨rfl, hw.trans (hb.mono hw.size)⟩
            have HD : Hid (decide (¬ L = FI) = decide (36028797018963968 < n ∨ (n < 16 ∧ L ≠ S.First))) := by
              unfold Hid
              rw [hFI]
              apply decide_eq_decide.2
              exact ⟨fun h => .inr ⟨hlow, h⟩, fun h => h.elim (fun h => absurd h hfar) (·.2)⟩
            rw [← hFI] at e1
            clear hFI hN
            by_cases hF : L = FI
            · rw [decide_eq_true hF] at e1
              rw [decide_eq_false (fun h => h hF)] at HD
              clear hF
              go_region_held3 (fun w => Below w2.heap.size w2 w) (first | (exact BX.out) | (exact hwa)) (first | (go_at_call 145; refine (FS.out _ BX.out).mono ?_; rintro en wa ⟨rfl, hwa⟩))
              go_wp2
              go_meet
              exact ⟨congrArg Value.bool HD.out, hwa⟩
            · rw [decide_eq_false hF] at e1
              rw [decide_eq_true hF] at HD
              clear hF
              go_region_held3 (fun w => Below w2.heap.size w2 w) (first | (exact BX.out) | (exact hwa)) (first | (go_at_call 145; refine (FS.out _ BX.out).mono ?_; rintro en wa ⟨rfl, hwa⟩))
              go_wp2
              go_meet
              exact ⟨congrArg Value.bool HD.out, hwa⟩
          · have i2 : (16 : Int) ≤ (n : Int) := by omega
            have d2 : decide ((n : Int) < 16) = false := by simp; omega
            have HD : Hid (false = decide (36028797018963968 < n ∨ (n < 16 ∧ L ≠ S.First))) := (decide_eq_false (by rintro (h | ⟨h, _⟩) <;> omega)).symm
            go_quiet (fail)
            go_wp2
            go_meet
            exact ⟨congrArg Value.bool HD.out, BQ.out _⟩
      case rest =>
        obtain ⟨rfl, hb3⟩ := hcut
        have CR3 := CR2'.out.below hb3 CR2'.out.lt
        have CD3 := CD2'.out.below hb3 CD2'.out.lt
        have hX3 := HX2.out.trans (hb3.mono HX2.out.size)
        clear hb3 CR2' CD2' HX2 BX BQ
        by_cases hbad : 36028797018963968 < n ∨ (n < 16 ∧ L ≠ S.First)
        · rw [decide_eq_true hbad]
          have NO : Hid (¬ LoadOk ys) := fun h => by
            have h1 := h.1
            have h2 := h.2.1
            rw [← HN.out] at h1 h2
            rw [← HA.out] at h2
            rcases hbad with h' | ⟨h', h''⟩
            · omega
            · rcases h2 with h2 | h2
              · omega
              · exact h'' h2
          have CR : Hid (Cel wc W.heap.size 196 Z) := CR3
          have HX : Hid (Below W.heap.size W wc) := hX3
          clear hbad CR3 CD3 hX3
          go_wp2_with (first | (refine wpList_store_cel rfl 196 _ _ rfl W.heap.size Z rfl rfl CR.out (by rw [hZl]; exact size59) rfl HZ1.out ?_; intro w5 hc5 hb5 hs5))
          refine ret_cel2 rfl rfl W.heap.size Z rfl hc5 Tryz.underlying196 rfl (by rw [hZl]; exact size59) ⟨HX.out.trans (hb5.below (Nat.le_refl _) HX.out.size), .inr ⟨NO.out, rfl⟩⟩
        · rw [decide_eq_false hbad]
          have OK2 : numL ys ≤ 36028797018963968 ∧ (16 ≤ numL ys ∨ ys.take 8 = S.First) := by
            rw [← HN.out, ← HA.out]
            refine ⟨by omega, ?_⟩
            by_cases h : 16 ≤ n
            · exact .inl h
            · exact .inr (Classical.byContradiction fun h' => hbad (.inr ⟨by omega, h'⟩))
          have hn55 : n ≤ 36028797018963968 := by rw [HN.out]; exact OK2.1
          have OK : Hid (numL ys ≤ 36028797018963968 ∧ (16 ≤ numL ys ∨ ys.take 8 = S.First)) := OK2
          have LI : Hid (LoadOk ys ↔ numL ys ≤ 36028797018963968 ∧ (16 ≤ numL ys ∨ ys.take 8 = S.First) ∧ ∀ j, 10 + numL ys % 16 ≤ j → j < 26 → ys.getD j 0 = 0) := loadOk_iff ys hy wy
          clear OK2 hbad wy
          have i1 : (n : Int) ≤ 36028797018963968 := by omega
          have c9 := CD3.num hLl
          have f9 := CD3.free 9
          have CD4 : Hid (Cel (wc.setCell ⟨W.heap.size + 1, 9, none⟩ (.int .i64 (n : Int))) (W.heap.size + 1) 196 (rdC L (.slice none 0 0) (n : Int))) := by
            unfold Hid
            rw [← set_num L (.slice none 0 0) 0 (n : Int) hLl]
            exact CD3.set 9 _
          have CR4 : Hid (Cel (wc.setCell ⟨W.heap.size + 1, 9, none⟩ (.int .i64 (n : Int))) W.heap.size 196 Z) := CR3.but (but_setCell _ _ _ _) (by omega)
          have HX4 : Hid (Below W.heap.size W (wc.setCell ⟨W.heap.size + 1, 9, none⟩ (.int .i64 (n : Int)))) := hX3.setCell (show W.heap.size ≤ W.heap.size + 1 by omega) _
          clear CD3 CR3 hX3
          go_wp2
          generalize wc.setCell _ _ = w4 at *
          clear c9 f9
          go_loopw [7] (fun i wr => ∃ (t : Nat) (v : Value), 10 ≤ t ∧ t ≤ 26 ∧ i = .int .i64 (t : Int) ∧ Holds W wr .u32 43 v ((ys.drop 10).take (min (t - 10) (n % 16))) ∧ Cel wr W.heap.size 196 Z ∧ Cel wr (W.heap.size + 1) 196 (rdC L v (n : Int)) ∧ ∀ j, 10 + n % 16 ≤ j → j < t → ys.getD j 0 = 0) (fun i _ => 26 - (intOf i).toNat)
          case atStart => exact ⟨10, .slice none 0 0, Nat.le_refl _, by decide, rfl, ⟨World.ownsRow_nil _ _ _ _, HX4.out⟩, CR4.out, CD4.out, fun j h1 h2 => by omega⟩
          case round =>
            clear CD4 CR4 HX4
            obtain ⟨t, v, ht0, ht, rfl, F, CR, CD, hz0'⟩ := hrel
            obtain ⟨r, hr⟩ : ∃ r, r = n % 16 := ⟨_, rfl⟩
            rw [← hr] at F hz0'
            have HR : Hid (r = n % 16) := hr
            have e0 : (n : Int) % 16 = (r : Int) := by omega
            have hr16 : r < 16 := by omega
            clear hr
            by_cases hlt : t < 26
            · have cy := H1.out.below F.below hb t (by omega)
              have q0 : (t : Int) < 26 := by omega
              by_cases htr : t < 10 + r
              · have q1 : (t : Int) < 10 + (r : Int) := by omega
                rw [show min (t - 10) r = t - 10 by omega] at F
                have hLt : ((ys.drop 10).take (t - 10)).length = t - 10 := by rw [List.length_take, List.length_drop]; omega
                have hmore : ((ys.drop 10).take (t - 10)) ++ [ys.getD t 0] = (ys.drop 10).take (min (t + 1 - 10) r) := by
                  rw [show min (t + 1 - 10) r = (t - 10) + 1 by omega, List.take_succ_eq_append_getElem (by rw [List.length_drop]; omega)]
                  simp [List.getD_eq_getElem?_getD, show 10 + (t - 10) = t by omega, show t < ys.length by omega]
                have HMORE : Hid (((ys.drop 10).take (t - 10)) ++ [ys.getD t 0] = (ys.drop 10).take (min (t + 1 - 10) r)) := hmore
                have h63 : ((ys.drop 10).take (t - 10)).length + 1 ≤ maxLen := by rw [hLt]; unfold maxLen; omega
                have hby : (((ys.drop 10).take (t - 10)).length + 1) * 4 ≤ 140737488355328 := by rw [hLt]; omega
                have HYR : Hid (Row W .u32 b off ys) := H1.out
                generalize hxt : ys.getD t 0 = x at *
                have HXT : Hid (ys.getD t 0 = x) := hxt
                clear hxt hmore hLt
                have c8 := CD.wait hLl
                have cy' : wr.drew.cell? ⟨b, off + t, none⟩ = some (.int .u32 x) := cy
                have FA : Hid (Holds W (wr.drew.alloc (Obj.cells #[.int .u32 x] 43)) .u32 43 v ((ys.drop 10).take (t - 10))) := (show Holds W wr.drew .u32 43 v ((ys.drop 10).take (t - 10)) from ⟨F.own, F.below.drew⟩).alloc _
                have RW : Hid (Row (wr.drew.alloc (Obj.cells #[.int .u32 x] 43)) .u32 wr.heap.size 0 [x]) := row_new wr.drew .u32 43 [x] _ rfl
                have CYA : Hid ((wr.drew.alloc (Obj.cells #[.int .u32 x] 43)).cell? ⟨b, off + t, none⟩ = some (.int .u32 x)) := by
                  have := HYR.out.below FA.out.below hb t (by omega)
                  rw [HXT.out] at this
                  exact this
                have c8a : (wr.drew.alloc (Obj.cells #[.int .u32 x] 43)).cell? ⟨W.heap.size + 1, 8, none⟩ = some v := ((show Cel wr.drew (W.heap.size + 1) 196 (rdC L v (n : Int)) from CD).below (below_one _ _) CD.lt).wait hLl
                have c8b : (wr.alloc (Obj.cells #[.int .u32 x] 43)).cell? ⟨W.heap.size + 1, 8, none⟩ = some v := (CD.below (below_one _ _) CD.lt).wait hLl
                have CDA : Hid (Cel (wr.drew.alloc (Obj.cells #[.int .u32 x] 43)) (W.heap.size + 1) 196 (rdC L v (n : Int))) := (show Cel wr.drew (W.heap.size + 1) 196 (rdC L v (n : Int)) from CD).below (below_one _ _) CD.lt
                have CRA : Hid (Cel (wr.drew.alloc (Obj.cells #[.int .u32 x] 43)) W.heap.size 196 Z) := (show Cel wr.drew W.heap.size 196 Z from CR).below (below_one _ _) CR.lt
                have AFT : Hid (∀ v' w3, Holds W w3 .u32 43 v' (((ys.drop 10).take (t - 10)) ++ [x]) → (∀ g t' cs, t' ≠ 43 → Cel (wr.drew.alloc (Obj.cells #[.int .u32 x] 43)) g t' cs → Cel w3 g t' cs) → w3.cell? ⟨b, off + t, none⟩ = some (.int .u32 x) ∧ w3.cell? ⟨W.heap.size + 1, 8, none⟩ = some v ∧ w3.frozen? ⟨W.heap.size + 1, 8, none⟩ = false ∧ ∀ u : Value, (w3.setCell ⟨W.heap.size + 1, 8, none⟩ u).cell? ⟨b, off + t, none⟩ = some (.int .u32 x) ∧ (u = v' → Holds W (w3.setCell ⟨W.heap.size + 1, 8, none⟩ u) .u32 43 u ((ys.drop 10).take (min (t + 1 - 10) (n % 16))) ∧ Cel (w3.setCell ⟨W.heap.size + 1, 8, none⟩ u) W.heap.size 196 Z ∧ Cel (w3.setCell ⟨W.heap.size + 1, 8, none⟩ u) (W.heap.size + 1) 196 (rdC L u (n : Int)) ∧ ∀ j, 10 + n % 16 ≤ j → j < t + 1 → ys.getD j 0 = 0)) := fun v' w3 H3 K3 => by
                  have CD3 := K3 _ 196 _ (by decide) CDA.out
                  have CR3 := K3 _ 196 _ (by decide) CRA.out
                  have cy3 : ∀ w, Below W.heap.size W w → w.cell? ⟨b, off + t, none⟩ = some (.int .u32 x) := fun w hw => by
                    have := HYR.out.below hw hb t (by omega)
                    rwa [HXT.out] at this
                  refine ⟨cy3 w3 H3.below, CD3.wait hLl, CD3.free 8, fun u => ⟨cy3 _ (H3.below.setCell (show W.heap.size ≤ W.heap.size + 1 by omega) _), fun hu => ?_⟩⟩
                  subst hu
                  rw [← HR.out]
                  refine ⟨?_, CR3.but (but_setCell _ _ _ _) (by omega), ?_, fun j h1 h2 => by omega⟩
                  · rw [← HMORE.out]
                    exact H3.but CD3 (by decide) (by omega) (but_setCell _ _ _ _)
                  · rw [← set_wait L v u (n : Int) hLl]
                    exact CD3.set 8 _
                clear F CD CR cy
                go_wp2_with fail
                refine wp_region_held_drew (S := fun w => w.cell? ⟨b, off + t, none⟩ = some (.int .u32 x)) (by kernel_rfl) cy' (fun hHeld => ?_)
                refine tk 0 (some 59) (.pointer (some ⟨W.heap.size + 1, 8, none⟩)) ?_
                simp only [Act.put, tqA, tqZ, tqS]
                refine tk 2 (some 61) (.slice (some ⟨b, off, none⟩) 26 c) ?_
                simp only [Act.put, tqA, tqZ, tqS]
                refine tk 3 (some 62) (.int .i64 (t : Int)) ?_
                simp only [Act.put, tqA, tqZ, tqS]
                refine tk 4 (some 63) (.pointer (some ⟨b, off + t, none⟩)) ?_
                simp only [Act.put, tqA, tqZ, tqS]
                refine tk 5 (some 64) (.int .u32 x) ?_
                simp only [Act.put, tqA, tqZ, tqS]
                refine wpAnyH_ready (rs := [1, 6]) (by kernel_rfl) (by simp) (AllReadyH.cons rfl (fun K hK => ?_) (AllReadyH.cons rfl (fun K hK => ?_) AllReadyH.nil))
                · go_simp
                  refine hK.out _ _ cy' (fun hHeld => ?_)
                  clear hK K
                  try simp only [Act.put, tqA, tqZ, tqS]
                  refine wpAnyH_ready (rs := [6]) (by kernel_rfl) (by simp) (AllReadyH.cons rfl (fun K hK => ?_) AllReadyH.nil)
                  go_simp
                  refine hK.out _ _ CYA.out (fun hHeld => ?_)
                  clear hK K
                  try simp only [Act.put, tqA, tqZ, tqS]
                  refine wpAnyH_ready (rs := [7]) (by kernel_rfl) (by simp) (AllReadyH.cons rfl (fun K hK => ?_) AllReadyH.nil)
                  rw [if_pos (by rfl)]
                  refine wp_append_keep (W := W) _ _ 51 rfl .u32 43 i0 (.int .u32 0) 4 Tryz.underlying51 hi hz0 hz1 hz2 rfl v _ rfl FA.out wr.heap.size 1 1 [x] rfl rfl RW.out h63 hby ?_
                  intro v' w3 H3 K3
                  have W3 := H3.wat
                  obtain ⟨ao3, cap3, hv3, _, _⟩ := W3
                  generalize (List.take (t - 10) (List.drop 10 ys) ++ [x]).length = len3 at hv3
                  subst hv3
                  have AF := AFT.out _ w3 H3 K3
                  obtain ⟨cy3, c83, f83, HN3⟩ := AF
                  refine hK.out _ _ cy3 (fun hHeld => ?_)
                  clear hK K
                  try simp only [Act.put, tqA]
                  refine tk 8 (some 67) (.pointer (some ⟨W.heap.size + 1, 8, none⟩)) ?_
                  simp only [Act.put]
                  refine wpAnyH_ready (rs := [9]) (by kernel_rfl) (by simp) (AllReadyH.cons rfl (fun K hK => ?_) AllReadyH.nil)
                  go_simp
                  refine hK.out _ _ (HN3 _).1 (fun hHeld => ?_)
                  clear hK K
                  refine wpAnyH_done (by kernel_rfl) ?_ _
                  have HN4 : Hid _ := (HN3 _).2 rfl
                  clear HN3 cy3 c83 f83 H3 K3 hHeld
                  go_wp2
                  refine ⟨⟨t + 1, _, by omega, by omega, by go_num, HN4.out⟩, ?_⟩
                  simp [intOf]; omega
                · go_simp
                  refine hK.out _ _ CYA.out (fun hHeld => ?_)
                  clear hK K
                  try simp only [Act.put, tqA, tqZ, tqS]
                  refine wpAnyH_ready (rs := [1]) (by kernel_rfl) (by simp) (AllReadyH.cons rfl (fun K hK => ?_) AllReadyH.nil)
                  go_simp
                  refine hK.out _ _ CYA.out (fun hHeld => ?_)
                  clear hK K
                  try simp only [Act.put, tqA, tqZ, tqS]
                  refine wpAnyH_ready (rs := [7]) (by kernel_rfl) (by simp) (AllReadyH.cons rfl (fun K hK => ?_) AllReadyH.nil)
                  rw [if_pos (by rfl)]
                  refine wp_append_keep (W := W) _ _ 51 rfl .u32 43 i0 (.int .u32 0) 4 Tryz.underlying51 hi hz0 hz1 hz2 rfl v _ rfl FA.out wr.heap.size 1 1 [x] rfl rfl RW.out h63 hby ?_
                  intro v' w3 H3 K3
                  have W3 := H3.wat
                  obtain ⟨ao3, cap3, hv3, _, _⟩ := W3
                  generalize (List.take (t - 10) (List.drop 10 ys) ++ [x]).length = len3 at hv3
                  subst hv3
                  have AF := AFT.out _ w3 H3 K3
                  obtain ⟨cy3, c83, f83, HN3⟩ := AF
                  refine hK.out _ _ cy3 (fun hHeld => ?_)
                  clear hK K
                  try simp only [Act.put, tqA]
                  refine tk 8 (some 67) (.pointer (some ⟨W.heap.size + 1, 8, none⟩)) ?_
                  simp only [Act.put]
                  refine wpAnyH_ready (rs := [9]) (by kernel_rfl) (by simp) (AllReadyH.cons rfl (fun K hK => ?_) AllReadyH.nil)
                  go_simp
                  refine hK.out _ _ (HN3 _).1 (fun hHeld => ?_)
                  clear hK K
                  refine wpAnyH_done (by kernel_rfl) ?_ _
                  have HN4 : Hid _ := (HN3 _).2 rfl
                  clear HN3 cy3 c83 f83 H3 K3 hHeld
                  go_wp2
                  refine ⟨⟨t + 1, _, by omega, by omega, by go_num, HN4.out⟩, ?_⟩
                  simp [intOf]; omega
              · have q1 : decide ((t : Int) < 10 + (r : Int)) = false := by simp; omega
                have NT : Hid (10 ≤ t ∧ t < 26 ∧ 10 + r ≤ t ∧ r < 16) := ⟨ht0, hlt, by omega, hr16⟩
                have CR' : Hid (Cel wr W.heap.size 196 Z) := CR
                have CD' : Hid (Cel wr (W.heap.size + 1) 196 (rdC L v (n : Int))) := CD
                have FH : Hid (Holds W wr .u32 43 v ((ys.drop 10).take (min (t + 1 - 10) r))) := by
                  unfold Hid
                  rw [show min (t + 1 - 10) r = min (t - 10) r by omega]
                  exact F
                have HZ0 : Hid (∀ j, 10 + r ≤ j → j < t → ys.getD j 0 = 0) := hz0'
                have HYT : Hid (ys.getD t 0 = ys.getD t 0) := rfl
                obtain ⟨y, hyt⟩ : ∃ y, y = ys.getD t 0 := ⟨_, rfl⟩
                rw [← hyt] at cy
                have HYE : Hid (y = ys.getD t 0) := hyt
                have i3 : (r : Int) < 16 := by omega
                clear F CR CD hz0' hyt ht0 ht htr hlt hr16
                by_cases hy0 : y = 0
                · have HY0 : Hid (y = 0) := hy0
                  go_wp2
                  go_roundw
                  case rel =>
                    obtain ⟨ht0, hlt, htr, hr16⟩ := NT.out
                    refine ⟨t + 1, v, by omega, by omega, by go_num, by rw [← HR.out]; exact FH.out, CR'.out, CD'.out, fun j h1 h2 => ?_⟩
                    rw [← HR.out] at h1
                    by_cases hjt : j = t
                    · subst hjt; rw [← HYE.out]; exact HY0.out
                    · exact HZ0.out j h1 (by omega)
                  case measure =>
                    obtain ⟨ht0, hlt, htr, hr16⟩ := NT.out
                    simp [intOf]; omega
                · have NO : Hid (¬ LoadOk ys) := fun h => by
                    have := (LI.out.1 h).2.2 t (by rw [← HN.out, ← HR.out]; exact NT.out.2.2.1) NT.out.2.1
                    rw [← HYE.out] at this
                    exact hy0 this
                  have HX : Hid (Below W.heap.size W wr) := FH.out.below
                  have dy : (y != 0) = true := by simpa using hy0
                  clear hy0 FH HZ0 HYT OK LI i3 NT HA H1
                  go_upto_if 72 with fail
                  clear dy
                  go_wp2_with (first | (refine wpList_store_cel rfl 196 _ _ rfl W.heap.size Z rfl rfl CR'.out (by rw [hZl]; exact size59) rfl HZ1.out ?_; intro w5 hc5 hb5 hs5))
                  refine ret_cel2 rfl rfl W.heap.size Z rfl hc5 Tryz.underlying196 rfl (by rw [hZl]; exact size59) ⟨HX.out.trans (hb5.below (Nat.le_refl _) HX.out.size), .inr ⟨NO.out, rfl⟩⟩
            · obtain rfl : t = 26 := by omega
              have hwl : (ys.drop 10).take (min (26 - 10) r) = waitL ys := by
                unfold waitL
                rw [← HN.out, ← HR.out, show min (26 - 10) r = r by omega]
              rw [hwl] at F
              have WT := F.watN
              obtain ⟨ao3, cap3, rfl, hc3, wat3⟩ := WT
              have YES : Hid (LoadOk ys) := LI.out.2 ⟨OK.out.1, OK.out.2, fun j h1 h2 => hz0' j (by rw [← HN.out, ← HR.out] at h1; exact h1) h2⟩
              have H1' : Hid (∀ u ∈ rdC L (.slice ao3 (waitL ys).length cap3) (n : Int), u.oneCell' = true) := rdC_one L ao3 _ cap3 n
              have hl := rdC_length L (.slice ao3 (waitL ys).length cap3) (n : Int) hLl
              have CR' : Hid (Cel wr W.heap.size 196 Z) := CR
              have CD' : Hid (Cel wr (W.heap.size + 1) 196 (rdC L (.slice ao3 (waitL ys).length cap3) (n : Int))) := CD
              have HX : Hid (Below W.heap.size W wr) := F.below
              have WA : Hid (WatN W.heap.size wr ao3 (waitL ys)) := wat3
              have HC3 : Hid ((waitL ys).length ≤ cap3) := hc3
              clear F CR CD wat3 hc3 hz0' hwl e0
              rw [show ((26 : Nat) : Int) = 26 from rfl]
              go_wp2_with (first | (refine wpList_load_cel rfl 196 _ rfl (W.heap.size + 1) _ rfl CD'.out Tryz.underlying196 rfl (by rw [hl]; exact size59) ?_) | (refine wpList_store_cel rfl 196 _ _ rfl W.heap.size _ rfl rfl CR'.out (by rw [hl]; exact size59) (by rw [hl, hZl]) H1'.out ?_; intro w5 hc5 hb5 hs5))
              refine ret_cel2 rfl rfl W.heap.size _ rfl hc5 Tryz.underlying196 rfl (by rw [hl]; exact size59) ⟨HX.out.trans (hb5.below (Nat.le_refl _) HX.out.size), .inl ⟨YES.out, ao3, cap3, ?_, HC3.out, WA.out.but hb5 (.inr ⟨196, _, CR'.out, by decide⟩)⟩⟩
              rw [← HN.out]
              rfl
end Go.Proofs.YtdfnbcbnmiohnaaGreatDoor.H
