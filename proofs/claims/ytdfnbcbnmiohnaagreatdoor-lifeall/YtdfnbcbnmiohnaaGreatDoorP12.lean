import Derived.Test.YtdfnbcbnmiohnaaGreatDoorP11
import Derived.Test.YtdfnbcbnmiohnaaGreatDoorP01
namespace Go.Proofs.YtdfnbcbnmiohnaaGreatDoor.H
open Go.RowKit

def numL (ys : List Int) : Nat := (ys.getD 8 0 * 4294967296 + ys.getD 9 0).toNat
def waitL (ys : List Int) : List Int := (ys.drop 10).take (numL ys % 16)
def LoadOk (ys : List Int) : Prop := numL ys ≤ 36028797018963968 ∧ (16 ≤ numL ys ∨ ys.take 8 = S.First) ∧ saveL (ys.take 8) (numL ys) (waitL ys) = ys

theorem eq40 (xs ys : List Int) (hx : xs.length = 26) (hy : ys.length = 26) (w : World) : (Op.equalIn 10000 44 (.agg (xs.map (Value.int .u32)).toArray) (.agg (ys.map (Value.int .u32)).toArray)).run Tryz.prog w = .ok (decide (xs = ys)) w :=
  run_equalIn_words w 9998 44 43 26 Tryz.underlying44 Tryz.underlying43 Tryz.sizeOf43 xs ys hx hy
theorem or_word (x y : Int) (x0 : 0 ≤ x) (x1 : x < 4294967296) (y0 : 0 ≤ y) (y1 : y < 4294967296) : bits .or .u64 (x * 4294967296) y = x * 4294967296 + y := by
  obtain ⟨x, rfl⟩ := Int.eq_ofNat_of_zero_le x0
  obtain ⟨y, rfl⟩ := Int.eq_ofNat_of_zero_le y0
  have e : ((x : Int) * 4294967296) = ((x * 2 ^ 32 : Nat) : Int) := by omega
  rw [e, u64_or_nat _ _ (by omega) (by omega), nat_join 32 x y (by omega)]
  omega
attribute [-simp] Tryz.isAgg44 Tryz.sizeOf44 Tryz.isAgg55 Tryz.sizeOf55 Tryz.zeroValue55 Tryz.isAgg166 Tryz.sizeOf166
set_option maxRecDepth 200000 in
set_option maxHeartbeats 4000000 in
theorem load_any (W : World) (b off c : Nat) (ys : List Int) (hy : ys.length = 26) (wy : Wds ys) (h1 : Row W .u32 b off ys) (hb : b < W.heap.size) (hc : 26 ≤ c) :
    Calls Tryz.prog 106 #[.slice (some ⟨b, off, none⟩) 26 c] W fun e W' => Below W.heap.size W W' ∧ ((LoadOk ys ∧ ∃ g, W.heap.size ≤ g ∧ e = .returned (.tuple #[.pointer (some ⟨g, 0, none⟩), .int .i64 0]) ∧ Dig W' g (ys.take 8) (numL ys) (waitL ys)) ∨ (¬ LoadOk ys ∧ e = .returned (.tuple #[.pointer none, .int .i64 20]))) := by
  obtain ⟨Z, hZ⟩ : ∃ Z : List Int, Z = List.replicate 8 0 := ⟨_, rfl⟩
  have hZl : Z.length = 8 := by rw [hZ]; simp
  have hz : ∀ w, (zeroValue 55).run Tryz.prog w = .ok (.agg (Z.map (Value.int .u32)).toArray) w := fun w => by rw [Tryz.zeroValue55, hZ]; rfl
  clear hZ
  have c8 := h1 8 (by omega)
  have c9 := h1 9 (by omega)
  obtain ⟨x0, x1⟩ := wy 8
  obtain ⟨y0, y1⟩ := wy 9
  have hnum : (numL ys : Int) = ys.getD 8 0 * 4294967296 + ys.getD 9 0 := by unfold numL; omega
  have hor := or_word _ _ x0 x1 y0 y1
  rw [← hnum] at hor
  generalize ys.getD 8 0 = x at *
  generalize ys.getD 9 0 = y at *
  obtain ⟨A, hA⟩ : ∃ A, A = ys.take 8 := ⟨_, rfl⟩
  have hAl : A.length = 8 := by rw [hA, List.length_take]; omega
  have rA : Row W .u32 b off A := by rw [hA]; exact h1.take 8
  have HA : Hid (A = ys.take 8) := hA
  clear hA
  have hat : ∀ w, (Instr.arrayAt 55 (.slice (some ⟨b, off, none⟩) 26 c)).run Tryz.prog w = .ok (.pointer (some ⟨b, off, none⟩)) w := fun w => run_arrayAt w 55 _ 8 _ 43 c Tryz.underlying55 (by decide)
  have zA : (Tryz.prog.info? 55).map (·.size) = some (A.map (Value.int .u32)).length := by rw [List.length_map, hAl]; exact size27
  have zA' : (Tryz.prog.info? 55).map (·.size) = some A.length := by rw [hAl]; exact size27
  have BN : Hid (Blk (W.alloc (Obj.cells (List.map (Value.int IntKind.u32) Z).toArray 55)) W.heap.size .u32 55 Z) := Blk.new W .u32 55 Z
  go_enter Tryz.func106, Tryz.ntmps106
  go_wp2_with (first | (refine wpList_load_mid rfl 55 _ rfl b off rfl (A.map (Value.int .u32)) _ rA.range Tryz.underlying55 rfl zA ?_) | (refine wpList_store_but rfl 55 _ _ rfl W.heap.size A rfl rfl BN.out zA' (by rw [hAl, hZl]) ?_; intro w1 bA hw1 hs1))
  have hal : Below W.heap.size W (W.alloc (Obj.cells (List.map (Value.int IntKind.u32) Z).toArray 55)) := below_one _ _
  have hW1 : Below W.heap.size W w1 := hal.trans (hw1.below (Nat.le_refl _) (by simp))
  have hsz1 : w1.heap.size = W.heap.size + 1 := by rw [hs1]; simp
  have d8 : w1.cell? ⟨b, off + 8, none⟩ = some (.int .u32 x) := (hW1.cell (p := ⟨b, off + 8, none⟩) hb).trans c8
  have d9 : w1.cell? ⟨b, off + 9, none⟩ = some (.int .u32 y) := (hW1.cell (p := ⟨b, off + 9, none⟩) hb).trans c9
  have BA : Hid (Blk w1 W.heap.size .u32 55 A) := bA
  have HW1 : Hid (Below W.heap.size W w1) := hW1
  clear hal hw1 hs1 bA hW1 c8 c9 BN
  obtain ⟨n, hn⟩ : ∃ n, n = numL ys := ⟨_, rfl⟩
  rw [← hn] at hor hnum
  have HN : Hid (n = numL ys) := hn
  clear hn
  have n64 : (n : Int) < 18446744073709551616 := by omega
  have vx : IntKind.u64.wrap (x * 4294967296) = x * 4294967296 := by rw [IntKind.wrap_u64]; omega
  have vx1 : IntKind.u64.wrap x = x := by rw [IntKind.wrap_u64]; omega
  have vy1 : IntKind.u64.wrap y = y := by rw [IntKind.wrap_u64]; omega
  clear hnum
  go_quiet (fail)
  have hb2 : Below w1.heap.size w1 (w1.drewN nq) := below_drewN (Below.refl _ _) nq
  have bA := BA.out.on hb2
  have hW2 := HW1.out.trans (hb2.mono HW1.out.size)
  have hs2 : (w1.drewN nq).heap.size = W.heap.size + 1 := by rw [← hsz1]; simp
  clear hb2 BA HW1 hsz1 d8 d9 hor vx vx1 vy1 x0 x1 y0 y1
  generalize w1.drewN nq = w2 at *
  have HS2 : Hid (w2.heap.size = W.heap.size + 1) := hs2
  clear hs2
  by_cases hfar : 36028797018963968 < n
  · have i1 : (36028797018963968 : Int) < (n : Int) := by omega
    have d1 : decide ((36028797018963968 : Int) < (n : Int)) = true := by simp; omega
    have NO : Hid (¬ LoadOk ys) := fun h => by have := h.1; rw [← HN.out] at this; omega
    have HW2 : Hid (Below W.heap.size W w2) := hW2
    clear hW2 bA
    go_wp2_with fail
    go_quiet (fail)
    go_wp2_with fail
    go_ret2
    exact ⟨below_drewN HW2.out _, .inr ⟨NO.out, rfl⟩⟩
  · have i1 : (n : Int) ≤ 36028797018963968 := by omega
    have d1 : decide ((36028797018963968 : Int) < (n : Int)) = false := by simp; omega
    by_cases hlow : n < 16
    · have i2 : (n : Int) < 16 := by omega
      have d2 : decide ((n : Int) < 16) = true := by simp; omega
      obtain ⟨N, hN⟩ : ∃ N : Nat, N = 8 := ⟨_, rfl⟩
      have a27 := Tryz.isAgg55
      have z27 := Tryz.sizeOf55
      rw [← hN] at z27
      have ld1 : ∀ w, Below w2.heap.size w2 w → (loadCellsFrom ⟨W.heap.size, 0, none⟩ 0 N #[]).run Tryz.prog w = .ok (A.map (Value.int .u32)).toArray w := fun w hw => cells_blk (bA.on hw) N (by rw [hAl, hN])
      have e1 := eq27 A S.First hAl rfl
      obtain ⟨FI, hFI⟩ : ∃ FI, FI = S.First := ⟨_, rfl⟩
      have HFI : Hid (FI = S.First) := hFI
      have FS : Hid (∀ w, Below w2.heap.size w2 w → Calls Tryz.prog 101 #[] w fun e w' => e = .returned (.agg (FI.map (Value.int .u32)).toArray) ∧ Below w2.heap.size w2 w') := fun w hw => by
        rw [hFI]
        refine (first_any w).mono ?_
        rintro e w' ⟨rfl, hb⟩
        exact ⟨rfl, hw.trans (hb.mono hw.size)⟩
      rw [← hFI] at e1
      have BW : Hid (Below w2.heap.size w2 w2.drew) := (Below.refl _ _).drew
      have BA : Hid (Blk w2 W.heap.size .u32 55 A) := bA
      have HW2 : Hid (Below W.heap.size W w2) := hW2
      clear bA hW2 hFI hN
      by_cases hF : A = FI
      · rw [decide_eq_true hF] at e1
        have HF : Hid (A = FI) := hF
        clear hF
        go_wp2_with fail
        go_region_held3 (fun w => Below w2.heap.size w2 w) (first | (exact BW.out) | (exact hwa)) (first | (go_at_call 101; refine (FS.out _ BW.out).mono ?_; rintro en wa ⟨rfl, hwa⟩))
        have BA3 : Hid (Blk wa W.heap.size .u32 55 A) := BA.out.on hwa
        have HW3 : Hid (Below W.heap.size W wa) := HW2.out.trans (hwa.mono HW2.out.size)
        have OK : Hid (numL ys ≤ 36028797018963968 ∧ (16 ≤ numL ys ∨ ys.take 8 = S.First)) := ⟨by rw [← HN.out]; omega, .inr (by rw [← HA.out, HF.out, HFI.out])⟩
        clear hwa BA HW2 FS BW e1 HF HFI ld1 a27 z27
        generalize wa = w3 at *
        have bA3 := BA3.out
        have hW3 := HW3.out
        obtain ⟨q, hq⟩ : ∃ q, q = ys.drop 10 := ⟨_, rfl⟩
        have hql : q.length = 16 := by rw [hq, List.length_drop]; omega
        have rQ : Row W .u32 b (off + 10) q := by rw [hq]; exact h1.drop 10
        obtain ⟨N, hN⟩ : ∃ N : Nat, N = 8 := ⟨_, rfl⟩
        obtain ⟨N', hN'⟩ : ∃ N : Nat, N = 16 := ⟨_, rfl⟩
        obtain ⟨N'', hN''⟩ : ∃ N : Nat, N = 26 := ⟨_, rfl⟩
        have a27 := Tryz.isAgg55
        have z27 := Tryz.sizeOf55
        have a51 := Tryz.isAgg166
        have z51 := Tryz.sizeOf166
        have a40 := Tryz.isAgg44
        have z40 := Tryz.sizeOf44
        rw [← hN] at z27
        rw [← hN'] at z51
        rw [← hN''] at z40
        have ld1 : (loadCellsFrom ⟨W.heap.size, 0, none⟩ 0 N #[]).run Tryz.prog w3.drew = .ok (A.map (Value.int .u32)).toArray w3.drew := cells_blk (e := 55) bA3.drew N (by rw [hAl, hN])
        have ld2 : (loadCellsFrom ⟨b, off + 10, none⟩ 0 N' #[]).run Tryz.prog w3.drew = .ok (q.map (Value.int .u32)).toArray w3.drew := cells_row ((rQ.below hW3 hb).drewN 1) N' (by rw [hql, hN'])
        have hat51 : ∀ w, (Instr.arrayAt 166 (.slice (some ⟨b, off + 10, none⟩) 16 (c - 10))).run Tryz.prog w = .ok (.pointer (some ⟨b, off + 10, none⟩)) w := fun w => run_arrayAt w 166 _ 16 _ 16 _ Tryz.underlying166 (Nat.le_refl _)
        have hat40 : ∀ w, (Instr.arrayAt 44 (.slice (some ⟨b, off, none⟩) 26 c)).run Tryz.prog w = .ok (.pointer (some ⟨b, off, none⟩)) w := fun w => run_arrayAt w 44 _ 26 _ 26 c Tryz.underlying44 (Nat.le_refl _)
        have t8N : (8 = N) = True := by rw [hN]; simp
        have t16N : (16 = N') = True := by rw [hN']; simp
        have vn : IntKind.i64.wrap (n : Int) = (n : Int) := by rw [IntKind.wrap_i64]; omega
        have j1 : ¬ c = 10 := by omega
        have j2 : (10 : Int) ≤ (c : Int) := by omega
        have HQ : Hid (q = ys.drop 10) := hq
        have HN26 : Hid (ys.length = N'') := by rw [hN'']; exact hy
        clear hq hN hN' hN'' bA3 hW3 rQ
        obtain ⟨a0, a1, a2, a3, a4, a5, a6, a7, hAe⟩ : ∃ a0 a1 a2 a3 a4 a5 a6 a7, A = [a0, a1, a2, a3, a4, a5, a6, a7] := by
          match A, hAl with
          | [a0, a1, a2, a3, a4, a5, a6, a7], _ => exact ⟨a0, a1, a2, a3, a4, a5, a6, a7, rfl⟩
        obtain ⟨q0, q1, q2, q3, q4, q5, q6, q7, q8, q9, q10, q11, q12, q13, q14, q15, hqe⟩ : ∃ q0 q1 q2 q3 q4 q5 q6 q7 q8 q9 q10 q11 q12 q13 q14 q15, q = [q0, q1, q2, q3, q4, q5, q6, q7, q8, q9, q10, q11, q12, q13, q14, q15] := by
          match q, hql with
          | [q0, q1, q2, q3, q4, q5, q6, q7, q8, q9, q10, q11, q12, q13, q14, q15], _ => exact ⟨q0, q1, q2, q3, q4, q5, q6, q7, q8, q9, q10, q11, q12, q13, q14, q15, rfl⟩
        have HAe : Hid (A = [a0, a1, a2, a3, a4, a5, a6, a7]) := hAe
        have HQe : Hid (q = [q0, q1, q2, q3, q4, q5, q6, q7, q8, q9, q10, q11, q12, q13, q14, q15]) := hqe
        rw [hAe] at ld1
        rw [hqe] at ld2
        clear hAe hqe
        go_wp2_with fail
        go_region
        have hc4 : Cel (w3.alloc (Obj.cells #[.int .u32 a0, .int .u32 a1, .int .u32 a2, .int .u32 a3, .int .u32 a4, .int .u32 a5, .int .u32 a6, .int .u32 a7, .int .i64 (n : Int), .int .u32 q0, .int .u32 q1, .int .u32 q2, .int .u32 q3, .int .u32 q4, .int .u32 q5, .int .u32 q6, .int .u32 q7, .int .u32 q8, .int .u32 q9, .int .u32 q10, .int .u32 q11, .int .u32 q12, .int .u32 q13, .int .u32 q14, .int .u32 q15] 168)).drew w3.heap.size 168 (digC [a0, a1, a2, a3, a4, a5, a6, a7] n [q0, q1, q2, q3, q4, q5, q6, q7, q8, q9, q10, q11, q12, q13, q14, q15]) := heap_alloc_new _ _
        have hb4 : Below w3.heap.size w3 (w3.alloc (Obj.cells #[.int .u32 a0, .int .u32 a1, .int .u32 a2, .int .u32 a3, .int .u32 a4, .int .u32 a5, .int .u32 a6, .int .u32 a7, .int .i64 (n : Int), .int .u32 q0, .int .u32 q1, .int .u32 q2, .int .u32 q3, .int .u32 q4, .int .u32 q5, .int .u32 q6, .int .u32 q7, .int .u32 q8, .int .u32 q9, .int .u32 q10, .int .u32 q11, .int .u32 q12, .int .u32 q13, .int .u32 q14, .int .u32 q15] 168)).drew := (below_one _ _).drew
        rw [← HAe.out, ← HQe.out] at hc4
        generalize (w3.alloc (Obj.cells #[.int .u32 a0, .int .u32 a1, .int .u32 a2, .int .u32 a3, .int .u32 a4, .int .u32 a5, .int .u32 a6, .int .u32 a7, .int .i64 (n : Int), .int .u32 q0, .int .u32 q1, .int .u32 q2, .int .u32 q3, .int .u32 q4, .int .u32 q5, .int .u32 q6, .int .u32 q7, .int .u32 q8, .int .u32 q9, .int .u32 q10, .int .u32 q11, .int .u32 q12, .int .u32 q13, .int .u32 q14, .int .u32 q15] 168)).drew = w4 at *
        have hW4 := HW3.out.trans (hb4.mono HW3.out.size)
        have D4 : Dig w4 w3.heap.size A n (q.take (n % 16)) := ⟨hAl, by omega, by rw [List.length_take, hql]; omega, q.drop (n % 16), by rw [List.take_append_drop, hql], by rw [List.take_append_drop]; exact hc4⟩
        have ld3 : ∀ w, Below w4.heap.size w4 w → (loadCellsFrom ⟨b, off, none⟩ 0 N'' #[]).run Tryz.prog w = .ok (ys.map (Value.int .u32)).toArray w := fun w hw => cells_row (h1.below (hW4.trans (hw.mono hW4.size)) hb) N'' HN26.out
        have ld4 := ld3 w4.drew (Below.refl _ _).drew
        have SVE : Hid (saveL A n (q.take (n % 16)) = saveL (ys.take 8) (numL ys) (waitL ys)) := by
          show _ = _
          unfold waitL
          rw [← HN.out, ← HA.out, ← HQ.out]
        have hSl : (saveL A n (q.take (n % 16))).length = 26 := saveL_length _ _ _ hAl (by rw [List.length_take]; omega)
        have SV : Hid (∀ w, Below w4.heap.size w4 w → Calls Tryz.prog 56 #[.pointer (some ⟨w3.heap.size, 0, none⟩)] w fun e w' => e = .returned (.agg ((saveL A n (q.take (n % 16))).map (Value.int .u32)).toArray) ∧ Below w4.heap.size w4 w' ∧ (loadCellsFrom ⟨b, off, none⟩ 0 N'' #[]).run Tryz.prog w' = .ok (ys.map (Value.int .u32)).toArray w') := fun w hw => by
          refine (save_any w w3.heap.size A n _ (D4.below hw D4.lt)).mono ?_
          rintro e w' ⟨rfl, hb'⟩
          have hwb := hw.trans (hb'.mono hw.size)
          exact ⟨rfl, hwb, ld3 _ hwb⟩
        have e40 := eq40 (saveL A n (q.take (n % 16))) ys hSl hy
        have D4' : Hid (Dig w4 w3.heap.size A n (q.take (n % 16))) := D4
        have HG : Hid (W.heap.size ≤ w3.heap.size) := HW3.out.size
        have BW4 : Hid (Below w4.heap.size w4 w4.drew) := (Below.refl _ _).drew
        have HW4 : Hid (Below W.heap.size W w4) := hW4
        generalize saveL A n (q.take (n % 16)) = SL at *
        clear hc4 hb4 hW4 D4 ld1 ld2 t8N t16N hSl ld3 hfar hlow i1 i2 d1 d2 n64 vn j1 j2 zA zA' hat hat51 hAl hql hz rA
        by_cases hE : SL = ys
        · rw [decide_eq_true hE] at e40
          have YES : Hid (LoadOk ys) := ⟨OK.out.1, OK.out.2, by rw [← SVE.out]; exact hE⟩
          clear hE
          go_wp2_with fail
          go_region_with (first | (go_at_call 56; refine (SV.out _ BW4.out).mono ?_; rintro en wb ⟨rfl, hwb, ldb⟩))
          all_goals
            have FIN : Hid (Below W.heap.size W wb ∧ Dig wb w3.heap.size (ys.take 8) (numL ys) (waitL ys)) := ⟨HW4.out.trans (hwb.mono HW4.out.size), by
              have := D4'.out.below hwb D4'.out.lt
              unfold waitL
              rw [← HN.out, ← HA.out, ← HQ.out]
              exact this⟩
            clear hwb SV ld4 ldb
            simp only [List.getElem_toArray, List.getElem_cons_succ, List.getElem_cons_zero, Act.put, tqA, tqS, tqZ]
            go_wp2_with fail
            go_ret2
            exact ⟨FIN.out.1, .inl ⟨YES.out, _, HG.out, rfl, FIN.out.2⟩⟩
        · rw [decide_eq_false hE] at e40
          have NO : Hid (¬ LoadOk ys) := fun h => hE (by rw [SVE.out]; exact h.2.2)
          clear hE
          go_wp2_with fail
          go_region_with (first | (go_at_call 56; refine (SV.out _ BW4.out).mono ?_; rintro en wb ⟨rfl, hwb, ldb⟩))
          all_goals
            have FIN : Hid (Below W.heap.size W wb) := HW4.out.trans (hwb.mono HW4.out.size)
            clear hwb SV ld4 ldb
            simp only [List.getElem_toArray, List.getElem_cons_succ, List.getElem_cons_zero, Act.put, tqA, tqS, tqZ]
            go_wp2_with fail
            go_ret2
            exact ⟨FIN.out, .inr ⟨NO.out, rfl⟩⟩
      · rw [decide_eq_false hF] at e1
        have NO : Hid (¬ LoadOk ys) := fun h => by
          rcases h.2.1 with h' | h'
          · rw [← HN.out] at h'; omega
          · rw [← HA.out, ← HFI.out] at h'; exact hF h'
        clear hF
        go_wp2_with fail
        go_region_held3 (fun w => Below w2.heap.size w2 w) (first | (exact BW.out) | (exact hwa)) (first | (go_at_call 101; refine (FS.out _ BW.out).mono ?_; rintro en wa ⟨rfl, hwa⟩))
        go_wp2_with fail
        go_ret2
        exact ⟨HW2.out.trans (hwa.mono HW2.out.size), .inr ⟨NO.out, rfl⟩⟩
    · have i2 : (16 : Int) ≤ (n : Int) := by omega
      have d2 : decide ((n : Int) < 16) = false := by simp; omega
      have BA : Hid (Blk w2 W.heap.size .u32 55 A) := bA
      have HW2 : Hid (Below W.heap.size W w2) := hW2
      have OK : Hid (numL ys ≤ 36028797018963968 ∧ (16 ≤ numL ys ∨ ys.take 8 = S.First)) := ⟨by rw [← HN.out]; omega, .inl (by rw [← HN.out]; omega)⟩
      clear bA hW2
      go_wp2_with fail
      go_quiet (fail)
      have hb3 : ∀ k, Below w2.heap.size w2 (w2.drewN k) := fun k => below_drewN (Below.refl _ _) k
      have BA3 := fun k => BA.out.on (hb3 k)
      have HW3 := fun k => HW2.out.trans ((hb3 k).mono HW2.out.size)
      have BA3 : Hid (Blk (w2.drewN _) W.heap.size .u32 55 A) := BA3 nq
      have HW3 : Hid (Below W.heap.size W (w2.drewN nq)) := HW3 nq
      clear hb3 BA HW2
      generalize w2.drewN nq = w3 at *
      have bA3 := BA3.out
      have hW3 := HW3.out
      obtain ⟨q, hq⟩ : ∃ q, q = ys.drop 10 := ⟨_, rfl⟩
      have hql : q.length = 16 := by rw [hq, List.length_drop]; omega
      have rQ : Row W .u32 b (off + 10) q := by rw [hq]; exact h1.drop 10
      obtain ⟨N, hN⟩ : ∃ N : Nat, N = 8 := ⟨_, rfl⟩
      obtain ⟨N', hN'⟩ : ∃ N : Nat, N = 16 := ⟨_, rfl⟩
      obtain ⟨N'', hN''⟩ : ∃ N : Nat, N = 26 := ⟨_, rfl⟩
      have a27 := Tryz.isAgg55
      have z27 := Tryz.sizeOf55
      have a51 := Tryz.isAgg166
      have z51 := Tryz.sizeOf166
      have a40 := Tryz.isAgg44
      have z40 := Tryz.sizeOf44
      rw [← hN] at z27
      rw [← hN'] at z51
      rw [← hN''] at z40
      have ld1 : (loadCellsFrom ⟨W.heap.size, 0, none⟩ 0 N #[]).run Tryz.prog w3.drew = .ok (A.map (Value.int .u32)).toArray w3.drew := cells_blk (e := 55) bA3.drew N (by rw [hAl, hN])
      have ld2 : (loadCellsFrom ⟨b, off + 10, none⟩ 0 N' #[]).run Tryz.prog w3.drew = .ok (q.map (Value.int .u32)).toArray w3.drew := cells_row ((rQ.below hW3 hb).drewN 1) N' (by rw [hql, hN'])
      have hat51 : ∀ w, (Instr.arrayAt 166 (.slice (some ⟨b, off + 10, none⟩) 16 (c - 10))).run Tryz.prog w = .ok (.pointer (some ⟨b, off + 10, none⟩)) w := fun w => run_arrayAt w 166 _ 16 _ 16 _ Tryz.underlying166 (Nat.le_refl _)
      have hat40 : ∀ w, (Instr.arrayAt 44 (.slice (some ⟨b, off, none⟩) 26 c)).run Tryz.prog w = .ok (.pointer (some ⟨b, off, none⟩)) w := fun w => run_arrayAt w 44 _ 26 _ 26 c Tryz.underlying44 (Nat.le_refl _)
      have t8N : (8 = N) = True := by rw [hN]; simp
      have t16N : (16 = N') = True := by rw [hN']; simp
      have vn : IntKind.i64.wrap (n : Int) = (n : Int) := by rw [IntKind.wrap_i64]; omega
      have j1 : ¬ c = 10 := by omega
      have j2 : (10 : Int) ≤ (c : Int) := by omega
      have HQ : Hid (q = ys.drop 10) := hq
      have HN26 : Hid (ys.length = N'') := by rw [hN'']; exact hy
      clear hq hN hN' hN'' bA3 hW3 rQ
      obtain ⟨a0, a1, a2, a3, a4, a5, a6, a7, hAe⟩ : ∃ a0 a1 a2 a3 a4 a5 a6 a7, A = [a0, a1, a2, a3, a4, a5, a6, a7] := by
        match A, hAl with
        | [a0, a1, a2, a3, a4, a5, a6, a7], _ => exact ⟨a0, a1, a2, a3, a4, a5, a6, a7, rfl⟩
      obtain ⟨q0, q1, q2, q3, q4, q5, q6, q7, q8, q9, q10, q11, q12, q13, q14, q15, hqe⟩ : ∃ q0 q1 q2 q3 q4 q5 q6 q7 q8 q9 q10 q11 q12 q13 q14 q15, q = [q0, q1, q2, q3, q4, q5, q6, q7, q8, q9, q10, q11, q12, q13, q14, q15] := by
        match q, hql with
        | [q0, q1, q2, q3, q4, q5, q6, q7, q8, q9, q10, q11, q12, q13, q14, q15], _ => exact ⟨q0, q1, q2, q3, q4, q5, q6, q7, q8, q9, q10, q11, q12, q13, q14, q15, rfl⟩
      have HAe : Hid (A = [a0, a1, a2, a3, a4, a5, a6, a7]) := hAe
      have HQe : Hid (q = [q0, q1, q2, q3, q4, q5, q6, q7, q8, q9, q10, q11, q12, q13, q14, q15]) := hqe
      rw [hAe] at ld1
      rw [hqe] at ld2
      clear hAe hqe
      go_wp2_with fail
      go_region
      have hc4 : Cel (w3.alloc (Obj.cells #[.int .u32 a0, .int .u32 a1, .int .u32 a2, .int .u32 a3, .int .u32 a4, .int .u32 a5, .int .u32 a6, .int .u32 a7, .int .i64 (n : Int), .int .u32 q0, .int .u32 q1, .int .u32 q2, .int .u32 q3, .int .u32 q4, .int .u32 q5, .int .u32 q6, .int .u32 q7, .int .u32 q8, .int .u32 q9, .int .u32 q10, .int .u32 q11, .int .u32 q12, .int .u32 q13, .int .u32 q14, .int .u32 q15] 168)).drew w3.heap.size 168 (digC [a0, a1, a2, a3, a4, a5, a6, a7] n [q0, q1, q2, q3, q4, q5, q6, q7, q8, q9, q10, q11, q12, q13, q14, q15]) := heap_alloc_new _ _
      have hb4 : Below w3.heap.size w3 (w3.alloc (Obj.cells #[.int .u32 a0, .int .u32 a1, .int .u32 a2, .int .u32 a3, .int .u32 a4, .int .u32 a5, .int .u32 a6, .int .u32 a7, .int .i64 (n : Int), .int .u32 q0, .int .u32 q1, .int .u32 q2, .int .u32 q3, .int .u32 q4, .int .u32 q5, .int .u32 q6, .int .u32 q7, .int .u32 q8, .int .u32 q9, .int .u32 q10, .int .u32 q11, .int .u32 q12, .int .u32 q13, .int .u32 q14, .int .u32 q15] 168)).drew := (below_one _ _).drew
      rw [← HAe.out, ← HQe.out] at hc4
      generalize (w3.alloc (Obj.cells #[.int .u32 a0, .int .u32 a1, .int .u32 a2, .int .u32 a3, .int .u32 a4, .int .u32 a5, .int .u32 a6, .int .u32 a7, .int .i64 (n : Int), .int .u32 q0, .int .u32 q1, .int .u32 q2, .int .u32 q3, .int .u32 q4, .int .u32 q5, .int .u32 q6, .int .u32 q7, .int .u32 q8, .int .u32 q9, .int .u32 q10, .int .u32 q11, .int .u32 q12, .int .u32 q13, .int .u32 q14, .int .u32 q15] 168)).drew = w4 at *
      have hW4 := HW3.out.trans (hb4.mono HW3.out.size)
      have D4 : Dig w4 w3.heap.size A n (q.take (n % 16)) := ⟨hAl, by omega, by rw [List.length_take, hql]; omega, q.drop (n % 16), by rw [List.take_append_drop, hql], by rw [List.take_append_drop]; exact hc4⟩
      have ld3 : ∀ w, Below w4.heap.size w4 w → (loadCellsFrom ⟨b, off, none⟩ 0 N'' #[]).run Tryz.prog w = .ok (ys.map (Value.int .u32)).toArray w := fun w hw => cells_row (h1.below (hW4.trans (hw.mono hW4.size)) hb) N'' HN26.out
      have ld4 := ld3 w4.drew (Below.refl _ _).drew
      have SVE : Hid (saveL A n (q.take (n % 16)) = saveL (ys.take 8) (numL ys) (waitL ys)) := by
        show _ = _
        unfold waitL
        rw [← HN.out, ← HA.out, ← HQ.out]
      have hSl : (saveL A n (q.take (n % 16))).length = 26 := saveL_length _ _ _ hAl (by rw [List.length_take]; omega)
      have SV : Hid (∀ w, Below w4.heap.size w4 w → Calls Tryz.prog 56 #[.pointer (some ⟨w3.heap.size, 0, none⟩)] w fun e w' => e = .returned (.agg ((saveL A n (q.take (n % 16))).map (Value.int .u32)).toArray) ∧ Below w4.heap.size w4 w' ∧ (loadCellsFrom ⟨b, off, none⟩ 0 N'' #[]).run Tryz.prog w' = .ok (ys.map (Value.int .u32)).toArray w') := fun w hw => by
        refine (save_any w w3.heap.size A n _ (D4.below hw D4.lt)).mono ?_
        rintro e w' ⟨rfl, hb'⟩
        have hwb := hw.trans (hb'.mono hw.size)
        exact ⟨rfl, hwb, ld3 _ hwb⟩
      have e40 := eq40 (saveL A n (q.take (n % 16))) ys hSl hy
      have D4' : Hid (Dig w4 w3.heap.size A n (q.take (n % 16))) := D4
      have HG : Hid (W.heap.size ≤ w3.heap.size) := HW3.out.size
      have BW4 : Hid (Below w4.heap.size w4 w4.drew) := (Below.refl _ _).drew
      have HW4 : Hid (Below W.heap.size W w4) := hW4
      generalize saveL A n (q.take (n % 16)) = SL at *
      clear hc4 hb4 hW4 D4 ld1 ld2 t8N t16N hSl ld3 hfar hlow i1 i2 d1 d2 n64 vn j1 j2 zA zA' hat hat51 hAl hql hz rA
      by_cases hE : SL = ys
      · rw [decide_eq_true hE] at e40
        have YES : Hid (LoadOk ys) := ⟨OK.out.1, OK.out.2, by rw [← SVE.out]; exact hE⟩
        clear hE
        go_wp2_with fail
        go_region_with (first | (go_at_call 56; refine (SV.out _ BW4.out).mono ?_; rintro en wb ⟨rfl, hwb, ldb⟩))
        all_goals
          have FIN : Hid (Below W.heap.size W wb ∧ Dig wb w3.heap.size (ys.take 8) (numL ys) (waitL ys)) := ⟨HW4.out.trans (hwb.mono HW4.out.size), by
            have := D4'.out.below hwb D4'.out.lt
            unfold waitL
            rw [← HN.out, ← HA.out, ← HQ.out]
            exact this⟩
          clear hwb SV ld4 ldb
          simp only [List.getElem_toArray, List.getElem_cons_succ, List.getElem_cons_zero, Act.put, tqA, tqS, tqZ]
          go_wp2_with fail
          go_ret2
          exact ⟨FIN.out.1, .inl ⟨YES.out, _, HG.out, rfl, FIN.out.2⟩⟩
      · rw [decide_eq_false hE] at e40
        have NO : Hid (¬ LoadOk ys) := fun h => hE (by rw [SVE.out]; exact h.2.2)
        clear hE
        go_wp2_with fail
        go_region_with (first | (go_at_call 56; refine (SV.out _ BW4.out).mono ?_; rintro en wb ⟨rfl, hwb, ldb⟩))
        all_goals
          have FIN : Hid (Below W.heap.size W wb) := HW4.out.trans (hwb.mono HW4.out.size)
          clear hwb SV ld4 ldb
          simp only [List.getElem_toArray, List.getElem_cons_succ, List.getElem_cons_zero, Act.put, tqA, tqS, tqZ]
          go_wp2_with fail
          go_ret2
          exact ⟨FIN.out, .inr ⟨NO.out, rfl⟩⟩
end Go.Proofs.YtdfnbcbnmiohnaaGreatDoor.H
