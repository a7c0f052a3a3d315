import Derived.Test.YtbpdmkohihgnjaaGreatDoorP31
namespace Go.Proofs.YtbpdmkohihgnjaaGreatDoor
open Go.RowKit
set_option maxRecDepth 100000

namespace S
def runB (A bs : List Int) : Nat → List Int
  | 0 => A
  | k + 1 => block (runB A bs k) (wordsD ((bs.drop (64 * k)).take 64) 16)
end S
def padR (bs : List Int) (b : Int) : List Int := ((bs ++ [128]) ++ List.replicate (bz bs.length) 0) ++ lenB b 8
def endR (A rest : List Int) (b : Int) : List Int := S.runB A (padR rest b) ((padR rest b).length / 64)
def rsumB (bs : List Int) : List Int := endR (S.runB S.First bs (bs.length / 64)) (bs.drop (64 * (bs.length / 64))) (8 * (bs.length : Int))
theorem runB_length (A xs : List Int) (hA : A.length = 8) (m : Nat) : (S.runB A xs m).length = 8 := by
  cases m with
  | zero => exact hA
  | succ m => exact block_length _ _
theorem runB_run (A bs : List Int) (n : Nat) : ∀ k, 16 * k ≤ n → S.runB A bs k = S.run A (wordsD bs n) k
  | 0, _ => rfl
  | k + 1, h => by
    show S.block (S.runB A bs k) _ = S.block (S.run A (wordsD bs n) k) _
    rw [runB_run A bs n k (by omega), wordsD_cut bs n (16 * k) 16 (by omega), show 4 * (16 * k) = 64 * k by omega]
theorem runB_more (A xs : List Int) (k : Nat) : ∀ j, S.runB A xs (k + j) = S.runB (S.runB A xs k) (xs.drop (64 * k)) j
  | 0 => rfl
  | j + 1 => by
    show S.block (S.runB A xs (k + j)) (wordsD ((xs.drop (64 * (k + j))).take 64) 16) = S.block (S.runB (S.runB A xs k) (xs.drop (64 * k)) j) (wordsD (((xs.drop (64 * k)).drop (64 * j)).take 64) 16)
    rw [runB_more A xs k j, List.drop_drop, show 64 * k + 64 * j = 64 * (k + j) by omega]
theorem runB_head (A xs ys : List Int) : ∀ k, 64 * k ≤ xs.length → S.runB A (xs ++ ys) k = S.runB A xs k
  | 0, _ => rfl
  | k + 1, h => by
    show S.block (S.runB A (xs ++ ys) k) (wordsD (((xs ++ ys).drop (64 * k)).take 64) 16) = S.block (S.runB A xs k) (wordsD ((xs.drop (64 * k)).take 64) 16)
    rw [runB_head A xs ys k (by omega), List.drop_append_of_le_length (by omega), List.take_append_of_le_length (by simp; omega)]
theorem padR_length (bs : List Int) (b : Int) : (padR bs b).length = bs.length + 1 + bz bs.length + 8 := by simp [padR, lenB_length]; omega
theorem padR_whole (bs : List Int) (b : Int) : (padR bs b).length = 64 * ((padR bs b).length / 64) := by
  rw [padR_length]; unfold bz; omega
theorem padR_bts {bs : List Int} (h : Bts bs) (b : Int) : Bts (padR bs b) := by
  refine bts_append (bts_append (bts_append h fun i => ?_) fun i => ?_) fun i => ?_
  · match i with
    | 0 => decide
    | i + 1 => simp
  · simp only [List.getD_eq_getElem?_getD, List.getElem?_replicate]
    split <;> simp
  · by_cases hi : i < 8
    · simp only [lenB, List.getD_eq_getElem?_getD, List.getElem?_map, List.getElem?_range hi, Option.map_some, Option.getD_some]
      omega
    · simp [List.getD_eq_getElem?_getD, List.getElem?_eq_none (show (lenB b 8).length ≤ i by rw [lenB_length]; omega)]
theorem endR_length (A rest : List Int) (hA : A.length = 8) (b : Int) : (endR A rest b).length = 8 := runB_length _ _ hA _
theorem rsumB_eq (bs : List Int) (hm : bs.length ≤ 140737488355328) : rsumB bs = sumB bs := by
  obtain ⟨q, h1, h2⟩ := sumB_chain bs hm
  rw [h2, ← runB_run S.First (padB bs) (16 * q) q (Nat.le_refl _)]
  obtain ⟨k, hk⟩ : ∃ k, k = bs.length / 64 := ⟨_, rfl⟩
  have hd : (bs.drop (64 * k)).length = bs.length - 64 * k := by simp
  have hz : bz (bs.drop (64 * k)).length = bz bs.length := by
    rw [hd]; unfold bz
    rw [show (bs.length - 64 * k) % 64 = bs.length % 64 by omega]
  have hp : padB bs = bs.take (64 * k) ++ padR (bs.drop (64 * k)) (8 * (bs.length : Int)) := by
    unfold padB padR
    rw [hz, ← List.append_assoc, ← List.append_assoc, ← List.append_assoc, List.take_append_drop]
  have hl : q = k + (padR (bs.drop (64 * k)) (8 * (bs.length : Int))).length / 64 := by
    rw [hp, List.length_append, List.length_take] at h1
    omega
  unfold rsumB endR
  rw [← hk, hl, runB_more, hp]
  have e1 : (bs.take (64 * k)).drop (64 * k) = [] := List.drop_eq_nil_of_le (by rw [List.length_take]; omega)
  rw [List.drop_append_of_le_length (by rw [List.length_take]; omega), e1, List.nil_append]
  congr 1
  rw [runB_head _ _ _ _ (by rw [List.length_take]; omega)]
  have := runB_head S.First (bs.take (64 * k)) (bs.drop (64 * k)) k (by rw [List.length_take]; omega)
  rw [List.take_append_drop] at this
  exact this
end Go.Proofs.YtbpdmkohihgnjaaGreatDoor
namespace Go.Proofs.YtbpdmkohihgnjaaGreatDoor
open Go.RowKit
set_option maxRecDepth 100000

attribute [-simp] Tryz.isAgg26 Tryz.sizeOf26 Tryz.zeroValue26 Tryz.isAgg197 Tryz.sizeOf197
set_option maxRecDepth 20000 in
set_option maxHeartbeats 2000000 in
theorem ended_any (W : World) (hT : TabR W) (h2 : 12 < W.heap.size) (A bs : List Int) (hA : A.length = 8) (ao : Option Addr) (m c : Nat) (hx : bs.length = m) (hbs : Bts bs) (hat : At W .u8 ao bs) (hm : m < 64) (n : Int) (n0 : 0 ≤ n) (n1 : 8 * n < 18446744073709551616) :
    Calls Tryz.prog 115 #[Ag A, .slice ao m c, .int .u64 n] W fun e W' => e = .returned (Ag (endR A bs (8 * n))) ∧ Below W.heap.size W W' := by
  obtain ⟨i0, hi, hz0, hz1, hz2⟩ := info_parts Tryz.info5
  obtain ⟨Z, hZ⟩ : ∃ Z : List Int, Z = List.replicate 8 0 := ⟨_, rfl⟩
  have hZl : Z.length = 8 := by rw [hZ]; simp
  have hz : ∀ w, (zeroValue 26).run Tryz.prog w = .ok (.agg (Z.map (Value.int .u32)).toArray) w := fun w => by rw [Tryz.zeroValue26, hZ]; rfl
  clear hZ
  have bA : Blk ((W.alloc (Obj.cells (List.map (Value.int IntKind.u32) A).toArray 26)).alloc (Obj.cells (List.map (Value.int IntKind.u32) Z).toArray 26)) W.heap.size .u32 26 A := (Blk.new W .u32 26 A).alloc _
  have bZ : Blk ((W.alloc (Obj.cells (List.map (Value.int IntKind.u32) A).toArray 26)).alloc (Obj.cells (List.map (Value.int IntKind.u32) Z).toArray 26)) (W.heap.size + 1) .u32 26 Z := Blk.newAt (by simp) .u32 26 Z
  have hX : Below W.heap.size W ((W.alloc (Obj.cells (List.map (Value.int IntKind.u32) A).toArray 26)).alloc (Obj.cells (List.map (Value.int IntKind.u32) Z).toArray 26)) := (below_one W _).alloc (by simp) _
  have hXs : ((W.alloc (Obj.cells (List.map (Value.int IntKind.u32) A).toArray 26)).alloc (Obj.cells (List.map (Value.int IntKind.u32) Z).toArray 26)).heap.size = W.heap.size + 2 := by simp
  have h63 : m ≤ maxLen := by unfold maxLen; omega
  have hby : m * 1 ≤ 140737488355328 := by omega
  have hl1 : bs.length + 1 ≤ maxLen := by rw [hx]; unfold maxLen; omega
  have hb1 : (bs.length + 1) * 1 ≤ 140737488355328 := by rw [hx]; omega
  have i1 : (m : Int) < 64 := by omega
  have hat' := hat.below hX
  have HXX : Hid (∃ X, ((W.alloc (Obj.cells (List.map (Value.int IntKind.u32) A).toArray 26)).alloc (Obj.cells (List.map (Value.int IntKind.u32) Z).toArray 26)) = X) := ⟨_, rfl⟩
  have BA : Hid (Blk _ W.heap.size .u32 26 A) := bA
  have BZ : Hid (Blk _ (W.heap.size + 1) .u32 26 Z) := bZ
  have HX : Hid (Below W.heap.size W _) := hX
  have HXS : Hid (_ = W.heap.size + 2) := hXs
  have HAT : Hid (At _ .u8 ao bs) := hat'
  clear bA bZ hX hXs hat'
  unfold Ag
  go_enter Tryz.func115, Tryz.ntmps115
  go_wp2_with (first | (at_builtin; refine wpList_append_new rfl _ _ 124 rfl .u8 5 i0 (.int .u8 0) 1 Tryz.underlying124 hi hz0 hz1 hz2 rfl rfl ao m c bs rfl hx HAT.out h63 hby ?_; intro v1 w1 H1) | (at_builtin; refine wpList_append_more rfl _ _ 124 rfl .u8 5 i0 (.int .u8 0) 1 Tryz.underlying124 hi hz0 hz1 hz2 rfl v1 bs rfl (H1.alloc _) w1.heap.size 1 1 [128] rfl rfl (row_new _ _ _ _ _ rfl) hl1 hb1 ?_; intro v2 w2 H2))
  clear H1 HAT
  have bA := BA.out
  have bZ := BZ.out
  have hX := HX.out
  have hXs := HXS.out
  obtain ⟨X, hXe⟩ := HXX.out
  clear BA BZ HX HXS HXX
  rw [hXe] at bA bZ hX hXs H2
  clear hXe
  have BA : Hid (Blk X W.heap.size .u32 26 A) := bA
  have BZ : Hid (Blk X (W.heap.size + 1) .u32 26 Z) := bZ
  have HX : Hid (Below W.heap.size W X) := hX
  have HXS : Hid (X.heap.size = W.heap.size + 2) := hXs
  clear bA bZ hX hXs
  clear h63 hby hl1 hb1
  go_loopw [7] (fun v wr => ∃ k : Nat, k ≤ bz m ∧ Holds X wr .u8 5 v ((bs ++ [128]) ++ List.replicate k 0)) (fun v _ => match v with | .slice _ k _ => m + 100 - k | _ => 0)
  case atStart => exact ⟨0, Nat.zero_le _, by simpa using H2⟩
  case round =>
    clear H2
    obtain ⟨k, hk, F⟩ := hrel
    have hbz : bz m = (119 - m % 64) % 64 := rfl
    have hl : ((bs ++ [128]) ++ List.replicate k 0).length = m + 1 + k := by simp [hx]; omega
    obtain ⟨gt, ct, hv, _, hgt, hgt', _⟩ := F.form (by omega)
    rw [hl] at hv
    subst hv
    obtain ⟨q, hq⟩ : ∃ q, q = m + 1 + k := ⟨_, rfl⟩
    rw [← hq] at F hl ⊢
    have i2 : (q : Int) ≤ 140737488351432 := by omega
    by_cases hlt : k < bz m
    · obtain ⟨q', hq'⟩ : ∃ q', q' = q % 64 := ⟨_, rfl⟩
      have i3 : (q : Int) % 64 = (q' : Int) := by omega
      have i4 : ((q' : Int) != 56) = true := by simp; omega
      have h63 : ((bs ++ [128]) ++ List.replicate k 0).length + 1 ≤ maxLen := by rw [hl]; unfold maxLen; omega
      have hby : (((bs ++ [128]) ++ List.replicate k 0).length + 1) * 1 ≤ 140737488355328 := by rw [hl]; omega
      have F' : Hid (Holds X wr .u8 5 (.slice (some ⟨gt, 0, none⟩) q ct) ((bs ++ [128]) ++ List.replicate k 0)) := F
      have FF : Hid (∀ v' w', Holds X w' .u8 5 v' (((bs ++ [128]) ++ List.replicate k 0) ++ [0]) → Hid (∃ k' : Nat, k' ≤ bz m ∧ Holds X w' .u8 5 v' ((bs ++ [128]) ++ List.replicate k' 0)) ∧ ∃ ao' cap', v' = .slice ao' (q + 1) cap') := fun v' w' h => by
        obtain ⟨ao', cap', hv', _⟩ := h.at'
        refine ⟨⟨k + 1, by omega, ?_⟩, ao', cap', ?_⟩
        · rw [List.replicate_succ', ← List.append_assoc]; exact h
        · rw [hv', List.length_append, hl]; rfl
      have HM : Hid (m + 100 - (q + 1) < m + 100 - q) := by show _ < _; omega
      clear F hq hq' hlt hk hbz hl
      go_wp2_with (first | (at_builtin; refine wpList_append_more (W := X) rfl _ _ 124 rfl .u8 5 i0 (.int .u8 0) 1 Tryz.underlying124 hi hz0 hz1 hz2 rfl _ _ rfl (F'.out.alloc _) wr.heap.size 1 1 [0] rfl rfl (row_new _ _ _ _ _ rfl) h63 hby ?_; intro v' w2 H2; obtain ⟨H3, ao', cap', rfl⟩ := FF.out _ _ H2; clear H2))
      exact ⟨H3.out, HM.out⟩
    · obtain rfl : k = bz m := by omega
      have i3 : (q : Int) % 64 = 56 := by omega
      obtain ⟨Y, hY⟩ : ∃ Y, Y = (bs ++ [128]) ++ List.replicate (bz m) 0 := ⟨_, rfl⟩
      rw [← hY] at F hl
      obtain ⟨b, hb⟩ : ∃ b, b = 8 * n := ⟨_, rfl⟩
      have HP' : Hid (padR bs b = Y ++ lenB b 8) := by
        show padR bs b = _
        unfold padR; rw [hx, hY]
      have HBE : Hid (b = 8 * n) := hb
      have i5 : n * 8 = b := by omega
      have b0 : 0 ≤ b := by omega
      have b1 : b < 18446744073709551616 := by omega
      have hq64 : q ≤ 200 := by omega
      have hq8 : q + 8 = 64 * ((padR bs b).length / 64) := by
        have := padR_whole bs b
        rw [HP'.out] at this ⊢
        rw [List.length_append, hl, lenB_length] at this ⊢
        exact this
      have F' : Hid (Holds X wr .u8 5 (.slice (some ⟨gt, 0, none⟩) q ct) Y) := F
      have HQ8 : Hid _ := hq8
      clear F hY hq hbz hlt hk hb hq8
      go_wp2
      clear i3
      go_loopw [7, 8] (fun v i wr => ∃ k : Nat, k ≤ 8 ∧ i = .int .i64 (7 - (k : Int)) ∧ Holds X wr .u8 5 v (Y ++ lenB b k)) (fun _ i _ => ((intOf i) + 1).toNat)
      case atStart => exact ⟨0, by decide, rfl, by simpa [lenB] using F'.out⟩
      case round =>
        clear F'
        obtain ⟨k, hk, rfl, F⟩ := hrel
        have hXl : (Y ++ lenB b k).length = q + k := by rw [List.length_append, hl, lenB_length]
        by_cases hlt : k < 8
        · have v1 : IntKind.i64.wrap (8 * (7 - (k : Int))) = 8 * (7 - (k : Int)) := by rw [IntKind.wrap_i64]; omega
          have v2 : (8 * (7 - (k : Int))).toNat = 56 - 8 * k := by omega
          have v3 : (0 : Int) ≤ 7 - (k : Int) := by omega
          have v4 : IntKind.u64.wrap (8 * (7 - (k : Int))) = 8 * (7 - (k : Int)) := by rw [IntKind.wrap_u64]; omega
          have h63 : (Y ++ lenB b k).length + 1 ≤ maxLen := by rw [hXl]; unfold maxLen; omega
          have hby : ((Y ++ lenB b k).length + 1) * 1 ≤ 140737488355328 := by rw [hXl]; omega
          have F' : Hid (Holds X wr .u8 5 u7 (Y ++ lenB b k)) := F
          have FF : Hid (∀ v' w', Holds X w' .u8 5 v' ((Y ++ lenB b k) ++ [b / 2 ^ (56 - 8 * k) % 256]) → Holds X w' .u8 5 v' (Y ++ lenB b (k + 1))) := fun v' w' h => by
            rw [lenB_succ, ← List.append_assoc]; exact h
          clear F hXl
          go_wp2_with (first | (at_builtin; refine wpList_append_more (W := X) rfl _ _ 124 rfl .u8 5 i0 (.int .u8 0) 1 Tryz.underlying124 hi hz0 hz1 hz2 rfl u7 _ rfl (F'.out.alloc _) wr.heap.size 1 1 [b / 2 ^ (56 - 8 * k) % 256] rfl rfl (row_new _ _ _ _ _ rfl) h63 hby ?_; intro v' w2 H2; have H2' : Hid _ := FF.out _ _ H2; clear H2))
          go_roundw
          case rel => exact ⟨k + 1, by omega, by go_num, H2'.out⟩
          case measure => simp [intOf]; omega
        · obtain rfl : k = 8 := by omega
          rw [show (7 : Int) - ((8 : Nat) : Int) = -1 from rfl]
          have hPl : (padR bs b).length = 64 * ((padR bs b).length / 64) := padR_whole bs b
          have hPb := padR_bts hbs b
          rw [← HP'.out] at F
          have hMl : (endR A bs b).length = 8 := endR_length A bs hA b
          have HE : Hid (S.runB A (padR bs b) ((padR bs b).length / 64) = endR A bs b) := rfl
          have hq8 := HQ8.out
          generalize (padR bs b).length / 64 = Q at *
          generalize padR bs b = P at *
          obtain ⟨gp, cp, hv, _, hgp, hgp', hrow⟩ := F.form (by omega)
          rw [hPl] at hv
          subst hv
          have hXs := HXS.out
          have bA := BA.out.on F.below
          have bZ := BZ.out.on F.below
          have hb := HX.out.trans (F.below.mono (by omega))
          have i6 : (Q : Int) ≤ 4 := by omega
          rw [HBE.out] at HE hMl
          clear F HP' HQ8 HX BA BZ HXS HBE hl hk hlt i5 b0 b1 hq8 hq64 i2 hgt hgt' hat i1
          go_wp2
          go_loopw [9] (fun i wr => ∃ k : Nat, k ≤ Q ∧ i = .int .i64 ((64 * k : Nat) : Int) ∧ Blk wr W.heap.size .u32 26 (S.runB A P k) ∧ Blk wr (W.heap.size + 1) .u32 26 Z ∧ Row wr .u8 gp 0 P ∧ gp < wr.heap.size ∧ Below W.heap.size W wr) (fun i _ => 64 * Q + 1 - (intOf i).toNat)
          case atStart => exact ⟨0, Nat.zero_le _, rfl, bA, bZ, hrow, hgp', hb⟩
          case round =>
            clear bA bZ hrow hgp' hb
            obtain ⟨k, hk, rfl, bA, bZ, hrow, hgl, hb⟩ := hrel
            have hL := runB_length A P hA k
            by_cases hlt : k < Q
            · have hst : S.runB A P (k + 1) = S.block (S.runB A P k) (wordsD ((P.drop (64 * k)).take 64) 16) := rfl
              have hBl : (wordsD ((P.drop (64 * k)).take 64) 16).length = 16 := wordsD_length _ _
              have hMl' : (S.runB A P (k + 1)).length = 8 := runB_length A P hA (k + 1)
              obtain ⟨N, hN⟩ : ∃ N : Nat, N = 8 := ⟨_, rfl⟩
              have a27 := Tryz.isAgg26
              have z27 := Tryz.sizeOf26
              rw [← hN] at z27
              have ld : ∀ w, Below wr.heap.size wr w → (loadCellsFrom ⟨W.heap.size, 0, none⟩ 0 N #[]).run Tryz.prog w = .ok ((S.runB A P k).map (Value.int .u32)).toArray w := fun w hw => cells_blk (e := 26) (bA.on hw) N (by rw [hL, hN])
              have C0 : Below wr.heap.size wr wr.drew := (Below.refl _ _).drew
              have C44 : Hid (Calls Tryz.prog 114 #[.slice (some ⟨gp, 0, none⟩) (64 * Q) cp, .int .i64 (64 * (k : Int))] wr.drew fun e w' => e = .returned (.agg ((wordsD ((P.drop (64 * k)).take 64) 16).map (Value.int .u32)).toArray) ∧ Below wr.heap.size wr w') := by
                have := blockAt_any wr.drew (some ⟨gp, 0, none⟩) (64 * Q) cp (64 * k) P hPl hPb (.inr ⟨gp, 0, rfl, hgl, hrow⟩) (by omega) (by omega)
                rw [show ((64 * k : Nat) : Int) = 64 * (k : Int) by omega] at this
                refine this.mono ?_
                rintro e w' ⟨rfl, hb'⟩
                exact ⟨rfl, C0.trans hb'⟩
              have C34 : Hid (∀ w, Below wr.heap.size wr w → Calls Tryz.prog 113 #[.agg ((S.runB A P k).map (Value.int .u32)).toArray, .agg ((wordsD ((P.drop (64 * k)).take 64) 16).map (Value.int .u32)).toArray] w fun e w' => e = .returned (.agg ((S.runB A P (k + 1)).map (Value.int .u32)).toArray) ∧ (storeCells ⟨W.heap.size, 0, none⟩ ((S.runB A P (k + 1)).map (Value.int .u32)) 0).run Tryz.prog w' = .ok () (w'.setRow W.heap.size ((S.runB A P (k + 1)).map (Value.int .u32)).toArray) ∧ Hid (Blk (w'.setRow W.heap.size ((S.runB A P (k + 1)).map (Value.int .u32)).toArray) W.heap.size .u32 26 (S.runB A P (k + 1)) ∧ Blk (w'.setRow W.heap.size ((S.runB A P (k + 1)).map (Value.int .u32)).toArray) (W.heap.size + 1) .u32 26 Z ∧ Row (w'.setRow W.heap.size ((S.runB A P (k + 1)).map (Value.int .u32)).toArray) .u8 gp 0 P ∧ gp < (w'.setRow W.heap.size ((S.runB A P (k + 1)).map (Value.int .u32)).toArray).heap.size ∧ Below W.heap.size W (w'.setRow W.heap.size ((S.runB A P (k + 1)).map (Value.int .u32)).toArray))) := fun w hw => by
                have hs1 := hb.size
                have hs2 := hw.size
                have hWw := hb.trans (hw.mono hs1)
                refine (rblock_any w (hT.below hWw (by omega)) (by omega) _ _ hL hBl).mono ?_
                rintro e w' ⟨rfl, hb'⟩
                have hw' : Below wr.heap.size wr w' := hw.trans (hb'.mono hs2)
                have hs3 := hw'.size
                have hbut := but_setRow w' W.heap.size ((S.runB A P (k + 1)).map (Value.int .u32)).toArray
                refine ⟨rfl, storeCells_blk (bA.on hw') (by rw [hL, hMl']), (bA.on hw').setRow _, (bZ.on hw').setRow_other _ (by omega), hbut.row (hrow.below hw' hgl) (by omega) (by omega), by simp; omega, below_setRow (hb.trans (hw'.mono hs1)) (Nat.le_refl _) _⟩
              have i7 : 64 * (k : Int) < 64 * (Q : Int) := by omega
              have hLN : (S.runB A P k).length = N := by rw [hN]; exact hL
              have hMN : (S.runB A P (k + 1)).length = N := by rw [hN]; exact hMl'
              clear bA bZ hrow hb hN hst hL hMl' hMl
              generalize S.runB A P k = L at *
              generalize hMe : S.runB A P (k + 1) = M at *
              have HMe : Hid (S.runB A P (k + 1) = M) := hMe
              clear hMe
              generalize wordsD ((P.drop (64 * k)).take 64) 16 = B at *
              go_wp2
              go_region_with (first | (go_at_call 114; refine C44.out.mono ?_; rintro en w1 ⟨rfl, hw1⟩) | (go_at_call 113; refine (C34.out _ hw1).mono ?_; rintro en w2 ⟨rfl, hst2, FF⟩))
              all_goals
                clear hst2 hw1
                go_wp2
                go_roundw
                case rel => exact ⟨k + 1, by omega, by go_num, by rw [HMe.out]; exact FF.out⟩
                case measure => simp [intOf]; omega
            · obtain rfl : k = Q := by omega
              have BA : Hid (Blk wr W.heap.size .u32 26 (endR A bs (8 * n))) := by rw [← HE.out]; exact bA
              have BZ : Hid (Blk wr (W.heap.size + 1) .u32 26 Z) := bZ
              have HB : Hid (Below W.heap.size W wr) := hb
              have HML : Hid ((endR A bs (8 * n)).length = 8) := hMl
              clear bA bZ hb hrow hL hMl HE
              generalize hM : endR A bs (8 * n) = M at *
              have HM : Hid (endR A bs (8 * n) = M) := hM
              clear hM
              go_wp2_with (first | (refine wpList_load_blk rfl 26 _ rfl W.heap.size M rfl BA.out Tryz.underlying26 (by rw [HML.out]; exact size26) ?_) | (refine wpList_store_blk rfl 26 _ _ rfl (W.heap.size + 1) M rfl rfl BZ.out (by rw [HML.out]; exact size26) (by rw [HML.out, hZl]) ?_))
              refine ret_cell rfl rfl (W.heap.size + 1) M rfl (BZ.out.setRow _) Tryz.underlying26 (by rw [HML.out]; exact size26) ?_
              rw [HM.out]
              exact ⟨rfl, below_setRow HB.out (by omega) _⟩
end Go.Proofs.YtbpdmkohihgnjaaGreatDoor
