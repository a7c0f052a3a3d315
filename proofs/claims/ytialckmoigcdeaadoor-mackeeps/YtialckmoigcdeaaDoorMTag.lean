/- Package mac: TagBytes, Extract, Tag. -/
import Derived.Test.YtialckmoigcdeaaDoorMNew
namespace Go.Proofs.YtialckmoigcdeaaDoor
open Go.RowKit


attribute [-simp] Tryd.isAgg26 Tryd.sizeOf26 Tryd.zeroValue26 Tryd.isAgg64 Tryd.sizeOf64 Tryd.zeroValue64
set_option maxRecDepth 20000 in
set_option maxHeartbeats 2000000 in
theorem tagBytes_any (W : World) (hT : Tabs W) (ao : Option Addr) (n c : Nat) (ks : List Int) (hx : ks.length = n) (hks : Bts ks) (hat : At W .u8 ao ks) (hc : n ≤ c) (hn : n ≤ 140737488355200)
    (bo : Option Addr) (m d : Nat) (bs : List Int) (hy : bs.length = m) (hbs : Bts bs) (hbt : At W .u8 bo bs) (hd : Sl bo d) (hm : m ≤ 140737488355072) :
    Calls Tryd.prog 16 #[.slice ao n c, .slice bo m d] W fun e W' => e = .returned (Ag (hmac ks bs)) ∧ Below W.heap.size W W' := by
  obtain ⟨Z, hZ⟩ : ∃ Z : List Int, Z = List.replicate 16 0 := ⟨_, rfl⟩
  have hZl : Z.length = 16 := by rw [hZ]; simp
  have hz : ∀ w, (zeroValue 64).run Tryd.prog w = .ok (.agg (Z.map (Value.int .u32)).toArray) w := fun w => by rw [Tryd.zeroValue64, hZ]; rfl
  obtain ⟨V, hV⟩ : ∃ V : List Int, V = List.replicate 8 0 := ⟨_, rfl⟩
  have hVl : V.length = 8 := by rw [hV]; simp
  have hv : ∀ w, (zeroValue 26).run Tryd.prog w = .ok (.agg (V.map (Value.int .u32)).toArray) w := fun w => by rw [Tryd.zeroValue26, hV]; rfl
  clear hZ hV
  have hsz := hT.sz
  obtain ⟨X, hX⟩ : ∃ X, X = W.alloc (Obj.cells (List.map (Value.int IntKind.u32) V).toArray 26) := ⟨_, rfl⟩
  have BV : Hid (Blk X W.heap.size .u32 26 V) := by rw [hX]; exact Blk.new W .u32 26 V
  have HB : Hid (Below W.heap.size W X) := by rw [hX]; exact below_one W _
  have TX : Hid (Tabs X) := hT.on HB.out
  have AX : Hid (At X .u8 ao ks) := hat.below HB.out
  have AM : Hid (At X .u8 bo bs) := hbt.below HB.out
  clear hat hbt hT
  go_enter Tryd.func16, Tryd.ntmps16
  go_wp2_with fail
  rw [← hX]
  clear hX
  refine (keyBlock_any X TX.out ao n c ks hx hks AX.out hc hn).mono ?_
  rintro e w1 ⟨rfl, hb1⟩
  have hKl := keyW_length ks
  obtain ⟨K, hK⟩ : ∃ K, keyW ks = K := ⟨_, rfl⟩
  rw [hK] at hKl ⊢
  have HK : Hid (keyW ks = K) := hK
  have hs : (Tryd.prog.info? 64).map (·.size) = some K.length := by rw [hKl]; exact size64
  replace TX : Hid (Tabs w1) := TX.out.on hb1
  replace AM : Hid (At w1 .u8 bo bs) := AM.out.below hb1
  replace HB : Hid (Below W.heap.size W w1) := HB.out.trans (hb1.mono (Nat.le_of_lt BV.out.lt))
  replace BV : Hid (Blk w1 W.heap.size .u32 26 V) := BV.out.on hb1
  clear hb1 AX hK
  have z1 := BV.out.lt
  go_wp2_with (first | (refine wpList_store_but rfl 64 _ _ rfl w1.heap.size K rfl rfl (Blk.new w1 .u32 64 Z) hs (hZl.trans hKl.symm) ?_; intro w2 b2 hw2 hs2) | (refine wpList_load_blk rfl 64 _ rfl w1.heap.size K rfl b2 Tryd.underlying64 hs ?_))
  have z2 : w1.heap.size < w2.heap.size := by simp at hs2; omega
  have hbw1w2 : Below w1.heap.size w1 w2 := (below_one w1 _).trans (hw2.below (Nat.le_refl _) (by simp))
  replace TX : Hid (Tabs w2) := TX.out.on hbw1w2
  replace AM : Hid (At w2 .u8 bo bs) := AM.out.below hbw1w2
  replace HB : Hid (Below W.heap.size W w2) := HB.out.trans (hbw1w2.mono (by omega))
  replace BV : Hid (Blk w2 W.heap.size .u32 26 V) := BV.out.on hbw1w2
  clear hbw1w2
  have BK : Hid (Blk w2 w1.heap.size .u32 64 K) := b2
  clear hw2 hs2 b2
  generalize w1.heap.size = gk at *
  clear w1
  refine (padded_any w2 K hKl 909522486).mono ?_
  rintro e w3 ⟨rfl, hb3⟩
  obtain ⟨P, hP⟩ : ∃ P, xorL 909522486 K = P := ⟨_, rfl⟩
  have HP : Hid (xorL 909522486 K = P) := hP
  have hPl : P.length = 16 := by rw [← hP, xorL_length, hKl]
  have hPw : Wds P := by rw [← hP, ← HK.out]; exact xorL_wds _ (by decide) (by decide) (keyW_wds hks)
  rw [hP]
  have hsP : (Tryd.prog.info? 64).map (·.size) = some P.length := by rw [hPl]; exact size64
  replace TX : Hid (Tabs w3) := TX.out.on hb3
  replace AM : Hid (At w3 .u8 bo bs) := AM.out.below hb3
  replace HB : Hid (Below W.heap.size W w3) := HB.out.trans (hb3.mono (by omega))
  replace BV : Hid (Blk w3 W.heap.size .u32 26 V) := BV.out.on hb3
  replace BK : Hid (Blk w3 gk .u32 64 K) := BK.out.on hb3
  have z3 : gk < w3.heap.size := BK.out.lt
  clear hb3 hP
  go_wp2_with (first | (refine wpList_store_but rfl 64 _ _ rfl w3.heap.size P rfl rfl (Blk.new w3 .u32 64 Z) hsP (hZl.trans hPl.symm) ?_; intro w4 b4 hw4 hs4))
  have z4 : w3.heap.size < w4.heap.size := by simp at hs4; omega
  have hbw3w4 : Below w3.heap.size w3 w4 := (below_one w3 _).trans (hw4.below (Nat.le_refl _) (by simp))
  replace TX : Hid (Tabs w4) := TX.out.on hbw3w4
  replace AM : Hid (At w4 .u8 bo bs) := AM.out.below hbw3w4
  replace HB : Hid (Below W.heap.size W w4) := HB.out.trans (hbw3w4.mono (by omega))
  replace BV : Hid (Blk w4 W.heap.size .u32 26 V) := BV.out.on hbw3w4
  replace BK : Hid (Blk w4 gk .u32 64 K) := BK.out.on hbw3w4
  clear hbw3w4
  have BP : Hid (Blk w4 w3.heap.size .u32 64 P) := b4
  clear hw4 hs4 b4
  generalize w3.heap.size = ga at *
  refine (bytes_at w4 TX.out.lows _ 16 16 P hPl hPw BP.out.at (by decide) (by have := TX.out.sz; omega)).mono ?_
  rintro e w5 ⟨rfl, O5⟩
  have HQ : Hid (bytesD P = xorB 54 (key64 ks)) := by rw [← HP.out, ← HK.out]; exact bytes_inner hks
  have hQl : (bytesD P).length = 64 := by rw [bytesD_length, hPl]
  have hQb := bytesD_bts P
  have AQ : Hid (At w5 .u8 (some ⟨w4.heap.size, 0, none⟩) (bytesD P)) := O5.at
  obtain ⟨Q, hQ⟩ : ∃ Q, bytesD P = Q := ⟨_, rfl⟩
  rw [hQ] at HQ hQl hQb AQ
  replace TX : Hid (Tabs w5) := TX.out.on O5.below
  replace AM : Hid (At w5 .u8 bo bs) := AM.out.below O5.below
  replace HB : Hid (Below W.heap.size W w5) := HB.out.trans (O5.below.mono (by omega))
  replace BV : Hid (Blk w5 W.heap.size .u32 26 V) := BV.out.on O5.below
  replace BK : Hid (Blk w5 gk .u32 64 K) := BK.out.on O5.below
  have z5 : gk < w5.heap.size := BK.out.lt
  have z5' : w4.heap.size < w5.heap.size := O5.lt
  clear O5 BP hQ
  generalize w4.heap.size = gb at *
  obtain ⟨Y, hY⟩ : ∃ Y, Y = w5.alloc (Obj.cells #[.slice (some ⟨gb, 0, none⟩) 64 64, .slice bo m d] 22) := ⟨_, rfl⟩
  have CY : Hid (Cel Y w5.heap.size 22 [.slice (some ⟨gb, 0, none⟩) 64 64, .slice bo m d]) := by rw [hY]; exact heap_alloc_new _ _
  have bY : Below w5.heap.size w5 Y := by rw [hY]; exact below_one _ _
  have zY : w5.heap.size < Y.heap.size := by rw [hY]; simp
  have CC : Hid (Calls Tryd.prog 27 #[.slice (some ⟨w5.heap.size, 0, none⟩) 2 2] Y fun e W' => ∃ v, e = .returned v ∧ Holds Y W' .u8 5 v (Q ++ bs)) := by
    have := concat_any Y w5.heap.size 2 2 (fun i => if i = 0 then some ⟨gb, 0, none⟩ else bo) (fun i => if i = 0 then 64 else m) (fun i => if i = 0 then 64 else d) (fun i => if i = 0 then Q else bs) (by decide)
      (fun t ht => by
        rw [CY.out.cell]
        match t, ht with
        | 0, _ => rfl
        | 1, _ => rfl) (by omega)
      (fun t ht => by
        match t, ht with
        | 0, _ => exact hQl
        | 1, _ => exact hy)
      (fun t ht => by
        match t, ht with
        | 0, _ => exact AQ.out.below bY
        | 1, _ => exact AM.out.below bY)
      (fun t ht => by
        match t, ht with
        | 0, _ => exact fun h => by cases h
        | 1, _ => exact hd)
      (by show ((([] : List Int) ++ Q) ++ bs).length ≤ _; simp only [List.nil_append, List.length_append]; omega)
    have e : joinX (fun i => if i = 0 then Q else bs) 2 = Q ++ bs := rfl
    rw [e] at this
    exact this
  replace TX : Hid (Tabs Y) := TX.out.on bY
  replace HB : Hid (Below W.heap.size W Y) := HB.out.trans (bY.mono (by omega))
  replace BV : Hid (Blk Y W.heap.size .u32 26 V) := BV.out.on bY
  replace BK : Hid (Blk Y gk .u32 64 K) := BK.out.on bY
  clear bY AQ AM
  go_wp2_with fail
  rw [← hY]
  clear hY
  refine CC.out.mono ?_
  rintro e w6 ⟨v, rfl, H6⟩
  obtain ⟨vo, vc, rfl, hvc, hva, _⟩ := H6.at'
  have hb6 := H6.below
  replace TX : Hid (Tabs w6) := TX.out.on hb6
  replace HB : Hid (Below W.heap.size W w6) := HB.out.trans (hb6.mono (by omega))
  replace BV : Hid (Blk w6 W.heap.size .u32 26 V) := BV.out.on hb6
  replace BK : Hid (Blk w6 gk .u32 64 K) := BK.out.on hb6
  have z6 := hb6.size
  have hJb := bts_append hQb hbs
  have hJn : (Q ++ bs).length ≤ 140737488355200 := by rw [List.length_append]; omega
  clear H6 hb6 CC CY
  obtain ⟨J, hJ⟩ : ∃ J, Q ++ bs = J := ⟨_, rfl⟩
  have HJ : Hid (Q ++ bs = J) := hJ
  rw [hJ] at hvc hva hJb hJn ⊢
  obtain ⟨l, hl⟩ : ∃ l, J.length = l := ⟨_, rfl⟩
  have HLL : Hid (J.length = l) := hl
  rw [hl] at hvc hJn ⊢
  clear hl hJ
  go_wp2_with fail
  refine (sumBytes_sum w6 TX.out vo l vc J HLL.out hJb hva hvc hJn).mono ?_
  rintro e w7 ⟨rfl, hb7⟩
  obtain ⟨I, hI⟩ : ∃ I, sumB J = I := ⟨_, rfl⟩
  have hIl : I.length = 8 := by rw [← hI]; exact sumB_length _
  have HI : Hid (sumB J = I) := hI
  rw [hI]
  have hsI : (Tryd.prog.info? 26).map (·.size) = some I.length := by rw [hIl]; exact size26
  replace TX : Hid (Tabs w7) := TX.out.on hb7
  replace HB : Hid (Below W.heap.size W w7) := HB.out.trans (hb7.mono (by omega))
  replace BV : Hid (Blk w7 W.heap.size .u32 26 V) := BV.out.on hb7
  replace BK : Hid (Blk w7 gk .u32 64 K) := BK.out.on hb7
  have z7 := hb7.size
  clear hb7 hva hvc hI
  go_wp2_with (first | (refine wpList_store_but rfl 26 _ _ rfl w7.heap.size I rfl rfl (Blk.new w7 .u32 26 V) hsI (hVl.trans hIl.symm) ?_; intro w8 b8 hw8 hs8))
  have z8 : w7.heap.size < w8.heap.size := by simp at hs8; omega
  have hbw7w8 : Below w7.heap.size w7 w8 := (below_one w7 _).trans (hw8.below (Nat.le_refl _) (by simp))
  replace TX : Hid (Tabs w8) := TX.out.on hbw7w8
  replace HB : Hid (Below W.heap.size W w8) := HB.out.trans (hbw7w8.mono (by omega))
  replace BV : Hid (Blk w8 W.heap.size .u32 26 V) := BV.out.on hbw7w8
  replace BK : Hid (Blk w8 gk .u32 64 K) := BK.out.on hbw7w8
  clear hbw7w8
  have BI : Hid (Blk w8 w7.heap.size .u32 26 I) := b8
  clear hw8 hs8 b8
  generalize w7.heap.size = gI at *
  have zV := BV.out.lt
  have zK := BK.out.lt
  have zI := BI.out.lt
  have nK : gk ≠ W.heap.size := by omega
  have nI : gI ≠ W.heap.size := by omega
  obtain ⟨R, hR⟩ : ∃ R, sumW (xorL 1549556828 K ++ I) = R := ⟨_, rfl⟩
  have hRl : R.length = 8 := by rw [← hR]; exact sumW_length _
  have hsR : (Tryd.prog.info? 26).map (·.size) = some R.length := by rw [hRl]; exact size26
  have HF : Hid (hmac ks bs = R) := by rw [← hR, ← HI.out, ← HJ.out, HQ.out, ← HK.out]; exact (tag_bytes ks bs hks).symm
  have RK : Hid (∀ w, But W.heap.size w8 w → w.rangeAt gk 0 (K.map (Value.int .u32))) := fun w hb => (hb.row BK.out.row zK nK).range
  have RI : Hid (∀ w, But W.heap.size w8 w → w.rangeAt gI 0 (I.map (Value.int .u32))) := fun w hb => (hb.row BI.out.row zI nI).range
  have ST : Hid (∀ w, But W.heap.size w8 w → Calls Tryd.prog 32 #[.agg (K.map (Value.int .u32)).toArray, .int .u32 1549556828] w fun e W' => ∃ g, w.heap.size ≤ g ∧ e = .returned (.pointer (some ⟨g, 0, none⟩)) ∧ DigL W' g (xorL 1549556828 K) ∧ Below w.heap.size w W') := fun w hb => started_any w (TX.out.but hb (by omega)) K hKl 1549556828
  have OS : Hid (∀ w g', But W.heap.size w8 w → w8.heap.size ≤ g' → DigL w g' (xorL 1549556828 K) → Calls Tryd.prog 31 #[.pointer (some ⟨g', 0, none⟩), .agg (I.map (Value.int .u32)).toArray] w fun e W' => e = .returned (.agg (R.map (Value.int .u32)).toArray) ∧ But g' w W') := fun w g' hb hg D => by
    have := outerSum_any w (TX.out.but hb (by omega)) g' _ D (by rw [xorL_length, hKl]; decide) (by omega) I hIl
    rw [hR] at this
    exact this
  clear hR HQ HP HI HK BI BK TX hPw hQb hks hbs hx hy
  go_wp2_with fail
  refine wp_region_held_drew (S := fun w => But W.heap.size w8 w) (by kernel_rfl) (Below.but (Below.refl _ _).drew) (fun hHeld => ?_)
  refine wpAnyH_take (i := 0) (oi := { dst := some 18, op := Op.load 64 (Operand.tmp 5), type := 64, pos := "mac.go:32", after := #[], guard := none }) (v := .agg (K.map (Value.int .u32)).toArray) rfl (by kernel_rfl) (by kernel_rfl) (by kernel_rfl) (fun _ _ _ h => h) (yieldsIf_load_mid (by rfl) _ _ rfl _ _ rfl _ _ (fun w hSw => RK.out w hSw) Tryd.underlying64 rfl (by rw [List.length_map]; exact hs)) (by assumption) ?_
  simp only [Act.put, List.setIfInBounds_toArray, List.set_cons_zero, List.set_cons_succ]
  refine wpAnyH_take (i := 2) (oi := { dst := some 20, op := Op.load 26 (Operand.tmp 7), type := 26, pos := "mac.go:32", after := #[], guard := none }) (v := .agg (I.map (Value.int .u32)).toArray) rfl (by kernel_rfl) (by kernel_rfl) (by kernel_rfl) (fun _ _ _ h => h) (yieldsIf_load_mid (by rfl) _ _ rfl _ _ rfl _ _ (fun w hSw => RI.out w hSw) Tryd.underlying26 rfl (by rw [List.length_map]; exact hsI)) (by assumption) ?_
  simp only [Act.put, List.setIfInBounds_toArray, List.set_cons_zero, List.set_cons_succ]
  refine wpAnyH_ready (rs := [1]) (by kernel_rfl) (by simp) (AllReadyH.cons (o := { dst := some 19, op := Op.call { callee := Callee.value (Operand.func 32), args := #[Operand.tmp 18, Operand.const (Value.int IntKind.u32 1549556828)], argTypes := #[64, 25] }, type := 45, pos := "mac.go:32", after := #[{ on := 0, ground := Ground.data }], guard := none }) rfl (fun KQ hK => ?_) AllReadyH.nil)
  go_simp
  refine (ST.out _ (Below.but (Below.refl _ _).drew)).mono ?_
  rintro e w9 ⟨g9, hg9, rfl, D9, hb9⟩
  have HB9 : But W.heap.size w8 w9 := But.more (Below.but (Below.refl _ _).drew) hb9
  have hx9 : Below w8.heap.size w8 w9 := (Below.refl w8.heap.size w8).drew.trans (hb9.mono (by simp))
  replace hg9 : w8.heap.size ≤ g9 := by simpa using hg9
  go_wp2_with fail
  refine hK.out _ _ HB9 (fun hHeld => ?_)
  clear hK KQ
  try simp only [Act.put, List.setIfInBounds_toArray, List.set_cons_zero, List.set_cons_succ]
  refine wpAnyH_ready (rs := [3]) (by kernel_rfl) (by simp) (AllReadyH.cons (o := { dst := some 21, op := Op.call { callee := Callee.value (Operand.func 31), args := #[Operand.tmp 19, Operand.tmp 20], argTypes := #[45, 26] }, type := 26, pos := "mac.go:32", after := #[{ on := 1, ground := Ground.data }, { on := 2, ground := Ground.data }, { on := 1, ground := Ground.chain }], guard := none }) rfl (fun KQ hK => ?_) AllReadyH.nil)
  go_simp
  refine (OS.out _ g9 HB9 hg9 D9).mono ?_
  rintro e wA ⟨rfl, btA⟩
  have HBA : But W.heap.size w8 wA := HB9.skip btA hg9
  have BVA : Hid (Blk wA W.heap.size .u32 26 V) := btA.blk (BV.out.on hx9) (by omega)
  go_wp2_with fail
  refine hK.out _ _ HBA (fun hHeld => ?_)
  clear hK KQ
  try simp only [Act.put, List.setIfInBounds_toArray, List.set_cons_zero, List.set_cons_succ]
  refine wpAnyH_ready (rs := [4]) (by kernel_rfl) (by simp) (AllReadyH.cons (o := { dst := none, op := Op.store 26 (Operand.tmp 4) (Operand.tmp 21), type := 0, pos := "mac.go:32", after := #[{ on := 3, ground := Ground.data }, { on := 3, ground := Ground.chain }, { on := 0, ground := Ground.phase }, { on := 1, ground := Ground.phase }, { on := 2, ground := Ground.phase }, { on := 3, ground := Ground.phase }], guard := none }) rfl (fun KQ hK => ?_) AllReadyH.nil)
  rw [if_pos (by rfl)]
  refine wp_store_row8 26 _ _ rfl W.heap.size R rfl rfl BVA.out (by rw [hVl]; exact size26) (by rw [hVl, hRl]) ?_
  refine hK.out _ _ (HBA.trans (but_setRow _ _ _)) (fun hHeld => ?_)
  clear hK KQ
  simp only [Act.put]
  refine wpAnyH_done (by kernel_rfl) ?_ _
  have HL : Hid (Below W.heap.size W wA) := HB.out.trans (HBA.below (Nat.le_refl _) (by omega))
  clear HBA HB9 D9 hb9 btA hHeld hx9
  go_wp2_with fail
  refine ret_cell rfl rfl W.heap.size R rfl (BVA.out.setRow _) Tryd.underlying26 hsR ⟨?_, below_setRow HL.out (Nat.le_refl _) _⟩
  rw [HF.out]
end Go.Proofs.YtialckmoigcdeaaDoor
