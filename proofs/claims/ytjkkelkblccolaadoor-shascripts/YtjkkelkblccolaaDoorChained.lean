import Derived.Test.YtjkkelkblccolaaDoorPadded
namespace Go.Proofs.YtjkkelkblccolaaDoor
open Go.RowKit

def w4 (a b c d : Int) : Int := (((0 * 256 + a) * 256 + b) * 256 + c) * 256 + d
theorem wordAt_full (bs : List Int) (t i : Nat) (h : 4 * i + 3 < t) : wordAt bs t i = w4 (bs.getD (4 * i) 0) (bs.getD (4 * i + 1) 0) (bs.getD (4 * i + 2) 0) (bs.getD (4 * i + 3) 0) := by
  simp (disch := omega) only [wordAt, if_pos, w4, Nat.add_zero]
theorem wordsD_getD (bs : List Int) (n i : Nat) (hi : i < n) : (wordsD bs n).getD i 0 = w4 (bs.getD (4 * i) 0) (bs.getD (4 * i + 1) 0) (bs.getD (4 * i + 2) 0) (bs.getD (4 * i + 3) 0) := by
  unfold wordsD
  rw [partW_getD _ _ _ _ hi, wordAt_full _ _ _ (by omega)]
theorem wordsD_length (bs : List Int) (n : Nat) : (wordsD bs n).length = n := partW_length _ _ _
theorem list_ext_getD {xs ys : List Int} (hl : xs.length = ys.length) (h : ∀ i, i < xs.length → xs.getD i 0 = ys.getD i 0) : xs = ys := by
  apply List.ext_getElem hl
  intro i h1 h2
  have := h i h1
  simpa [List.getD_eq_getElem?_getD, h1, h2] using this
theorem getD_take {xs : List Int} {n i : Nat} (h : i < n) : (xs.take n).getD i 0 = xs.getD i 0 := by
  simp [List.getD_eq_getElem?_getD, h]
theorem getD_drop {xs : List Int} {n i : Nat} : (xs.drop n).getD i 0 = xs.getD (n + i) 0 := by
  simp [List.getD_eq_getElem?_getD]
theorem wordsD_cut (bs : List Int) (n a k : Nat) (h : a + k ≤ n) : ((wordsD bs n).drop a).take k = wordsD ((bs.drop (4 * a)).take (4 * k)) k := by
  apply list_ext_getD
  · simp only [List.length_take, List.length_drop, wordsD_length]; omega
  · intro i hi
    simp only [List.length_take, List.length_drop, wordsD_length] at hi
    rw [getD_take (by omega), getD_drop, wordsD_getD _ _ _ (by omega), wordsD_getD _ _ _ (by omega)]
    rw [getD_take (by omega), getD_take (by omega), getD_take (by omega), getD_take (by omega), getD_drop, getD_drop, getD_drop, getD_drop]
    rw [show 4 * (a + i) = 4 * a + 4 * i by omega]
    rfl

attribute [-simp] Tryd.isAgg27 Tryd.sizeOf27 Tryd.zeroValue27 Tryd.isAgg51 Tryd.sizeOf51 Tryd.zeroValue51
set_option maxRecDepth 20000 in
set_option maxHeartbeats 2000000 in
theorem chained_any (W : World) (hT : Tab W) (h2 : 2 < W.heap.size) (ao : Option Addr) (q c : Nat) (bs : List Int) (hx : bs.length = 64 * q) (hbs : Bts bs) (hat : At W .u8 ao bs) (hq : 64 * q ≤ 140737488353280) :
    Calls Tryd.prog 12 #[.slice ao (64 * q) c] W fun e W' => e = .returned (Ag (S.run S.First (wordsD bs (16 * q)) q)) ∧ Below W.heap.size W W' := by
  obtain ⟨Z, hZ⟩ : ∃ Z : List Int, Z = List.replicate 8 0 := ⟨_, rfl⟩
  have hZl : Z.length = 8 := by rw [hZ]; simp
  have hz : ∀ w, (zeroValue 27).run Tryd.prog w = .ok (.agg (Z.map (Value.int .u32)).toArray) w := fun w => by rw [Tryd.zeroValue27, hZ]; rfl
  obtain ⟨Y, hY⟩ : ∃ Y : List Int, Y = List.replicate 16 0 := ⟨_, rfl⟩
  have hYl : Y.length = 16 := by rw [hY]; simp
  have hz' : ∀ w, (zeroValue 51).run Tryd.prog w = .ok (.agg (Y.map (Value.int .u32)).toArray) w := fun w => by rw [Tryd.zeroValue51, hY]; rfl
  have hY0 : ∀ b, partW b 16 0 = Y := fun b => by rw [hY]; exact partW_zero b 16
  clear hZ hY
  have bz0 : Blk (W.alloc (Obj.cells (List.map (Value.int IntKind.u32) Z).toArray 27)) W.heap.size .u32 27 Z := Blk.new W .u32 27 Z
  have hb0 : Below W.heap.size W (W.alloc (Obj.cells (List.map (Value.int IntKind.u32) Z).toArray 27)) := below_one _ _
  have FS : Hid (Calls Tryd.prog 26 #[] (W.alloc (Obj.cells (List.map (Value.int IntKind.u32) Z).toArray 27)) fun e W' => e = .returned (Ag S.First) ∧ Below W.heap.size W W' ∧ Blk W' W.heap.size .u32 27 Z) := by
    refine (first_any _).mono ?_
    rintro e w ⟨rfl, hb⟩
    exact ⟨rfl, hb0.trans (hb.mono (by simp)), bz0.on hb⟩
  clear bz0 hb0
  go_enter Tryd.func12, Tryd.ntmps12
  go_wp2_with (first | (go_at_call 26; refine FS.out.mono ?_; rintro en w1 ⟨rfl, hb1, bz1⟩) | (refine wpList_store_but rfl 27 _ _ rfl w1.heap.size S.First rfl rfl (Blk.new w1 .u32 27 Z) size27 hZl ?_; intro w2 bs2 hw2 hs2))
  have hgs : W.heap.size < w1.heap.size := bz1.lt
  have bz2 := hw2.blk (bz1.alloc _) (by omega)
  have hb2 := (hb1.alloc hb1.size _).trans (hw2.below (B := W.heap.size) (by omega) (by simp; omega))
  clear hw2 hs2 bz1 hb1 FS
  generalize w1.heap.size = gs at *
  go_loopw [4, 5, 6] (fun i _ _ wr => ∃ k : Nat, k ≤ q ∧ i = .int .i64 ((64 * k : Nat) : Int) ∧ Blk wr W.heap.size .u32 27 Z ∧ Blk wr gs .u32 27 (S.run S.First (wordsD bs (16 * q)) k) ∧ Below W.heap.size W wr) (fun i _ _ _ => 64 * q + 1 - (intOf i).toNat)
  case atStart => exact ⟨0, Nat.zero_le _, rfl, bz2, bs2, hb2⟩
  case round =>
    clear bz2 bs2 hb2
    obtain ⟨k, hk, rfl, bz, bst, hb⟩ := hrel
    by_cases hlt : k < q
    · rcases hat with h0 | ⟨b, off, rfl, hbl, h1⟩
      · rw [h0] at hx; simp at hx; omega
      · have i1 : (64 * (k : Int)) + 64 ≤ 64 * (q : Int) := by omega
        have i2 : 64 * (q : Int) ≤ 140737488353280 := by omega
        obtain ⟨bk, hbk⟩ : ∃ bk, bk = (bs.drop (64 * k)).take 64 := ⟨_, rfl⟩
        have hbkb : Bts bk := by rw [hbk]; exact bts_take (bts_drop hbs _) _
        have hbkg : ∀ j, j < 64 → bk.getD j 0 = bs.getD (64 * k + j) 0 := fun j hj => by rw [hbk, getD_take hj, getD_drop]
        have hstep : S.run S.First (wordsD bs (16 * q)) (k + 1) = S.block (S.run S.First (wordsD bs (16 * q)) k) (wordsD bk 16) := by
          rw [hbk, ← show 4 * 16 = 64 from rfl, show 4 * 16 * k = 4 * (16 * k) by omega, ← wordsD_cut bs (16 * q) (16 * k) 16 (by omega)]
          rfl
        have hAl := run_length S.First (wordsD bs (16 * q)) rfl k
        have HST : Hid _ := hstep
        have BZ : Hid (Blk wr W.heap.size .u32 27 Z) := bz
        have BST : Hid (Blk wr gs .u32 27 (S.run S.First (wordsD bs (16 * q)) k)) := bst
        have HB : Hid (Below W.heap.size W wr) := hb
        clear bz bst hb hstep hbk
        generalize hwo : wr = wo at *
        clear hwo
        go_wp2
        go_loopw [6] (fun i wx => ∃ j : Nat, j ≤ 64 ∧ i = .int .i64 (j : Int) ∧ Blk wx wo.heap.size .u32 51 (partW bk 16 j) ∧ Below wo.heap.size wo wx) (fun i _ => 64 - (intOf i).toNat)
        case atStart => exact ⟨0, by decide, rfl, by rw [hY0]; exact Blk.new wo .u32 51 Y, below_one _ _⟩
        case round =>
          obtain ⟨j, hj, rfl, bb, hwx⟩ := hrel
          by_cases hjlt : j < 64
          · have hcb := (h1.below (HB.out.trans (hwx.mono HB.out.size)) hbl) (64 * k + j) (by omega)
            rw [← hbkg j hjlt] at hcb
            obtain ⟨q0, q1⟩ := hbkb j
            obtain ⟨x0, x1⟩ := wordAt_bound bk hbkb (j / 4) (j % 4) (by omega)
            have hps := partW_step bk 16 (j / 4) (j % 4) (by omega) (by omega)
            rw [show 4 * (j / 4) + j % 4 = j by omega] at x0 x1 hps
            have hcell := bb.cell (j / 4) (by rw [partW_length]; omega)
            rw [partW_getD bk 16 _ (j / 4) (by omega)] at hcell
            have hfree := bb.free (j / 4)
            have hor : Hid _ := or_byte _ _ x0 x1 q0 q1
            have HS : Hid (∀ u, u = wordAt bk j (j / 4) * 256 + bk.getD j 0 → Blk (wr.drew.setCell ⟨wo.heap.size, j / 4, none⟩ (.int .u32 u)) wo.heap.size .u32 51 (partW bk 16 (j + 1)) ∧ Below wo.heap.size wo (wr.drew.setCell ⟨wo.heap.size, j / 4, none⟩ (.int .u32 u))) := fun u hu => by
              have := bb.drew.set (j / 4) u
              rw [hps u hu] at this
              exact ⟨this, hwx.drew.setCell (Nat.le_refl _) _⟩
            have j1 : (64 * (k : Int)) + (j : Int) < 64 * (q : Int) := by omega
            have j2 : (64 * (k : Int) + (j : Int)).toNat = 64 * k + j := by omega
            have j3 : (0 : Int) ≤ 64 * (k : Int) + (j : Int) := by omega
            clear bb hwx hps i1
            generalize wordAt bk j (j / 4) = x at *
            generalize bk.getD j 0 = y at *
            go_wp2
            go_region
            go_wp2
            go_roundw
            case rel => exact ⟨j + 1, by omega, by go_num, HS.out _ hor.out⟩
            case measure => simp [intOf]; omega
          · obtain rfl : j = 64 := by omega
            have hbz := BZ.out.on hwx
            have hbs' := BST.out.on hwx
            have hbW := HB.out.trans (hwx.mono HB.out.size)
            have hBl : (wordsD bk 16).length = 16 := wordsD_length _ _
            have hMl : (S.block (S.run S.First (wordsD bs (16 * q)) k) (wordsD bk 16)).length = 8 := block_length _ _
            have hsz := hbW.size
            have BLK : Hid (Calls Tryd.prog 33 #[Ag (S.run S.First (wordsD bs (16 * q)) k), Ag (wordsD bk 16)] wr fun en W' => en = .returned (Ag (S.block (S.run S.First (wordsD bs (16 * q)) k) (wordsD bk 16))) ∧ Blk W' W.heap.size .u32 27 Z ∧ Blk W' gs .u32 27 (S.run S.First (wordsD bs (16 * q)) k) ∧ Below W.heap.size W W') := by
              refine (block_any wr (hT.below hbW h2) (by omega) _ _ hAl hBl).mono ?_
              rintro en w ⟨rfl, hb⟩
              exact ⟨rfl, hbz.on hb, hbs'.on hb, hbW.trans (hb.mono hbW.size)⟩
            have BS' : Hid (Blk wr gs .u32 27 (S.run S.First (wordsD bs (16 * q)) k)) := hbs'
            have BB : Hid (Blk wr wo.heap.size .u32 51 (wordsD bk 16)) := bb
            have HST' : Hid (S.run S.First (wordsD bs (16 * q)) (k + 1) = S.block (S.run S.First (wordsD bs (16 * q)) k) (wordsD bk 16)) := HST.out
            clear hbz hbs' hbW bb hwx hsz HST BZ BST HB
            generalize S.block (S.run S.First (wordsD bs (16 * q)) k) (wordsD bk 16) = M at *
            go_wp2_with (first | (refine wpList_load_blk rfl 27 _ rfl gs _ rfl BS'.out Tryd.underlying27 (by rw [hAl]; exact size27) ?_) | (refine wpList_load_blk rfl 51 _ rfl wo.heap.size _ rfl BB.out Tryd.underlying51 (by rw [hBl]; exact size51) ?_) | (go_at_call 33; refine BLK.out.mono ?_; rintro en w5 ⟨rfl, bz5, bs5, hb5⟩) | (refine wpList_store_but rfl 27 _ _ rfl gs M rfl rfl bs5 (by rw [hMl]; exact size27) (by rw [hAl, hMl]) ?_; intro w6 bs6 hw6 hs6))
            go_roundw
            case rel =>
              refine ⟨k + 1, by omega, by go_num, hw6.blk bz5 (by omega), ?_, ?_⟩
              · rw [HST'.out]; exact bs6
              · exact hb5.trans (hw6.below (by omega) (by have := hb5.size; omega))
            case measure => simp [intOf]; omega
    · obtain rfl : k = q := by omega
      have hAl := run_length S.First (wordsD bs (16 * k)) rfl k
      have i1 : 64 * (k : Int) < 64 * (k : Int) + 64 := by omega
      have i2 : 64 * (k : Int) ≤ 140737488353280 := by omega
      have BZ : Hid (Blk wr W.heap.size .u32 27 Z) := bz
      have BST : Hid (Blk wr gs .u32 27 (S.run S.First (wordsD bs (16 * k)) k)) := bst
      have HB : Hid (Below W.heap.size W wr) := hb
      clear bz bst hb hat hx hbs
      generalize hR : S.run S.First (wordsD bs (16 * k)) k = R at *
      have HR : Hid (S.run S.First (wordsD bs (16 * k)) k = R) := hR
      clear hR
      go_wp2_with (first | (refine wpList_load_blk rfl 27 _ rfl gs R rfl BST.out Tryd.underlying27 (by rw [hAl]; exact size27) ?_) | (refine wpList_store_blk rfl 27 _ _ rfl W.heap.size R rfl rfl BZ.out (by rw [hAl]; exact size27) (by rw [hZl, hAl]) ?_))
      refine ret_cell rfl rfl W.heap.size R rfl (BZ.out.setRow _) Tryd.underlying27 (by rw [hAl]; exact size27) ?_
      rw [HR.out]
      exact ⟨rfl, below_setRow HB.out (Nat.le_refl _) _⟩
end Go.Proofs.YtjkkelkblccolaaDoor
