/- Package mac: keyBlock. -/
import Derived.Test.YtialckmoigcdeaaDoorMSum
import Derived.Deep.DeepCutAuto
namespace Go.Proofs.YtialckmoigcdeaaDoor
open Go.RowKit

theorem Owned.blk {W wr : World} {k : IntKind} {e : TypeId} {N : Nat} {L : List Int} (h : Owned W wr k e N L) : Blk wr W.heap.size k e L := by
  rcases h.own.2 with ⟨h0, _⟩ | ⟨g, cap, cur, hv, _, hg, _, _, hs, ht⟩
  · cases h0
  · simp only [Value.slice.injEq, Option.some.injEq, Addr.mk.injEq, and_true] at hv
    obtain ⟨rfl, _, rfl⟩ := hv
    unfold Blk
    rw [hg, ← ht, List.take_of_length_le (by simp; omega)]
theorem sumBytes_sum (W : World) (hT : Tabs W) (ao : Option Addr) (m c : Nat) (bs : List Int) (hx : bs.length = m) (hbs : Bts bs) (hat : At W .u8 ao bs) (hc : m ≤ c) (hm : m ≤ 140737488355200) :
    Calls Tryd.prog 26 #[.slice ao m c] W fun e W' => e = .returned (Ag (sumB bs)) ∧ Below W.heap.size W W' := by
  subst hx
  exact sumBytes_any W hT.sha hT.sz ao _ c bs rfl hbs hat hc hm
theorem plus_wds (a b : List Int) : Wds (S.plus a b 8) := fun i => by
  by_cases hi : i < 8
  · have : (S.plus a b 8).getD i 0 = S.ad (a.getD i 0) (b.getD i 0) := by simp [S.plus, List.getD_eq_getElem?_getD, hi]
    rw [this]
    unfold S.ad
    omega
  · have : (S.plus a b 8).getD i 0 = 0 := by simp [S.plus, List.getD_eq_getElem?_getD, List.getElem?_eq_none (show (List.range 8).length ≤ i by simp; omega)]
    rw [this]
    decide
theorem run_wds (A xs : List Int) (hA : Wds A) : ∀ k, Wds (S.run A xs k)
  | 0 => hA
  | _ + 1 => plus_wds _ _
theorem first_wds : Wds S.First := fun i => by
  match i with
  | 0 | 1 | 2 | 3 | 4 | 5 | 6 | 7 => decide
  | i + 8 => simp [S.First]
theorem sumB_wds (bs : List Int) : Wds (sumB bs) := run_wds _ _ (run_wds _ _ first_wds _) _
theorem sumW_wds (xs : List Int) : Wds (sumW xs) := run_wds _ _ (run_wds _ _ first_wds _) _
theorem splice_key (ks : List Int) (Y : List Int) (hY : Y = List.replicate 64 0) : splice (Y.map (Value.int .u8)) 0 (ks.map (Value.int .u8)) = (ks ++ List.replicate (64 - ks.length) 0).map (Value.int .u8) := by
  subst hY
  unfold splice
  rw [List.take_zero, List.nil_append, Nat.zero_add, List.length_map, List.map_append, ← List.map_drop, List.drop_replicate]

attribute [-simp] Tryd.isAgg26 Tryd.sizeOf26 Tryd.zeroValue26 Tryd.isAgg64 Tryd.sizeOf64 Tryd.zeroValue64 Tryd.isAgg86 Tryd.sizeOf86 Tryd.zeroValue86
set_option maxRecDepth 20000 in
set_option maxHeartbeats 1000000 in
theorem keyBlock_any (W : World) (hT : Tabs W) (ao : Option Addr) (n c : Nat) (bs : List Int) (hx : bs.length = n) (hbs : Bts bs) (hat : At W .u8 ao bs) (hc : n ≤ c) (hn : n ≤ 140737488355200) :
    Calls Tryd.prog 29 #[.slice ao n c] W fun e W' => e = .returned (Ag (keyW bs)) ∧ Below W.heap.size W W' := by
  obtain ⟨Z, hZ⟩ : ∃ Z : List Int, Z = List.replicate 16 0 := ⟨_, rfl⟩
  have hZl : Z.length = 16 := by rw [hZ]; simp
  have hz : ∀ w, (zeroValue 64).run Tryd.prog w = .ok (.agg (Z.map (Value.int .u32)).toArray) w := fun w => by rw [Tryd.zeroValue64, hZ]; rfl
  obtain ⟨V, hV⟩ : ∃ V : List Int, V = List.replicate 8 0 := ⟨_, rfl⟩
  have hVl : V.length = 8 := by rw [hV]; simp
  have hv : ∀ w, (zeroValue 26).run Tryd.prog w = .ok (.agg (V.map (Value.int .u32)).toArray) w := fun w => by rw [Tryd.zeroValue26, hV]; rfl
  obtain ⟨Y, hY⟩ : ∃ Y : List Int, Y = List.replicate 64 0 := ⟨_, rfl⟩
  have hYl : Y.length = 64 := by rw [hY]; simp
  have hy : ∀ w, (zeroValue 86).run Tryd.prog w = .ok (.agg (Y.map (Value.int .u8)).toArray) w := fun w => by rw [Tryd.zeroValue86, hY]; rfl
  have HY : Hid (Y = List.replicate 64 0) := hY
  clear hZ hV hY
  have B0 : Hid (Blk (W.alloc (Obj.cells (List.map (Value.int IntKind.u32) Z).toArray 64)) W.heap.size .u32 64 Z) := Blk.new W .u32 64 Z
  have H0 : Hid (Below W.heap.size W (W.alloc (Obj.cells (List.map (Value.int IntKind.u32) Z).toArray 64))) := below_one W _
  have i1 : (n : Int) ≤ 140737488355200 := by omega
  go_enter Tryd.func29, Tryd.ntmps29
  go_upto_if 9 with fail
  go_cut [0] (fun v w => (∃ ao' c', v = .slice ao' (keyB bs).length c' ∧ At w .u8 ao' (keyB bs)) ∧ Below W.heap.size W w ∧ Blk w W.heap.size .u32 64 Z)
  case first =>
    generalize (W.alloc (Obj.cells (List.map (Value.int IntKind.u32) Z).toArray 64)) = X at *
    have hzX := B0.out.lt
    by_cases hbig : 64 < n
    · have i2 : (64 : Int) < (n : Int) := by omega
      have hkb : keyB bs = bytesD (sumB bs) := by unfold keyB; rw [if_pos (by omega)]
      have SB : Hid (Calls Tryd.prog 26 #[.slice ao n c] X fun e W' => e = .returned (Ag (sumB bs)) ∧ Below X.heap.size X W') := by
        have hat' : At X .u8 ao bs := hat.below H0.out
        exact sumBytes_sum X (hT.on H0.out) ao n c bs hx hbs hat' hc hn
      have hsl : (sumB bs).length = 8 := sumB_length _
      have hs : (Tryd.prog.info? 26).map (·.size) = some (sumB bs).length := by rw [hsl]; exact size26
      have HW : Wds (sumB bs) := sumB_wds bs
      obtain ⟨M, hM⟩ : ∃ M, sumB bs = M := ⟨_, rfl⟩
      rw [hM] at SB hsl hs hkb HW
      have HT : Hid (Tabs X) := hT.on H0.out
      clear hM hat hbs hx hc hn hbig hT
      go_wp2_with (first | (go_at_call 26; refine SB.out.mono ?_; rintro e w1 ⟨rfl, hb1⟩) | (refine wpList_store_but rfl 26 _ _ rfl w1.heap.size M rfl rfl (Blk.new w1 .u32 26 V) hs (hVl.trans hsl.symm) ?_; intro w2 b2 hw2 hs2))
      have hs1 := hb1.size
      have HB2 : Hid (Below X.heap.size X w2) := (hb1.alloc hs1 _).trans (hw2.below hs1 (by simp; omega))
      have B2 : Hid (Blk w2 w1.heap.size .u32 26 M) := b2
      clear hb1 hw2 hs2 b2
      have T2 : Hid (Tabs w2) := HT.out.on HB2.out
      refine (bytes_at w2 T2.out.lows _ 8 8 M hsl HW B2.out.at (by decide) (by have := T2.out.sz; omega)).mono ?_
      rintro e w3 ⟨rfl, O3⟩
      have HB3 : Hid (Below X.heap.size X w3) := HB2.out.trans (O3.below.mono HB2.out.size)
      have A3 : Hid (At w3 .u8 (some ⟨w2.heap.size, 0, none⟩) (keyB bs)) := by rw [hkb]; exact O3.at
      have hkl : (keyB bs).length = 32 := by rw [hkb, bytesD_length, hsl]
      clear O3 hkb
      go_wp2_with fail
      go_meet
      rw [hkl]
      exact ⟨⟨_, _, rfl, A3.out⟩, H0.out.trans (HB3.out.mono (Nat.le_of_lt hzX)), B0.out.below HB3.out hzX⟩
    · have i2 : (n : Int) ≤ 64 := by omega
      have hkb : keyB bs = bs := by unfold keyB; rw [if_neg (by omega)]
      have A3 : Hid (At X .u8 ao bs) := hat.below H0.out
      have hxx : Hid (bs.length = n) := hx
      clear hat hbs hx hc hn hbig hT
      go_wp2_with fail
      go_meet
      rw [hkb, hxx.out]
      exact ⟨⟨_, _, rfl, A3.out⟩, H0.out, B0.out⟩
  case rest =>
    clear B0 H0 hat i1 hn hc hx
    obtain ⟨⟨ao', c', rfl, hk⟩, hb, bz⟩ := hcut
    have hkl := keyB_length bs
    have KB : Bts (key64 bs) := key64_bts hbs
    have KL : (key64 bs).length = 4 * 16 := key64_length bs
    have C1 : Hid (Cel (wc.alloc (Obj.cells (List.map (Value.int IntKind.u8) Y).toArray 86)) wc.heap.size 86 (Y.map (Value.int .u8))) := heap_alloc_new _ _
    have A1 : Hid (At (wc.alloc (Obj.cells (List.map (Value.int IntKind.u8) Y).toArray 86)) .u8 ao' (keyB bs)) := hk.below (below_one wc _)
    have HS : Hid (∀ w, Cel w wc.heap.size 86 (splice (Y.map (Value.int .u8)) 0 ((keyB bs).map (Value.int .u8))) → Blk w wc.heap.size .u8 86 (key64 bs)) := fun w h => by
      rw [splice_key _ _ HY.out] at h
      exact h
    have BZ : Hid (Blk wc W.heap.size .u32 64 Z) := bz
    have HB : Hid (Below W.heap.size W wc) := hb
    have hfit : 0 + (keyB bs).length ≤ (Y.map (Value.int .u8)).length := by rw [List.length_map, hYl]; omega
    have hlt := bz.lt
    have hkl' : ((keyB bs).length : Int) ≤ 64 := by omega
    obtain ⟨M, hM⟩ : ∃ M, wordsD (key64 bs) 16 = M := ⟨_, rfl⟩
    have hMl : M.length = 16 := by rw [← hM]; exact wordsD_length _ _
    have hs : (Tryd.prog.info? 64).map (·.size) = some M.length := by rw [hMl]; exact size64
    have KM : Hid (keyW bs = M) := hM
    clear hk bz hb hbs HY hT
    generalize key64 bs = KK at *
    generalize keyB bs = k at *
    obtain ⟨m, hm⟩ : ∃ m, k.length = m := ⟨_, rfl⟩
    have HM : Hid (k.length = m) := hm
    rw [hm] at hkl hkl' ⊢
    clear hm
    go_wp2_with (first | (refine wpList_copy_but rfl _ _ 22 22 rfl 5 Tryd.underlying22 size5 wc.heap.size 0 ao' 64 64 m c' rfl rfl C1.out k HM.out A1.out hkl hfit ?_; intro w2 c2 bt2 hs2; have B2 : Hid (Blk w2 wc.heap.size .u8 86 KK) := HS.out _ c2))
    have z2 : W.heap.size < w2.heap.size := by simp at hs2; omega
    have BZ2 : Hid (Blk w2 W.heap.size .u32 64 Z) := bt2.blk (BZ.out.alloc _) (by omega)
    have HB2 : Hid (Below W.heap.size W w2) := (HB.out.alloc (by omega) _).trans (bt2.below (by omega) (by simp; omega))
    clear c2 bt2 hs2 HS C1 A1 BZ HB hfit
    refine (words_any w2 wc.heap.size 0 16 64 KK KL KB B2.out.row (by decide) B2.out.lt).mono ?_
    rintro e w3 ⟨rfl, O3⟩
    rw [hM] at O3
    have B3 : Hid (Blk w3 w2.heap.size .u32 25 M) := O3.blk
    have BZ3 : Hid (Blk w3 W.heap.size .u32 64 Z) := BZ2.out.on O3.below
    have HB3 : Hid (Below W.heap.size W w3) := HB2.out.trans (O3.below.mono (by omega))
    clear O3 hM BZ2 HB2 B2
    have hat : ∀ w, (Instr.arrayAt 64 (.slice (some ⟨w2.heap.size, 0, none⟩) 16 16)).run Tryd.prog w = .ok (.pointer (some ⟨w2.heap.size, 0, none⟩)) w := fun w => run_arrayAt w 64 _ 16 _ 16 16 Tryd.underlying64 (Nat.le_refl _)
    go_wp2_with (first | (refine wpList_load_blk rfl 64 _ rfl w2.heap.size M rfl B3.out Tryd.underlying64 hs ?_) | (refine wpList_store_blk rfl 64 _ _ rfl W.heap.size M rfl rfl BZ3.out hs (hZl.trans hMl.symm) ?_))
    refine ret_cell rfl rfl W.heap.size M rfl (BZ3.out.setRow _) Tryd.underlying64 hs ?_
    rw [KM.out]
    exact ⟨rfl, below_setRow HB3.out (Nat.le_refl _) _⟩
end Go.Proofs.YtialckmoigcdeaaDoor
