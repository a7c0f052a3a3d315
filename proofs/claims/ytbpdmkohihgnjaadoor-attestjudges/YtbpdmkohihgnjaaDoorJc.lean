/- The law AttestJudges 4: its beginning. -/
import Derived.Test.YtbpdmkohihgnjaaDoorJb
namespace Go.Proofs.YtbpdmkohihgnjaaDoor
open Go.RowKit
set_option maxHeartbeats 8000000
set_option maxRecDepth 100000
attribute [-simp] Tryd.isAgg23 Tryd.zeroValue23 Tryd.isAgg38 Tryd.zeroValue38 Tryd.isAgg36 Tryd.zeroValue36 Tryd.isAgg40 Tryd.zeroValue40
theorem judges_l (W : World) (E : Nat → Addr) (ao : Option Addr) (n c : Nat) (ot : Bool) (R : List Rl) (s o m d t : List Int) (ri sa : Bool) (at_ : Int) (h0 : J0 W E ao R) (hs : s.length = 8) (ho : o.length = 8) (hm : m.length = 8) (hd : d.length = 8) (ht : t.length = 8) (ws : Wds s) (wo : Wds o) (wm : Wds m) (wd : Wds d) (wt : Wds t)
    (hn : R.length = n) (ok : ∀ r ∈ R, r.Ok) (hmax : (n : Int) ≤ 9223372036854775807) (a0 : -9223372036854775808 ≤ at_) (a1 : at_ ≤ 9223372036854775807) :
    Calls Tryd.prog 4 #[.agg (polC ao n c ot).toArray, .agg (claC s o (quoL m d t) ri sa).toArray, .int .i64 at_] W fun e W' => e = .returned (.bool true) ∧ Below W.heap.size W W' := by
  obtain ⟨Z, hZ⟩ : ∃ Z : List Int, Z = List.replicate 8 0 := ⟨_, rfl⟩
  have hZl : Z.length = 8 := by rw [hZ]; simp
  have hz : ∀ w, (zeroValue 23).run Tryd.prog w = .ok (.agg (Z.map (Value.int .u32)).toArray) w := fun w => by rw [Tryd.zeroValue23, hZ]; rfl
  clear hZ
  obtain ⟨Y, hY⟩ : ∃ Y : List Int, Y = List.replicate 24 0 := ⟨_, rfl⟩
  have hYl : Y.length = 24 := by rw [hY]; simp
  have hy : ∀ w, (zeroValue 38).run Tryd.prog w = .ok (.agg (Y.map (Value.int .u32)).toArray) w := fun w => by rw [Tryd.zeroValue38, hY]; rfl
  clear hY
  have hQl := quoL_length hm hd ht
  have HF : Hid (JF W ao n R s o (quoL m d t) (keyOf s) m d t) := hid ⟨hs, ho, hQl, keyOf_length s, hm, hd, ht, wo, hmac_wds _ _, wm, wd, wt, hn, ok, hmax⟩
  have HK := hid (fun w (h : Tabs w) => key_any w h s hs ws)
  have hKl := keyOf_length s
  obtain ⟨X, hX⟩ : ∃ X, X = (W.alloc (Obj.cells #[.slice ao n c, .bool ot] 36)).alloc (Obj.cells (claC s o (quoL m d t) ri sa).toArray 40) := ⟨_, rfl⟩
  have Y0 : Hid (Below W.heap.size W X ∧ Cel X W.heap.size 36 (polC ao n c ot) ∧ Cel X (W.heap.size + 1) 40 (claC s o (quoL m d t) ri sa)) := hid (by
    refine ⟨?_, ?_, ?_⟩
    · rw [hX]; exact below_on (below_one W _) (below_one _ _)
    · rw [hX]; exact Cel.on (heap_alloc_new _ _) (below_one _ _)
    · rw [hX]; exact heap_alloc_new' (by simp) _)
  have H0 := hid h0
  have HRW : Hid (∀ b off, ao = some ⟨b, off, none⟩ → R ≠ [] → b < W.heap.size) := hid (by
    intro b off hao hne
    rcases h0.ru with h | ⟨b2, off2, h1, h2, h3⟩
    · exact absurd h hne
    · have e : b = b2 := congrArg Addr.block (Option.some.inj (hao.symm.trans h1))
      omega)
  obtain ⟨k, hk⟩ : ∃ k, keyOf s = k := ⟨_, rfl⟩
  rw [hk] at HF hKl
  simp only [hk] at HK
  obtain ⟨q, hq⟩ : ∃ q, quoL m d t = q := ⟨_, rfl⟩
  have HQ := hid hq
  rw [hq] at HF Y0 hQl hX
  rw [hq]
  clear h0 ws wo wm wd wt hk hq ok
  have hla : claC s o q ri sa = (claC s o q ri sa) := rfl
  obtain ⟨C, hC⟩ : ∃ C, claC s o q ri sa = C := ⟨_, rfl⟩
  have HC := hid hC
  rw [hC] at Y0 hX
  rw [hC]
  clear hla hC
  unfold Ag at HK
  unfold polC
  go_enter Tryd.func4, Tryd.ntmps4
  go_upto_region 1 with fail
  rw [← hX]
  clear hX
  generalize hg4 : W.heap.size + 1 = g4 at *
  have HG4 := hid hg4
  clear hg4
  go_wp2_with (first | (refine wpList_load_mid rfl 23 _ rfl g4 0 rfl (s.map (Value.int .u32)) _ (cla0 (by rw [HC.out]; exact Y0.out.2.2)) Tryd.underlying23 rfl (by rw [List.length_map, hs]; exact size26) ?_))
  refine (HK.out _ (H0.out.tb.on Y0.out.1)).mono ?_
  rintro e w1 ⟨rfl, hb⟩
  have Y1 : Hid (Below W.heap.size W w1 ∧ Cel w1 W.heap.size 36 (polC ao n c ot) ∧ Cel w1 g4 40 C) := hid ⟨below_on Y0.out.1 hb, Y0.out.2.1.on hb, Y0.out.2.2.on hb⟩
  clear hb Y0
  go_upto_region 2 with (first | (refine wpList_store_but rfl 23 _ _ rfl w1.heap.size k rfl rfl (Blk.new w1 .u32 23 Z) (by rw [hKl]; exact size26) (by rw [hZl, hKl]) ?_; intro w2 bK hbt hsz; have Y2 : Hid (Below W.heap.size W w2 ∧ Cel w2 W.heap.size 36 (polC ao n c ot) ∧ Cel w2 g4 40 C ∧ Blk w2 w1.heap.size .u32 23 k ∧ g4 < w1.heap.size) := hid ⟨below_on Y1.out.1 (but_box hbt), Y1.out.2.1.on (but_box hbt), Y1.out.2.2.on (but_box hbt), bK, Y1.out.2.2.lt⟩; clear bK hbt hsz))
  clear Y1
  generalize w1.heap.size = g7 at *
  clear HK
  go_upto_region 3 with (first | (refine wpList_load_mid rfl 38 _ rfl g4 16 rfl (q.map (Value.int .u32)) _ (cla16 (by rw [HC.out]; exact Y2.out.2.2.1) hs ho) Tryd.underlying38 rfl (by rw [List.length_map, hQl]; exact size38) ?_) | (refine wpList_store_but rfl 38 _ _ rfl w2.heap.size q rfl rfl (Blk.new w2 .u32 38 Y) (by rw [hQl]; exact size38) (by rw [hYl, hQl]) ?_; intro w3 bQ hbt hsz; have Y3 : Hid (JL W E g4 g7 w2.heap.size ao n c ot R s o q ri sa k m d t w3) := hid (by have hB := below_on Y2.out.1 (but_box hbt); have hz4 := HG4.out; exact ⟨hB, H0.out.tb.on hB, H0.out.es.on hB, Y2.out.2.1.on (but_box hbt), by rw [HC.out]; exact Y2.out.2.2.1.on (but_box hbt), Y2.out.2.2.2.1.on (but_box hbt), by rw [HQ.out]; exact bQ, H0.out.ru.on hB, by omega, Y2.out.2.2.2.2, Y2.out.2.2.2.1.lt, H0.out.tb.sz, HRW.out⟩); clear bQ hbt hsz Y2))
  generalize w2.heap.size = g8 at *
  clear hz hy
  have cs := (cla40 Y3.out.c4 hs ho hQl).2
  cases sa
  · go_upto_region 5 with fail
    clear cs
    have Y4 := Y3
    clear Y3
    have HF4 := HF
    clear HF
    have hd4 := hd
    generalize hw4 : w3 = w4 at *
    clear hw4
    have c0 : w4.cell? ⟨W.heap.size, 0, none⟩ = some (.slice ao n c) := Y4.out.p3.cell 0
    rcases Nat.eq_zero_or_pos n with hn0 | hn0
    · have n1 : (n : Int) ≤ 0 := by omega
      clear hn0 hn a0 a1
      go_upto_region 7 with fail
      exact judges_5 W w4 E g4 g7 g8 ao n c ot R s o q ri false k m d t H0.out HF4.out Y4.out _ ‹∀ (a : Act) (w : World), Code.wp Tryd.prog _ _ a w → _› _ _ _ _ _ _ _ _ _ _ _ _ _ _ _ _ _ _ _ _ _ _ _ _ _ _ _ _ _ _ _ _ _ _ _ _ _ _ _ _ _ _ _ _ _ _ _ _ _ _ _ _ _ _ _ _ _ _ _ _ _ _ _ _ _ _ _ _ _ _ _ _ _ _ _ _ _ _ _ _ _ _ _ _ _ _ _ _ _ _ _ _ _ _ _ _ _ _ _ _ _ _ _ _ _ _ _ _ _ _ _ _ _ _ _ _ _ _ _ _ _ _ _ _ _ _ _ _ _ _ _ _ _ _ _ _ _ _ _ _ _ _ _ _ _ _ _ _ _
    · have n1 : (0 : Int) < (n : Int) := by omega
      by_cases ha : 0 ≤ at_
      rotate_left
      · have a2 : at_ < 0 := by omega
        clear hn0 hn ha
        go_upto_region 7 with fail
        exact judges_5 W w4 E g4 g7 g8 ao n c ot R s o q ri false k m d t H0.out HF4.out Y4.out _ ‹∀ (a : Act) (w : World), Code.wp Tryd.prog _ _ a w → _› _ _ _ _ _ _ _ _ _ _ _ _ _ _ _ _ _ _ _ _ _ _ _ _ _ _ _ _ _ _ _ _ _ _ _ _ _ _ _ _ _ _ _ _ _ _ _ _ _ _ _ _ _ _ _ _ _ _ _ _ _ _ _ _ _ _ _ _ _ _ _ _ _ _ _ _ _ _ _ _ _ _ _ _ _ _ _ _ _ _ _ _ _ _ _ _ _ _ _ _ _ _ _ _ _ _ _ _ _ _ _ _ _ _ _ _ _ _ _ _ _ _ _ _ _ _ _ _ _ _ _ _ _ _ _ _ _ _ _ _ _ _ _ _ _ _ _ _ _
      · obtain ⟨u, hu⟩ := Int.eq_ofNat_of_zero_le (Int.tmod_nonneg (n : Int) ha)
        have ul : u < n := by have := Int.tmod_lt_of_pos at_ n1; omega
        obtain ⟨b, off, rfl, hb, hra⟩ : ∃ b off, ao = some ⟨b, off, none⟩ ∧ b < w4.heap.size ∧ ∀ t r, R[t]? = some r → w4.rangeAt b (off + t * 10) r.cs := by
          rcases Y4.out.ru with h | h
          · rw [h] at hn; simp at hn; omega
          · exact h
        have hb8 : b < W.heap.size := Y4.out.rw b off rfl (fun h => by rw [h] at hn; simp at hn; omega)
        obtain ⟨r, hr⟩ : ∃ r, R[u]? = some r := ⟨_, List.getElem?_eq_getElem (by omega)⟩
        have ro := HF4.out.ok r (List.mem_of_getElem? hr)
        have HR := hid (hra u r hr)
        have HO := hid ro
        have i3 : (u : Int) < (n : Int) := by omega
        have i4 : (0 : Int) ≤ (u : Int) := by omega
        have HB := hid hb
        have HN3 := hid (show ¬ n = 0 by omega)
        have HB8 := hid (show b < g8 by have := Y4.out.l4; have := Y4.out.l7; have := Y4.out.l8; omega)
        have HL8 := hid (show W.heap.size < g8 by have := Y4.out.l4; have := Y4.out.l7; have := Y4.out.l8; omega)
        clear hra hr ro hb hb8 hn hn0 ul
        go_upto_region 6 with fail
        have Y5 : Hid (Cel w4.drew W.heap.size 36 (polC (some ⟨b, off, none⟩) n c ot) ∧ w4.drew.rangeAt b (off + u * 10) r.cs) := hid ⟨Y4.out.p3, range_below HR.out (Below.refl _ _).drew HB.out⟩
        have Y6 : Hid (JL W E g4 g7 g8 (some ⟨b, off, none⟩) n c ot R s o q ri false k m d t w4.drew) := hid (Y4.out.on (Below.refl _ _).drew)
        have HBL : Hid (b < w4.drew.heap.size) := hid HB.out
        clear c0 Y4
        refine wp_region_held_drew (S := fun w => Cel w W.heap.size 36 (polC (some ⟨b, off, none⟩) n c ot) ∧ w.rangeAt b (off + u * 10) r.cs) (by kernel_rfl) Y5.out (fun hHeld => ?_)
        generalize World.drew _ = w5 at *
        refine wpAnyH_take (i := 0) (oi := { dst := some 35, op := Op.fieldAddr 36 (Operand.tmp 3) 0, type := 0, pos := "outright.go:121", after := #[], guard := none }) (v := .pointer (some ⟨W.heap.size, 0, none⟩)) rfl (by kernel_rfl) (by kernel_rfl) (by kernel_rfl) (fun _ _ _ h => h) (Or.inl ⟨by rfl, by intro w hSw; go_simp⟩) (by assumption) ?_
        simp only [Act.put, List.setIfInBounds_toArray, List.set_cons_zero, List.set_cons_succ]
        refine wpAnyH_take (i := 1) (oi := { dst := some 36, op := Op.load 34 (Operand.tmp 35), type := 34, pos := "outright.go:121", after := #[{ on := 0, ground := Ground.data }], guard := none }) (v := .slice (some ⟨b, off, none⟩) n c) rfl (by kernel_rfl) (by kernel_rfl) (by kernel_rfl) (fun _ _ _ h => h) (Or.inl ⟨by rfl, by intro w hSw; have hc := hSw.1.cell 0; simp only [polC, List.getElem?_cons_zero] at hc; go_simp⟩) (by assumption) ?_
        simp only [Act.put, List.setIfInBounds_toArray, List.set_cons_zero, List.set_cons_succ]
        refine wpAnyH_take (i := 2) (oi := { dst := some 37, op := Op.move (Operand.tmp 2), type := 3, pos := "outright.go:121", after := #[], guard := none }) (v := .int .i64 at_) rfl (by kernel_rfl) (by kernel_rfl) (by kernel_rfl) (fun _ _ _ h => h) (Or.inl ⟨by rfl, by intro w hSw; go_simp⟩) (by assumption) ?_
        simp only [Act.put, List.setIfInBounds_toArray, List.set_cons_zero, List.set_cons_succ]
        refine wpAnyH_take (i := 3) (oi := { dst := some 38, op := Op.fieldAddr 36 (Operand.tmp 3) 0, type := 0, pos := "outright.go:121", after := #[], guard := none }) (v := .pointer (some ⟨W.heap.size, 0, none⟩)) rfl (by kernel_rfl) (by kernel_rfl) (by kernel_rfl) (fun _ _ _ h => h) (Or.inl ⟨by rfl, by intro w hSw; go_simp⟩) (by assumption) ?_
        simp only [Act.put, List.setIfInBounds_toArray, List.set_cons_zero, List.set_cons_succ]
        refine wpAnyH_take (i := 4) (oi := { dst := some 39, op := Op.load 34 (Operand.tmp 38), type := 34, pos := "outright.go:121", after := #[{ on := 3, ground := Ground.data }], guard := none }) (v := .slice (some ⟨b, off, none⟩) n c) rfl (by kernel_rfl) (by kernel_rfl) (by kernel_rfl) (fun _ _ _ h => h) (Or.inl ⟨by rfl, by intro w hSw; have hc := hSw.1.cell 0; simp only [polC, List.getElem?_cons_zero] at hc; go_simp⟩) (by assumption) ?_
        simp only [Act.put, List.setIfInBounds_toArray, List.set_cons_zero, List.set_cons_succ]
        refine wpAnyH_take (i := 5) (oi := { dst := some 40, op := Op.call { callee := Callee.builtin Builtin.len, args := #[Operand.tmp 39], argTypes := #[34] }, type := 3, pos := "outright.go:121", after := #[{ on := 4, ground := Ground.data }], guard := none }) (v := .int .i64 (n : Int)) rfl (by kernel_rfl) (by kernel_rfl) (by kernel_rfl) (fun _ _ _ h => h) (Or.inl ⟨by rfl, by intro w hSw; go_simp⟩) (by assumption) ?_
        simp only [Act.put, List.setIfInBounds_toArray, List.set_cons_zero, List.set_cons_succ]
        refine wpAnyH_take (i := 6) (oi := { dst := some 41, op := Op.binOp BinOp.rem 3 (Operand.tmp 37) (Operand.tmp 40) 3, type := 3, pos := "outright.go:121", after := #[{ on := 2, ground := Ground.data }, { on := 5, ground := Ground.data }], guard := none }) (v := .int .i64 (u : Int)) rfl (by kernel_rfl) (by kernel_rfl) (by kernel_rfl) (fun _ _ _ h => h) (Or.inl ⟨by rfl, by intro w hSw; go_simp <;> exact HN3.out⟩) (by assumption) ?_
        simp only [Act.put, List.setIfInBounds_toArray, List.set_cons_zero, List.set_cons_succ]
        refine wpAnyH_take (i := 7) (oi := { dst := some 42, op := Op.indexAddr 34 (Operand.tmp 36) (Operand.tmp 41), type := 0, pos := "outright.go:121", after := #[{ on := 1, ground := Ground.data }, { on := 6, ground := Ground.data }], guard := none }) (v := .pointer (some ⟨b, off + u * 10, none⟩)) rfl (by kernel_rfl) (by kernel_rfl) (by kernel_rfl) (fun _ _ _ h => h) (Or.inl ⟨by rfl, by intro w hSw; go_simp⟩) (by assumption) ?_
        simp only [Act.put, List.setIfInBounds_toArray, List.set_cons_zero, List.set_cons_succ]
        refine wpAnyH_take (i := 8) (oi := { dst := some 43, op := Op.fieldAddr 42 (Operand.tmp 42) 2, type := 0, pos := "outright.go:121", after := #[{ on := 7, ground := Ground.data }], guard := none }) (v := .pointer (some ⟨b, off + u * 10 + 2, none⟩)) rfl (by kernel_rfl) (by kernel_rfl) (by kernel_rfl) (fun _ _ _ h => h) (Or.inl ⟨by rfl, by intro w hSw; go_simp⟩) (by assumption) ?_
        simp only [Act.put, List.setIfInBounds_toArray, List.set_cons_zero, List.set_cons_succ]
        refine wpAnyH_take (i := 9) (oi := { dst := some 44, op := Op.load 23 (Operand.tmp 43), type := 23, pos := "outright.go:121", after := #[{ on := 8, ground := Ground.data }], guard := none }) (v := .agg ((r.ms).map (Value.int .u32)).toArray) rfl (by kernel_rfl) (by kernel_rfl) (by kernel_rfl) (fun _ _ _ h => h) (yieldsIf_load_mid (by rfl) _ _ rfl _ _ rfl _ _ (fun w hSw => Rl.atms hSw.2) Tryd.underlying23 rfl (by rw [List.length_map, HO.out.ml]; exact size26)) (by assumption) ?_
        simp only [Act.put, List.setIfInBounds_toArray, List.set_cons_zero, List.set_cons_succ]
        refine wpAnyH_take (i := 10) (oi := { dst := some 45, op := Op.fieldAddr 38 (Operand.tmp 8) 0, type := 0, pos := "outright.go:121", after := #[{ on := 0, ground := Ground.phase }, { on := 1, ground := Ground.phase }, { on := 2, ground := Ground.phase }, { on := 3, ground := Ground.phase }, { on := 4, ground := Ground.phase }, { on := 5, ground := Ground.phase }, { on := 6, ground := Ground.phase }, { on := 7, ground := Ground.phase }, { on := 8, ground := Ground.phase }, { on := 9, ground := Ground.phase }], guard := none }) (v := .pointer (some ⟨g8, 0, none⟩)) rfl (by kernel_rfl) (by kernel_rfl) (by kernel_rfl) (fun _ _ _ h => h) (Or.inl ⟨by rfl, by intro w hSw; go_simp⟩) (by assumption) ?_
        simp only [Act.put, List.setIfInBounds_toArray, List.set_cons_zero, List.set_cons_succ]
        refine wpAnyH_ready (rs := [11]) (by kernel_rfl) (by simp) (AllReadyH.cons (o := { dst := none, op := Op.store 23 (Operand.tmp 45) (Operand.tmp 44), type := 0, pos := "outright.go:121", after := #[{ on := 10, ground := Ground.data }, { on := 9, ground := Ground.data }, { on := 0, ground := Ground.phase }, { on := 1, ground := Ground.phase }, { on := 2, ground := Ground.phase }, { on := 3, ground := Ground.phase }, { on := 4, ground := Ground.phase }, { on := 5, ground := Ground.phase }, { on := 6, ground := Ground.phase }, { on := 7, ground := Ground.phase }, { on := 8, ground := Ground.phase }, { on := 9, ground := Ground.phase }], guard := none }) rfl (fun KQ hK => ?_) AllReadyH.nil)
        rw [if_pos (by rfl)]
        refine wp_store_part 23 _ _ rfl g8 0 r.ms rfl rfl (blk_cel Y6.out.b8) (by rw [HO.out.ml]; exact size26) (by rw [List.length_map, HO.out.ml, quoL_length hm hd4 ht]; decide) ?_
        intro w7 hc7 hb7 hs7
        have Y7 : Hid (JL W E g4 g7 g8 (some ⟨b, off, none⟩) n c ot R s o q ri false k r.ms d t w7) := hid (Y6.out.put8 H0.out hb7 r.ms d t (by rw [spl0 hm HO.out.ml] at hc7; exact hc7))
        have Y8 : Hid (Cel w7 W.heap.size 36 (polC (some ⟨b, off, none⟩) n c ot) ∧ w7.rangeAt b (off + u * 10) r.cs) := hid ⟨Y7.out.p3, range_but Y5.out.2 hb7 HBL.out (by have := HB8.out; omega)⟩
        clear hc7 hb7 hs7 Y6
        refine hK.out _ _ Y8.out (fun hHeld => ?_)
        clear hK KQ
        try simp only [Act.put]
        refine wpAnyH_done (by kernel_rfl) ?_ _
        go_upto_region 7 with fail
        exact judges_5 W w7 E g4 g7 g8 (some ⟨b, off, none⟩) n c ot R s o q ri false k r.ms d t H0.out { HF4.out with hm := HO.out.ml, wm := HO.out.mw } Y7.out _ ‹∀ (a : Act) (w : World), Code.wp Tryd.prog _ _ a w → _› _ _ _ _ _ _ _ _ _ _ _ _ _ _ _ _ _ _ _ _ _ _ _ _ _ _ _ _ _ _ _ _ _ _ _ _ _ _ _ _ _ _ _ _ _ _ _ _ _ _ _ _ _ _ _ _ _ _ _ _ _ _ _ _ _ _ _ _ _ _ _ _ _ _ _ _ _ _ _ _ _ _ _ _ _ _ _ _ _ _ _ _ _ _ _ _ _ _ _ _ _ _ _ _ _ _ _ _ _ _ _ _ _ _ _ _ _ _ _ _ _ _ _ _ _ _ _ _ _ _ _ _ _ _ _ _ _ _ _ _ _ _ _ _ _ _ _ _ _
  · go_upto_region 5 with (first | (refine wpList_load_mid rfl 23 _ rfl g4 8 rfl _ _ (cla8 Y3.out.c4 hs) Tryd.underlying23 rfl (by rw [List.length_map, ho]; exact size26) ?_) | (refine wpList_store_part rfl 23 _ _ rfl g8 8 o rfl rfl (blk_cel Y3.out.b8) (by rw [ho]; exact size26) (by rw [List.length_map, ho, quoL_length hm hd ht]; decide) ?_; intro w4 hc3 hb3 hs3; have Y4 : Hid (JL W E g4 g7 g8 ao n c ot R s o q ri true k m o t w4) := hid (Y3.out.put8 H0.out hb3 m o t (by rw [spl8 hm hd ho] at hc3; exact hc3)); clear hc3 hb3 hs3 Y3))
    clear cs
    have HF4 : Hid (JF W ao n R s o q k m o t) := hid { HF.out with hd := ho, wd := HF.out.wo }
    clear HF
    have hd4 := ho
    have c0 : w4.cell? ⟨W.heap.size, 0, none⟩ = some (.slice ao n c) := Y4.out.p3.cell 0
    rcases Nat.eq_zero_or_pos n with hn0 | hn0
    · have n1 : (n : Int) ≤ 0 := by omega
      clear hn0 hn a0 a1
      go_upto_region 7 with fail
      exact judges_5 W w4 E g4 g7 g8 ao n c ot R s o q ri true k m o t H0.out HF4.out Y4.out _ ‹∀ (a : Act) (w : World), Code.wp Tryd.prog _ _ a w → _› _ _ _ _ _ _ _ _ _ _ _ _ _ _ _ _ _ _ _ _ _ _ _ _ _ _ _ _ _ _ _ _ _ _ _ _ _ _ _ _ _ _ _ _ _ _ _ _ _ _ _ _ _ _ _ _ _ _ _ _ _ _ _ _ _ _ _ _ _ _ _ _ _ _ _ _ _ _ _ _ _ _ _ _ _ _ _ _ _ _ _ _ _ _ _ _ _ _ _ _ _ _ _ _ _ _ _ _ _ _ _ _ _ _ _ _ _ _ _ _ _ _ _ _ _ _ _ _ _ _ _ _ _ _ _ _ _ _ _ _ _ _ _ _ _ _ _ _ _
    · have n1 : (0 : Int) < (n : Int) := by omega
      by_cases ha : 0 ≤ at_
      rotate_left
      · have a2 : at_ < 0 := by omega
        clear hn0 hn ha
        go_upto_region 7 with fail
        exact judges_5 W w4 E g4 g7 g8 ao n c ot R s o q ri true k m o t H0.out HF4.out Y4.out _ ‹∀ (a : Act) (w : World), Code.wp Tryd.prog _ _ a w → _› _ _ _ _ _ _ _ _ _ _ _ _ _ _ _ _ _ _ _ _ _ _ _ _ _ _ _ _ _ _ _ _ _ _ _ _ _ _ _ _ _ _ _ _ _ _ _ _ _ _ _ _ _ _ _ _ _ _ _ _ _ _ _ _ _ _ _ _ _ _ _ _ _ _ _ _ _ _ _ _ _ _ _ _ _ _ _ _ _ _ _ _ _ _ _ _ _ _ _ _ _ _ _ _ _ _ _ _ _ _ _ _ _ _ _ _ _ _ _ _ _ _ _ _ _ _ _ _ _ _ _ _ _ _ _ _ _ _ _ _ _ _ _ _ _ _ _ _ _
      · obtain ⟨u, hu⟩ := Int.eq_ofNat_of_zero_le (Int.tmod_nonneg (n : Int) ha)
        have ul : u < n := by have := Int.tmod_lt_of_pos at_ n1; omega
        obtain ⟨b, off, rfl, hb, hra⟩ : ∃ b off, ao = some ⟨b, off, none⟩ ∧ b < w4.heap.size ∧ ∀ t r, R[t]? = some r → w4.rangeAt b (off + t * 10) r.cs := by
          rcases Y4.out.ru with h | h
          · rw [h] at hn; simp at hn; omega
          · exact h
        have hb8 : b < W.heap.size := Y4.out.rw b off rfl (fun h => by rw [h] at hn; simp at hn; omega)
        obtain ⟨r, hr⟩ : ∃ r, R[u]? = some r := ⟨_, List.getElem?_eq_getElem (by omega)⟩
        have ro := HF4.out.ok r (List.mem_of_getElem? hr)
        have HR := hid (hra u r hr)
        have HO := hid ro
        have i3 : (u : Int) < (n : Int) := by omega
        have i4 : (0 : Int) ≤ (u : Int) := by omega
        have HB := hid hb
        have HN3 := hid (show ¬ n = 0 by omega)
        have HB8 := hid (show b < g8 by have := Y4.out.l4; have := Y4.out.l7; have := Y4.out.l8; omega)
        have HL8 := hid (show W.heap.size < g8 by have := Y4.out.l4; have := Y4.out.l7; have := Y4.out.l8; omega)
        clear hra hr ro hb hb8 hn hn0 ul
        go_upto_region 6 with fail
        have Y5 : Hid (Cel w4.drew W.heap.size 36 (polC (some ⟨b, off, none⟩) n c ot) ∧ w4.drew.rangeAt b (off + u * 10) r.cs) := hid ⟨Y4.out.p3, range_below HR.out (Below.refl _ _).drew HB.out⟩
        have Y6 : Hid (JL W E g4 g7 g8 (some ⟨b, off, none⟩) n c ot R s o q ri true k m o t w4.drew) := hid (Y4.out.on (Below.refl _ _).drew)
        have HBL : Hid (b < w4.drew.heap.size) := hid HB.out
        clear c0 Y4
        refine wp_region_held_drew (S := fun w => Cel w W.heap.size 36 (polC (some ⟨b, off, none⟩) n c ot) ∧ w.rangeAt b (off + u * 10) r.cs) (by kernel_rfl) Y5.out (fun hHeld => ?_)
        generalize World.drew _ = w5 at *
        refine wpAnyH_take (i := 0) (oi := { dst := some 35, op := Op.fieldAddr 36 (Operand.tmp 3) 0, type := 0, pos := "outright.go:121", after := #[], guard := none }) (v := .pointer (some ⟨W.heap.size, 0, none⟩)) rfl (by kernel_rfl) (by kernel_rfl) (by kernel_rfl) (fun _ _ _ h => h) (Or.inl ⟨by rfl, by intro w hSw; go_simp⟩) (by assumption) ?_
        simp only [Act.put, List.setIfInBounds_toArray, List.set_cons_zero, List.set_cons_succ]
        refine wpAnyH_take (i := 1) (oi := { dst := some 36, op := Op.load 34 (Operand.tmp 35), type := 34, pos := "outright.go:121", after := #[{ on := 0, ground := Ground.data }], guard := none }) (v := .slice (some ⟨b, off, none⟩) n c) rfl (by kernel_rfl) (by kernel_rfl) (by kernel_rfl) (fun _ _ _ h => h) (Or.inl ⟨by rfl, by intro w hSw; have hc := hSw.1.cell 0; simp only [polC, List.getElem?_cons_zero] at hc; go_simp⟩) (by assumption) ?_
        simp only [Act.put, List.setIfInBounds_toArray, List.set_cons_zero, List.set_cons_succ]
        refine wpAnyH_take (i := 2) (oi := { dst := some 37, op := Op.move (Operand.tmp 2), type := 3, pos := "outright.go:121", after := #[], guard := none }) (v := .int .i64 at_) rfl (by kernel_rfl) (by kernel_rfl) (by kernel_rfl) (fun _ _ _ h => h) (Or.inl ⟨by rfl, by intro w hSw; go_simp⟩) (by assumption) ?_
        simp only [Act.put, List.setIfInBounds_toArray, List.set_cons_zero, List.set_cons_succ]
        refine wpAnyH_take (i := 3) (oi := { dst := some 38, op := Op.fieldAddr 36 (Operand.tmp 3) 0, type := 0, pos := "outright.go:121", after := #[], guard := none }) (v := .pointer (some ⟨W.heap.size, 0, none⟩)) rfl (by kernel_rfl) (by kernel_rfl) (by kernel_rfl) (fun _ _ _ h => h) (Or.inl ⟨by rfl, by intro w hSw; go_simp⟩) (by assumption) ?_
        simp only [Act.put, List.setIfInBounds_toArray, List.set_cons_zero, List.set_cons_succ]
        refine wpAnyH_take (i := 4) (oi := { dst := some 39, op := Op.load 34 (Operand.tmp 38), type := 34, pos := "outright.go:121", after := #[{ on := 3, ground := Ground.data }], guard := none }) (v := .slice (some ⟨b, off, none⟩) n c) rfl (by kernel_rfl) (by kernel_rfl) (by kernel_rfl) (fun _ _ _ h => h) (Or.inl ⟨by rfl, by intro w hSw; have hc := hSw.1.cell 0; simp only [polC, List.getElem?_cons_zero] at hc; go_simp⟩) (by assumption) ?_
        simp only [Act.put, List.setIfInBounds_toArray, List.set_cons_zero, List.set_cons_succ]
        refine wpAnyH_take (i := 5) (oi := { dst := some 40, op := Op.call { callee := Callee.builtin Builtin.len, args := #[Operand.tmp 39], argTypes := #[34] }, type := 3, pos := "outright.go:121", after := #[{ on := 4, ground := Ground.data }], guard := none }) (v := .int .i64 (n : Int)) rfl (by kernel_rfl) (by kernel_rfl) (by kernel_rfl) (fun _ _ _ h => h) (Or.inl ⟨by rfl, by intro w hSw; go_simp⟩) (by assumption) ?_
        simp only [Act.put, List.setIfInBounds_toArray, List.set_cons_zero, List.set_cons_succ]
        refine wpAnyH_take (i := 6) (oi := { dst := some 41, op := Op.binOp BinOp.rem 3 (Operand.tmp 37) (Operand.tmp 40) 3, type := 3, pos := "outright.go:121", after := #[{ on := 2, ground := Ground.data }, { on := 5, ground := Ground.data }], guard := none }) (v := .int .i64 (u : Int)) rfl (by kernel_rfl) (by kernel_rfl) (by kernel_rfl) (fun _ _ _ h => h) (Or.inl ⟨by rfl, by intro w hSw; go_simp <;> exact HN3.out⟩) (by assumption) ?_
        simp only [Act.put, List.setIfInBounds_toArray, List.set_cons_zero, List.set_cons_succ]
        refine wpAnyH_take (i := 7) (oi := { dst := some 42, op := Op.indexAddr 34 (Operand.tmp 36) (Operand.tmp 41), type := 0, pos := "outright.go:121", after := #[{ on := 1, ground := Ground.data }, { on := 6, ground := Ground.data }], guard := none }) (v := .pointer (some ⟨b, off + u * 10, none⟩)) rfl (by kernel_rfl) (by kernel_rfl) (by kernel_rfl) (fun _ _ _ h => h) (Or.inl ⟨by rfl, by intro w hSw; go_simp⟩) (by assumption) ?_
        simp only [Act.put, List.setIfInBounds_toArray, List.set_cons_zero, List.set_cons_succ]
        refine wpAnyH_take (i := 8) (oi := { dst := some 43, op := Op.fieldAddr 42 (Operand.tmp 42) 2, type := 0, pos := "outright.go:121", after := #[{ on := 7, ground := Ground.data }], guard := none }) (v := .pointer (some ⟨b, off + u * 10 + 2, none⟩)) rfl (by kernel_rfl) (by kernel_rfl) (by kernel_rfl) (fun _ _ _ h => h) (Or.inl ⟨by rfl, by intro w hSw; go_simp⟩) (by assumption) ?_
        simp only [Act.put, List.setIfInBounds_toArray, List.set_cons_zero, List.set_cons_succ]
        refine wpAnyH_take (i := 9) (oi := { dst := some 44, op := Op.load 23 (Operand.tmp 43), type := 23, pos := "outright.go:121", after := #[{ on := 8, ground := Ground.data }], guard := none }) (v := .agg ((r.ms).map (Value.int .u32)).toArray) rfl (by kernel_rfl) (by kernel_rfl) (by kernel_rfl) (fun _ _ _ h => h) (yieldsIf_load_mid (by rfl) _ _ rfl _ _ rfl _ _ (fun w hSw => Rl.atms hSw.2) Tryd.underlying23 rfl (by rw [List.length_map, HO.out.ml]; exact size26)) (by assumption) ?_
        simp only [Act.put, List.setIfInBounds_toArray, List.set_cons_zero, List.set_cons_succ]
        refine wpAnyH_take (i := 10) (oi := { dst := some 45, op := Op.fieldAddr 38 (Operand.tmp 8) 0, type := 0, pos := "outright.go:121", after := #[{ on := 0, ground := Ground.phase }, { on := 1, ground := Ground.phase }, { on := 2, ground := Ground.phase }, { on := 3, ground := Ground.phase }, { on := 4, ground := Ground.phase }, { on := 5, ground := Ground.phase }, { on := 6, ground := Ground.phase }, { on := 7, ground := Ground.phase }, { on := 8, ground := Ground.phase }, { on := 9, ground := Ground.phase }], guard := none }) (v := .pointer (some ⟨g8, 0, none⟩)) rfl (by kernel_rfl) (by kernel_rfl) (by kernel_rfl) (fun _ _ _ h => h) (Or.inl ⟨by rfl, by intro w hSw; go_simp⟩) (by assumption) ?_
        simp only [Act.put, List.setIfInBounds_toArray, List.set_cons_zero, List.set_cons_succ]
        refine wpAnyH_ready (rs := [11]) (by kernel_rfl) (by simp) (AllReadyH.cons (o := { dst := none, op := Op.store 23 (Operand.tmp 45) (Operand.tmp 44), type := 0, pos := "outright.go:121", after := #[{ on := 10, ground := Ground.data }, { on := 9, ground := Ground.data }, { on := 0, ground := Ground.phase }, { on := 1, ground := Ground.phase }, { on := 2, ground := Ground.phase }, { on := 3, ground := Ground.phase }, { on := 4, ground := Ground.phase }, { on := 5, ground := Ground.phase }, { on := 6, ground := Ground.phase }, { on := 7, ground := Ground.phase }, { on := 8, ground := Ground.phase }, { on := 9, ground := Ground.phase }], guard := none }) rfl (fun KQ hK => ?_) AllReadyH.nil)
        rw [if_pos (by rfl)]
        refine wp_store_part 23 _ _ rfl g8 0 r.ms rfl rfl (blk_cel Y6.out.b8) (by rw [HO.out.ml]; exact size26) (by rw [List.length_map, HO.out.ml, quoL_length hm hd4 ht]; decide) ?_
        intro w7 hc7 hb7 hs7
        have Y7 : Hid (JL W E g4 g7 g8 (some ⟨b, off, none⟩) n c ot R s o q ri true k r.ms o t w7) := hid (Y6.out.put8 H0.out hb7 r.ms o t (by rw [spl0 hm HO.out.ml] at hc7; exact hc7))
        have Y8 : Hid (Cel w7 W.heap.size 36 (polC (some ⟨b, off, none⟩) n c ot) ∧ w7.rangeAt b (off + u * 10) r.cs) := hid ⟨Y7.out.p3, range_but Y5.out.2 hb7 HBL.out (by have := HB8.out; omega)⟩
        clear hc7 hb7 hs7 Y6
        refine hK.out _ _ Y8.out (fun hHeld => ?_)
        clear hK KQ
        try simp only [Act.put]
        refine wpAnyH_done (by kernel_rfl) ?_ _
        go_upto_region 7 with fail
        exact judges_5 W w7 E g4 g7 g8 (some ⟨b, off, none⟩) n c ot R s o q ri true k r.ms o t H0.out { HF4.out with hm := HO.out.ml, wm := HO.out.mw } Y7.out _ ‹∀ (a : Act) (w : World), Code.wp Tryd.prog _ _ a w → _› _ _ _ _ _ _ _ _ _ _ _ _ _ _ _ _ _ _ _ _ _ _ _ _ _ _ _ _ _ _ _ _ _ _ _ _ _ _ _ _ _ _ _ _ _ _ _ _ _ _ _ _ _ _ _ _ _ _ _ _ _ _ _ _ _ _ _ _ _ _ _ _ _ _ _ _ _ _ _ _ _ _ _ _ _ _ _ _ _ _ _ _ _ _ _ _ _ _ _ _ _ _ _ _ _ _ _ _ _ _ _ _ _ _ _ _ _ _ _ _ _ _ _ _ _ _ _ _ _ _ _ _ _ _ _ _ _ _ _ _ _ _ _ _ _ _ _ _ _
end Go.Proofs.YtbpdmkohihgnjaaDoor
