import Derived.Test.YtdfnbcbnmiohnaaGreatDoorP41
import Derived.Test.YtdfnbcbnmiohnaaGreatDoorP01
import Derived.Laws.AppendOwnNone
import Derived.Test.YtdfnbcbnmiohnaaGreatDoorP22
namespace Go.Proofs.YtdfnbcbnmiohnaaGreatDoor
open Go.RowKit
set_option maxRecDepth 100000
set_option maxHeartbeats 4000000
def opC (k a b t f v : Int) : List Value := [.int .i64 k, .int .u32 a, .int .u32 b, .int .i64 t, .int .i64 f, .int .u32 v]
def opV (k a b t f v : Int) : Value := .agg (opC k a b t f v).toArray
theorem size53 : (Tryz.prog.info? 53).map (·.size) = some 3 := by kernel_rfl
theorem under53 : Tryz.prog.underlying 53 = some (.struct (Tryz.prog.fieldsOf 53)) := by kernel_rfl
theorem info43 : (Tryz.prog.info? 43).map (fun i => (i.zero, i.size, i.bytes)) = some (some (.int .u32 0), 1, 4) := by kernel_rfl
theorem Bag.new {W w : World} {L : List (Nat × TypeId × List Value)} (h : Bag W w L) (u : TypeId) (es : List Value) : Bag W (w.alloc (.cells es.toArray u)) ((w.heap.size, u, es) :: L) := h.add (ds := es) (Cel.new w u es) (.refl _ _)
theorem Bag.set3 {W w : World} {g : Nat} {t : TypeId} {x0 x1 x2 : Value} {L : List (Nat × TypeId × List Value)} (h : Bag W w ((g, t, [x0, x1, x2]) :: L)) (hg : W.heap.size ≤ g) (hne : ∀ q ∈ L, q.1 ≠ g) (y0 y1 y2 : Value) :
    Bag W (((w.setCell ⟨g, 0, none⟩ y0).setCell ⟨g, 1, none⟩ y1).setCell ⟨g, 2, none⟩ y2) ((g, t, [y0, y1, y2]) :: L) := by
  have hb : ButL [g] w (((w.setCell ⟨g, 0, none⟩ y0).setCell ⟨g, 1, none⟩ y1).setCell ⟨g, 2, none⟩ y2) := ((ButL.setCell w g 0 y0 (by simp)).trans (.setCell _ g 1 y1 (by simp))).trans (.setCell _ g 2 y2 (by simp))
  have hc := (((h.get 0 rfl).setCell 0 y0).setCell 1 y1).setCell 2 y2
  refine ⟨fun q hq => ?_, h.below.trans (hb.below (by simpa using hg) h.below.size)⟩
  rcases List.mem_cons.1 hq with rfl | hq
  · exact hc
  · exact (h.all q (List.mem_cons_of_mem _ hq)).but hb (by simpa using hne q hq)
def OwnW (W w : World) (x : Value) (L : List Int) : Prop := w.ownsRow W.heap.size 43 1 x L.length (u32s L)
def opW (k v : Int) : List Int := if k = 3 then List.replicate 1024 v else []
theorem own_nil {v : Int} (W w : World) : OwnW W w (.slice none 0 0) (List.replicate 0 v) := ⟨rfl, .inl ⟨rfl, rfl⟩⟩
theorem own_slice {W w : World} {x : Value} {L : List Int} (h : OwnW W w x L) : ∃ ao n c, x = .slice ao n c := by
  rcases h.2 with ⟨e, _⟩ | ⟨g, cap, cur, e, _⟩
  · exact ⟨_, _, _, e⟩
  · exact ⟨_, _, _, e⟩
theorem own_but9 {W w w' : World} {x : Value} {L : List Int} {g : Nat} {t : TypeId} {cs : List Value} (h : OwnW W w x L) (hc : Cel w g t cs) (hb : ButL [g] w w') (ht : t ≠ 43 := by decide) : OwnW W w' x L := by
  refine ⟨h.1, h.2.imp id ?_⟩
  rintro ⟨b, cap, cur, e, h1, h2, h3⟩
  refine ⟨b, cap, cur, e, h1, (hb.block b (Array.getElem?_eq_some_iff.1 h2).1 (fun hm => ht ?_)).trans h2, h3⟩
  simp only [List.mem_singleton] at hm
  subst hm
  unfold Cel at hc
  rw [h2] at hc
  injection hc with hc
  injection hc with _ hc
  exact hc.symm
theorem own_slice' {b n : Nat} {w : World} {x : Value} {L : List Value} (h : w.ownsRow b 43 1 x n L) : ∃ ao n c, x = .slice ao n c := by
  rcases h.2 with ⟨e, _⟩ | ⟨g, cap, cur, e, _⟩
  · exact ⟨_, _, _, e⟩
  · exact ⟨_, _, _, e⟩
theorem Bag.grown {W w w' : World} {L : List (Nat × TypeId × List Value)} {x : Value} {n : Nat} {xs : List Value} (h : Bag W w L) (hO : w.ownsRow W.heap.size 43 1 x n xs) (hg : w.grownBy w' x.ownBlock) (hL : ∀ q ∈ L, q.2.1 ≠ 43) : Bag W w' L := by
  have key : ∀ k, k < w.heap.size → (∀ cur, w.heap[k]? ≠ some (.cells cur 43 (0, 0))) → w'.heap[k]? = w.heap[k]? := fun k hk hn => hg.block k hk (fun e => by
    rcases hO.2 with ⟨ex, _⟩ | ⟨b, cap, cur, ex, _, h2, _⟩
    · rw [ex] at e; cases e
    · rw [ex] at e
      injection e with e
      exact hn cur (by rw [e]; exact h2))
  refine ⟨fun q hq => ?_, ?_⟩
  · have hc := h.all q hq
    refine (key q.1 hc.lt (fun cur e => hL q hq ?_)).trans hc
    unfold Cel at hc
    rw [e] at hc
    injection hc with hc
    injection hc with _ hc
    exact hc.symm
  · refine h.below.trans ⟨hg.os, hg.tape, hg.output, hg.size, fun k hk => hg.block k (by have := h.below.size; omega) (fun e => ?_)⟩
    rcases hO.2 with ⟨ex, _⟩ | ⟨b, cap, cur, ex, hb, _⟩
    · rw [ex] at e; cases e
    · rw [ex] at e
      injection e with e
      have e' : k = b := e
      omega
theorem Bag.set1 {W w : World} {g : Nat} {t : TypeId} {x0 x1 x2 : Value} {L : List (Nat × TypeId × List Value)} (h : Bag W w ((g, t, [x0, x1, x2]) :: L)) (hg : W.heap.size ≤ g) (hne : ∀ q ∈ L, q.1 ≠ g) (y2 : Value) :
    Bag W (w.setCell ⟨g, 2, none⟩ y2) ((g, t, [x0, x1, y2]) :: L) := by
  have hb : ButL [g] w (w.setCell ⟨g, 2, none⟩ y2) := .setCell w g 2 y2 (by simp)
  refine ⟨fun q hq => ?_, h.below.trans (hb.below (by simpa using hg) h.below.size)⟩
  rcases List.mem_cons.1 hq with rfl | hq
  · exact (h.get 0 rfl).setCell 2 y2
  · exact (h.all q (List.mem_cons_of_mem _ hq)).but hb (by simpa using hne q hq)
theorem own_more {W w : World} {x y : Value} {j g : Nat} {v : Int} {cs : List Value} (h : w.ownsRow W.heap.size 43 1 x (j + 1) (u32s (List.replicate j v) ++ [.int .u32 v])) (hc : Cel w g 53 cs) : OwnW W (w.setCell ⟨g, 2, none⟩ y) x (List.replicate (j + 1) v) := by
  have h1 : OwnW W w x (List.replicate (j + 1) v) := by
    unfold OwnW
    rw [List.length_replicate, List.replicate_succ', u32s, List.map_append]
    exact h
  exact own_but9 h1 hc (.setCell w g 2 y (by simp))
theorem operation_any (W : World) (k a b t f v : Int) :
    Calls Tryz.prog 19 #[opV k a b t f v] W fun e W' => ∃ x, e = .returned (.agg #[.int .i64 (wi t 1 4), .int .u32 v, x]) ∧ OwnW W W' x (opW (wi t 1 4) v) ∧ Below W.heap.size W W' := by
  have B0 := hid ((bag_one W 48 (opC k a b t f v)).new 53 [.int .i64 0, .int .u32 0, .slice none 0 0])
  have HWi := hid (fun u => within_any u t 1 4 (by decide) (by decide) (by decide))
  rw [show (4 : Int) - 1 + 1 = 4 from rfl] at HWi
  generalize wi t 1 4 = kk at *
  have HO3 : Hid (kk = 3 → opW kk v = List.replicate 1024 v) := hid (fun h => if_pos h)
  have HO0 : Hid (¬ kk = 3 → opW kk v = []) := hid (fun h => if_neg h)
  generalize opW kk v = OL at *
  simp only [opV, opC] at *
  go_enter Tryz.func19, Tryz.ntmps19
  go_upto_region 1 with fail
  generalize (World.alloc _ _).alloc _ = X at *
  simp only [World.size_alloc] at B0 ⊢
  generalize hg : W.heap.size = g1 at B0 ⊢
  have HG := hid hg
  clear hg
  have B1 := hid (B0.out.on (Below.refl _ _).drew)
  clear B0
  refine wp_region_held_drew (S := fun w => Cel w g1 48 [.int .i64 k, .int .u32 a, .int .u32 b, .int .i64 t, .int .i64 f, .int .u32 v]) (by kernel_rfl) (B1.out.get 1 rfl) (fun hHeld => ?_)
  generalize World.drew _ = w3 at *
  refine tk 0 (some 5) (.pointer (some ⟨g1, 3, none⟩)) ?_
  simp only [Act.put, tqA, tqZ, tqS]
  refine tk 1 (some 6) (.int .i64 t) ?_ (hy := Or.inl ⟨by rfl, by intro w hSw; have hc : w.cell? ⟨g1, 3, none⟩ = some (.int .i64 t) := hSw.cell 3; go_simp⟩)
  simp only [Act.put, tqA, tqZ, tqS]
  refine tk 3 (some 8) (.pointer (some ⟨g1, 5, none⟩)) ?_
  simp only [Act.put, tqA, tqZ, tqS]
  refine tk 4 (some 9) (.int .u32 v) ?_ (hy := Or.inl ⟨by rfl, by intro w hSw; have hc : w.cell? ⟨g1, 5, none⟩ = some (.int .u32 v) := hSw.cell 5; go_simp⟩)
  simp only [Act.put, tqA, tqZ, tqS]
  refine wpAnyH_ready (rs := [2, 6]) (by kernel_rfl) (by simp) (AllReadyH.cons rfl (fun KQ hK => ?_) (AllReadyH.cons rfl (fun KQ hK => ?_) AllReadyH.nil))
  · go_simp
    refine (HWi.out _).mono ?_
    rintro e w4 ⟨rfl, rfl⟩
    go_wp2_with fail
    refine hK.out _ _ (B1.out.get 1 rfl) (fun hHeld => ?_)
    clear hK KQ
    try simp only [Act.put, tqA, tqZ, tqS]
    refine tk 5 (some 10) (.agg #[.int .i64 kk, .int .u32 v, .slice none 0 0]) ?_
    simp only [Act.put, tqA, tqZ, tqS]
    refine wpAnyH_ready (rs := [6]) (by kernel_rfl) (by simp) (AllReadyH.cons rfl (fun KQ hK => ?_) AllReadyH.nil)
    go_simp
    have B2 := hid (B1.out.new 53 [.int .i64 0, .int .u32 0, .slice none 0 0])
    have HN : Hid (g1 + 1 < w3.heap.size) := hid (B1.out.get 0 rfl).lt
    clear B1
    generalize World.alloc _ _ = x2 at *
    generalize w3.heap.size = g3 at *
    refine hK.out _ _ (B2.out.get 2 rfl) (fun hHeld => ?_)
    clear hK KQ
    try simp only [Act.put, tqA, tqZ, tqS]
    refine wpAnyH_ready (rs := [7]) (by kernel_rfl) (by simp) (AllReadyH.cons rfl (fun KQ hK => ?_) AllReadyH.nil)
    (have z0 := (B2.out.get 0 rfl).cell 0; have z1 := (B2.out.get 0 rfl).cell 1; have z2 := (B2.out.get 0 rfl).cell 2; have y0 := (B2.out.get 0 rfl).free 0; have y1 := (B2.out.get 0 rfl).free 1; have y2 := (B2.out.get 0 rfl).free 2; simp only [tqG, tqH] at z0 z1 z2; go_simp)
    have B3 := hid (B2.out.set3 (by have := HG.out; have := HN.out; omega) (by intro q hq; simp only [List.mem_cons, List.not_mem_nil, or_false] at hq; rcases hq with rfl | rfl <;> (have := HN.out; simp only; omega)) (.int .i64 kk) (.int .u32 v) (.slice none 0 0))
    clear B2
    generalize World.setCell _ _ _ = x3 at *
    refine hK.out _ _ (B3.out.get 2 rfl) (fun hHeld => ?_)
    clear hK KQ
    try simp only [Act.put]
    refine wpAnyH_done (by kernel_rfl) ?_ _
    go_upto_region 3 with fail
    go_loopw [4] (fun i wr => ∃ (j : Nat) (x : Value), j ≤ 1024 ∧ i = .int .i64 (j : Int) ∧ Hid (Bag W wr [(g3, 53, [.int .i64 kk, .int .u32 v, x]), (g1 + 1, 53, [.int .i64 0, .int .u32 0, .slice none 0 0]), (g1, 48, [.int .i64 k, .int .u32 a, .int .u32 b, .int .i64 t, .int .i64 f, .int .u32 v])] ∧ OwnW W wr x (List.replicate j v)) ∧ Hid (¬ kk = 3 → j = 0)) (fun i _ => 1024 - (intOf i).toNat)
    case atStart => exact ⟨0, .slice none 0 0, Nat.zero_le _, rfl, hid ⟨B3.out, own_nil W _⟩, hid (fun _ => rfl)⟩
    case round =>
      obtain ⟨j, x, hj, rfl, HQ, HZ⟩ := hrel
      clear B3
      obtain ⟨xo, xn, xc, rfl⟩ := own_slice HQ.out.2
      have c0 := (HQ.out.1.get 0 rfl).cell 0
      have c2 := (HQ.out.1.get 0 rfl).cell 2
      have d5 := (HQ.out.1.get 2 rfl).cell 5
      simp only [tqG, tqH] at c0 c2 d5
      by_cases hk : kk = 3
      · subst hk
        clear HO0
        by_cases hlt : j < 1024
        · have q1 : (j : Int) < 1024 := by omega
          have kw2 : IntKind.wrap .i64 ((j : Int) + 1) = (j : Int) + 1 := by rw [IntKind.wrap_i64]; omega
          have HJ := hid hlt
          obtain ⟨i0, hi, hz0, hz1, hz2⟩ := info_parts info43
          have hO := HQ.out.2
          unfold OwnW at hO
          rw [List.length_replicate] at hO
          have HO := hid hO
          have hba : W.heap.size ≤ (wr.alloc (Obj.cells #[Value.int IntKind.u32 v] 43)).heap.size := by have := HQ.out.1.below.size; simp; omega
          have h63' : j + 1 ≤ maxLen := by unfold maxLen; omega
          have hby' : (j + 1) * 4 ≤ 140737488355328 := by omega
          clear hlt hj HZ hO
          go_upto_region 5 with fail
          go_wp2_with (first | (at_builtin; refine wpList_append_own _ rfl _ _ 51 rfl W.heap.size 43 i0 (.int .u32 0) 1 4 Tryz.underlying51 hi hz0 hz1 hz2 rfl (by decide) (.slice xo xn xc) j _ rfl (HO.out.alloc _) ⟨wr.heap.size, 0, none⟩ 1 1 [.int .u32 v] rfl rfl (cell_one_new _ _ _) (ints_oneCell .u32 [v]) h63' hby' hba ?_; intro v' w2 hown2 hgrow2 _; obtain ⟨ao2, n2, cc2, rfl⟩ := own_slice' hown2; have B4 := hid (Bag.grown (HQ.out.1.on (below_one _ _)) (HO.out.alloc _) hgrow2 (by simp)); have O4 := hid hown2; have c2b := (B4.out.get 0 rfl).cell 2; have f2b := (B4.out.get 0 rfl).free 2; simp only [tqG, tqH] at c2b; clear hown2 hgrow2 c0 c2 d5 hi hz0 hz1 hz2 hba h63' hby'))
          go_roundw
          case measure => have := HJ.out; simp [intOf] <;> omega
          case rel => exact ⟨j + 1, .slice ao2 n2 cc2, HJ.out, by simp, hid ⟨B4.out.set1 (by have := HG.out; have := HN.out; omega) (by intro q hq; simp only [List.mem_cons, List.not_mem_nil, or_false] at hq; rcases hq with rfl | rfl <;> (have := HN.out; simp only; omega)) _, own_more O4.out (B4.out.get 0 rfl)⟩, hid (by intro h; simp at h)⟩
        · have hj' : j = 1024 := by omega
          subst hj'
          clear hlt hj HZ
          rw [show ((1024 : Nat) : Int) = 1024 from rfl]
          go_wp2_with (first | (refine wpList_load_mid rfl 53 _ rfl g3 0 rfl _ _ ((HQ.out.1.get 0 rfl).range) under53 rfl (by rw [size53]; rfl) ?_) | (refine wpList_store_st rfl 53 _ _ rfl (g1 + 1) [.int .i64 3, .int .u32 v, .slice xo xn xc] rfl rfl (HQ.out.1.get 1 rfl) size53 rfl rfl ?_; intro w9 hc hb hs; have HF := hid (And.intro hc (And.intro (own_but9 HQ.out.2 (HQ.out.1.get 1 rfl) hb) (HQ.out.1.below.trans (hb.below (by have := HG.out; simp; omega) HQ.out.1.below.size)))); clear hc hb hs))
          exact ret_st rfl rfl (g1 + 1) _ rfl HF.out.1 under53 rfl size53 ⟨_, rfl, by rw [HO3.out (by simp)]; exact HF.out.2.1, by first | exact HF.out.2.2 | (rw [← HG.out]; exact HF.out.2.2)⟩
      · have hk' : (kk == 3) = false := by simpa using hk
        have hj0 := HZ.out hk
        subst hj0
        have HK := hid hk
        clear HZ hj hk HO3
        rw [show ((0 : Nat) : Int) = 0 from rfl]
        go_wp2_with (first | (refine wpList_load_mid rfl 53 _ rfl g3 0 rfl _ _ ((HQ.out.1.get 0 rfl).range) under53 rfl (by rw [size53]; rfl) ?_) | (refine wpList_store_st rfl 53 _ _ rfl (g1 + 1) [.int .i64 kk, .int .u32 v, .slice xo xn xc] rfl rfl (HQ.out.1.get 1 rfl) size53 rfl rfl ?_; intro w9 hc hb hs; have HF := hid (And.intro hc (And.intro (own_but9 HQ.out.2 (HQ.out.1.get 1 rfl) hb) (HQ.out.1.below.trans (hb.below (by have := HG.out; simp; omega) HQ.out.1.below.size)))); clear hc hb hs))
        exact ret_st rfl rfl (g1 + 1) _ rfl HF.out.1 under53 rfl size53 ⟨_, rfl, by rw [HO0.out HK.out]; exact HF.out.2.1, by first | exact HF.out.2.2 | (rw [← HG.out]; exact HF.out.2.2)⟩
    
  · go_simp
    have B2 := hid (B1.out.new 53 [.int .i64 0, .int .u32 0, .slice none 0 0])
    have HN : Hid (g1 + 1 < w3.heap.size) := hid (B1.out.get 0 rfl).lt
    clear B1
    generalize World.alloc _ _ = x2 at *
    generalize w3.heap.size = g3 at *
    refine hK.out _ _ (B2.out.get 2 rfl) (fun hHeld => ?_)
    clear hK KQ
    try simp only [Act.put, tqA, tqZ, tqS]
    refine wpAnyH_ready (rs := [2]) (by kernel_rfl) (by simp) (AllReadyH.cons rfl (fun KQ hK => ?_) AllReadyH.nil)
    go_simp
    refine (HWi.out _).mono ?_
    rintro e w4 ⟨rfl, rfl⟩
    go_wp2_with fail
    refine hK.out _ _ (B2.out.get 2 rfl) (fun hHeld => ?_)
    clear hK KQ
    try simp only [Act.put, tqA, tqZ, tqS]
    refine tk 5 (some 10) (.agg #[.int .i64 kk, .int .u32 v, .slice none 0 0]) ?_
    simp only [Act.put, tqA, tqZ, tqS]
    refine wpAnyH_ready (rs := [7]) (by kernel_rfl) (by simp) (AllReadyH.cons rfl (fun KQ hK => ?_) AllReadyH.nil)
    (have z0 := (B2.out.get 0 rfl).cell 0; have z1 := (B2.out.get 0 rfl).cell 1; have z2 := (B2.out.get 0 rfl).cell 2; have y0 := (B2.out.get 0 rfl).free 0; have y1 := (B2.out.get 0 rfl).free 1; have y2 := (B2.out.get 0 rfl).free 2; simp only [tqG, tqH] at z0 z1 z2; go_simp)
    have B3 := hid (B2.out.set3 (by have := HG.out; have := HN.out; omega) (by intro q hq; simp only [List.mem_cons, List.not_mem_nil, or_false] at hq; rcases hq with rfl | rfl <;> (have := HN.out; simp only; omega)) (.int .i64 kk) (.int .u32 v) (.slice none 0 0))
    clear B2
    generalize World.setCell _ _ _ = x3 at *
    refine hK.out _ _ (B3.out.get 2 rfl) (fun hHeld => ?_)
    clear hK KQ
    try simp only [Act.put]
    refine wpAnyH_done (by kernel_rfl) ?_ _
    go_upto_region 3 with fail
    go_loopw [4] (fun i wr => ∃ (j : Nat) (x : Value), j ≤ 1024 ∧ i = .int .i64 (j : Int) ∧ Hid (Bag W wr [(g3, 53, [.int .i64 kk, .int .u32 v, x]), (g1 + 1, 53, [.int .i64 0, .int .u32 0, .slice none 0 0]), (g1, 48, [.int .i64 k, .int .u32 a, .int .u32 b, .int .i64 t, .int .i64 f, .int .u32 v])] ∧ OwnW W wr x (List.replicate j v)) ∧ Hid (¬ kk = 3 → j = 0)) (fun i _ => 1024 - (intOf i).toNat)
    case atStart => exact ⟨0, .slice none 0 0, Nat.zero_le _, rfl, hid ⟨B3.out, own_nil W _⟩, hid (fun _ => rfl)⟩
    case round =>
      obtain ⟨j, x, hj, rfl, HQ, HZ⟩ := hrel
      clear B3
      obtain ⟨xo, xn, xc, rfl⟩ := own_slice HQ.out.2
      have c0 := (HQ.out.1.get 0 rfl).cell 0
      have c2 := (HQ.out.1.get 0 rfl).cell 2
      have d5 := (HQ.out.1.get 2 rfl).cell 5
      simp only [tqG, tqH] at c0 c2 d5
      by_cases hk : kk = 3
      · subst hk
        clear HO0
        by_cases hlt : j < 1024
        · have q1 : (j : Int) < 1024 := by omega
          have kw2 : IntKind.wrap .i64 ((j : Int) + 1) = (j : Int) + 1 := by rw [IntKind.wrap_i64]; omega
          have HJ := hid hlt
          obtain ⟨i0, hi, hz0, hz1, hz2⟩ := info_parts info43
          have hO := HQ.out.2
          unfold OwnW at hO
          rw [List.length_replicate] at hO
          have HO := hid hO
          have hba : W.heap.size ≤ (wr.alloc (Obj.cells #[Value.int IntKind.u32 v] 43)).heap.size := by have := HQ.out.1.below.size; simp; omega
          have h63' : j + 1 ≤ maxLen := by unfold maxLen; omega
          have hby' : (j + 1) * 4 ≤ 140737488355328 := by omega
          clear hlt hj HZ hO
          go_upto_region 5 with fail
          go_wp2_with (first | (at_builtin; refine wpList_append_own _ rfl _ _ 51 rfl W.heap.size 43 i0 (.int .u32 0) 1 4 Tryz.underlying51 hi hz0 hz1 hz2 rfl (by decide) (.slice xo xn xc) j _ rfl (HO.out.alloc _) ⟨wr.heap.size, 0, none⟩ 1 1 [.int .u32 v] rfl rfl (cell_one_new _ _ _) (ints_oneCell .u32 [v]) h63' hby' hba ?_; intro v' w2 hown2 hgrow2 _; obtain ⟨ao2, n2, cc2, rfl⟩ := own_slice' hown2; have B4 := hid (Bag.grown (HQ.out.1.on (below_one _ _)) (HO.out.alloc _) hgrow2 (by simp)); have O4 := hid hown2; have c2b := (B4.out.get 0 rfl).cell 2; have f2b := (B4.out.get 0 rfl).free 2; simp only [tqG, tqH] at c2b; clear hown2 hgrow2 c0 c2 d5 hi hz0 hz1 hz2 hba h63' hby'))
          go_roundw
          case measure => have := HJ.out; simp [intOf] <;> omega
          case rel => exact ⟨j + 1, .slice ao2 n2 cc2, HJ.out, by simp, hid ⟨B4.out.set1 (by have := HG.out; have := HN.out; omega) (by intro q hq; simp only [List.mem_cons, List.not_mem_nil, or_false] at hq; rcases hq with rfl | rfl <;> (have := HN.out; simp only; omega)) _, own_more O4.out (B4.out.get 0 rfl)⟩, hid (by intro h; simp at h)⟩
        · have hj' : j = 1024 := by omega
          subst hj'
          clear hlt hj HZ
          rw [show ((1024 : Nat) : Int) = 1024 from rfl]
          go_wp2_with (first | (refine wpList_load_mid rfl 53 _ rfl g3 0 rfl _ _ ((HQ.out.1.get 0 rfl).range) under53 rfl (by rw [size53]; rfl) ?_) | (refine wpList_store_st rfl 53 _ _ rfl (g1 + 1) [.int .i64 3, .int .u32 v, .slice xo xn xc] rfl rfl (HQ.out.1.get 1 rfl) size53 rfl rfl ?_; intro w9 hc hb hs; have HF := hid (And.intro hc (And.intro (own_but9 HQ.out.2 (HQ.out.1.get 1 rfl) hb) (HQ.out.1.below.trans (hb.below (by have := HG.out; simp; omega) HQ.out.1.below.size)))); clear hc hb hs))
          exact ret_st rfl rfl (g1 + 1) _ rfl HF.out.1 under53 rfl size53 ⟨_, rfl, by rw [HO3.out (by simp)]; exact HF.out.2.1, by first | exact HF.out.2.2 | (rw [← HG.out]; exact HF.out.2.2)⟩
      · have hk' : (kk == 3) = false := by simpa using hk
        have hj0 := HZ.out hk
        subst hj0
        have HK := hid hk
        clear HZ hj hk HO3
        rw [show ((0 : Nat) : Int) = 0 from rfl]
        go_wp2_with (first | (refine wpList_load_mid rfl 53 _ rfl g3 0 rfl _ _ ((HQ.out.1.get 0 rfl).range) under53 rfl (by rw [size53]; rfl) ?_) | (refine wpList_store_st rfl 53 _ _ rfl (g1 + 1) [.int .i64 kk, .int .u32 v, .slice xo xn xc] rfl rfl (HQ.out.1.get 1 rfl) size53 rfl rfl ?_; intro w9 hc hb hs; have HF := hid (And.intro hc (And.intro (own_but9 HQ.out.2 (HQ.out.1.get 1 rfl) hb) (HQ.out.1.below.trans (hb.below (by have := HG.out; simp; omega) HQ.out.1.below.size)))); clear hc hb hs))
        exact ret_st rfl rfl (g1 + 1) _ rfl HF.out.1 under53 rfl size53 ⟨_, rfl, by rw [HO0.out HK.out]; exact HF.out.2.1, by first | exact HF.out.2.2 | (rw [← HG.out]; exact HF.out.2.2)⟩
    
end Go.Proofs.YtdfnbcbnmiohnaaGreatDoor
namespace Go.Proofs.YtdfnbcbnmiohnaaGreatDoor
open Go.RowKit
set_option maxRecDepth 100000
set_option maxHeartbeats 8000000
attribute [-simp] Tryz.isAgg44 Tryz.sizeOf44 Tryz.zeroValue44
theorem size48 : (Tryz.prog.info? 48).map (·.size) = some 6 := by kernel_rfl
theorem under48 : Tryz.prog.underlying 48 = some (.struct (Tryz.prog.fieldsOf 48)) := by kernel_rfl
theorem u32sA (L : List Int) : (u32s L).all (·.oneCell') = true := List.all_eq_true.2 (fun v hv => by simp only [u32s, List.mem_map] at hv; obtain ⟨x, _, rfl⟩ := hv; rfl)
theorem own_at {W w : World} {x : Value} {L : List Int} (h : OwnW W w x L) : ∃ ao c, x = .slice ao L.length c ∧ H.At w .u32 ao L := by
  rcases h.2 with ⟨e, hn⟩ | ⟨g, cap, cur, e, _, h2, _, _, _, h6⟩
  · have : L = [] := List.length_eq_zero_iff.1 hn
    subst this
    exact ⟨none, 0, e, .inl rfl⟩
  · refine ⟨some ⟨g, 0, none⟩, cap, e, .inr ⟨g, 0, rfl, (Array.getElem?_eq_some_iff.1 h2).1, fun i hi => ?_⟩⟩
    rw [Nat.zero_add, cell_of_row w g i _ 43 (0, 0) h2]
    have h7 : (u32s L)[i]? = some (.int .u32 (L.getD i 0)) := by rw [u32s, List.getElem?_map, List.getD_eq_getElem?_getD, List.getElem?_eq_getElem hi]; rfl
    rw [← h6, List.getElem?_take, if_pos (by omega)] at h7
    simpa using h7
def stepO (t v : Int) : Q.MOp := ⟨wi t 1 4, v, opW (wi t 1 4) v⟩
theorem stepO_ok (t v : Int) : (stepO t v).Ok := by
  unfold stepO wi opW Q.MOp.Ok Q.pgN
  refine ⟨by simp only; omega, by simp only; omega, ?_⟩
  simp only
  split <;> simp
open Classical in
noncomputable def DS.exE (d : DS) (s : Int) : Int := if H.LoadOk (d.st s) then 0 else 20
open Classical in
noncomputable def DS.exL (d : DS) (s : Int) (o : Q.MOp) : List Int := if H.LoadOk (d.st s) then Q.exS (d.st s) o.wds else List.replicate 26 0
noncomputable def DS.ext (d : DS) (s : Int) (o : Q.MOp) : DS := if d.exE s = 0 then d.dig s (d.exL s o) 26 else d
theorem exL_len (d : DS) (s : Int) (o : Q.MOp) : (d.exL s o).length = 26 := by
  unfold DS.exL
  split
  · exact Q.exS_len (d.st_length s)
  · simp
theorem ext_fn (W : World) (d : DS) (s : Int) (hU : d.m.U) (hT : H.Tab W) (h2 : 1 < W.heap.size) (o : Q.MOp) (ho : o.Ok) (ao : Option Addr) (c : Nat) (hat : H.At W .u32 ao o.ws) :
    Calls Tryz.prog 57 #[.agg (u32s (d.st s)).toArray, .agg #[.int .i64 o.k, .int .u32 o.a, .slice ao o.ws.length c]] W fun e W' => e = .returned (.tuple #[.agg (u32s (d.exL s o)).toArray, .int .i64 (d.exE s)]) ∧ Below W.heap.size W W' := by
  by_cases hk : H.LoadOk (d.st s)
  · have e1 : d.exL s o = Q.exS (d.st s) o.wds := by unfold DS.exL; rw [if_pos hk]
    have e2 : d.exE s = 0 := by unfold DS.exE; rw [if_pos hk]
    rw [e1, e2]
    exact Q.extend_gen W hT h2 (d.st s) (d.st_length s) (DS.st_wds hU s) hk o ho ao c hat
  · have e1 : d.exL s o = List.replicate 26 0 := by unfold DS.exL; rw [if_neg hk]
    have e2 : d.exE s = 20 := by unfold DS.exE; rw [if_neg hk]
    rw [e1, e2]
    exact Q.extend_no W (d.st s) (d.st_length s) (DS.st_wds hU s) hk o ho ao c
theorem exE_cases (d : DS) (s : Int) : d.exE s = 0 ∨ d.exE s = 20 := by unfold DS.exE; split <;> simp
theorem extend_l (W : World) (p : Dp) (d : DS) (h : DB W p d) (hU : d.m.U) (hG : Gl W p) (k a b t f v : Int) (a0 : 0 ≤ a) (a1 : a < 4294967296) :
    Calls Tryz.prog 18 #[ptr p.g, opV k a b t f v] W fun e W' => e = .returned (.tuple #[]) ∧ DB W' p (d.ext a (stepO t v)) ∧ ButL p.f.w W W' := by
  obtain ⟨Z, hZ⟩ : ∃ Z : List Int, Z = List.replicate 26 0 := ⟨_, rfl⟩
  have hZl : Z.length = 26 := by rw [hZ]; simp
  have hz : ∀ w, (zeroValue 44).run Tryz.prog w = .ok (.agg (u32s Z).toArray) w := fun w => by rw [Tryz.zeroValue44, hZ]; rfl
  clear hZ
  have D0 := hid (((DG.startw h).new 48 (opC k a b t f v)).new 44 (u32s Z))
  have HMm := hid (fun w (hw : DB w p d) => memory_any w p d hw)
  have HFr := hid (fun w => lframe_any w a a0 a1)
  have HPk := hid (fun w (hw : DB w p d) (off : Int) => (peek_any w p.f d.m hw.mem true a off))
  have HOp := hid (fun w => operation_any w k a b t f v)
  have HWF := hid (fun k (hk : k ∈ p.f.w) => (show k ∈ p.all from by simp only [Dp.all, List.mem_cons]; exact Or.inr (Or.inr (Fp.w_all hk))))
  have HEx := hid (fun w (hg : Gl w p) ao c (hat : H.At w .u32 ao (opW (wi t 1 4) v)) => ext_fn w d a hU hg.tab hg.sz (stepO t v) (stepO_ok t v) ao c hat)
  simp only [stepO] at HEx
  have HGl := hid (fun w L (kk : DG W w p d p.f.w L) => hG.step kk.but HWF.out)
  have HGt := hid (fun j hj => d.st_get a j hj)
  have hL := d.st_length a
  have hXl := exL_len d a (stepO t v)
  have HLa := hid (fun w (hw : DB w p d) => lay_l w p d hw a a0 a1 (d.exL a (stepO t v)) hXl)
  have hEc := exE_cases d a
  have HExt : Hid (d.ext a (stepO t v) = if d.exE a = 0 then d.dig a (d.exL a (stepO t v)) 26 else d) := hid rfl
  rw [HExt.out]
  clear HExt h hU hG a0 a1
  simp only [stepO] at *
  generalize opW (wi t 1 4) v = OL at *
  generalize wi t 1 4 = kk at *
  generalize DS.exL d a _ = XS at *
  generalize d.dig a XS 26 = dX at *
  generalize d.exE a = xe at *
  generalize d.st a = S at *
  generalize hfin : (if xe = 0 then dX else d) = fin
  have HFin := hid hfin
  clear hfin
  simp only [opV, opC, ptr, fr] at *
  go_enter Tryz.func18, Tryz.ntmps18
  go_upto_region 2 with fail
  generalize (World.alloc _ _).alloc _ = X at *
  simp only [World.size_alloc] at D0 ⊢
  generalize hg : W.heap.size = g3 at D0 ⊢
  have HG := hid hg
  clear hg
  go_upto_region 3 with fail
  go_loopw [5] (fun i wr => ∃ j : Nat, j ≤ 26 ∧ i = .int .i64 (j : Int) ∧ Hid (DG W wr p d p.f.w [(g3 + 1, 44, u32s (mix S Z j)), (g3, 48, [.int .i64 k, .int .u32 a, .int .u32 b, .int .i64 t, .int .i64 f, .int .u32 v])])) (fun i _ => 26 - (intOf i).toNat)
  case atStart => exact ⟨0, Nat.zero_le _, rfl, hid (by rw [mix_zero]; exact D0.out)⟩
  case round =>
    obtain ⟨j, hj, rfl, HQ⟩ := hrel
    clear D0
    by_cases hlt : j < 26
    · have q1 : (j : Int) < 26 := by omega
      have kw : IntKind.wrap .i64 (11 + (j : Int)) = 11 + (j : Int) := by rw [IntKind.wrap_i64]; omega
      have kw2 : IntKind.wrap .i64 ((j : Int) + 1) = (j : Int) + 1 := by rw [IntKind.wrap_i64]; omega
      have HJ := hid hlt
      have HG1 := hid (HGt.out j hlt)
      clear hlt hj
      generalize hwd : d.m.word true a (11 + (j : Int)) = wd at HG1
      have HWd := hid hwd
      clear hwd
      go_upto_region 5 with fail
      have E1 := hid (HQ.out.on (Below.refl _ _).drew)
      clear HQ
      refine wp_region_held_drew (S := fun w => Cel w g3 48 [.int .i64 k, .int .u32 a, .int .u32 b, .int .i64 t, .int .i64 f, .int .u32 v]) (by kernel_rfl) (E1.out.get 1 rfl) (fun hHeld => ?_)
      generalize World.drew _ = w3 at *
      refine tk 0 (some 12) (.int .i64 (j : Int)) ?_
      simp only [Act.put, tqA, tqZ, tqS]
      refine tk 1 (some 13) (.pointer (some ⟨p.g, 0, none⟩)) ?_
      simp only [Act.put, tqA, tqZ, tqS]
      refine tk 3 (some 15) (.pointer (some ⟨g3, 1, none⟩)) ?_
      simp only [Act.put, tqA, tqZ, tqS]
      refine tk 4 (some 16) (.int .u32 a) ?_ (hy := Or.inl ⟨by rfl, by intro w hSw; have hc : w.cell? ⟨g3, 1, none⟩ = some (.int .u32 a) := hSw.cell 1; go_simp⟩)
      simp only [Act.put, tqA, tqZ, tqS]
      refine tk 6 (some 18) (.int .i64 (j : Int)) ?_
      simp only [Act.put, tqA, tqZ, tqS]
      refine tk 7 (some 19) (.int .i64 (11 + (j : Int))) ?_
      simp only [Act.put, tqA, tqZ, tqS]
      refine wpAnyH_ready (rs := [2]) (by kernel_rfl) (by simp) (AllReadyH.cons rfl (fun KQ hK => ?_) AllReadyH.nil)
      go_simp
      refine (HMm.out _ E1.out.db).mono ?_
      rintro e w4 ⟨rfl, rfl⟩
      go_wp2_with fail
      refine hK.out _ _ (E1.out.get 1 rfl) (fun hHeld => ?_)
      clear hK KQ
      try simp only [Act.put, tqA, tqZ, tqS]
      refine wpAnyH_ready (rs := [5]) (by kernel_rfl) (by simp) (AllReadyH.cons rfl (fun KQ hK => ?_) AllReadyH.nil)
      go_simp
      refine (HFr.out _).mono ?_
      rintro e w4 ⟨rfl, hb⟩
      have E2 := hid (E1.out.on hb)
      clear hb E1
      go_wp2_with fail
      refine hK.out _ _ (E2.out.get 1 rfl) (fun hHeld => ?_)
      clear hK KQ
      try simp only [Act.put, tqA, tqZ, tqS]
      refine wpAnyH_ready (rs := [8]) (by kernel_rfl) (by simp) (AllReadyH.cons rfl (fun KQ hK => ?_) AllReadyH.nil)
      go_simp
      refine (HPk.out _ E2.out.db _).mono ?_
      rintro e w5 ⟨rfl, hb⟩
      have E3 := hid (E2.out.on hb)
      clear hb E2
      rw [HWd.out]
      go_wp2_with fail
      refine hK.out _ _ (E3.out.get 1 rfl) (fun hHeld => ?_)
      clear hK KQ
      try simp only [Act.put, tqA, tqZ, tqS]
      refine tk 9 (some 21) (.pointer (some ⟨g3 + 1, j, none⟩)) ?_
      simp only [Act.put, tqA, tqZ, tqS]
      refine wpAnyH_ready (rs := [10]) (by kernel_rfl) (by simp) (AllReadyH.cons rfl (fun KQ hK => ?_) AllReadyH.nil)
      (obtain ⟨y, z0⟩ := mix_cell (E3.out.get 0 rfl) (by have := HJ.out; omega) (by omega); have z1 := (E3.out.get 0 rfl).free j; go_simp)
      have E4 := hid (E3.out.put (fun q hq => by simp only [List.mem_cons, List.not_mem_nil, or_false] at hq; subst hq; simp only; omega) ((E3.out.get 0 rfl).setCell j (.int .u32 wd)) (.setCell _ _ _ _ (by simp)))
      rw [mix_set S Z j wd (by have := HJ.out; omega) (by omega) HG1.out] at E4
      have E5 := hid E4.out
      clear E4 E3 z0 z1
      generalize World.setCell _ _ _ = w7 at *
      refine hK.out _ _ (E5.out.get 1 rfl) (fun hHeld => ?_)
      clear hK KQ
      try simp only [Act.put]
      refine wpAnyH_done (by kernel_rfl) ?_ _
      go_wp2_with fail
      go_roundw
      case measure => have := HJ.out; simp [intOf] <;> omega
      case rel => exact ⟨j + 1, HJ.out, by simp, hid E5.out⟩
    · have hj' : j = 26 := by omega
      subst hj'
      clear hlt hj HGt HPk
      rw [show ((26 : Nat) : Int) = 26 from rfl]
      have hmx : mix S Z 26 = S := by have := mix_all S Z (by omega); rw [hL] at this; exact this
      rw [hmx] at HQ
      clear hmx
      go_upto_region 6 with fail
      have E0 := hid (HQ.out.on (Below.refl _ _).drew)
      clear HQ
      refine wp_region_held_drew (S := fun w => Cel w (g3 + 1) 44 (u32s S) ∧ Cel w g3 48 [.int .i64 k, .int .u32 a, .int .u32 b, .int .i64 t, .int .i64 f, .int .u32 v]) (by kernel_rfl) ⟨E0.out.get 0 rfl, E0.out.get 1 rfl⟩ (fun hHeld => ?_)
      generalize World.drew _ = x99 at *
      refine tk 0 (some 23) (.agg (u32s S).toArray) ?_ (hy := yieldsIf_load_mid (by rfl) _ _ rfl _ _ rfl _ _ (fun w hSw => hSw.1.range) under44 rfl (by rw [u32s, List.length_map, hL]; exact size44))
      simp only [Act.put, tqA, tqZ, tqS]
      refine tk 1 (some 24) (.agg #[.int .i64 k, .int .u32 a, .int .u32 b, .int .i64 t, .int .i64 f, .int .u32 v]) ?_ (hy := yieldsIf_load_mid (by rfl) _ _ rfl _ _ rfl _ _ (fun w hSw => hSw.2.range) under48 rfl (by rw [size48]; rfl))
      simp only [Act.put, tqA, tqZ, tqS]
      refine wpAnyH_ready (rs := [2, 7]) (by kernel_rfl) (by simp) (AllReadyH.cons rfl (fun KQ hK => ?_) (AllReadyH.cons rfl (fun KQ hK => ?_) AllReadyH.nil))
      · go_simp
        refine (HOp.out _).mono ?_
        rintro e x1 ⟨xs, rfl, hO, hb⟩
        have F1 := hid (E0.out.on hb)
        obtain ⟨ao, cc, rfl, hA⟩ := own_at hO
        have A1 := hid hA
        clear hb hO hA E0
        go_wp2_with fail
        refine hK.out _ _ ⟨F1.out.get 0 rfl, F1.out.get 1 rfl⟩ (fun hHeld => ?_)
        clear hK KQ
        try simp only [Act.put, tqA, tqZ, tqS]
        refine wpAnyH_ready (rs := [3, 7]) (by kernel_rfl) (by simp) (AllReadyH.cons rfl (fun KQ hK => ?_) (AllReadyH.cons rfl (fun KQ hK => ?_) AllReadyH.nil))
        · go_simp
          refine (HEx.out _ (HGl.out _ _ F1.out) ao cc A1.out).mono ?_
          rintro e x2 ⟨rfl, hb⟩
          have F2 := hid (F1.out.on hb)
          clear hb F1
          go_wp2_with fail
          refine hK.out _ _ ⟨F2.out.get 0 rfl, F2.out.get 1 rfl⟩ (fun hHeld => ?_)
          clear hK KQ
          try simp only [Act.put, tqA, tqZ, tqS]
          refine tk 4 (some 22) (.tuple #[.agg (u32s XS).toArray, .int .i64 xe]) ?_
          simp only [Act.put, tqA, tqZ, tqS]
          refine tk 5 (some 27) (.agg (u32s XS).toArray) ?_
          simp only [Act.put, tqA, tqZ, tqS]
          refine tk 6 (some 28) (.int .i64 xe) ?_
          simp only [Act.put, tqA, tqZ, tqS]
          refine wpAnyH_ready (rs := [7]) (by kernel_rfl) (by simp) (AllReadyH.cons rfl (fun KQ hK => ?_) AllReadyH.nil)
          go_simp
          have HLt : Hid (g3 + 1 < x2.heap.size) := hid (F2.out.get 0 rfl).lt
          have F3 := hid (F2.out.new 44 (u32s Z))
          have A3 := hid (A1.out.below (below_one _ (.cells (u32s Z).toArray 44)))
          clear F2
          generalize World.alloc _ _ = x3 at *
          generalize x2.heap.size = g6 at *
          refine hK.out _ _ ⟨F3.out.get 1 rfl, F3.out.get 2 rfl⟩ (fun hHeld => ?_)
          clear hK KQ
          try simp only [Act.put, tqA, tqZ, tqS]
          refine wpAnyH_ready (rs := [8]) (by kernel_rfl) (by simp) (AllReadyH.cons rfl (fun KQ hK => ?_) AllReadyH.nil)
          rw [if_pos (by rfl)]
          refine wp_store_st 44 _ _ rfl g6 (u32s XS) rfl rfl (F3.out.get 0 rfl) (by rw [u32s, List.length_map, hXl]; exact size44) (by simp [u32s, hZl, hXl]) (u32sA XS) ?_
          intro x4 hc hb hs
          have F4 := hid (F3.out.put (fun q hq => by simp only [List.mem_cons, List.not_mem_nil, or_false] at hq; rcases hq with rfl | rfl <;> (have := HLt.out; simp only; omega)) hc hb)
          clear hc hb hs F3
          refine hK.out _ _ ⟨F4.out.get 1 rfl, F4.out.get 2 rfl⟩ (fun hHeld => ?_)
          clear hK KQ
          try simp only [Act.put]
          refine wpAnyH_ready (rs := [9]) (by kernel_rfl) (by simp) (AllReadyH.cons rfl (fun KQ hK => ?_) AllReadyH.nil)
          go_simp
          refine hK.out _ _ ⟨F4.out.get 1 rfl, F4.out.get 2 rfl⟩ (fun hHeld => ?_)
          clear hK KQ
          try simp only [Act.put, tqA, tqZ, tqS]
          refine wpAnyH_done (by kernel_rfl) ?_ _
          by_cases hx : xe = 0
          · subst hx
            have hf0 : fin = dX := by rw [← HFin.out]; rfl
            have c1 := (F4.out.get 2 rfl).cell 1
            simp only [tqG, tqH] at c1
            go_wp2_with (first | (refine wpList_load_mid rfl 44 _ rfl g6 0 rfl _ _ (F4.out.get 0 rfl).range under44 rfl (by rw [u32s, List.length_map, hXl]; exact size44) ?_) | (go_at_call 16; refine (HLa.out _ F4.out.db).mono ?_; rintro e y1 ⟨rfl, hd, hb⟩; have EZ := hid (F4.out.step hd hb (fun _ hk => hk)); clear hd hb c1))
            go_returns
            exact ⟨rfl, by rw [hf0]; exact EZ.out.db, EZ.out.but⟩
          · have hx' : (xe == 0) = false := by simpa using hx
            have hf0 : fin = d := by rw [← HFin.out, if_neg hx]
            clear hx hEc
            go_wp2_with fail
            go_returns
            exact ⟨rfl, by rw [hf0]; exact F4.out.db, F4.out.but⟩
        · go_simp
          have HLt : Hid (g3 + 1 < x1.heap.size) := hid (F1.out.get 0 rfl).lt
          have F2 := hid (F1.out.new 44 (u32s Z))
          have A2 := hid (A1.out.below (below_one _ (.cells (u32s Z).toArray 44)))
          clear F1
          generalize World.alloc _ _ = x2 at *
          generalize x1.heap.size = g6 at *
          refine hK.out _ _ ⟨F2.out.get 1 rfl, F2.out.get 2 rfl⟩ (fun hHeld => ?_)
          clear hK KQ
          try simp only [Act.put, tqA, tqZ, tqS]
          refine wpAnyH_ready (rs := [3]) (by kernel_rfl) (by simp) (AllReadyH.cons rfl (fun KQ hK => ?_) AllReadyH.nil)
          go_simp
          refine (HEx.out _ (HGl.out _ _ F2.out) ao cc A2.out).mono ?_
          rintro e x3 ⟨rfl, hb⟩
          have F3 := hid (F2.out.on hb)
          clear hb F2
          go_wp2_with fail
          refine hK.out _ _ ⟨F3.out.get 1 rfl, F3.out.get 2 rfl⟩ (fun hHeld => ?_)
          clear hK KQ
          try simp only [Act.put, tqA, tqZ, tqS]
          refine tk 4 (some 22) (.tuple #[.agg (u32s XS).toArray, .int .i64 xe]) ?_
          simp only [Act.put, tqA, tqZ, tqS]
          refine tk 5 (some 27) (.agg (u32s XS).toArray) ?_
          simp only [Act.put, tqA, tqZ, tqS]
          refine tk 6 (some 28) (.int .i64 xe) ?_
          simp only [Act.put, tqA, tqZ, tqS]
          refine wpAnyH_ready (rs := [8]) (by kernel_rfl) (by simp) (AllReadyH.cons rfl (fun KQ hK => ?_) AllReadyH.nil)
          rw [if_pos (by rfl)]
          refine wp_store_st 44 _ _ rfl g6 (u32s XS) rfl rfl (F3.out.get 0 rfl) (by rw [u32s, List.length_map, hXl]; exact size44) (by simp [u32s, hZl, hXl]) (u32sA XS) ?_
          intro x4 hc hb hs
          have F4 := hid (F3.out.put (fun q hq => by simp only [List.mem_cons, List.not_mem_nil, or_false] at hq; rcases hq with rfl | rfl <;> (have := HLt.out; simp only; omega)) hc hb)
          clear hc hb hs F3
          refine hK.out _ _ ⟨F4.out.get 1 rfl, F4.out.get 2 rfl⟩ (fun hHeld => ?_)
          clear hK KQ
          try simp only [Act.put]
          refine wpAnyH_ready (rs := [9]) (by kernel_rfl) (by simp) (AllReadyH.cons rfl (fun KQ hK => ?_) AllReadyH.nil)
          go_simp
          refine hK.out _ _ ⟨F4.out.get 1 rfl, F4.out.get 2 rfl⟩ (fun hHeld => ?_)
          clear hK KQ
          try simp only [Act.put, tqA, tqZ, tqS]
          refine wpAnyH_done (by kernel_rfl) ?_ _
          by_cases hx : xe = 0
          · subst hx
            have hf0 : fin = dX := by rw [← HFin.out]; rfl
            have c1 := (F4.out.get 2 rfl).cell 1
            simp only [tqG, tqH] at c1
            go_wp2_with (first | (refine wpList_load_mid rfl 44 _ rfl g6 0 rfl _ _ (F4.out.get 0 rfl).range under44 rfl (by rw [u32s, List.length_map, hXl]; exact size44) ?_) | (go_at_call 16; refine (HLa.out _ F4.out.db).mono ?_; rintro e y1 ⟨rfl, hd, hb⟩; have EZ := hid (F4.out.step hd hb (fun _ hk => hk)); clear hd hb c1))
            go_returns
            exact ⟨rfl, by rw [hf0]; exact EZ.out.db, EZ.out.but⟩
          · have hx' : (xe == 0) = false := by simpa using hx
            have hf0 : fin = d := by rw [← HFin.out, if_neg hx]
            clear hx hEc
            go_wp2_with fail
            go_returns
            exact ⟨rfl, by rw [hf0]; exact F4.out.db, F4.out.but⟩
      · go_simp
        have HLt : Hid (g3 + 1 < x99.heap.size) := hid (E0.out.get 0 rfl).lt
        have F1 := hid (E0.out.new 44 (u32s Z))
        clear E0
        generalize World.alloc _ _ = x1 at *
        generalize x99.heap.size = g6 at *
        refine hK.out _ _ ⟨F1.out.get 1 rfl, F1.out.get 2 rfl⟩ (fun hHeld => ?_)
        clear hK KQ
        try simp only [Act.put, tqA, tqZ, tqS]
        refine wpAnyH_ready (rs := [2]) (by kernel_rfl) (by simp) (AllReadyH.cons rfl (fun KQ hK => ?_) AllReadyH.nil)
        go_simp
        refine (HOp.out _).mono ?_
        rintro e x2 ⟨xs, rfl, hO, hb⟩
        have F2 := hid (F1.out.on hb)
        obtain ⟨ao, cc, rfl, hA⟩ := own_at hO
        have A2 := hid hA
        clear hb hO hA F1
        go_wp2_with fail
        refine hK.out _ _ ⟨F2.out.get 1 rfl, F2.out.get 2 rfl⟩ (fun hHeld => ?_)
        clear hK KQ
        try simp only [Act.put, tqA, tqZ, tqS]
        refine wpAnyH_ready (rs := [3]) (by kernel_rfl) (by simp) (AllReadyH.cons rfl (fun KQ hK => ?_) AllReadyH.nil)
        go_simp
        refine (HEx.out _ (HGl.out _ _ F2.out) ao cc A2.out).mono ?_
        rintro e x3 ⟨rfl, hb⟩
        have F3 := hid (F2.out.on hb)
        clear hb F2
        go_wp2_with fail
        refine hK.out _ _ ⟨F3.out.get 1 rfl, F3.out.get 2 rfl⟩ (fun hHeld => ?_)
        clear hK KQ
        try simp only [Act.put, tqA, tqZ, tqS]
        refine tk 4 (some 22) (.tuple #[.agg (u32s XS).toArray, .int .i64 xe]) ?_
        simp only [Act.put, tqA, tqZ, tqS]
        refine tk 5 (some 27) (.agg (u32s XS).toArray) ?_
        simp only [Act.put, tqA, tqZ, tqS]
        refine tk 6 (some 28) (.int .i64 xe) ?_
        simp only [Act.put, tqA, tqZ, tqS]
        refine wpAnyH_ready (rs := [8]) (by kernel_rfl) (by simp) (AllReadyH.cons rfl (fun KQ hK => ?_) AllReadyH.nil)
        rw [if_pos (by rfl)]
        refine wp_store_st 44 _ _ rfl g6 (u32s XS) rfl rfl (F3.out.get 0 rfl) (by rw [u32s, List.length_map, hXl]; exact size44) (by simp [u32s, hZl, hXl]) (u32sA XS) ?_
        intro x4 hc hb hs
        have F4 := hid (F3.out.put (fun q hq => by simp only [List.mem_cons, List.not_mem_nil, or_false] at hq; rcases hq with rfl | rfl <;> (have := HLt.out; simp only; omega)) hc hb)
        clear hc hb hs F3
        refine hK.out _ _ ⟨F4.out.get 1 rfl, F4.out.get 2 rfl⟩ (fun hHeld => ?_)
        clear hK KQ
        try simp only [Act.put]
        refine wpAnyH_ready (rs := [9]) (by kernel_rfl) (by simp) (AllReadyH.cons rfl (fun KQ hK => ?_) AllReadyH.nil)
        go_simp
        refine hK.out _ _ ⟨F4.out.get 1 rfl, F4.out.get 2 rfl⟩ (fun hHeld => ?_)
        clear hK KQ
        try simp only [Act.put, tqA, tqZ, tqS]
        refine wpAnyH_done (by kernel_rfl) ?_ _
        by_cases hx : xe = 0
        · subst hx
          have hf0 : fin = dX := by rw [← HFin.out]; rfl
          have c1 := (F4.out.get 2 rfl).cell 1
          simp only [tqG, tqH] at c1
          go_wp2_with (first | (refine wpList_load_mid rfl 44 _ rfl g6 0 rfl _ _ (F4.out.get 0 rfl).range under44 rfl (by rw [u32s, List.length_map, hXl]; exact size44) ?_) | (go_at_call 16; refine (HLa.out _ F4.out.db).mono ?_; rintro e y1 ⟨rfl, hd, hb⟩; have EZ := hid (F4.out.step hd hb (fun _ hk => hk)); clear hd hb c1))
          go_returns
          exact ⟨rfl, by rw [hf0]; exact EZ.out.db, EZ.out.but⟩
        · have hx' : (xe == 0) = false := by simpa using hx
          have hf0 : fin = d := by rw [← HFin.out, if_neg hx]
          clear hx hEc
          go_wp2_with fail
          go_returns
          exact ⟨rfl, by rw [hf0]; exact F4.out.db, F4.out.but⟩
end Go.Proofs.YtdfnbcbnmiohnaaGreatDoor
namespace Go.Proofs.YtdfnbcbnmiohnaaGreatDoor
open Go.RowKit
set_option maxHeartbeats 8000000
set_option maxRecDepth 100000
attribute [-simp] Tryz.isAgg44 Tryz.sizeOf44 Tryz.zeroValue44
theorem rext_fn (W : World) (d : DS) (s : Int) (hU : d.m.U) (hT : H.TabR W) (h2 : 1 < W.heap.size) (o : Q.MOp) (ho : o.Ok) (ao : Option Addr) (c : Nat) (hat : H.At W .u32 ao o.ws) :
    Calls Tryz.prog 132 #[.agg (u32s (d.st s)).toArray, .agg #[.int .i64 o.k, .int .u32 o.a, .slice ao o.ws.length c]] W fun e W' => e = .returned (.tuple #[.agg (u32s (d.exL s o)).toArray, .int .i64 (d.exE s)]) ∧ Below W.heap.size W W' := by
  by_cases hk : H.LoadOk (d.st s)
  · have e1 : d.exL s o = Q.exS (d.st s) o.wds := by unfold DS.exL; rw [if_pos hk]
    have e2 : d.exE s = 0 := by unfold DS.exE; rw [if_pos hk]
    rw [e1, e2]
    exact Q.rextend_gen W hT h2 (d.st s) (d.st_length s) (DS.st_wds hU s) hk o ho ao c hat
  · have e1 : d.exL s o = List.replicate 26 0 := by unfold DS.exL; rw [if_neg hk]
    have e2 : d.exE s = 20 := by unfold DS.exE; rw [if_neg hk]
    rw [e1, e2]
    exact Q.rextend_no W (d.st s) (d.st_length s) (DS.st_wds hU s) hk o ho ao c
theorem OwnW.on {W w w' : World} {x : Value} {L : List Int} (h : OwnW W w x L) (hb : Below w.heap.size w w') : OwnW W w' x L := H.ownsRow_below h hb
theorem rext_any (W : World) (p : Rp) (d : DS) (h : RDB W p d) (hU : d.m.U) (hG : ∀ u, ButL p.all W u → H.TabR u ∧ 1 < u.heap.size) (k a b t f v : Int) (a0 : 0 ≤ a) (a1 : a < 4294967296) :
    Calls Tryz.prog 86 #[ptr p.g, opV k a b t f v] W fun e W' => ∃ r', e = .returned (.tuple #[]) ∧ RG W W' p ⟨p.g, p.ge, p.cap, r'⟩ (d.ext a (stepO t v)) := by
  obtain ⟨Z, hZ⟩ : ∃ Z : List Int, Z = List.replicate 26 0 := ⟨_, rfl⟩
  have hZl : Z.length = 26 := by rw [hZ]; simp
  have hz : ∀ w, (zeroValue 44).run Tryz.prog w = .ok (.agg (Z.map (Value.int .u32)).toArray) w := fun w => by rw [Tryz.zeroValue44, hZ]; rfl
  clear hZ
  have X0 := hid ((RX.start h).box 48 (opC k a b t f v))
  have HPk := hid (fun u (hw : RDB u p d) (off : Int) => rpeek_any u p.r d.m hw.mem true a off)
  have HOp := hid (fun w => operation_any w k a b t f v)
  have HEx := hid (fun u (hu : ButL p.all W u) ao c (hat : H.At u .u32 ao (opW (wi t 1 4) v)) => rext_fn u d a hU (hG u hu).1 (hG u hu).2 (stepO t v) (stepO_ok t v) ao c hat)
  simp only [stepO] at HEx
  have HWr := hid (fun u (q : Rp) e (hw : RDB u q e) (off v : Int) => rwrite_any u q.r e.m hw.mem true a off v)
  have HC0 := hid (fun (u : World) (q : Rp) (e : DS) (hw : RDB u q e) => hw.c0)
  have HGt := hid (fun j hj => d.st_get a j hj)
  have hL := d.st_length a
  have hXl := exL_len d a (stepO t v)
  have hEc := exE_cases d a
  have HExt : Hid (d.ext a (stepO t v) = if d.exE a = 0 then d.dig a (d.exL a (stepO t v)) 26 else d) := hid rfl
  rw [HExt.out]
  have ka : IntKind.wrap .i64 a = a := by rw [IntKind.wrap_i64]; omega
  have ka2 : wrap64 a = a := by unfold wrap64; omega
  clear HExt h hU hG a0 a1
  simp only [stepO] at *
  generalize opW (wi t 1 4) v = OL at *
  generalize wi t 1 4 = kk at *
  generalize DS.exL d a _ = XS at *
  generalize d.exE a = xe at *
  generalize d.st a = S at *
  generalize hfin : (if xe = 0 then d.dig a XS 26 else d) = fin
  have HFin := hid hfin
  clear hfin
  simp only [opV, opC, ptr, fr] at *
  go_enter Tryz.func86, Tryz.ntmps86
  go_upto_region 1 with fail
  generalize World.alloc W _ = w1 at *
  generalize W.heap.size = g3 at X0 ⊢
  have c1 := (X0.out.get 0 rfl).cell 1
  simp only [tqG, tqH] at c1
  go_upto_region 2 with fail
  have X1 := hid (X0.out.box 152 [.bool true, .int .i64 a])
  have HN1 : Hid (g3 < w1.heap.size) := hid (X0.out.get 0 rfl).lt
  clear X0 c1
  generalize World.alloc w1 _ = w2 at *
  generalize w1.heap.size = g4 at *
  go_upto_region 3 with (first | (refine wpList_load_mid rfl 48 _ rfl g3 0 rfl _ _ (X1.out.get 1 rfl).range under48 rfl (by rw [size48]; rfl) ?_) | (go_at_call 19; refine (HOp.out _).mono ?_; rintro e w3 ⟨xs, rfl, hO, hb⟩; have X2 := hid (X1.out.on hb); obtain ⟨ao, cc, rfl, hA⟩ := own_at hO; have O2 := hid hO; clear hb hO hA X1) | (refine wpList_store_st rfl 53 _ _ rfl w3.heap.size [.int .i64 kk, .int .u32 v, .slice ao OL.length cc] rfl rfl (Cel.new w3 53 [.int .i64 0, .int .u32 0, .slice none 0 0]) size53 rfl rfl ?_; intro w4 hc hb hs; have X3 := hid (X2.out.box_put hc hb); have HN2 : Hid (g4 < w3.heap.size) := hid (X2.out.get 0 rfl).lt; have O3x := hid (own_but9 (O2.out.on (below_one w3 (.cells #[.int .i64 0, .int .u32 0, .slice none 0 0] 53))) (Cel.new w3 53 [.int .i64 0, .int .u32 0, .slice none 0 0]) hb); clear hc hb hs X2 O2))
  generalize w3.heap.size = g5 at *
  go_upto_region 5 with fail
  have X4 : Hid (RX W (w4.alloc (Obj.cells (List.map (Value.int IntKind.u32) Z).toArray 44)) p p d [(w4.heap.size, 44, u32s Z), (g5, 53, [.int .i64 kk, .int .u32 v, .slice ao OL.length cc]), (g4, 152, [.bool true, .int .i64 a]), (g3, 48, [.int .i64 k, .int .u32 a, .int .u32 b, .int .i64 t, .int .i64 f, .int .u32 v])]) := hid (X3.out.box 44 (u32s Z))
  have O4 : Hid (OwnW w2 (w4.alloc (Obj.cells (List.map (Value.int IntKind.u32) Z).toArray 44)) (.slice ao OL.length cc) OL) := hid (O3x.out.on (below_one _ _))
  have HN3 : Hid (g5 < w4.heap.size) := hid (X3.out.get 0 rfl).lt
  clear X3 O3x
  generalize World.alloc w4 _ = w5 at *
  generalize w4.heap.size = g6 at *
  go_loopw [7] (fun i wr => ∃ j : Nat, j ≤ 26 ∧ i = .int .i64 (j : Int) ∧ Hid (RX W wr p p d [(g6, 44, u32s (mix S Z j)), (g5, 53, [.int .i64 kk, .int .u32 v, .slice ao OL.length cc]), (g4, 152, [.bool true, .int .i64 a]), (g3, 48, [.int .i64 k, .int .u32 a, .int .u32 b, .int .i64 t, .int .i64 f, .int .u32 v])] ∧ OwnW w2 wr (.slice ao OL.length cc) OL)) (fun i _ => 26 - (intOf i).toNat)
  case atStart => exact ⟨0, Nat.zero_le _, rfl, hid ⟨by rw [mix_zero]; exact X4.out, O4.out⟩⟩
  case round =>
    clear X4 O4
    obtain ⟨j, hj, rfl, HQ0⟩ := hrel
    have HQ := hid HQ0.out.1
    have HO := hid HQ0.out.2
    clear HQ0
    by_cases hlt : j < 26
    · have q1 : (j : Int) < 26 := by omega
      have kw : IntKind.wrap .i64 (11 + (j : Int)) = 11 + (j : Int) := by rw [IntKind.wrap_i64]; omega
      have kw2 : IntKind.wrap .i64 ((j : Int) + 1) = (j : Int) + 1 := by rw [IntKind.wrap_i64]; omega
      have HJ := hid hlt
      have HG1 := hid (HGt.out j hlt)
      clear hlt hj
      generalize hwd : d.m.word true a (11 + (j : Int)) = wd at HG1
      have HWd := hid hwd
      clear hwd
      go_upto_region 7 with fail
      have E1 := hid (HQ.out.on (Below.refl _ _).drew)
      have P1 := hid (HO.out.on (Below.refl _ _).drew)
      clear HQ HO
      refine wp_region_held_drew (S := fun w => (Cel w g4 152 [.bool true, .int .i64 a] ∧ w.cell? ⟨p.g, 0, none⟩ = some (.pointer (some ⟨p.r.g, 0, none⟩))) ∧ True) (by kernel_rfl) ⟨⟨E1.out.get 2 rfl, HC0.out _ _ _ E1.out.db⟩, trivial⟩ (fun hHeld => ?_)
      generalize World.drew _ = w3 at *
      refine tk 0 (some 21) (.int .i64 (j : Int)) ?_
      simp only [Act.put, tqA, tqZ, tqS]
      refine tk 1 (some 22) (.pointer (some ⟨p.g, 0, none⟩)) ?_
      simp only [Act.put, tqA, tqZ, tqS]
      refine tk 2 (some 23) (.pointer (some ⟨p.g, 0, none⟩)) ?_
      simp only [Act.put, tqA, tqZ, tqS]
      refine tk 3 (some 24) (.pointer (some ⟨p.g, 0, none⟩)) ?_
      simp only [Act.put, tqA, tqZ, tqS]
      refine tk 4 (some 25) (.pointer (some ⟨p.r.g, 0, none⟩)) ?_ (hy := Or.inl ⟨by rfl, by intro w hSw; have t1 := hSw.1.2; go_simp⟩)
      simp only [Act.put, tqA, tqZ, tqS]
      refine tk 5 (some 26) (.agg #[.bool true, .int .i64 a]) ?_ (hy := Or.inl ⟨by rfl, by intro w hSw; have t1 := hSw.1.1.cell 0; have t2 := hSw.1.1.cell 1; simp only [tqG, tqH] at t1 t2; go_simp⟩)
      simp only [Act.put, tqA, tqZ, tqS]
      refine tk 6 (some 27) (.int .i64 (j : Int)) ?_
      simp only [Act.put, tqA, tqZ, tqS]
      refine tk 7 (some 28) (.int .i64 (11 + (j : Int))) ?_
      simp only [Act.put, tqA, tqZ, tqS]
      refine wpAnyH_ready (rs := [8]) (by kernel_rfl) (by simp) (AllReadyH.cons rfl (fun KQ hK => ?_) AllReadyH.nil)
      go_simp
      refine (HPk.out _ E1.out.db _).mono ?_
      rintro e w6 ⟨rfl, hb⟩
      have E3 := hid (E1.out.on hb)
      have P3 := hid (P1.out.on hb)
      clear hb E1 P1
      rw [HWd.out]
      go_wp2_with fail
      refine hK.out _ _ ⟨⟨E3.out.get 2 rfl, HC0.out _ _ _ E3.out.db⟩, trivial⟩ (fun hHeld => ?_)
      clear hK KQ
      try simp only [Act.put, tqA, tqZ, tqS]
      refine tk 9 (some 30) (.pointer (some ⟨g6, j, none⟩)) ?_
      simp only [Act.put, tqA, tqZ, tqS]
      refine wpAnyH_ready (rs := [10]) (by kernel_rfl) (by simp) (AllReadyH.cons rfl (fun KQ hK => ?_) AllReadyH.nil)
      (obtain ⟨y, z0⟩ := mix_cell (E3.out.get 0 rfl) (by have := HJ.out; omega) (by omega); have z1 := (E3.out.get 0 rfl).free j; go_simp)
      have E4 := hid (E3.out.put (fun q hq => by have := HN1.out; have := HN2.out; have := HN3.out; simp only [List.mem_cons, List.not_mem_nil, or_false] at hq; rcases hq with rfl | rfl | rfl <;> (simp only; omega)) ((E3.out.get 0 rfl).setCell j (.int .u32 wd)) (.setCell _ _ _ _ (by simp)))
      have P5 := hid (own_but9 P3.out (E3.out.get 0 rfl) (.setCell w6 g6 j (.int .u32 wd) (by simp)))
      rw [mix_set S Z j wd (by have := HJ.out; omega) (by omega) HG1.out] at E4
      have E5 := hid E4.out
      clear E4 E3 P3 z0 z1
      generalize World.setCell _ _ _ = w7 at *
      refine hK.out _ _ ⟨⟨E5.out.get 2 rfl, HC0.out _ _ _ E5.out.db⟩, trivial⟩ (fun hHeld => ?_)
      clear hK KQ
      try simp only [Act.put]
      refine wpAnyH_done (by kernel_rfl) ?_ _
      go_wp2_with fail
      go_roundw
      case measure => have := HJ.out; simp [intOf]; omega
      case rel => exact ⟨j + 1, HJ.out, by simp, hid ⟨E5.out, P5.out⟩⟩
    · have hj' : j = 26 := by omega
      subst hj'
      clear hlt hj HGt HPk
      rw [show ((26 : Nat) : Int) = 26 from rfl]
      have hmx : mix S Z 26 = S := by have := mix_all S Z (by omega); rw [hL] at this; exact this
      rw [hmx] at HQ
      clear hmx
      obtain ⟨_, _, he9, hA9⟩ := own_at HO.out
      injection he9 with e1 e2 e3
      subst e1 e3
      have HP := hid (HEx.out wr HQ.out.rg.but _ cc hA9)
      clear hA9 e2
      have c0 := (HQ.out.get 1 rfl).cell 0
      have c1 := (HQ.out.get 1 rfl).cell 1
      have c2 := (HQ.out.get 1 rfl).cell 2
      simp only [tqG, tqH] at c0 c1 c2
      go_upto_region 9 with (first | (refine wpList_load_mid rfl 44 _ rfl g6 0 rfl _ _ (HQ.out.get 0 rfl).range under44 rfl (by rw [size44]; simp [u32s, hL]) ?_) | (go_at_call 132; refine HP.out.mono ?_; rintro e w6 ⟨rfl, hb⟩; have F1 := hid (HQ.out.on hb); clear hb HP HEx c0 c1 c2) | (refine wpList_store_st rfl 44 _ _ rfl w6.heap.size (u32s XS) rfl rfl (Cel.new w6 44 (u32s Z)) (by rw [u32s, List.length_map, hXl]; exact size44) (by simp [u32s, hZl, hXl]) (u32sA XS) ?_; intro w7 hc hb hs; have F2 := hid (F1.out.box_put hc hb); clear hc hb hs F1))
      generalize w6.heap.size = g8 at *
      by_cases hx : xe = 0
      rotate_left
      · have hx' : (xe == 0) = false := by simpa using hx
        have hf0 : fin = d := by rw [← HFin.out, if_neg hx]
        have HF0 := hid hf0
        clear hx hEc hf0
        go_upto_region 10 with fail
        go_loopw [10] (fun i wr => i = .int .i64 0 ∧ wr = w7) (fun _ _ => 0)
        case atStart => exact ⟨rfl, rfl⟩
        case round =>
          obtain ⟨rfl, rfl⟩ := hrel
          go_wp2_with fail
          go_returns
          exact ⟨_, rfl, by rw [HF0.out]; exact F2.out.rg⟩
      · subst hx
        have hf0 : fin = d.dig a XS 26 := by rw [← HFin.out]; rfl
        have HF0 := hid hf0
        clear hf0 hEc
        go_upto_region 10 with fail
        go_loopw [10] (fun i wr => ∃ j : Nat, j ≤ 26 ∧ i = .int .i64 (j : Int) ∧ Hid (∃ r, RX W wr p ⟨p.g, p.ge, p.cap, r⟩ (d.dig a XS j) [(g8, 44, u32s XS), (g6, 44, u32s S), (g5, 53, [.int .i64 kk, .int .u32 v, .slice ao OL.length cc]), (g4, 152, [.bool true, .int .i64 a]), (g3, 48, [.int .i64 k, .int .u32 a, .int .u32 b, .int .i64 t, .int .i64 f, .int .u32 v])])) (fun i _ => 26 - (intOf i).toNat)
        case atStart => exact ⟨0, Nat.zero_le _, rfl, hid ⟨p.r, F2.out⟩⟩
        case round =>
          clear F2
          obtain ⟨j, hj, rfl, HQ⟩ := hrel
          obtain ⟨r, hr⟩ := HQ.out
          have E0 := hid hr
          clear HQ hr
          by_cases hlt : j < 26
          · have q1 : (j : Int) < 26 := by omega
            have kw : IntKind.wrap .i64 (11 + (j : Int)) = 11 + (j : Int) := by rw [IntKind.wrap_i64]; omega
            have HJ := hid hlt
            have HFw : Hid (∀ u, Cel u g8 44 (u32s XS) → u.cell? ⟨g8, j, none⟩ = some (.int .u32 (XS.getD j 0))) := hid (fun u hu => u32s_at hu j (by rw [hXl]; exact HJ.out))
            obtain ⟨fw, hfw⟩ : ∃ fw, XS.getD j 0 = fw := ⟨_, rfl⟩
            rw [hfw] at HFw
            have HFE := hid hfw
            clear hlt hj hfw
            generalize hdd : d.dig a XS j = e at *
            have HDD := hid hdd
            clear hdd
            go_upto_region 12 with fail
            have E1 := hid (E0.out.on (Below.refl _ _).drew)
            clear E0
            refine wp_region_held_drew (S := fun w => (Cel w g4 152 [.bool true, .int .i64 a] ∧ w.cell? ⟨p.g, 0, none⟩ = some (.pointer (some ⟨r.g, 0, none⟩))) ∧ w.cell? ⟨g8, j, none⟩ = some (.int .u32 fw)) (by kernel_rfl) ⟨⟨E1.out.get 3 rfl, HC0.out _ _ _ E1.out.db⟩, HFw.out _ (E1.out.get 0 rfl)⟩ (fun hHeld => ?_)
            generalize World.drew _ = w3 at *
            refine tk 0 (some 51) (.pointer (some ⟨p.g, 0, none⟩)) ?_
            simp only [Act.put, tqA, tqZ, tqS]
            refine tk 1 (some 52) (.pointer (some ⟨p.g, 0, none⟩)) ?_
            simp only [Act.put, tqA, tqZ, tqS]
            refine tk 2 (some 53) (.pointer (some ⟨p.g, 0, none⟩)) ?_
            simp only [Act.put, tqA, tqZ, tqS]
            refine tk 3 (some 54) (.pointer (some ⟨r.g, 0, none⟩)) ?_ (hy := Or.inl ⟨by rfl, by intro w hSw; have t1 := hSw.1.2; go_simp⟩)
            simp only [Act.put, tqA, tqZ, tqS]
            refine tk 4 (some 55) (.agg #[.bool true, .int .i64 a]) ?_ (hy := Or.inl ⟨by rfl, by intro w hSw; have t1 := hSw.1.1.cell 0; have t2 := hSw.1.1.cell 1; simp only [tqG, tqH] at t1 t2; go_simp⟩)
            simp only [Act.put, tqA, tqZ, tqS]
            refine tk 5 (some 56) (.int .i64 (j : Int)) ?_
            simp only [Act.put, tqA, tqZ, tqS]
            refine tk 6 (some 57) (.int .i64 (11 + (j : Int))) ?_
            simp only [Act.put, tqA, tqZ, tqS]
            refine tk 7 (some 58) (.int .i64 (j : Int)) ?_
            simp only [Act.put, tqA, tqZ, tqS]
            refine tk 8 (some 59) (.pointer (some ⟨g8, j, none⟩)) ?_
            simp only [Act.put, tqA, tqZ, tqS]
            refine tk 9 (some 60) (.int .u32 fw) ?_ (hy := Or.inl ⟨by rfl, by intro w hSw; have t1 := hSw.2; go_simp⟩)
            simp only [Act.put, tqA, tqZ, tqS]
            refine wpAnyH_ready (rs := [10]) (by kernel_rfl) (by simp) (AllReadyH.cons rfl (fun KQ hK => ?_) AllReadyH.nil)
            go_simp
            refine (HWr.out _ _ _ E1.out.db _ _).mono ?_
            rintro e1 w6 ⟨rfl, r2, hs⟩
            have HGr := hid hs.g
            have E2 := hid (E1.out.memR hs (MS.write_ns ..))
            clear hs E1
            go_wp2_with fail
            refine hK.out _ _ ⟨⟨E2.out.get 3 rfl, by have := HC0.out _ _ _ E2.out.db; simp only [HGr.out] at this; exact this⟩, HFw.out _ (E2.out.get 0 rfl)⟩ (fun hHeld => ?_)
            clear hK KQ
            try simp only [Act.put, tqA, tqZ, tqS]
            refine wpAnyH_done (by kernel_rfl) ?_ _
            go_wp2_with fail
            go_roundw
            case measure => have := HJ.out; simp [intOf]; omega
            case rel => exact ⟨j + 1, HJ.out, by simp, hid ⟨r2, by show RX W _ p _ ((d.dig a XS j).wr a (11 + (j : Int)) (XS.getD j 0)) _; rw [HFE.out, HDD.out]; exact E2.out⟩⟩
          · have hj' : j = 26 := by omega
            subst hj'
            clear hlt hj
            go_wp2_with fail
            go_returns
            exact ⟨_, rfl, by rw [HF0.out]; exact E0.out.rg⟩
end Go.Proofs.YtdfnbcbnmiohnaaGreatDoor
