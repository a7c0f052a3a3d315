/- The document's Run 14. -/
import Derived.Test.YteldpapacdbbiaaGreatDoorE9e
import Derived.Test.YteldpapacdbbiaaGreatDoorC7C8
namespace Go.Proofs.YteldpapacdbbiaaGreatDoor
open Go.RowKit
set_option maxHeartbeats 8000000
set_option maxRecDepth 100000
attribute [-simp] Tryz.isAgg34 Tryz.sizeOf34 Tryz.isAgg24
theorem RB.two {W x : World} {r r1 : Rf} {m : MS} {L : List (Nat × TypeId × List Value)} (h : RB W x r r1 m L) : RB W ((x.alloc zg).alloc (.cells (evc 0 0).toArray 42)) r r1 m ((x.heap.size + 1, 42, evc 0 0) :: (x.heap.size, 34, F.zero.cs) :: L) := by
  rw [zg_eq]
  have h5 := (h.box 34 F.zero.cs).box 42 (evc 0 0)
  simp only [World.size_alloc] at h5
  exact h5
theorem RB.tail {W x : World} {r r1 : Rf} {m : MS} {p : Nat × TypeId × List Value} {L : List (Nat × TypeId × List Value)} (h : RB W x r r1 m (p :: L)) : RB W x r r1 m L :=
  ⟨h.st, fun q hq => h.all q (by simp [hq]), fun q hq => h.new q (by simp [hq]), (List.nodup_cons.1 h.nd).2⟩
theorem RSt.lo {w x : World} {r r1 : Rf} {m1 : MS} (h : RSt w x r r1 m1) (hz : 3 < w.heap.size) (hlo : ∀ k ∈ r.all, 3 < k) : ∀ k ∈ r1.all, 3 < k := fun k hk => by
  rcases h.sub k hk with h1 | h1
  · exact hlo k h1
  · omega
theorem built_zeroR : Tryz.prog.built 34 [] = some F.zero.cs.toArray := by kernel_rfl
theorem rrun_no (W : World) (r : Rf) (m : MS) (h : RMem W r m) (l : Int) (f : F) (n : Int) (hn : n < 0 ∨ 100000 < n) :
    Calls Tryz.prog 14 #[ptr r.g, .int .i64 l, f.v, .int .i64 n] W fun x w' => x = .returned (.tuple #[.agg F.zero.cs.toArray, .agg (evc 0 0).toArray, .int .i64 0, .int .i64 100]) ∧ ∃ r', RSt W w' r r' m := by
  have HX := hid (M3.new W r m h f)
  clear h
  simp only [F.v] at *
  simp only [zg, evc] at HX
  unfold ptr at *
  generalize f.cs = fcs at *
  rcases hn with hn | hn
  all_goals go_enter Tryz.func14, Tryz.ntmps14
  all_goals go_upto_region 1 with fail
  all_goals generalize hX : ((W.alloc _).alloc _).alloc _ = X at *
  all_goals clear hX
  all_goals generalize W.heap.size + 1 + 1 = g9 at *
  all_goals generalize W.heap.size + 1 = g8 at *
  all_goals generalize W.heap.size = g6 at HX ⊢
  all_goals go_wp2_with (first | (refine wpList_build_f rfl 34 _ rfl #[] (by simp) F.zero.cs.toArray built_zeroR ?_) | (refine wpList_store_g rfl _ _ rfl g8 F.zero F.zero rfl rfl (HX.out.get 1 rfl) ?_; intro w8 hc hb hs; have H8 := hid (HX.out.put 1 rfl hc hb); clear hc hb hs) | (refine wpList_store_st rfl 42 _ _ rfl g9 (evc 0 0) rfl rfl (H8.out.get 0 rfl) size42 rfl rfl ?_; intro w9 hc hb hs; have H9 := hid (H8.out.put 0 rfl hc hb); clear hc hb hs))
  all_goals exact ret_four rfl rfl g8 g9 _ _ rfl rfl (H9.out.get 1 rfl) (H9.out.get 0 rfl) under25 under42 rfl rfl (by rw [size25, F.len]) size42 ⟨rfl, r, H9.out.st⟩
theorem rrun_any (W : World) (hT : Tb W) (r : Rf) (m : MS) (h : RMem W r m) (hU : m.U) (l : Int) (f : F) (hF : f.U) (hlo : ∀ k ∈ r.all, 3 < k) (n : Nat) (hn : (n : Int) ≤ 100000) :
    Calls Tryz.prog 14 #[ptr r.g, .int .i64 l, f.v, .int .i64 (n : Int)] W fun x w' => x = .returned (rn l n 0 m f).v ∧ ∃ r', RSt W w' r r' (rn l n 0 m f).m := by
  have HX := hid (M3.new W r m h f)
  have HU := hid (And.intro hU hF)
  have HS : Hid (∀ x r1 m' f', RSt W x r r1 m' → m'.U → f'.U → Calls Tryz.prog 9 #[ptr r.g, .int .i64 l, f'.v] x fun e w' => e = .returned (stp m' l f').v ∧ ∃ r2, RSt x w' r1 r2 (stp m' l f').m) := hid (fun x r1 m' f' st hU' hF' => by
    rw [← st.g]
    exact rstep_any x (hT.but st.but hlo) r1 m' st.mem hU' l f' hF' (st.lo hT.z hlo))
  clear hT h hU hF hlo
  generalize hr : rn l n 0 m f = O at *
  have HRn := hid hr
  clear hr
  simp only [F.v] at *
  simp only [zg, evc] at HX
  unfold ptr at *
  have hn0 : (0 : Int) ≤ (n : Int) := by omega
  go_enter Tryz.func14, Tryz.ntmps14
  go_upto_region 1 with fail
  generalize hX : ((W.alloc _).alloc _).alloc _ = X at *
  clear hX
  generalize W.heap.size + 1 + 1 = g9 at *
  generalize W.heap.size + 1 = g8 at *
  generalize W.heap.size = g6 at HX ⊢
  go_upto_region 3 with fail
  go_wp2_with fail
  go_loopw [12] (fun i wr => ∃ (j : Nat) (r1 : Rf) (m' : MS) (f' : F), j ≤ n ∧ i = .int .i64 (j : Int) ∧ Hid (RB W wr r r1 m' [(g9, 42, evc 0 0), (g8, 34, F.zero.cs), (g6, 34, f'.cs)] ∧ m'.U ∧ f'.U ∧ rn l (n - j) j m' f' = O)) (fun i _ => n - (intOf i).toNat)
  case atStart => exact ⟨0, r, m, f, Nat.zero_le _, rfl, hid ⟨HX.out, HU.out.1, HU.out.2, HRn.out⟩⟩
  case round =>
    obtain ⟨j, r1, m', f', hj, rfl, HQ⟩ := hrel
    clear HX HRn HU
    by_cases hlt : j < n
    · have q1 : (j : Int) < (n : Int) := by omega
      have HS1 := hid (HS.out _ r1 m' f' HQ.out.1.st HQ.out.2.1 HQ.out.2.2.1)
      have HU1 := hid (stp_U HQ.out.2.1 l HQ.out.2.2.1)
      obtain ⟨d, hd⟩ : ∃ d, n - j = d + 1 := ⟨n - j - 1, by omega⟩
      have HRn := hid HQ.out.2.2.2
      rw [hd] at HRn
      unfold rn at HRn
      have HE : Hid (n - (j + 1) = d) := hid (by omega)
      clear hd
      have HM := hid HQ.out.1
      clear HQ
      generalize stp m' l f' = o at *
      go_upto_region 7 with (first | (refine wpList_load_g rfl _ rfl g6 f' rfl (HM.out.get 2 rfl) ?_) | (go_at_call 9; refine HS1.out.mono ?_; rintro e w1 ⟨rfl, r2, hs1⟩; have B2 := hid (HM.out.call hs1).two; clear hs1; unfold Out.v) | (refine wpList_store_g rfl _ _ rfl w1.heap.size F.zero o.f rfl rfl (B2.out.get 1 rfl) ?_; intro w2 hc hb hs; have B3 := hid (B2.out.put 1 rfl hc hb); clear hc hb hs) | (refine wpList_store_st rfl 42 _ _ rfl (w1.heap.size + 1) (evc o.k o.a) rfl rfl (B3.out.get 0 rfl) size42 rfl rfl ?_; intro w3 hc hb hs; have B4 := hid (B3.out.put 0 rfl hc hb); clear hc hb hs))
      clear B2 B3 HM HS1
      simp only [List.set_cons_zero, List.set_cons_succ] at B4
      generalize w1.heap.size + 1 = g14 at *
      generalize w1.heap.size = g13 at *
      go_upto_region 8 with (first | (refine wpList_load_g rfl _ rfl g13 o.f rfl (B4.out.get 1 rfl) ?_) | (refine wpList_store_g rfl _ _ rfl g6 f' o.f rfl rfl (B4.out.get 4 rfl) ?_; intro w4 hc hb hs; have B5 := hid (B4.out.put 4 rfl hc hb); clear hc hb hs))
      clear B4
      simp only [List.set_cons_zero, List.set_cons_succ] at B5
      have ck : w4.cell? ⟨g14, 0, none⟩ = some (.int .i64 o.k) := (B5.out.get 0 rfl).cell 0
      by_cases hk : o.k = 0
      · rw [hk] at ck
        go_wp2_with fail
        go_roundw
        case measure => simp [intOf] <;> omega
        case rel => exact ⟨j + 1, r2, o.m, o.f, by omega, by simp, hid ⟨B5.out.tail.tail, HU1.out.m, HU1.out.f, by
          have h := HRn.out
          rw [if_pos hk] at h
          rw [HE.out]; exact h⟩⟩
      · have hk1 : (o.k != 0) = true := by simpa using hk
        have HK0 := hid hk
        clear hk
        go_upto_region 9 with fail
        have HD := hid (B5.out.on (Below.refl _ _).drew)
        clear ck
        refine wp_region_held_drew (S := fun x => Cel x g6 34 o.f.cs ∧ Cel x g14 42 (evc o.k o.a)) (by kernel_rfl) ⟨HD.out.get 4 rfl, HD.out.get 0 rfl⟩ (fun hHeld => ?_)
        refine wpAnyH_take (i := 0) (oi := { dst := some 39, op := Op.load 34 (Operand.tmp 6), type := 34, pos := "ref.go:154", after := #[], guard := none }) (v := .agg o.f.cs.toArray) rfl (by kernel_rfl) (by kernel_rfl) (by kernel_rfl) (fun _ _ _ h => h) (yieldsIf_load_mid (by rfl) _ _ rfl _ _ rfl _ _ (fun w hSw => hSw.1.range) under25 rfl (by rw [size25, F.len])) (by assumption) ?_
        simp only [Act.put, List.setIfInBounds_toArray, List.set_cons_zero, List.set_cons_succ]
        refine wpAnyH_take (i := 1) (oi := { dst := some 40, op := Op.load 42 (Operand.tmp 14), type := 42, pos := "ref.go:154", after := #[{ on := 4, ground := Ground.gcOnly Departure.lateStores }], guard := none }) (v := .agg (evc o.k o.a).toArray) rfl (by kernel_rfl) (by kernel_rfl) (by kernel_rfl) (fun _ _ _ h => h) (yieldsIf_load_mid (by rfl) _ _ rfl _ _ rfl _ _ (fun w hSw => hSw.2.range) under42 rfl size42) (by assumption) ?_
        simp only [Act.put, List.setIfInBounds_toArray, List.set_cons_zero, List.set_cons_succ]
        refine wpAnyH_take (i := 2) (oi := { dst := some 41, op := Op.move (Operand.tmp 12), type := 3, pos := "ref.go:154", after := #[{ on := 5, ground := Ground.gcOnly Departure.lateStores }], guard := none }) (v := .int .i64 (j : Int)) rfl (by kernel_rfl) (by kernel_rfl) (by kernel_rfl) (fun _ _ _ h => h) (Or.inl ⟨by rfl, by intro w hSw; go_simp⟩) (by assumption) ?_
        simp only [Act.put, List.setIfInBounds_toArray, List.set_cons_zero, List.set_cons_succ]
        refine wpAnyH_take (i := 3) (oi := { dst := some 42, op := Op.binOp BinOp.add 3 (Operand.tmp 41) (Operand.const (Value.int IntKind.i64 1)) 3, type := 3, pos := "ref.go:154", after := #[{ on := 2, ground := Ground.data }, { on := 5, ground := Ground.gcOnly Departure.lateStores }], guard := none }) (v := .int .i64 ((j : Int) + 1)) rfl (by kernel_rfl) (by kernel_rfl) (by kernel_rfl) (fun _ _ _ h => h) (Or.inl ⟨by rfl, by intro w hSw; go_simp; exact wrapI _ (by omega)⟩) (by assumption) ?_
        simp only [Act.put, List.setIfInBounds_toArray, List.set_cons_zero, List.set_cons_succ]
        refine wpAnyH_ready (rs := [4]) (by kernel_rfl) (by simp) (AllReadyH.cons (o := { dst := none, op := Op.store 34 (Operand.tmp 8) (Operand.tmp 39), type := 0, pos := "ref.go:154", after := #[{ on := 0, ground := Ground.data }, { on := 0, ground := Ground.phase }, { on := 1, ground := Ground.textOnly Departure.lateStores }, { on := 2, ground := Ground.textOnly Departure.lateStores }, { on := 3, ground := Ground.textOnly Departure.lateStores }], guard := none }) rfl (fun KQ hK => ?_) AllReadyH.nil)
        rw [if_pos (by rfl)]
        refine wp_store_st 34 _ _ rfl g8 o.f.cs rfl rfl (HD.out.get 3 rfl) (by rw [size25, F.len]) (by rw [F.len, F.len]) (F.all _) ?_
        intro w8 hc hb hs
        have C1 := hid (HD.out.put 3 rfl hc hb)
        clear hc hb hs
        refine hK.out _ _ ⟨C1.out.get 4 rfl, C1.out.get 0 rfl⟩ (fun hHeld => ?_)
        clear hK KQ
        try simp only [Act.put]
        refine wpAnyH_ready (rs := [5]) (by kernel_rfl) (by simp) (AllReadyH.cons (o := { dst := none, op := Op.store 42 (Operand.tmp 9) (Operand.tmp 40), type := 0, pos := "ref.go:154", after := #[{ on := 1, ground := Ground.data }, { on := 4, ground := Ground.chain }, { on := 0, ground := Ground.phase }, { on := 1, ground := Ground.phase }, { on := 2, ground := Ground.textOnly Departure.lateStores }, { on := 3, ground := Ground.textOnly Departure.lateStores }, { on := 4, ground := Ground.phase }], guard := none }) rfl (fun KQ hK => ?_) AllReadyH.nil)
        rw [if_pos (by rfl)]
        refine wp_store_st 42 _ _ rfl g9 (evc o.k o.a) rfl rfl (C1.out.get 2 rfl) size42 rfl rfl ?_
        intro w9 hc hb hs
        have C2 := hid (C1.out.put 2 rfl hc hb)
        clear hc hb hs
        refine hK.out _ _ ⟨C2.out.get 4 rfl, C2.out.get 0 rfl⟩ (fun hHeld => ?_)
        clear hK KQ
        try simp only [Act.put]
        refine wpAnyH_ready (rs := [6]) (by kernel_rfl) (by simp) (AllReadyH.cons (o := { dst := some 10, op := Op.assign (Operand.tmp 42), type := 3, pos := "ref.go:154", after := #[{ on := 3, ground := Ground.data }, { on := 5, ground := Ground.chain }, { on := 0, ground := Ground.phase }, { on := 1, ground := Ground.phase }, { on := 2, ground := Ground.phase }, { on := 3, ground := Ground.phase }, { on := 4, ground := Ground.phase }, { on := 5, ground := Ground.phase }], guard := none }) rfl (fun KQ hK => ?_) AllReadyH.nil)
        go_simp
        refine hK.out _ _ ⟨C2.out.get 4 rfl, C2.out.get 0 rfl⟩ (fun hHeld => ?_)
        clear hK KQ
        try simp only [Act.put, List.setIfInBounds_toArray, List.set_cons_zero, List.set_cons_succ]
        refine wpAnyH_ready (rs := [7]) (by kernel_rfl) (by simp) (AllReadyH.cons (o := { dst := some 11, op := Op.assign (Operand.const (Value.int IntKind.i64 0)), type := 3, pos := "ref.go:154", after := #[{ on := 6, ground := Ground.chain }, { on := 0, ground := Ground.phase }, { on := 1, ground := Ground.phase }, { on := 2, ground := Ground.phase }, { on := 3, ground := Ground.phase }, { on := 4, ground := Ground.phase }, { on := 5, ground := Ground.phase }, { on := 6, ground := Ground.phase }], guard := none }) rfl (fun KQ hK => ?_) AllReadyH.nil)
        go_simp
        refine hK.out _ _ ⟨C2.out.get 4 rfl, C2.out.get 0 rfl⟩ (fun hHeld => ?_)
        clear hK KQ
        try simp only [Act.put, List.setIfInBounds_toArray, List.set_cons_zero, List.set_cons_succ]
        refine wpAnyH_done (by kernel_rfl) ?_ _

        go_wp2_with fail
        refine ret_four rfl rfl g8 g9 _ _ rfl rfl (C2.out.get 3 rfl) (C2.out.get 2 rfl) under25 under42 rfl rfl (by rw [size25, F.len]) size42 ?_
        have h := HRn.out
        rw [if_neg HK0.out] at h
        rw [← h]
        exact ⟨rfl, r2, C2.out.st⟩
    · have hjn : j = n := by omega
      subst hjn
      have HRn := hid HQ.out.2.2.2
      rw [Nat.sub_self] at HRn
      unfold rn at HRn
      go_upto_region 10 with fail
      go_wp2_with (first | (refine wpList_load_g rfl _ rfl g6 f' rfl (HQ.out.1.get 2 rfl) ?_) | (refine wpList_store_g rfl _ _ rfl g8 F.zero f' rfl rfl (HQ.out.1.get 1 rfl) ?_; intro w8 hc hb hs; have H8 := hid (HQ.out.1.put 1 rfl hc hb); clear hc hb hs) | (refine wpList_store_st rfl 42 _ _ rfl g9 (evc 5 0) rfl rfl (H8.out.get 0 rfl) size42 rfl rfl ?_; intro w9 hc hb hs; have H9 := hid (H8.out.put 0 rfl hc hb); clear hc hb hs))
      refine ret_four rfl rfl g8 g9 _ _ rfl rfl (H9.out.get 1 rfl) (H9.out.get 0 rfl) under25 under42 rfl rfl (by rw [size25, F.len]) size42 ?_
      rw [← HRn.out]
      exact ⟨rfl, r1, H9.out.st⟩
end Go.Proofs.YteldpapacdbbiaaGreatDoor
