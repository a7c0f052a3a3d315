import Derived.Test.YtgbpbfnpeeciaaaP30
import Derived.Test.YtgbpbfnpeeciaaaP01
namespace Go.Proofs.Ytgbpbfnpeeciaaa
open Go.RowKit
set_option maxRecDepth 100000
set_option maxHeartbeats 4000000
def DS.tab (d : DS) (s : Int) : Int := if d.folE s = 0 then d.fst s else 0
theorem table_any (W : World) (p : Dp) (d : DS) (h : DB W p d) (hU : d.m.U) (s : Int) :
    Calls Try.prog 19 #[ptr p.g, .int .i64 s] W fun x W' => x = .returned (.tuple #[.int .i64 (d.tab s), .int .i64 (d.folE s)]) ∧ DB W' p (d.folD s) ∧ ButL p.f.w W W' := by
  have HFo := hid (fun w (hw : DB w p d) => follow_any w p d hw hU s)
  have D0 := hid (DG.startw h)
  unfold DS.folV at HFo
  unfold DS.tab
  clear h hU
  generalize d.folE s = E at *
  generalize d.folD s = d1 at *
  generalize d.fst s = F at *
  simp only [ptr, tbV, zV3] at *
  by_cases hE : E = 0
  · subst hE
    simp only [if_true] at HFo ⊢
    go_enter Try.func19, Try.ntmps19
    go_upto_region 2 with (first | (go_at_call 35; refine (HFo.out _ D0.out.db).mono ?_; rintro x w2 ⟨rfl, hd, hb⟩; have D1 := hid ((D0.out.step hd hb (fun _ hk => hk)).new 90 [.pointer (some ⟨p.g, 0, none⟩), .int .i64 s, .int .i64 F]); clear hb hd))
    generalize w2.alloc _ = w3 at *
    generalize w2.heap.size = g6 at *
    have c2 := (D1.out.get 0 rfl).cell 2
    simp only [List.getElem?_cons_zero, List.getElem?_cons_succ] at c2
    go_wp2_with fail
    go_returns
    exact ⟨rfl, D1.out.db, D1.out.but⟩
  · simp only [hE, if_false] at HFo ⊢
    go_enter Try.func19, Try.ntmps19
    go_upto_region 2 with (first | (go_at_call 35; refine (HFo.out _ D0.out.db).mono ?_; rintro x w2 ⟨rfl, hd, hb⟩; have D1 := hid ((D0.out.step hd hb (fun _ hk => hk)).new 90 [.pointer none, .int .i64 0, .int .i64 0]); clear hb hd))
    generalize w2.alloc _ = w3 at *
    generalize w2.heap.size = g6 at *
    have c2 := (D1.out.get 0 rfl).cell 2
    simp only [List.getElem?_cons_zero, List.getElem?_cons_succ] at c2
    go_wp2_with fail
    go_returns
    exact ⟨rfl, D1.out.db, D1.out.but⟩
def DS.addE (d : DS) (s i q : Int) : Int := if d.folE s = 0 then (if 0 ≤ i ∧ i < 256 then (if d.entE q = 0 then (if d.own s q 4 = true then filE (d.m.word true (d.fst s) i) (fE q) else 124) else d.entE q) else 4) else d.folE s
def DS.add (d : DS) (s i q : Int) : DS := if d.folE s = 0 ∧ (0 ≤ i ∧ i < 256) ∧ d.entE q = 0 ∧ d.own s q 4 = true then (d.folD s).tn (d.fst s) i (filW (d.m.word true (d.fst s) i) (fW q)) (filE (d.m.word true (d.fst s) i) (fE q)) else d.folD s
theorem addTable_any (W : World) (p : Dp) (d : DS) (h : DB W p d) (hU : d.m.U) (s i q : Int) :
    Calls Try.prog 33 #[ptr p.g, .int .i64 s, .int .i64 i, .int .i64 q] W fun x W' => x = .returned (.int .i64 (d.addE s i q)) ∧ DB W' p (d.add s i q) ∧ ButL p.f.w W W' := by
  have HFo := hid (fun w (hw : DB w p d) => follow_any w p d hw hU s)
  have HE := hid (fun w (hw : DB w p (d.folD s)) => entry_any w p (d.folD s) hw q)
  have HO := hid (fun w (hw : DB w p (d.folD s)) => owns_any w p (d.folD s) hw s (d.fst s) q 4)
  have HP := hid (fun w (hw : DB w p (d.folD s)) => placep_any w p (d.folD s) hw s (d.fst s) (d.fst s) i)
  have HF := hid (fun w => filled75_any w q)
  have HT := hid (fun w (hw : DB w p (d.folD s)) b1 b2 h1 h2 => turn99_any w p (d.folD s) hw (d.fst s) i q b1 b2 h1 h2)
  rw [(d.folD_m s).1] at HT
  rw [(d.folD_m s).2.2.1, (d.folD_m s).2.2.2.1] at HE
  rw [show (d.folD s).own s q 4 = d.own s q 4 by unfold DS.own; rw [(d.folD_m s).2.2.1]] at HO
  have D0 := hid (DG.startw h)
  unfold DS.folV at HFo
  unfold DS.addE DS.add
  clear h hU
  generalize d.folE s = E at *
  generalize d.folD s = d1 at *
  generalize d.fst s = F at *
  generalize d.m.word true F i = V at *
  generalize filE V (fE q) = X at *
  generalize filW V (fW q) = Y at *
  generalize d.own s q 4 = O at *
  generalize d.entE q = DE at *
  generalize d.ent q = D at *
  simp only [ptr, tbV, zV3, plV, rdF, wrF, fnV, En.v] at *
  by_cases h1 : E = 0
  · subst h1
    simp only [if_true, true_and] at HFo ⊢
    by_cases h2 : 0 ≤ i ∧ i < 256
    · obtain ⟨h2a, h2b⟩ := h2
      simp only [h2a, h2b, and_self, if_true, true_and]
      by_cases h3 : DE = 0
      · subst h3
        simp only [if_true, true_and]
        cases O with
        | true =>
          simp only [if_true]
          go_enter Try.func33, Try.ntmps33
          go_upto_region 2 with (first | (go_at_call 35; refine (HFo.out _ D0.out.db).mono ?_; rintro x w2 ⟨rfl, hd, hb⟩; have D1 := hid ((D0.out.step hd hb (fun _ hk => hk)).new 90 [.pointer (some ⟨p.g, 0, none⟩), .int .i64 s, .int .i64 F]); clear hb hd))
          clear D0 HFo
          generalize w2.alloc _ = w3 at *
          generalize w2.heap.size = g9 at *
          go_upto_region 9 with (first | (go_at_call 69; refine (HE.out _ D1.out.db).mono ?_; rintro x w4 ⟨rfl, hb⟩; have D2 := hid (D1.out.on hb); clear hb) | (refine wpList_store_st rfl 136 _ _ rfl w4.heap.size D.cs rfl rfl (Cel.new w4 136 En.zero.cs) sizeE rfl rfl ?_; intro w5 hc hb hs; have D3 := hid (D2.out.add hc hb); clear hc hb hs))
          have D4 := hid D3.out.tail
          clear D1 D2 D3
          have c2 := (D4.out.get 0 rfl).cell 2
          simp only [List.getElem?_cons_zero, List.getElem?_cons_succ] at c2
          go_upto_region 11 with (first | (go_at_call 73; refine (HO.out _ D4.out.db).mono ?_; rintro x w6 ⟨rfl, hb⟩; have D5 := hid (D4.out.on hb); clear hb) | (refine wpList_load_g rfl 90 _ rfl g9 rfl (D4.out.get 0 rfl) rfl under90 size90 ?_))
          clear D4 c2
          have c2 := (D5.out.get 0 rfl).cell 2
          simp only [List.getElem?_cons_zero, List.getElem?_cons_succ] at c2
          go_upto_region 12 with (first | (go_at_call 74; refine (HP.out _ D5.out.db).mono ?_; rintro x w7 ⟨rfl, hb⟩; have D1 := hid ((D5.out.on hb).new 97 [.pointer (some ⟨p.f.gm, 0, none⟩), .int .i64 F, .int .i64 i]); clear hb) | (refine wpList_load_g rfl 90 _ rfl g9 rfl (D5.out.get 0 rfl) rfl under90 size90 ?_))
          clear D5 c2
          generalize w7.alloc _ = w8 at *
          generalize w7.heap.size = g13 at *
          refine wp_region_held_drew (S := fun w => Cel w g13 97 [.pointer (some ⟨p.f.gm, 0, none⟩), .int .i64 F, .int .i64 i]) (by kernel_rfl) (D1.out.get 0 rfl) (fun hHeld => ?_)
          have D1b := hid (D1.out.on (Below.refl _ _).drew)
          clear D1
          have D1 := D1b
          clear D1b
          generalize World.drew _ = w14 at *
          refine tk 0 ⟨some 47, .load 97 (.tmp 13), 97, "space.go:33", #[], none⟩ (.agg #[.pointer (some ⟨p.f.gm, 0, none⟩), .int .i64 F, .int .i64 i]) ?_ (hy := yieldsIf_load_mid (by rfl) _ _ rfl _ _ rfl _ _ (fun w hSw => hSw.range) under97 rfl (by rw [size97]; rfl))
          simp only [Act.put, List.setIfInBounds_toArray, List.set_cons_zero, List.set_cons_succ]
          refine tk 1 ⟨some 48, .makeFunc (Fn.func 38) #[.tmp 47] #[], 99, "space.go:33", #[⟨0, .data⟩], none⟩ (.func (.func 38) #[.agg #[.pointer (some ⟨p.f.gm, 0, none⟩), .int .i64 F, .int .i64 i]] #[]) ?_
          simp only [Act.put, List.setIfInBounds_toArray, List.set_cons_zero, List.set_cons_succ]
          refine tk 2 ⟨some 49, .load 97 (.tmp 13), 97, "space.go:33", #[], none⟩ (.agg #[.pointer (some ⟨p.f.gm, 0, none⟩), .int .i64 F, .int .i64 i]) ?_ (hy := yieldsIf_load_mid (by rfl) _ _ rfl _ _ rfl _ _ (fun w hSw => hSw.range) under97 rfl (by rw [size97]; rfl))
          simp only [Act.put, List.setIfInBounds_toArray, List.set_cons_zero, List.set_cons_succ]
          refine tk 3 ⟨some 50, .makeFunc (Fn.func 43) #[.tmp 49] #[], 105, "space.go:33", #[⟨2, .data⟩], none⟩ (.func (.func 43) #[.agg #[.pointer (some ⟨p.f.gm, 0, none⟩), .int .i64 F, .int .i64 i]] #[]) ?_
          simp only [Act.put, List.setIfInBounds_toArray, List.set_cons_zero, List.set_cons_succ]
          refine tk 4 ⟨some 51, .move (.tmp 3), 3, "space.go:33", #[], none⟩ (.int .i64 q) ?_
          simp only [Act.put, List.setIfInBounds_toArray, List.set_cons_zero, List.set_cons_succ]
          refine wpAnyH_ready (rs := [5]) (by kernel_rfl) (by simp) (AllReadyH.cons (o := ⟨some 52, .call { callee := .value (.func 75), args := #[.func 76, .tmp 51], argTypes := #[146, 3] }, 106, "space.go:33", #[⟨4, .data⟩], none⟩) rfl (fun KQ hK => ?_) AllReadyH.nil)
          go_simp
          refine (HF.out _).mono ?_
          rintro e w16 ⟨b1, b2, rfl, hB, hb1, hb2⟩
          have D2 := hid (D1.out.on hB.below)
          have HB := hid (And.intro (hB.get 1 rfl) (hB.get 0 rfl))
          clear hB hb1 hb2 D1 HF
          go_wp2_with fail
          refine hK.out _ _ (D2.out.get 0 rfl) (fun hHeld => ?_)
          clear hK KQ
          try simp only [Act.put, List.setIfInBounds_toArray, List.set_cons_zero, List.set_cons_succ]
          refine wpAnyH_ready (rs := [6]) (by kernel_rfl) (by simp) (AllReadyH.cons (o := ⟨some 53, .call { callee := .value (.func 42), args := #[.tmp 48, .tmp 50, .tmp 52], argTypes := #[99, 105, 106] }, 27, "space.go:33", #[⟨1, .data⟩, ⟨3, .data⟩, ⟨5, .data⟩, ⟨5, .chain⟩], none⟩) rfl (fun KQ hK => ?_) AllReadyH.nil)
          go_simp
          refine (HT.out _ D2.out.db b1 b2 HB.out.1 HB.out.2).mono ?_
          rintro e w17 ⟨rfl, hd, hb⟩
          have D3 := hid (D2.out.step hd hb (fun _ hk => hk))
          clear hb hd D2 HT HB
          go_wp2_with fail
          refine hK.out _ _ (D3.out.get 0 rfl) (fun hHeld => ?_)
          clear hK KQ
          try simp only [Act.put, List.setIfInBounds_toArray, List.set_cons_zero, List.set_cons_succ]
          refine wpAnyH_ready (rs := [7]) (by kernel_rfl) (by simp) (AllReadyH.cons (o := ⟨some 8, .assign (.tmp 53), 27, "space.go:33", #[⟨6, .data⟩, ⟨6, .chain⟩, ⟨0, .phase⟩, ⟨1, .phase⟩, ⟨2, .phase⟩, ⟨3, .phase⟩, ⟨4, .phase⟩, ⟨5, .phase⟩, ⟨6, .phase⟩], none⟩) rfl (fun KQ hK => ?_) AllReadyH.nil)
          go_simp
          refine hK.out _ _ (D3.out.get 0 rfl) (fun hHeld => ?_)
          clear hK KQ
          try simp only [Act.put, List.setIfInBounds_toArray, List.set_cons_zero, List.set_cons_succ]
          refine wpAnyH_done (by kernel_rfl) ?_ _
          go_wp2_with fail
          go_returns
          exact ⟨rfl, D3.out.db, D3.out.but⟩
        | false =>
          simp only [Bool.false_eq_true, if_false]
          go_enter Try.func33, Try.ntmps33
          go_upto_region 2 with (first | (go_at_call 35; refine (HFo.out _ D0.out.db).mono ?_; rintro x w2 ⟨rfl, hd, hb⟩; have D1 := hid ((D0.out.step hd hb (fun _ hk => hk)).new 90 [.pointer (some ⟨p.g, 0, none⟩), .int .i64 s, .int .i64 F]); clear hb hd))
          clear D0 HFo
          generalize w2.alloc _ = w3 at *
          generalize w2.heap.size = g9 at *
          go_upto_region 9 with (first | (go_at_call 69; refine (HE.out _ D1.out.db).mono ?_; rintro x w4 ⟨rfl, hb⟩; have D2 := hid (D1.out.on hb); clear hb) | (refine wpList_store_st rfl 136 _ _ rfl w4.heap.size D.cs rfl rfl (Cel.new w4 136 En.zero.cs) sizeE rfl rfl ?_; intro w5 hc hb hs; have D3 := hid (D2.out.add hc hb); clear hc hb hs))
          have D4 := hid D3.out.tail
          clear D1 D2 D3
          have c2 := (D4.out.get 0 rfl).cell 2
          simp only [List.getElem?_cons_zero, List.getElem?_cons_succ] at c2
          go_wp2_with (first | (go_at_call 73; refine (HO.out _ D4.out.db).mono ?_; rintro x w6 ⟨rfl, hb⟩; have D5 := hid (D4.out.on hb); clear hb) | (refine wpList_load_g rfl 90 _ rfl g9 rfl (D4.out.get 0 rfl) rfl under90 size90 ?_))
          go_returns
          exact ⟨rfl, D5.out.db, D5.out.but⟩
      · simp only [h3, if_false, false_and]
        go_enter Try.func33, Try.ntmps33
        go_upto_region 2 with (first | (go_at_call 35; refine (HFo.out _ D0.out.db).mono ?_; rintro x w2 ⟨rfl, hd, hb⟩; have D1 := hid ((D0.out.step hd hb (fun _ hk => hk)).new 90 [.pointer (some ⟨p.g, 0, none⟩), .int .i64 s, .int .i64 F]); clear hb hd))
        clear D0 HFo
        generalize w2.alloc _ = w3 at *
        generalize w2.heap.size = g9 at *
        go_wp2_with (first | (go_at_call 69; refine (HE.out _ D1.out.db).mono ?_; rintro x w4 ⟨rfl, hb⟩; have D2 := hid (D1.out.on hb); clear hb) | (refine wpList_store_st rfl 136 _ _ rfl w4.heap.size D.cs rfl rfl (Cel.new w4 136 En.zero.cs) sizeE rfl rfl ?_; intro w5 hc hb hs; have D3 := hid (D2.out.add hc hb); clear hc hb hs))
        go_returns
        exact ⟨rfl, D3.out.db, D3.out.but⟩
    · rw [if_neg h2, if_neg (fun h => h2 h.1)]
      have h2' : i < 0 ∨ (0 ≤ i ∧ 256 ≤ i) := by omega
      clear h2
      rcases h2' with h2 | ⟨h2, h3⟩
      · go_enter Try.func33, Try.ntmps33
        go_upto_region 2 with (first | (go_at_call 35; refine (HFo.out _ D0.out.db).mono ?_; rintro x w2 ⟨rfl, hd, hb⟩; have D1 := hid ((D0.out.step hd hb (fun _ hk => hk)).new 90 [.pointer (some ⟨p.g, 0, none⟩), .int .i64 s, .int .i64 F]); clear hb hd))
        clear D0 HFo
        generalize w2.alloc _ = w3 at *
        generalize w2.heap.size = g9 at *
        go_wp2_with fail
        go_returns
        exact ⟨rfl, D1.out.db, D1.out.but⟩
      · go_enter Try.func33, Try.ntmps33
        go_upto_region 2 with (first | (go_at_call 35; refine (HFo.out _ D0.out.db).mono ?_; rintro x w2 ⟨rfl, hd, hb⟩; have D1 := hid ((D0.out.step hd hb (fun _ hk => hk)).new 90 [.pointer (some ⟨p.g, 0, none⟩), .int .i64 s, .int .i64 F]); clear hb hd))
        clear D0 HFo
        generalize w2.alloc _ = w3 at *
        generalize w2.heap.size = g9 at *
        go_wp2_with fail
        go_returns
        exact ⟨rfl, D1.out.db, D1.out.but⟩
  · simp only [h1, if_false, false_and] at HFo ⊢
    go_enter Try.func33, Try.ntmps33
    go_upto_region 2 with (first | (go_at_call 35; refine (HFo.out _ D0.out.db).mono ?_; rintro x w2 ⟨rfl, hd, hb⟩; have D1 := hid ((D0.out.step hd hb (fun _ hk => hk)).new 90 [.pointer none, .int .i64 0, .int .i64 0]); clear hb hd))
    clear D0 HFo
    generalize w2.alloc _ = w3 at *
    generalize w2.heap.size = g9 at *
    go_wp2_with fail
    go_returns
    exact ⟨rfl, D1.out.db, D1.out.but⟩
end Go.Proofs.Ytgbpbfnpeeciaaa
