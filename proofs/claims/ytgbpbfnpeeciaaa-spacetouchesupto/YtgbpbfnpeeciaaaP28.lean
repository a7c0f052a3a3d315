import Derived.Test.YtgbpbfnpeeciaaaP27
import Derived.Test.YtgbpbfnpeeciaaaP01
namespace Go.Proofs.Ytgbpbfnpeeciaaa
open Go.RowKit
set_option maxRecDepth 100000
set_option maxHeartbeats 4000000
def DS.w1 (d : DS) (s va : Int) : Int := d.m.word true (d.fst s) (spI va)
def DS.fndE (d : DS) (s va : Int) : Int := if d.folE s ≠ 0 then d.folE s else if spE va ≠ 0 then spE va else if d.isS s (d.w1 s va) = true then 0 else 141
def DS.fndD (d : DS) (s va : Int) : DS := if d.folE s ≠ 0 then d.folD s else if spE va ≠ 0 then d.folD s else (d.folD s).rd (d.fst s) (spI va)
def DS.fndV (d : DS) (p : Dp) (s va : Int) : Value := if d.fndE s va = 0 then plV p.f (pf (d.w1 s va)) (spJ va) else zV3
theorem DS.folD_m (d : DS) (s : Int) : (∀ a b c, (d.folD s).m.word a b c = d.m.word a b c) ∧ (∀ a b, (d.folD s).m.at a b = d.m.at a b) ∧ (∀ a, (d.folD s).ent a = d.ent a) ∧ (∀ a, (d.folD s).entE a = d.entE a) ∧ (d.m.U → (d.folD s).m.U) := by
  unfold DS.folD
  split
  · exact ⟨fun a b c => MS.read_word .., fun a b => MS.read_at .., fun a => (d.rd_ent _ _ a).1, fun a => (d.rd_ent _ _ a).2, fun h => MS.U.read h _ _ _⟩
  · exact ⟨fun _ _ _ => rfl, fun _ _ => rfl, fun _ => rfl, fun _ => rfl, fun h => h⟩
theorem DS.folD_isS (d : DS) (s a w : Int) : (d.folD s).isS a w = d.isS a w := by
  unfold DS.isS DS.own
  rw [(d.folD_m s).2.2.1]
theorem find2_any (W : World) (p : Dp) (d : DS) (h : DB W p d) (hU : d.m.U) (s va : Int) (v0 : 0 ≤ va) (v1 : va < 4294967296) :
    Calls Try.prog 40 #[ptr p.g, .int .i64 s, .int .u32 va] W fun x W' => x = .returned (.tuple #[d.fndV p s va, .int .i64 (d.fndE s va)]) ∧ DB W' p (d.fndD s va) ∧ ButL p.f.w W W' := by
  have HFo := hid (fun w (hw : DB w p d) => follow_any w p d hw hU s)
  have D0 := hid ((DG.startw h).new 97 [.pointer none, .int .i64 0, .int .i64 0])
  have HSp := hid (fun w => split_any w va v0 v1)
  have HS2 := hid (fun w (hw : DB w p (d.folD s)) => second2_any w p (d.folD s) hw ((d.folD_m s).2.2.2.2 hU) s (d.fst s) (d.fst s) (spI va))
  have HP := hid (fun w (hw : DB w p (d.folD s)) (a b : Int) => placep_any w p (d.folD s) hw s (d.fst s) a b)
  have HP2 := hid (fun w (hw : DB w p ((d.folD s).rd (d.fst s) (spI va))) (a b : Int) => placep_any w p _ hw s (d.fst s) a b)
  rw [(d.folD_m s).1, DS.folD_isS] at HS2
  unfold DS.fndV
  rw [show d.fndE s va = if d.folE s ≠ 0 then d.folE s else if spE va ≠ 0 then spE va else if d.isS s (d.w1 s va) = true then 0 else 141 from rfl, show d.fndD s va = if d.folE s ≠ 0 then d.folD s else if spE va ≠ 0 then d.folD s else (d.folD s).rd (d.fst s) (spI va) from rfl]
  unfold DS.w1 at *
  unfold DS.folV at HFo
  clear h hU
  generalize d.folE s = E at *
  generalize d.folD s = d1 at *
  generalize d.fst s = F at *
  generalize spE va = SE at *
  generalize spI va = I at *
  generalize spJ va = J at *
  generalize spO va = Oo at *
  generalize d.m.word true F I = V at *
  generalize d.isS s V = T at *
  generalize pf V = q at *
  clear v0 v1
  simp only [ptr, tbV, plV, zV3, rdF] at *
  by_cases h1 : E = 0
  · subst h1
    by_cases h2 : SE = 0
    · subst h2
      simp only [ne_eq, not_true_eq_false, if_false, if_true] at HFo ⊢
      go_enter Try.func40, Try.ntmps40
      go_upto_region 1 with fail
      generalize W.alloc _ = X at *
      generalize hg : W.heap.size = g6 at D0 ⊢
      clear hg
      go_upto_region 2 with (first | (go_at_call 35; refine (HFo.out _ D0.out.db).mono ?_; rintro x w2 ⟨rfl, hd, hb⟩; have D1 := hid ((D0.out.step hd hb (fun _ hk => hk)).new 90 [.pointer (some ⟨p.g, 0, none⟩), .int .i64 s, .int .i64 F]); have HN : Hid (w2.heap.size ≠ g6) := hid (fun e => by have := ((D0.out.step hd hb (fun _ hk => hk)).get 0 rfl).lt; omega); clear hb hd))
      clear D0 HFo
      generalize w2.alloc _ = w3 at *
      generalize w2.heap.size = g8 at *
      go_upto_region 7 with (first | (go_at_call 49; refine (HSp.out _).mono ?_; rintro x w5 ⟨rfl, rfl⟩))
      refine wp_region_held_drew (S := fun w => Cel w g8 90 [.pointer (some ⟨p.g, 0, none⟩), .int .i64 s, .int .i64 F]) (by kernel_rfl) (D1.out.get 0 rfl) (fun hHeld => ?_)
      have D1b := hid (D1.out.on (Below.refl _ _).drew)
      clear D1
      have D1 := D1b
      clear D1b
      generalize World.drew _ = w4 at *
      refine tk 0 ⟨some 37, .load 90 (.tmp 8), 90, "table.go:102", #[], none⟩ (.agg #[.pointer (some ⟨p.g, 0, none⟩), .int .i64 s, .int .i64 F]) ?_ (hy := yieldsIf_load_mid (by rfl) _ _ rfl _ _ rfl _ _ (fun w hSw => hSw.range) under90 rfl (by rw [size90]; rfl))
      simp only [Act.put, List.setIfInBounds_toArray, List.set_cons_zero, List.set_cons_succ]
      refine tk 1 ⟨some 38, .load 90 (.tmp 8), 90, "table.go:102", #[], none⟩ (.agg #[.pointer (some ⟨p.g, 0, none⟩), .int .i64 s, .int .i64 F]) ?_ (hy := yieldsIf_load_mid (by rfl) _ _ rfl _ _ rfl _ _ (fun w hSw => hSw.range) under90 rfl (by rw [size90]; rfl))
      simp only [Act.put, List.setIfInBounds_toArray, List.set_cons_zero, List.set_cons_succ]
      refine tk 2 ⟨some 39, .fieldAddr 90 (.tmp 8) 2, 0, "table.go:102", #[], none⟩ (.pointer (some ⟨g8, 2, none⟩)) ?_
      simp only [Act.put, List.setIfInBounds_toArray, List.set_cons_zero, List.set_cons_succ]
      refine tk 3 ⟨some 40, .load 3 (.tmp 39), 3, "table.go:102", #[⟨2, .data⟩], none⟩ (.int .i64 F) ?_ (hy := Or.inl ⟨by rfl, by intro w hSw; have hc := hSw.cell 2; simp only [List.getElem?_cons_zero, List.getElem?_cons_succ] at hc; go_simp⟩)
      simp only [Act.put, List.setIfInBounds_toArray, List.set_cons_zero, List.set_cons_succ]
      refine tk 4 ⟨some 41, .move (.tmp 10), 3, "table.go:102", #[], none⟩ (.int .i64 I) ?_
      simp only [Act.put, List.setIfInBounds_toArray, List.set_cons_zero, List.set_cons_succ]
      refine wpAnyH_ready (rs := [5]) (by kernel_rfl) (by simp) (AllReadyH.cons (o := ⟨some 42, .call { callee := .value (.func 74), args := #[.tmp 38, .tmp 40, .tmp 41], argTypes := #[90, 3, 3] }, 97, "table.go:102", #[⟨1, .data⟩, ⟨3, .data⟩, ⟨4, .data⟩], none⟩) rfl (fun KQ hK => ?_) AllReadyH.nil)
      go_simp
      refine (HP.out _ D1.out.db F I).mono ?_
      rintro e w6 ⟨rfl, hb⟩
      have D2 := hid (D1.out.on hb)
      clear hb D1 HP
      go_wp2_with fail
      refine hK.out _ _ (D2.out.get 0 rfl) (fun hHeld => ?_)
      clear hK KQ
      try simp only [Act.put, List.setIfInBounds_toArray, List.set_cons_zero, List.set_cons_succ]
      refine tk 6 ⟨some 43, .makeFunc (Fn.func 38) #[.tmp 42] #[], 99, "table.go:102", #[⟨5, .data⟩], none⟩ (.func (.func 38) #[.agg #[.pointer (some ⟨p.f.gm, 0, none⟩), .int .i64 F, .int .i64 I]] #[]) ?_
      simp only [Act.put, List.setIfInBounds_toArray, List.set_cons_zero, List.set_cons_succ]
      refine wpAnyH_ready (rs := [7]) (by kernel_rfl) (by simp) (AllReadyH.cons (o := ⟨some 44, .call { callee := .value (.func 37), args := #[.tmp 37, .tmp 43], argTypes := #[90, 99] }, 56, "table.go:102", #[⟨0, .data⟩, ⟨6, .data⟩, ⟨5, .chain⟩], none⟩) rfl (fun KQ hK => ?_) AllReadyH.nil)
      go_simp
      refine (HS2.out _ D2.out.db).mono ?_
      rintro e w7 ⟨rfl, hd, hb⟩
      have D3 := hid (D2.out.step hd hb (fun _ hk => hk))
      clear hb hd D2 HS2
      go_wp2_with fail
      refine hK.out _ _ (D3.out.get 0 rfl) (fun hHeld => ?_)
      clear hK KQ
      try simp only [Act.put, List.setIfInBounds_toArray, List.set_cons_zero, List.set_cons_succ]
      refine tk 8 ⟨some 36, .move (.tmp 44), 56, "table.go:102", #[⟨7, .data⟩], none⟩ (.tuple #[.int .i64 q, .bool T]) ?_
      simp only [Act.put, List.setIfInBounds_toArray, List.set_cons_zero, List.set_cons_succ]
      refine tk 9 ⟨some 45, .extract (.tmp 36) 0, 3, "table.go:102", #[⟨8, .data⟩], none⟩ (.int .i64 q) ?_
      simp only [Act.put, List.setIfInBounds_toArray, List.set_cons_zero, List.set_cons_succ]
      refine tk 10 ⟨some 46, .extract (.tmp 36) 1, 4, "table.go:102", #[⟨8, .data⟩, { on := 11, ground := .gcOnly Departure.lateStores }], none⟩ (.bool T) ?_
      simp only [Act.put, List.setIfInBounds_toArray, List.set_cons_zero, List.set_cons_succ]
      refine wpAnyH_ready (rs := [11]) (by kernel_rfl) (by simp) (AllReadyH.cons (o := ⟨some 13, .assign (.tmp 45), 3, "table.go:102", #[⟨9, .data⟩, ⟨7, .chain⟩, ⟨0, .phase⟩, ⟨1, .phase⟩, ⟨2, .phase⟩, ⟨3, .phase⟩, ⟨4, .phase⟩, ⟨5, .phase⟩, ⟨6, .phase⟩, ⟨7, .phase⟩, ⟨8, .phase⟩, ⟨9, .phase⟩, { on := 10, ground := .textOnly Departure.lateStores }], none⟩) rfl (fun KQ hK => ?_) AllReadyH.nil)
      go_simp
      refine hK.out _ _ (D3.out.get 0 rfl) (fun hHeld => ?_)
      clear hK KQ
      try simp only [Act.put, List.setIfInBounds_toArray, List.set_cons_zero, List.set_cons_succ]
      refine wpAnyH_ready (rs := [12]) (by kernel_rfl) (by simp) (AllReadyH.cons (o := ⟨some 14, .assign (.tmp 46), 4, "table.go:102", #[⟨10, .data⟩, ⟨11, .chain⟩, ⟨0, .phase⟩, ⟨1, .phase⟩, ⟨2, .phase⟩, ⟨3, .phase⟩, ⟨4, .phase⟩, ⟨5, .phase⟩, ⟨6, .phase⟩, ⟨7, .phase⟩, ⟨8, .phase⟩, ⟨9, .phase⟩, ⟨10, .phase⟩, ⟨11, .phase⟩], none⟩) rfl (fun KQ hK => ?_) AllReadyH.nil)
      go_simp
      refine hK.out _ _ (D3.out.get 0 rfl) (fun hHeld => ?_)
      clear hK KQ
      try simp only [Act.put, List.setIfInBounds_toArray, List.set_cons_zero, List.set_cons_succ]
      refine wpAnyH_done (by kernel_rfl) ?_ _
      cases T with
      | true =>
        go_wp2_with (first | (go_at_call 74; refine (HP2.out _ D3.out.db _ _).mono ?_; rintro x w9 ⟨rfl, hb⟩; have D4 := hid (D3.out.on hb); clear hb) | (refine wpList_load_g rfl 90 _ rfl g8 rfl (D3.out.get 0 rfl) rfl under90 size90 ?_) | (refine wpList_store_st rfl 97 _ _ rfl g6 [.pointer (some ⟨p.f.gm, 0, none⟩), .int .i64 q, .int .i64 J] rfl rfl (D4.out.get 1 rfl) size97 rfl rfl ?_; intro w4 hc hb hs; have D9 := hid (D4.out.tail.put (by simp) hc hb); have HC := hid hc; clear hc hb hs))
        exact ret_st2 rfl rfl g6 _ rfl HC.out under97 rfl size97 ⟨rfl, D9.out.db, D9.out.but⟩
      | false =>
        go_wp2_with (first | (refine wpList_build_z97 rfl rfl ?_) | (refine wpList_store_st rfl 97 _ _ rfl g6 [.pointer none, .int .i64 0, .int .i64 0] rfl rfl (D3.out.get 1 rfl) size97 rfl rfl ?_; intro w4 hc hb hs; have D9 := hid (D3.out.tail.put (by simp) hc hb); have HC := hid hc; clear hc hb hs))
        exact ret_st2 rfl rfl g6 _ rfl HC.out under97 rfl size97 ⟨rfl, D9.out.db, D9.out.but⟩
    · simp only [h2, ne_eq, not_true_eq_false, not_false_eq_true, if_false, if_true] at HFo ⊢
      go_enter Try.func40, Try.ntmps40
      go_upto_region 1 with fail
      generalize W.alloc _ = X at *
      generalize hg : W.heap.size = g6 at D0 ⊢
      clear hg
      go_upto_region 2 with (first | (go_at_call 35; refine (HFo.out _ D0.out.db).mono ?_; rintro x w2 ⟨rfl, hd, hb⟩; have D1 := hid ((D0.out.step hd hb (fun _ hk => hk)).new 90 [.pointer (some ⟨p.g, 0, none⟩), .int .i64 s, .int .i64 F]); have HN : Hid (w2.heap.size ≠ g6) := hid (fun e => by have := ((D0.out.step hd hb (fun _ hk => hk)).get 0 rfl).lt; omega); clear hb hd))
      clear D0 HFo
      generalize w2.alloc _ = w3 at *
      generalize w2.heap.size = g8 at *
      go_wp2_with (first | (go_at_call 49; refine (HSp.out _).mono ?_; rintro x w5 ⟨rfl, rfl⟩) | (refine wpList_build_z97 rfl rfl ?_) | (refine wpList_store_st rfl 97 _ _ rfl g6 [.pointer none, .int .i64 0, .int .i64 0] rfl rfl (D1.out.get 1 rfl) size97 rfl rfl ?_; intro w4 hc hb hs; have D9 := hid (D1.out.tail.put (by simp) hc hb); have HC := hid hc; clear hc hb hs))
      exact ret_st2 rfl rfl g6 _ rfl HC.out under97 rfl size97 ⟨rfl, D9.out.db, D9.out.but⟩
  · simp only [h1, ne_eq, not_false_eq_true, if_false, if_true] at HFo ⊢
    go_enter Try.func40, Try.ntmps40
    go_upto_region 1 with fail
    generalize W.alloc _ = X at *
    generalize hg : W.heap.size = g6 at D0 ⊢
    clear hg
    go_upto_region 2 with (first | (go_at_call 35; refine (HFo.out _ D0.out.db).mono ?_; rintro x w2 ⟨rfl, hd, hb⟩; have D1 := hid ((D0.out.step hd hb (fun _ hk => hk)).new 90 [.pointer none, .int .i64 0, .int .i64 0]); have HN : Hid (w2.heap.size ≠ g6) := hid (fun e => by have := ((D0.out.step hd hb (fun _ hk => hk)).get 0 rfl).lt; omega); clear hb hd))
    clear D0 HFo
    generalize w2.alloc _ = w3 at *
    generalize w2.heap.size = g8 at *
    go_wp2_with (first | (refine wpList_build_z97 rfl rfl ?_) | (refine wpList_store_st rfl 97 _ _ rfl g6 [.pointer none, .int .i64 0, .int .i64 0] rfl rfl (D1.out.get 1 rfl) size97 rfl rfl ?_; intro w4 hc hb hs; have D9 := hid (D1.out.tail.put (by simp) hc hb); have HC := hid hc; clear hc hb hs))
    exact ret_st2 rfl rfl g6 _ rfl HC.out under97 rfl size97 ⟨rfl, D9.out.db, D9.out.but⟩
end Go.Proofs.Ytgbpbfnpeeciaaa
