import Derived.Test.YtgbpbfnpeeciaaaGreatP27
import Derived.Test.YtgbpbfnpeeciaaaGreatP01
import Derived.Test.YtgbpbfnpeeciaaaGreatP15
namespace Go.Proofs.YtgbpbfnpeeciaaaGreat
open Go.RowKit
set_option maxRecDepth 100000
set_option maxHeartbeats 4000000
def DS.w2 (d : DS) (s va : Int) : Int := d.m.word true (pf (d.w1 s va)) (spJ va)
def DS.slotE (d : DS) (s va : Int) : Int := if d.fndE s va = 0 then (if d.w2 s va = 0 then 0 else 140) else d.fndE s va
def DS.look (d : DS) (s va : Int) : DS := if d.fndE s va = 0 then (d.fndD s va).rd (pf (d.w1 s va)) (spJ va) else d.fndD s va
def DS.putE (d : DS) (s va : Int) (m : Mp) : Int := if d.fndE s va = 0 then filE (d.w2 s va) m.err else d.fndE s va
def DS.put (d : DS) (s va : Int) (m : Mp) : DS := if d.fndE s va = 0 then (d.fndD s va).tn (pf (d.w1 s va)) (spJ va) (filW (d.w2 s va) m.enc) (filE (d.w2 s va) m.err) else d.fndD s va
def DS.cutE (d : DS) (s va : Int) : Int := if d.fndE s va = 0 then empE (d.w2 s va) else d.fndE s va
def DS.cut (d : DS) (s va : Int) : DS := if d.fndE s va = 0 then (d.fndD s va).tn (pf (d.w1 s va)) (spJ va) 0 (empE (d.w2 s va)) else d.fndD s va
def DS.atE (d : DS) (s va : Int) : Int := if d.fndE s va = 0 then d.m.mE (d.w2 s va) else d.fndE s va
def DS.atM (d : DS) (s va : Int) : Mp := if d.fndE s va = 0 then d.m.mM (d.w2 s va) else Mp.z
theorem DS.fndD_m (d : DS) (s va : Int) : (∀ a b c, (d.fndD s va).m.word a b c = d.m.word a b c) ∧ (∀ a b, (d.fndD s va).m.at a b = d.m.at a b) ∧ (∀ a, (d.fndD s va).ent a = d.ent a) ∧ (∀ a, (d.fndD s va).entE a = d.entE a) ∧ (d.m.U → (d.fndD s va).m.U) := by
  obtain ⟨a, b, c, e, f⟩ := d.folD_m s
  unfold DS.fndD
  split
  · exact ⟨a, b, c, e, f⟩
  · split
    · exact ⟨a, b, c, e, f⟩
    · exact ⟨fun x y z => (MS.read_word ..).trans (a x y z), fun x y => (MS.read_at ..).trans (b x y), fun x => ((DS.rd_ent _ _ _ x).1).trans (c x), fun x => ((DS.rd_ent _ _ _ x).2).trans (e x), fun h => MS.U.read (f h) _ _ _⟩
theorem MS.mE_at {m m' : MS} (h : ∀ a b, m.at a b = m'.at a b) (w : Int) : m.mE w = m'.mE w ∧ m.mM w = m'.mM w := by
  unfold MS.mM MS.mE
  rw [h]
  exact ⟨rfl, rfl⟩
theorem slot_any (W : World) (p : Dp) (d : DS) (h : DB W p d) (hU : d.m.U) (s va : Int) (v0 : 0 ≤ va) (v1 : va < 4294967296) :
    Calls Tryz.prog 33 #[ptr p.g, .int .i64 s, .int .u32 va] W fun x W' => x = .returned (.int .i64 (d.slotE s va)) ∧ DB W' p (d.look s va) ∧ ButL p.f.w W W' := by
  have HFi := hid (fun w (hw : DB w p d) => find2_any w p d hw hU s va v0 v1)
  have D0 := hid (DG.startw h)
  have HR := hid (fun w (hw : DB w p (d.fndD s va)) => readd_any w p (d.fndD s va) hw (pf (d.w1 s va)) (spJ va))
  rw [(d.fndD_m s va).1, show d.m.word true (pf (d.w1 s va)) (spJ va) = d.w2 s va from rfl] at HR
  unfold DS.slotE DS.look
  unfold DS.fndV at HFi
  clear h hU v0 v1
  generalize hw2 : d.w2 s va = V at *
  clear hw2
  generalize pf (d.w1 s va) = q at *
  generalize spJ va = J at *
  generalize d.fndE s va = E at *
  generalize hd1 : d.fndD s va = d1 at *
  clear hd1
  simp only [ptr, plV, zV3] at *
  by_cases hE : E = 0
  · subst hE
    simp only [if_true] at HFi ⊢
    by_cases hV : V = 0
    · subst hV
      go_enter Tryz.func33, Tryz.ntmps33
      go_upto_region 2 with (first | (go_at_call 85; refine (HFi.out _ D0.out.db).mono ?_; rintro x w2 ⟨rfl, hd, hb⟩; have D1 := hid ((D0.out.step hd hb (fun _ hk => hk)).new 147 [.pointer (some ⟨p.f.gm, 0, none⟩), .int .i64 q, .int .i64 J]); clear hb hd))
      clear D0 HFi
      generalize w2.alloc _ = w3 at *
      generalize w2.heap.size = g7 at *
      go_wp2_with (first | (go_at_call 79; refine (HR.out _ D1.out.db).mono ?_; rintro x w4 ⟨rfl, hd, hb⟩; have D2 := hid (D1.out.step hd hb (fun _ hk => hk)); clear hb hd) | (refine wpList_load_g rfl 147 _ rfl g7 rfl (D1.out.get 0 rfl) rfl under97 size97 ?_))
      go_returns
      exact ⟨rfl, D2.out.db, D2.out.but⟩
    · rw [if_neg hV]
      go_enter Tryz.func33, Tryz.ntmps33
      go_upto_region 2 with (first | (go_at_call 85; refine (HFi.out _ D0.out.db).mono ?_; rintro x w2 ⟨rfl, hd, hb⟩; have D1 := hid ((D0.out.step hd hb (fun _ hk => hk)).new 147 [.pointer (some ⟨p.f.gm, 0, none⟩), .int .i64 q, .int .i64 J]); clear hb hd))
      clear D0 HFi
      generalize w2.alloc _ = w3 at *
      generalize w2.heap.size = g7 at *
      go_wp2_with (first | (go_at_call 79; refine (HR.out _ D1.out.db).mono ?_; rintro x w4 ⟨rfl, hd, hb⟩; have D2 := hid (D1.out.step hd hb (fun _ hk => hk)); clear hb hd) | (refine wpList_load_g rfl 147 _ rfl g7 rfl (D1.out.get 0 rfl) rfl under97 size97 ?_))
      go_returns
      exact ⟨rfl, D2.out.db, D2.out.but⟩
  · simp only [hE, if_false] at HFi ⊢
    go_enter Tryz.func33, Tryz.ntmps33
    go_upto_region 2 with (first | (go_at_call 85; refine (HFi.out _ D0.out.db).mono ?_; rintro x w2 ⟨rfl, hd, hb⟩; have D1 := hid ((D0.out.step hd hb (fun _ hk => hk)).new 147 [.pointer none, .int .i64 0, .int .i64 0]); clear hb hd))
    clear D0 HFi
    generalize w2.alloc _ = w3 at *
    generalize w2.heap.size = g7 at *
    go_wp2_with fail
    go_returns
    exact ⟨rfl, D1.out.db, D1.out.but⟩
theorem put_any (W : World) (p : Dp) (d : DS) (h : DB W p d) (hU : d.m.U) (s va : Int) (m : Mp) (v0 : 0 ≤ va) (v1 : va < 4294967296) :
    Calls Tryz.prog 35 #[ptr p.g, .int .i64 s, .int .u32 va, m.v] W fun x W' => x = .returned (.int .i64 (d.putE s va m)) ∧ DB W' p (d.put s va m) ∧ ButL p.f.w W W' := by
  have HFi := hid (fun w (hw : DB w p d) => find2_any w p d hw hU s va v0 v1)
  have D0 := hid ((DG.startw h).new 88 m.cs)
  have HF := hid (fun w => filled45_any w m)
  have HT := hid (fun w (hw : DB w p (d.fndD s va)) b1 b2 h1 h2 => turn82_any w p (d.fndD s va) hw (pf (d.w1 s va)) (spJ va) m b1 b2 h1 h2)
  rw [(d.fndD_m s va).1, show d.m.word true (pf (d.w1 s va)) (spJ va) = d.w2 s va from rfl] at HT
  unfold DS.putE DS.put
  unfold DS.fndV at HFi
  clear h hU v0 v1
  generalize hw2 : d.w2 s va = V at *
  clear hw2
  generalize pf (d.w1 s va) = q at *
  generalize spJ va = J at *
  generalize d.fndE s va = E at *
  generalize hd1 : d.fndD s va = d1 at *
  clear hd1
  generalize filE V m.err = X at *
  generalize filW V m.enc = Y at *
  simp only [ptr, plV, zV3, rdF, wrF, fnV, Mp.v, Mp.cs] at *
  by_cases hE : E = 0
  · subst hE
    simp only [if_true] at HFi ⊢
    go_enter Tryz.func35, Tryz.ntmps35
    go_upto_region 1 with fail
    generalize World.alloc _ _ = x0 at *
    generalize hg : W.heap.size = g7 at D0 ⊢
    clear hg
    go_upto_region 2 with (first | (go_at_call 85; refine (HFi.out _ D0.out.db).mono ?_; rintro x w2 ⟨rfl, hd, hb⟩; have D1 := hid ((D0.out.step hd hb (fun _ hk => hk)).new 147 [.pointer (some ⟨p.f.gm, 0, none⟩), .int .i64 q, .int .i64 J]); clear hb hd))
    clear D0 HFi
    generalize w2.alloc _ = w3 at *
    generalize w2.heap.size = g9 at *
    go_upto_region 4 with fail
    refine wp_region_held_drew (S := fun w => Cel w g9 147 [.pointer (some ⟨p.f.gm, 0, none⟩), .int .i64 q, .int .i64 J] ∧ Cel w g7 88 [.bool m.s, .int .i64 m.p, .bool m.wr, .bool m.ex]) (by kernel_rfl) ⟨D1.out.get 0 rfl, D1.out.get 1 rfl⟩ (fun hHeld => ?_)
    have D1b := hid (D1.out.on (Below.refl _ _).drew)
    clear D1
    have D1 := D1b
    clear D1b
    generalize World.drew _ = w4 at *
    refine tk 0 ⟨some 21, .load 147 (.tmp 9), 147, "space.go:51", #[], none⟩ (.agg #[.pointer (some ⟨p.f.gm, 0, none⟩), .int .i64 q, .int .i64 J]) ?_ (hy := yieldsIf_load_mid (by rfl) _ _ rfl _ _ rfl _ _ (fun w hSw => hSw.1.range) under97 rfl (by rw [size97]; rfl))
    simp only [Act.put, List.setIfInBounds_toArray, List.set_cons_zero, List.set_cons_succ]
    refine tk 1 ⟨some 22, .makeFunc (Fn.func 79) #[.tmp 21] #[], 150, "space.go:51", #[⟨0, .data⟩], none⟩ (.func (.func 79) #[.agg #[.pointer (some ⟨p.f.gm, 0, none⟩), .int .i64 q, .int .i64 J]] #[]) ?_
    simp only [Act.put, List.setIfInBounds_toArray, List.set_cons_zero, List.set_cons_succ]
    refine tk 2 ⟨some 23, .load 147 (.tmp 9), 147, "space.go:51", #[], none⟩ (.agg #[.pointer (some ⟨p.f.gm, 0, none⟩), .int .i64 q, .int .i64 J]) ?_ (hy := yieldsIf_load_mid (by rfl) _ _ rfl _ _ rfl _ _ (fun w hSw => hSw.1.range) under97 rfl (by rw [size97]; rfl))
    simp only [Act.put, List.setIfInBounds_toArray, List.set_cons_zero, List.set_cons_succ]
    refine tk 3 ⟨some 24, .makeFunc (Fn.func 80) #[.tmp 23] #[], 151, "space.go:51", #[⟨2, .data⟩], none⟩ (.func (.func 80) #[.agg #[.pointer (some ⟨p.f.gm, 0, none⟩), .int .i64 q, .int .i64 J]] #[]) ?_
    simp only [Act.put, List.setIfInBounds_toArray, List.set_cons_zero, List.set_cons_succ]
    refine tk 4 ⟨some 25, .load 88 (.tmp 7), 88, "space.go:51", #[], none⟩ (.agg #[.bool m.s, .int .i64 m.p, .bool m.wr, .bool m.ex]) ?_ (hy := yieldsIf_load_mid (by rfl) _ _ rfl _ _ rfl _ _ (fun w hSw => hSw.2.range) under49 rfl (by rw [size49]; rfl))
    simp only [Act.put, List.setIfInBounds_toArray, List.set_cons_zero, List.set_cons_succ]
    refine wpAnyH_ready (rs := [5]) (by kernel_rfl) (by simp) (AllReadyH.cons (o := ⟨some 26, .call { callee := .value (.func 87), args := #[.func 88, .tmp 25], argTypes := #[161, 88] }, 152, "space.go:51", #[⟨4, .data⟩], none⟩) rfl (fun KQ hK => ?_) AllReadyH.nil)
    go_simp
    refine (HF.out _).mono ?_
    rintro e w6 ⟨b1, b2, rfl, hB, hb1, hb2⟩
    have D2 := hid (D1.out.on hB.below)
    have HB := hid (And.intro (hB.get 1 rfl) (hB.get 0 rfl))
    clear hB hb1 hb2 D1 HF
    go_wp2_with fail
    refine hK.out _ _ ⟨D2.out.get 0 rfl, D2.out.get 1 rfl⟩ (fun hHeld => ?_)
    clear hK KQ
    try simp only [Act.put, List.setIfInBounds_toArray, List.set_cons_zero, List.set_cons_succ]
    refine wpAnyH_ready (rs := [6]) (by kernel_rfl) (by simp) (AllReadyH.cons (o := ⟨some 27, .call { callee := .value (.func 78), args := #[.tmp 22, .tmp 24, .tmp 26], argTypes := #[150, 151, 152] }, 37, "space.go:51", #[⟨1, .data⟩, ⟨3, .data⟩, ⟨5, .data⟩, ⟨5, .chain⟩], none⟩) rfl (fun KQ hK => ?_) AllReadyH.nil)
    go_simp
    refine (HT.out _ D2.out.db b1 b2 HB.out.1 HB.out.2).mono ?_
    rintro e w7 ⟨rfl, hd, hb⟩
    have D3 := hid (D2.out.step hd hb (fun _ hk => hk))
    clear hb hd D2 HT HB
    go_wp2_with fail
    refine hK.out _ _ ⟨D3.out.get 0 rfl, D3.out.get 1 rfl⟩ (fun hHeld => ?_)
    clear hK KQ
    try simp only [Act.put, List.setIfInBounds_toArray, List.set_cons_zero, List.set_cons_succ]
    refine wpAnyH_ready (rs := [7]) (by kernel_rfl) (by simp) (AllReadyH.cons (o := ⟨some 8, .assign (.tmp 27), 37, "space.go:51", #[⟨6, .data⟩, ⟨6, .chain⟩, ⟨0, .phase⟩, ⟨1, .phase⟩, ⟨2, .phase⟩, ⟨3, .phase⟩, ⟨4, .phase⟩, ⟨5, .phase⟩, ⟨6, .phase⟩], none⟩) rfl (fun KQ hK => ?_) AllReadyH.nil)
    go_simp
    refine hK.out _ _ ⟨D3.out.get 0 rfl, D3.out.get 1 rfl⟩ (fun hHeld => ?_)
    clear hK KQ
    try simp only [Act.put, List.setIfInBounds_toArray, List.set_cons_zero, List.set_cons_succ]
    refine wpAnyH_done (by kernel_rfl) ?_ _
    go_wp2_with fail
    go_returns
    exact ⟨rfl, D3.out.db, D3.out.but⟩
  · simp only [hE, if_false] at HFi ⊢
    go_enter Tryz.func35, Tryz.ntmps35
    go_upto_region 1 with fail
    generalize World.alloc _ _ = x0 at *
    generalize hg : W.heap.size = g7 at D0 ⊢
    clear hg
    go_upto_region 2 with (first | (go_at_call 85; refine (HFi.out _ D0.out.db).mono ?_; rintro x w2 ⟨rfl, hd, hb⟩; have D1 := hid ((D0.out.step hd hb (fun _ hk => hk)).new 147 [.pointer none, .int .i64 0, .int .i64 0]); clear hb hd))
    clear D0 HFi
    generalize w2.alloc _ = w3 at *
    generalize w2.heap.size = g9 at *
    go_wp2_with fail
    go_returns
    exact ⟨rfl, D1.out.db, D1.out.but⟩
end Go.Proofs.YtgbpbfnpeeciaaaGreat
namespace Go.Proofs.YtgbpbfnpeeciaaaGreat
open Go.RowKit
set_option maxRecDepth 100000
set_option maxHeartbeats 4000000
def DS.tab (d : DS) (s : Int) : Int := if d.folE s = 0 then d.fst s else 0
theorem table_any (W : World) (p : Dp) (d : DS) (h : DB W p d) (hU : d.m.U) (s : Int) :
    Calls Tryz.prog 29 #[ptr p.g, .int .i64 s] W fun x W' => x = .returned (.tuple #[.int .i64 (d.tab s), .int .i64 (d.folE s)]) ∧ DB W' p (d.folD s) ∧ ButL p.f.w W W' := by
  have HFo := hid (fun w (hw : DB w p d) => follow_any w p d hw hU s)
  have D0 := hid (DG.startw h)
  unfold DS.folV at HFo
  unfold DS.tab
  clear h hU
  generalize d.folE s = E at *
  generalize d.folD s = d1 at *
  generalize d.fst s = F at *
  simp only [ptr, tbV, zV3] at *
  by_cases hE : E = 0
  · subst hE
    simp only [if_true] at HFo ⊢
    go_enter Tryz.func29, Tryz.ntmps29
    go_upto_region 2 with (first | (go_at_call 72; refine (HFo.out _ D0.out.db).mono ?_; rintro x w2 ⟨rfl, hd, hb⟩; have D1 := hid ((D0.out.step hd hb (fun _ hk => hk)).new 139 [.pointer (some ⟨p.g, 0, none⟩), .int .i64 s, .int .i64 F]); clear hb hd))
    generalize w2.alloc _ = w3 at *
    generalize w2.heap.size = g6 at *
    have c2 := (D1.out.get 0 rfl).cell 2
    simp only [List.getElem?_cons_zero, List.getElem?_cons_succ] at c2
    go_wp2_with fail
    go_returns
    exact ⟨rfl, D1.out.db, D1.out.but⟩
  · simp only [hE, if_false] at HFo ⊢
    go_enter Tryz.func29, Tryz.ntmps29
    go_upto_region 2 with (first | (go_at_call 72; refine (HFo.out _ D0.out.db).mono ?_; rintro x w2 ⟨rfl, hd, hb⟩; have D1 := hid ((D0.out.step hd hb (fun _ hk => hk)).new 139 [.pointer none, .int .i64 0, .int .i64 0]); clear hb hd))
    generalize w2.alloc _ = w3 at *
    generalize w2.heap.size = g6 at *
    have c2 := (D1.out.get 0 rfl).cell 2
    simp only [List.getElem?_cons_zero, List.getElem?_cons_succ] at c2
    go_wp2_with fail
    go_returns
    exact ⟨rfl, D1.out.db, D1.out.but⟩
def DS.addE (d : DS) (s i q : Int) : Int := if d.folE s = 0 then (if 0 ≤ i ∧ i < 256 then (if d.entE q = 0 then (if d.own s q 4 = true then filE (d.m.word true (d.fst s) i) (fE q) else 124) else d.entE q) else 4) else d.folE s
def DS.add (d : DS) (s i q : Int) : DS := if d.folE s = 0 ∧ (0 ≤ i ∧ i < 256) ∧ d.entE q = 0 ∧ d.own s q 4 = true then (d.folD s).tn (d.fst s) i (filW (d.m.word true (d.fst s) i) (fW q)) (filE (d.m.word true (d.fst s) i) (fE q)) else d.folD s
theorem addTable_any (W : World) (p : Dp) (d : DS) (h : DB W p d) (hU : d.m.U) (s i q : Int) :
    Calls Tryz.prog 31 #[ptr p.g, .int .i64 s, .int .i64 i, .int .i64 q] W fun x W' => x = .returned (.int .i64 (d.addE s i q)) ∧ DB W' p (d.add s i q) ∧ ButL p.f.w W W' := by
  have HFo := hid (fun w (hw : DB w p d) => follow_any w p d hw hU s)
  have HE := hid (fun w (hw : DB w p (d.folD s)) => entry_any w p (d.folD s) hw q)
  have HO := hid (fun w (hw : DB w p (d.folD s)) => owns_any w p (d.folD s) hw s (d.fst s) q 4)
  have HP := hid (fun w (hw : DB w p (d.folD s)) => placep_any w p (d.folD s) hw s (d.fst s) (d.fst s) i)
  have HF := hid (fun w => filled75_any w q)
  have HT := hid (fun w (hw : DB w p (d.folD s)) b1 b2 h1 h2 => turn99_any w p (d.folD s) hw (d.fst s) i q b1 b2 h1 h2)
  rw [(d.folD_m s).1] at HT
  rw [(d.folD_m s).2.2.1, (d.folD_m s).2.2.2.1] at HE
  rw [show (d.folD s).own s q 4 = d.own s q 4 by unfold DS.own; rw [(d.folD_m s).2.2.1]] at HO
  have D0 := hid (DG.startw h)
  unfold DS.folV at HFo
  unfold DS.addE DS.add
  clear h hU
  generalize d.folE s = E at *
  generalize d.folD s = d1 at *
  generalize d.fst s = F at *
  generalize d.m.word true F i = V at *
  generalize filE V (fE q) = X at *
  generalize filW V (fW q) = Y at *
  generalize d.own s q 4 = O at *
  generalize d.entE q = DE at *
  generalize d.ent q = D at *
  simp only [ptr, tbV, zV3, plV, rdF, wrF, fnV, En.v] at *
  by_cases h1 : E = 0
  · subst h1
    simp only [if_true, true_and] at HFo ⊢
    by_cases h2 : 0 ≤ i ∧ i < 256
    · obtain ⟨h2a, h2b⟩ := h2
      simp only [h2a, h2b, and_self, if_true, true_and]
      by_cases h3 : DE = 0
      · subst h3
        simp only [if_true, true_and]
        cases O with
        | true =>
          simp only [if_true]
          go_enter Tryz.func31, Tryz.ntmps31
          go_upto_region 2 with (first | (go_at_call 72; refine (HFo.out _ D0.out.db).mono ?_; rintro x w2 ⟨rfl, hd, hb⟩; have D1 := hid ((D0.out.step hd hb (fun _ hk => hk)).new 139 [.pointer (some ⟨p.g, 0, none⟩), .int .i64 s, .int .i64 F]); clear hb hd))
          clear D0 HFo
          generalize w2.alloc _ = w3 at *
          generalize w2.heap.size = g9 at *
          go_upto_region 9 with (first | (go_at_call 62; refine (HE.out _ D1.out.db).mono ?_; rintro x w4 ⟨rfl, hb⟩; have D2 := hid (D1.out.on hb); clear hb) | (refine wpList_store_st rfl 125 _ _ rfl w4.heap.size D.cs rfl rfl (Cel.new w4 125 En.zero.cs) sizeE rfl rfl ?_; intro w5 hc hb hs; have D3 := hid (D2.out.add hc hb); clear hc hb hs))
          have D4 := hid D3.out.tail
          clear D1 D2 D3
          have c2 := (D4.out.get 0 rfl).cell 2
          simp only [List.getElem?_cons_zero, List.getElem?_cons_succ] at c2
          go_upto_region 11 with (first | (go_at_call 76; refine (HO.out _ D4.out.db).mono ?_; rintro x w6 ⟨rfl, hb⟩; have D5 := hid (D4.out.on hb); clear hb) | (refine wpList_load_g rfl 139 _ rfl g9 rfl (D4.out.get 0 rfl) rfl under90 size90 ?_))
          clear D4 c2
          have c2 := (D5.out.get 0 rfl).cell 2
          simp only [List.getElem?_cons_zero, List.getElem?_cons_succ] at c2
          go_upto_region 12 with (first | (go_at_call 77; refine (HP.out _ D5.out.db).mono ?_; rintro x w7 ⟨rfl, hb⟩; have D1 := hid ((D5.out.on hb).new 147 [.pointer (some ⟨p.f.gm, 0, none⟩), .int .i64 F, .int .i64 i]); clear hb) | (refine wpList_load_g rfl 139 _ rfl g9 rfl (D5.out.get 0 rfl) rfl under90 size90 ?_))
          clear D5 c2
          generalize w7.alloc _ = w8 at *
          generalize w7.heap.size = g13 at *
          refine wp_region_held_drew (S := fun w => Cel w g13 147 [.pointer (some ⟨p.f.gm, 0, none⟩), .int .i64 F, .int .i64 i]) (by kernel_rfl) (D1.out.get 0 rfl) (fun hHeld => ?_)
          have D1b := hid (D1.out.on (Below.refl _ _).drew)
          clear D1
          have D1 := D1b
          clear D1b
          generalize World.drew _ = w14 at *
          refine tk 0 ⟨some 47, .load 147 (.tmp 13), 147, "space.go:33", #[], none⟩ (.agg #[.pointer (some ⟨p.f.gm, 0, none⟩), .int .i64 F, .int .i64 i]) ?_ (hy := yieldsIf_load_mid (by rfl) _ _ rfl _ _ rfl _ _ (fun w hSw => hSw.range) under97 rfl (by rw [size97]; rfl))
          simp only [Act.put, List.setIfInBounds_toArray, List.set_cons_zero, List.set_cons_succ]
          refine tk 1 ⟨some 48, .makeFunc (Fn.func 79) #[.tmp 47] #[], 150, "space.go:33", #[⟨0, .data⟩], none⟩ (.func (.func 79) #[.agg #[.pointer (some ⟨p.f.gm, 0, none⟩), .int .i64 F, .int .i64 i]] #[]) ?_
          simp only [Act.put, List.setIfInBounds_toArray, List.set_cons_zero, List.set_cons_succ]
          refine tk 2 ⟨some 49, .load 147 (.tmp 13), 147, "space.go:33", #[], none⟩ (.agg #[.pointer (some ⟨p.f.gm, 0, none⟩), .int .i64 F, .int .i64 i]) ?_ (hy := yieldsIf_load_mid (by rfl) _ _ rfl _ _ rfl _ _ (fun w hSw => hSw.range) under97 rfl (by rw [size97]; rfl))
          simp only [Act.put, List.setIfInBounds_toArray, List.set_cons_zero, List.set_cons_succ]
          refine tk 3 ⟨some 50, .makeFunc (Fn.func 80) #[.tmp 49] #[], 151, "space.go:33", #[⟨2, .data⟩], none⟩ (.func (.func 80) #[.agg #[.pointer (some ⟨p.f.gm, 0, none⟩), .int .i64 F, .int .i64 i]] #[]) ?_
          simp only [Act.put, List.setIfInBounds_toArray, List.set_cons_zero, List.set_cons_succ]
          refine tk 4 ⟨some 51, .move (.tmp 3), 3, "space.go:33", #[], none⟩ (.int .i64 q) ?_
          simp only [Act.put, List.setIfInBounds_toArray, List.set_cons_zero, List.set_cons_succ]
          refine wpAnyH_ready (rs := [5]) (by kernel_rfl) (by simp) (AllReadyH.cons (o := ⟨some 52, .call { callee := .value (.func 81), args := #[.func 82, .tmp 51], argTypes := #[154, 3] }, 152, "space.go:33", #[⟨4, .data⟩], none⟩) rfl (fun KQ hK => ?_) AllReadyH.nil)
          go_simp
          refine (HF.out _).mono ?_
          rintro e w16 ⟨b1, b2, rfl, hB, hb1, hb2⟩
          have D2 := hid (D1.out.on hB.below)
          have HB := hid (And.intro (hB.get 1 rfl) (hB.get 0 rfl))
          clear hB hb1 hb2 D1 HF
          go_wp2_with fail
          refine hK.out _ _ (D2.out.get 0 rfl) (fun hHeld => ?_)
          clear hK KQ
          try simp only [Act.put, List.setIfInBounds_toArray, List.set_cons_zero, List.set_cons_succ]
          refine wpAnyH_ready (rs := [6]) (by kernel_rfl) (by simp) (AllReadyH.cons (o := ⟨some 53, .call { callee := .value (.func 78), args := #[.tmp 48, .tmp 50, .tmp 52], argTypes := #[150, 151, 152] }, 37, "space.go:33", #[⟨1, .data⟩, ⟨3, .data⟩, ⟨5, .data⟩, ⟨5, .chain⟩], none⟩) rfl (fun KQ hK => ?_) AllReadyH.nil)
          go_simp
          refine (HT.out _ D2.out.db b1 b2 HB.out.1 HB.out.2).mono ?_
          rintro e w17 ⟨rfl, hd, hb⟩
          have D3 := hid (D2.out.step hd hb (fun _ hk => hk))
          clear hb hd D2 HT HB
          go_wp2_with fail
          refine hK.out _ _ (D3.out.get 0 rfl) (fun hHeld => ?_)
          clear hK KQ
          try simp only [Act.put, List.setIfInBounds_toArray, List.set_cons_zero, List.set_cons_succ]
          refine wpAnyH_ready (rs := [7]) (by kernel_rfl) (by simp) (AllReadyH.cons (o := ⟨some 8, .assign (.tmp 53), 37, "space.go:33", #[⟨6, .data⟩, ⟨6, .chain⟩, ⟨0, .phase⟩, ⟨1, .phase⟩, ⟨2, .phase⟩, ⟨3, .phase⟩, ⟨4, .phase⟩, ⟨5, .phase⟩, ⟨6, .phase⟩], none⟩) rfl (fun KQ hK => ?_) AllReadyH.nil)
          go_simp
          refine hK.out _ _ (D3.out.get 0 rfl) (fun hHeld => ?_)
          clear hK KQ
          try simp only [Act.put, List.setIfInBounds_toArray, List.set_cons_zero, List.set_cons_succ]
          refine wpAnyH_done (by kernel_rfl) ?_ _
          go_wp2_with fail
          go_returns
          exact ⟨rfl, D3.out.db, D3.out.but⟩
        | false =>
          simp only [Bool.false_eq_true, if_false]
          go_enter Tryz.func31, Tryz.ntmps31
          go_upto_region 2 with (first | (go_at_call 72; refine (HFo.out _ D0.out.db).mono ?_; rintro x w2 ⟨rfl, hd, hb⟩; have D1 := hid ((D0.out.step hd hb (fun _ hk => hk)).new 139 [.pointer (some ⟨p.g, 0, none⟩), .int .i64 s, .int .i64 F]); clear hb hd))
          clear D0 HFo
          generalize w2.alloc _ = w3 at *
          generalize w2.heap.size = g9 at *
          go_upto_region 9 with (first | (go_at_call 62; refine (HE.out _ D1.out.db).mono ?_; rintro x w4 ⟨rfl, hb⟩; have D2 := hid (D1.out.on hb); clear hb) | (refine wpList_store_st rfl 125 _ _ rfl w4.heap.size D.cs rfl rfl (Cel.new w4 125 En.zero.cs) sizeE rfl rfl ?_; intro w5 hc hb hs; have D3 := hid (D2.out.add hc hb); clear hc hb hs))
          have D4 := hid D3.out.tail
          clear D1 D2 D3
          have c2 := (D4.out.get 0 rfl).cell 2
          simp only [List.getElem?_cons_zero, List.getElem?_cons_succ] at c2
          go_wp2_with (first | (go_at_call 76; refine (HO.out _ D4.out.db).mono ?_; rintro x w6 ⟨rfl, hb⟩; have D5 := hid (D4.out.on hb); clear hb) | (refine wpList_load_g rfl 139 _ rfl g9 rfl (D4.out.get 0 rfl) rfl under90 size90 ?_))
          go_returns
          exact ⟨rfl, D5.out.db, D5.out.but⟩
      · simp only [h3, if_false, false_and]
        go_enter Tryz.func31, Tryz.ntmps31
        go_upto_region 2 with (first | (go_at_call 72; refine (HFo.out _ D0.out.db).mono ?_; rintro x w2 ⟨rfl, hd, hb⟩; have D1 := hid ((D0.out.step hd hb (fun _ hk => hk)).new 139 [.pointer (some ⟨p.g, 0, none⟩), .int .i64 s, .int .i64 F]); clear hb hd))
        clear D0 HFo
        generalize w2.alloc _ = w3 at *
        generalize w2.heap.size = g9 at *
        go_wp2_with (first | (go_at_call 62; refine (HE.out _ D1.out.db).mono ?_; rintro x w4 ⟨rfl, hb⟩; have D2 := hid (D1.out.on hb); clear hb) | (refine wpList_store_st rfl 125 _ _ rfl w4.heap.size D.cs rfl rfl (Cel.new w4 125 En.zero.cs) sizeE rfl rfl ?_; intro w5 hc hb hs; have D3 := hid (D2.out.add hc hb); clear hc hb hs))
        go_returns
        exact ⟨rfl, D3.out.db, D3.out.but⟩
    · rw [if_neg h2, if_neg (fun h => h2 h.1)]
      have h2' : i < 0 ∨ (0 ≤ i ∧ 256 ≤ i) := by omega
      clear h2
      rcases h2' with h2 | ⟨h2, h3⟩
      · go_enter Tryz.func31, Tryz.ntmps31
        go_upto_region 2 with (first | (go_at_call 72; refine (HFo.out _ D0.out.db).mono ?_; rintro x w2 ⟨rfl, hd, hb⟩; have D1 := hid ((D0.out.step hd hb (fun _ hk => hk)).new 139 [.pointer (some ⟨p.g, 0, none⟩), .int .i64 s, .int .i64 F]); clear hb hd))
        clear D0 HFo
        generalize w2.alloc _ = w3 at *
        generalize w2.heap.size = g9 at *
        go_wp2_with fail
        go_returns
        exact ⟨rfl, D1.out.db, D1.out.but⟩
      · go_enter Tryz.func31, Tryz.ntmps31
        go_upto_region 2 with (first | (go_at_call 72; refine (HFo.out _ D0.out.db).mono ?_; rintro x w2 ⟨rfl, hd, hb⟩; have D1 := hid ((D0.out.step hd hb (fun _ hk => hk)).new 139 [.pointer (some ⟨p.g, 0, none⟩), .int .i64 s, .int .i64 F]); clear hb hd))
        clear D0 HFo
        generalize w2.alloc _ = w3 at *
        generalize w2.heap.size = g9 at *
        go_wp2_with fail
        go_returns
        exact ⟨rfl, D1.out.db, D1.out.but⟩
  · simp only [h1, if_false, false_and] at HFo ⊢
    go_enter Tryz.func31, Tryz.ntmps31
    go_upto_region 2 with (first | (go_at_call 72; refine (HFo.out _ D0.out.db).mono ?_; rintro x w2 ⟨rfl, hd, hb⟩; have D1 := hid ((D0.out.step hd hb (fun _ hk => hk)).new 139 [.pointer none, .int .i64 0, .int .i64 0]); clear hb hd))
    clear D0 HFo
    generalize w2.alloc _ = w3 at *
    generalize w2.heap.size = g9 at *
    go_wp2_with fail
    go_returns
    exact ⟨rfl, D1.out.db, D1.out.but⟩
end Go.Proofs.YtgbpbfnpeeciaaaGreat
namespace Go.Proofs.YtgbpbfnpeeciaaaGreat
open Go.RowKit
set_option maxRecDepth 100000
set_option maxHeartbeats 4000000
structure DS.Sim (d d' : DS) : Prop where
  E : d'.E = d.E
  b : d'.b = d.b
  ns : d'.m.ns = d.m.ns
  P : d'.m.P = d.m.P
theorem DS.Sim.refl (d : DS) : DS.Sim d d := ⟨rfl, rfl, rfl, rfl⟩
theorem DS.Sim.symm {d e : DS} (h : DS.Sim d e) : DS.Sim e d := ⟨h.E.symm, h.b.symm, h.ns.symm, h.P.symm⟩
theorem DS.Sim.trans {d e f : DS} (h : DS.Sim d e) (k : DS.Sim e f) : DS.Sim d f := ⟨k.E.trans h.E, k.b.trans h.b, k.ns.trans h.ns, k.P.trans h.P⟩
theorem DS.Sim.at {d e : DS} (h : DS.Sim d e) (k : Nat) : e.at k = d.at k := by unfold DS.at; rw [h.E]
theorem DS.Sim.there {d e : DS} (h : DS.Sim d e) (q : Int) : e.there q = d.there q := by unfold DS.there; rw [h.ns]
theorem DS.Sim.ent {d e : DS} (h : DS.Sim d e) (q : Int) : e.ent q = d.ent q := by unfold DS.ent; rw [h.there, h.at]
theorem DS.Sim.entE {d e : DS} (h : DS.Sim d e) (q : Int) : e.entE q = d.entE q := by unfold DS.entE; rw [h.there]
theorem DS.Sim.mat {d e : DS} (h : DS.Sim d e) (s : Bool) (q : Int) : e.m.at s q = d.m.at s q := by unfold MS.at; rw [h.ns, h.P]
theorem DS.Sim.p {d e : DS} (h : DS.Sim d e) (k : Nat) : e.m.p k = d.m.p k := by unfold MS.p; rw [h.P]
theorem DS.Sim.word {d e : DS} (h : DS.Sim d e) (s : Bool) (q o : Int) : e.m.word s q o = d.m.word s q o := by unfold MS.word; simp only [h.mat, h.p]
theorem DS.Sim.err {d e : DS} (h : DS.Sim d e) (s : Bool) (q o : Int) : e.m.err s q o = d.m.err s q o := by unfold MS.err; rw [h.mat]
theorem DS.Sim.U {d e : DS} (h : DS.Sim d e) (k : d.m.U) : e.m.U := fun i j => by rw [h.p]; exact k i j
theorem DS.Sim.ws {d e : DS} (h : DS.Sim d e) : e.ws = d.ws := by unfold DS.ws; rw [h.E, h.b]
theorem DS.Sim.same {d e : DS} (h : DS.Sim d e) : d.m.same e.m = true := by unfold MS.same; rw [h.ns, h.P]; simp
theorem DS.Sim.read (d : DS) (s : Bool) (q o : Int) : DS.Sim d { d with m := d.m.read s q o } := by
  rw [MS.read_eq]
  split
  · exact ⟨rfl, rfl, rfl, rfl⟩
  · exact .refl d
theorem DS.Sim.ok {d e : DS} (h : DS.Sim d e) (k : d.Ok) : e.Ok := ⟨by rw [h.E, h.ns]; exact k.len, by rw [h.ns]; exact k.n64, fun i hi => by rw [h.at]; exact k.ok i (by rw [← h.ns]; exact hi), fun i hi => by rw [h.at, h.ns]; exact k.own i (by rw [← h.ns]; exact hi), by rw [h.b]; exact k.b0, by rw [h.b]; exact k.b1⟩
end Go.Proofs.YtgbpbfnpeeciaaaGreat
