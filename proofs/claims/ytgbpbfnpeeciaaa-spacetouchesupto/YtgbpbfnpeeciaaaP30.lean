import Derived.Test.YtgbpbfnpeeciaaaP29
import Derived.Test.YtgbpbfnpeeciaaaP01
namespace Go.Proofs.Ytgbpbfnpeeciaaa
open Go.RowKit
set_option maxRecDepth 100000
set_option maxHeartbeats 4000000
def DS.w2 (d : DS) (s va : Int) : Int := d.m.word true (pf (d.w1 s va)) (spJ va)
def DS.slotE (d : DS) (s va : Int) : Int := if d.fndE s va = 0 then (if d.w2 s va = 0 then 0 else 140) else d.fndE s va
def DS.look (d : DS) (s va : Int) : DS := if d.fndE s va = 0 then (d.fndD s va).rd (pf (d.w1 s va)) (spJ va) else d.fndD s va
def DS.putE (d : DS) (s va : Int) (m : Mp) : Int := if d.fndE s va = 0 then filE (d.w2 s va) m.err else d.fndE s va
def DS.put (d : DS) (s va : Int) (m : Mp) : DS := if d.fndE s va = 0 then (d.fndD s va).tn (pf (d.w1 s va)) (spJ va) (filW (d.w2 s va) m.enc) (filE (d.w2 s va) m.err) else d.fndD s va
def DS.cutE (d : DS) (s va : Int) : Int := if d.fndE s va = 0 then empE (d.w2 s va) else d.fndE s va
def DS.cut (d : DS) (s va : Int) : DS := if d.fndE s va = 0 then (d.fndD s va).tn (pf (d.w1 s va)) (spJ va) 0 (empE (d.w2 s va)) else d.fndD s va
def DS.atE (d : DS) (s va : Int) : Int := if d.fndE s va = 0 then d.m.mE (d.w2 s va) else d.fndE s va
def DS.atM (d : DS) (s va : Int) : Mp := if d.fndE s va = 0 then d.m.mM (d.w2 s va) else Mp.z
theorem DS.fndD_m (d : DS) (s va : Int) : (∀ a b c, (d.fndD s va).m.word a b c = d.m.word a b c) ∧ (∀ a b, (d.fndD s va).m.at a b = d.m.at a b) ∧ (∀ a, (d.fndD s va).ent a = d.ent a) ∧ (∀ a, (d.fndD s va).entE a = d.entE a) ∧ (d.m.U → (d.fndD s va).m.U) := by
  obtain ⟨a, b, c, e, f⟩ := d.folD_m s
  unfold DS.fndD
  split
  · exact ⟨a, b, c, e, f⟩
  · split
    · exact ⟨a, b, c, e, f⟩
    · exact ⟨fun x y z => (MS.read_word ..).trans (a x y z), fun x y => (MS.read_at ..).trans (b x y), fun x => ((DS.rd_ent _ _ _ x).1).trans (c x), fun x => ((DS.rd_ent _ _ _ x).2).trans (e x), fun h => MS.U.read (f h) _ _ _⟩
theorem MS.mE_at {m m' : MS} (h : ∀ a b, m.at a b = m'.at a b) (w : Int) : m.mE w = m'.mE w ∧ m.mM w = m'.mM w := by
  unfold MS.mM MS.mE
  rw [h]
  exact ⟨rfl, rfl⟩
theorem slot_any (W : World) (p : Dp) (d : DS) (h : DB W p d) (hU : d.m.U) (s va : Int) (v0 : 0 ≤ va) (v1 : va < 4294967296) :
    Calls Try.prog 57 #[ptr p.g, .int .i64 s, .int .u32 va] W fun x W' => x = .returned (.int .i64 (d.slotE s va)) ∧ DB W' p (d.look s va) ∧ ButL p.f.w W W' := by
  have HFi := hid (fun w (hw : DB w p d) => find2_any w p d hw hU s va v0 v1)
  have D0 := hid (DG.startw h)
  have HR := hid (fun w (hw : DB w p (d.fndD s va)) => readd_any w p (d.fndD s va) hw (pf (d.w1 s va)) (spJ va))
  rw [(d.fndD_m s va).1, show d.m.word true (pf (d.w1 s va)) (spJ va) = d.w2 s va from rfl] at HR
  unfold DS.slotE DS.look
  unfold DS.fndV at HFi
  clear h hU v0 v1
  generalize hw2 : d.w2 s va = V at *
  clear hw2
  generalize pf (d.w1 s va) = q at *
  generalize spJ va = J at *
  generalize d.fndE s va = E at *
  generalize hd1 : d.fndD s va = d1 at *
  clear hd1
  simp only [ptr, plV, zV3] at *
  by_cases hE : E = 0
  · subst hE
    simp only [if_true] at HFi ⊢
    by_cases hV : V = 0
    · subst hV
      go_enter Try.func57, Try.ntmps57
      go_upto_region 2 with (first | (go_at_call 40; refine (HFi.out _ D0.out.db).mono ?_; rintro x w2 ⟨rfl, hd, hb⟩; have D1 := hid ((D0.out.step hd hb (fun _ hk => hk)).new 97 [.pointer (some ⟨p.f.gm, 0, none⟩), .int .i64 q, .int .i64 J]); clear hb hd))
      clear D0 HFi
      generalize w2.alloc _ = w3 at *
      generalize w2.heap.size = g7 at *
      go_wp2_with (first | (go_at_call 38; refine (HR.out _ D1.out.db).mono ?_; rintro x w4 ⟨rfl, hd, hb⟩; have D2 := hid (D1.out.step hd hb (fun _ hk => hk)); clear hb hd) | (refine wpList_load_g rfl 97 _ rfl g7 rfl (D1.out.get 0 rfl) rfl under97 size97 ?_))
      go_returns
      exact ⟨rfl, D2.out.db, D2.out.but⟩
    · rw [if_neg hV]
      go_enter Try.func57, Try.ntmps57
      go_upto_region 2 with (first | (go_at_call 40; refine (HFi.out _ D0.out.db).mono ?_; rintro x w2 ⟨rfl, hd, hb⟩; have D1 := hid ((D0.out.step hd hb (fun _ hk => hk)).new 97 [.pointer (some ⟨p.f.gm, 0, none⟩), .int .i64 q, .int .i64 J]); clear hb hd))
      clear D0 HFi
      generalize w2.alloc _ = w3 at *
      generalize w2.heap.size = g7 at *
      go_wp2_with (first | (go_at_call 38; refine (HR.out _ D1.out.db).mono ?_; rintro x w4 ⟨rfl, hd, hb⟩; have D2 := hid (D1.out.step hd hb (fun _ hk => hk)); clear hb hd) | (refine wpList_load_g rfl 97 _ rfl g7 rfl (D1.out.get 0 rfl) rfl under97 size97 ?_))
      go_returns
      exact ⟨rfl, D2.out.db, D2.out.but⟩
  · simp only [hE, if_false] at HFi ⊢
    go_enter Try.func57, Try.ntmps57
    go_upto_region 2 with (first | (go_at_call 40; refine (HFi.out _ D0.out.db).mono ?_; rintro x w2 ⟨rfl, hd, hb⟩; have D1 := hid ((D0.out.step hd hb (fun _ hk => hk)).new 97 [.pointer none, .int .i64 0, .int .i64 0]); clear hb hd))
    clear D0 HFi
    generalize w2.alloc _ = w3 at *
    generalize w2.heap.size = g7 at *
    go_wp2_with fail
    go_returns
    exact ⟨rfl, D1.out.db, D1.out.but⟩
theorem cut_any (W : World) (p : Dp) (d : DS) (h : DB W p d) (hU : d.m.U) (s va : Int) (v0 : 0 ≤ va) (v1 : va < 4294967296) :
    Calls Try.prog 16 #[ptr p.g, .int .i64 s, .int .u32 va] W fun x W' => x = .returned (.int .i64 (d.cutE s va)) ∧ DB W' p (d.cut s va) ∧ ButL p.f.w W W' := by
  have HFi := hid (fun w (hw : DB w p d) => find2_any w p d hw hU s va v0 v1)
  have D0 := hid (DG.startw h)
  have HT := hid (fun w (hw : DB w p (d.fndD s va)) => turn44_any w p (d.fndD s va) hw (pf (d.w1 s va)) (spJ va))
  rw [(d.fndD_m s va).1, show d.m.word true (pf (d.w1 s va)) (spJ va) = d.w2 s va from rfl] at HT
  unfold DS.cutE DS.cut
  unfold DS.fndV at HFi
  clear h hU v0 v1
  generalize hw2 : d.w2 s va = V at *
  clear hw2
  generalize pf (d.w1 s va) = q at *
  generalize spJ va = J at *
  generalize d.fndE s va = E at *
  generalize hd1 : d.fndD s va = d1 at *
  clear hd1
  generalize empE V = X at *
  simp only [ptr, plV, zV3, rdF, wrF, fnV] at *
  by_cases hE : E = 0
  · subst hE
    simp only [if_true] at HFi ⊢
    go_enter Try.func16, Try.ntmps16
    go_upto_region 2 with (first | (go_at_call 40; refine (HFi.out _ D0.out.db).mono ?_; rintro x w2 ⟨rfl, hd, hb⟩; have D1 := hid ((D0.out.step hd hb (fun _ hk => hk)).new 97 [.pointer (some ⟨p.f.gm, 0, none⟩), .int .i64 q, .int .i64 J]); clear hb hd))
    clear D0 HFi
    generalize w2.alloc _ = w3 at *
    generalize w2.heap.size = g7 at *
    go_wp2_with (first | (go_at_call 42; refine (HT.out _ D1.out.db).mono ?_; rintro x w4 ⟨rfl, hd, hb⟩; have D2 := hid (D1.out.step hd hb (fun _ hk => hk)); clear hb hd) | (refine wpList_load_g rfl 97 _ rfl g7 rfl (D1.out.get 0 rfl) rfl under97 size97 ?_))
    go_returns
    exact ⟨rfl, D2.out.db, D2.out.but⟩
  · simp only [hE, if_false] at HFi ⊢
    go_enter Try.func16, Try.ntmps16
    go_upto_region 2 with (first | (go_at_call 40; refine (HFi.out _ D0.out.db).mono ?_; rintro x w2 ⟨rfl, hd, hb⟩; have D1 := hid ((D0.out.step hd hb (fun _ hk => hk)).new 97 [.pointer none, .int .i64 0, .int .i64 0]); clear hb hd))
    clear D0 HFi
    generalize w2.alloc _ = w3 at *
    generalize w2.heap.size = g7 at *
    go_wp2_with fail
    go_returns
    exact ⟨rfl, D1.out.db, D1.out.but⟩
theorem put_any (W : World) (p : Dp) (d : DS) (h : DB W p d) (hU : d.m.U) (s va : Int) (m : Mp) (v0 : 0 ≤ va) (v1 : va < 4294967296) :
    Calls Try.prog 18 #[ptr p.g, .int .i64 s, .int .u32 va, m.v] W fun x W' => x = .returned (.int .i64 (d.putE s va m)) ∧ DB W' p (d.put s va m) ∧ ButL p.f.w W W' := by
  have HFi := hid (fun w (hw : DB w p d) => find2_any w p d hw hU s va v0 v1)
  have D0 := hid ((DG.startw h).new 49 m.cs)
  have HF := hid (fun w => filled45_any w m)
  have HT := hid (fun w (hw : DB w p (d.fndD s va)) b1 b2 h1 h2 => turn82_any w p (d.fndD s va) hw (pf (d.w1 s va)) (spJ va) m b1 b2 h1 h2)
  rw [(d.fndD_m s va).1, show d.m.word true (pf (d.w1 s va)) (spJ va) = d.w2 s va from rfl] at HT
  unfold DS.putE DS.put
  unfold DS.fndV at HFi
  clear h hU v0 v1
  generalize hw2 : d.w2 s va = V at *
  clear hw2
  generalize pf (d.w1 s va) = q at *
  generalize spJ va = J at *
  generalize d.fndE s va = E at *
  generalize hd1 : d.fndD s va = d1 at *
  clear hd1
  generalize filE V m.err = X at *
  generalize filW V m.enc = Y at *
  simp only [ptr, plV, zV3, rdF, wrF, fnV, Mp.v, Mp.cs] at *
  by_cases hE : E = 0
  · subst hE
    simp only [if_true] at HFi ⊢
    go_enter Try.func18, Try.ntmps18
    go_upto_region 1 with fail
    generalize World.alloc _ _ = x0 at *
    generalize hg : W.heap.size = g7 at D0 ⊢
    clear hg
    go_upto_region 2 with (first | (go_at_call 40; refine (HFi.out _ D0.out.db).mono ?_; rintro x w2 ⟨rfl, hd, hb⟩; have D1 := hid ((D0.out.step hd hb (fun _ hk => hk)).new 97 [.pointer (some ⟨p.f.gm, 0, none⟩), .int .i64 q, .int .i64 J]); clear hb hd))
    clear D0 HFi
    generalize w2.alloc _ = w3 at *
    generalize w2.heap.size = g9 at *
    go_upto_region 4 with fail
    refine wp_region_held_drew (S := fun w => Cel w g9 97 [.pointer (some ⟨p.f.gm, 0, none⟩), .int .i64 q, .int .i64 J] ∧ Cel w g7 49 [.bool m.s, .int .i64 m.p, .bool m.wr, .bool m.ex]) (by kernel_rfl) ⟨D1.out.get 0 rfl, D1.out.get 1 rfl⟩ (fun hHeld => ?_)
    have D1b := hid (D1.out.on (Below.refl _ _).drew)
    clear D1
    have D1 := D1b
    clear D1b
    generalize World.drew _ = w4 at *
    refine tk 0 ⟨some 21, .load 97 (.tmp 9), 97, "space.go:51", #[], none⟩ (.agg #[.pointer (some ⟨p.f.gm, 0, none⟩), .int .i64 q, .int .i64 J]) ?_ (hy := yieldsIf_load_mid (by rfl) _ _ rfl _ _ rfl _ _ (fun w hSw => hSw.1.range) under97 rfl (by rw [size97]; rfl))
    simp only [Act.put, List.setIfInBounds_toArray, List.set_cons_zero, List.set_cons_succ]
    refine tk 1 ⟨some 22, .makeFunc (Fn.func 38) #[.tmp 21] #[], 99, "space.go:51", #[⟨0, .data⟩], none⟩ (.func (.func 38) #[.agg #[.pointer (some ⟨p.f.gm, 0, none⟩), .int .i64 q, .int .i64 J]] #[]) ?_
    simp only [Act.put, List.setIfInBounds_toArray, List.set_cons_zero, List.set_cons_succ]
    refine tk 2 ⟨some 23, .load 97 (.tmp 9), 97, "space.go:51", #[], none⟩ (.agg #[.pointer (some ⟨p.f.gm, 0, none⟩), .int .i64 q, .int .i64 J]) ?_ (hy := yieldsIf_load_mid (by rfl) _ _ rfl _ _ rfl _ _ (fun w hSw => hSw.1.range) under97 rfl (by rw [size97]; rfl))
    simp only [Act.put, List.setIfInBounds_toArray, List.set_cons_zero, List.set_cons_succ]
    refine tk 3 ⟨some 24, .makeFunc (Fn.func 43) #[.tmp 23] #[], 105, "space.go:51", #[⟨2, .data⟩], none⟩ (.func (.func 43) #[.agg #[.pointer (some ⟨p.f.gm, 0, none⟩), .int .i64 q, .int .i64 J]] #[]) ?_
    simp only [Act.put, List.setIfInBounds_toArray, List.set_cons_zero, List.set_cons_succ]
    refine tk 4 ⟨some 25, .load 49 (.tmp 7), 49, "space.go:51", #[], none⟩ (.agg #[.bool m.s, .int .i64 m.p, .bool m.wr, .bool m.ex]) ?_ (hy := yieldsIf_load_mid (by rfl) _ _ rfl _ _ rfl _ _ (fun w hSw => hSw.2.range) under49 rfl (by rw [size49]; rfl))
    simp only [Act.put, List.setIfInBounds_toArray, List.set_cons_zero, List.set_cons_succ]
    refine wpAnyH_ready (rs := [5]) (by kernel_rfl) (by simp) (AllReadyH.cons (o := ⟨some 26, .call { callee := .value (.func 45), args := #[.func 34, .tmp 25], argTypes := #[88, 49] }, 106, "space.go:51", #[⟨4, .data⟩], none⟩) rfl (fun KQ hK => ?_) AllReadyH.nil)
    go_simp
    refine (HF.out _).mono ?_
    rintro e w6 ⟨b1, b2, rfl, hB, hb1, hb2⟩
    have D2 := hid (D1.out.on hB.below)
    have HB := hid (And.intro (hB.get 1 rfl) (hB.get 0 rfl))
    clear hB hb1 hb2 D1 HF
    go_wp2_with fail
    refine hK.out _ _ ⟨D2.out.get 0 rfl, D2.out.get 1 rfl⟩ (fun hHeld => ?_)
    clear hK KQ
    try simp only [Act.put, List.setIfInBounds_toArray, List.set_cons_zero, List.set_cons_succ]
    refine wpAnyH_ready (rs := [6]) (by kernel_rfl) (by simp) (AllReadyH.cons (o := ⟨some 27, .call { callee := .value (.func 42), args := #[.tmp 22, .tmp 24, .tmp 26], argTypes := #[99, 105, 106] }, 27, "space.go:51", #[⟨1, .data⟩, ⟨3, .data⟩, ⟨5, .data⟩, ⟨5, .chain⟩], none⟩) rfl (fun KQ hK => ?_) AllReadyH.nil)
    go_simp
    refine (HT.out _ D2.out.db b1 b2 HB.out.1 HB.out.2).mono ?_
    rintro e w7 ⟨rfl, hd, hb⟩
    have D3 := hid (D2.out.step hd hb (fun _ hk => hk))
    clear hb hd D2 HT HB
    go_wp2_with fail
    refine hK.out _ _ ⟨D3.out.get 0 rfl, D3.out.get 1 rfl⟩ (fun hHeld => ?_)
    clear hK KQ
    try simp only [Act.put, List.setIfInBounds_toArray, List.set_cons_zero, List.set_cons_succ]
    refine wpAnyH_ready (rs := [7]) (by kernel_rfl) (by simp) (AllReadyH.cons (o := ⟨some 8, .assign (.tmp 27), 27, "space.go:51", #[⟨6, .data⟩, ⟨6, .chain⟩, ⟨0, .phase⟩, ⟨1, .phase⟩, ⟨2, .phase⟩, ⟨3, .phase⟩, ⟨4, .phase⟩, ⟨5, .phase⟩, ⟨6, .phase⟩], none⟩) rfl (fun KQ hK => ?_) AllReadyH.nil)
    go_simp
    refine hK.out _ _ ⟨D3.out.get 0 rfl, D3.out.get 1 rfl⟩ (fun hHeld => ?_)
    clear hK KQ
    try simp only [Act.put, List.setIfInBounds_toArray, List.set_cons_zero, List.set_cons_succ]
    refine wpAnyH_done (by kernel_rfl) ?_ _
    go_wp2_with fail
    go_returns
    exact ⟨rfl, D3.out.db, D3.out.but⟩
  · simp only [hE, if_false] at HFi ⊢
    go_enter Try.func18, Try.ntmps18
    go_upto_region 1 with fail
    generalize World.alloc _ _ = x0 at *
    generalize hg : W.heap.size = g7 at D0 ⊢
    clear hg
    go_upto_region 2 with (first | (go_at_call 40; refine (HFi.out _ D0.out.db).mono ?_; rintro x w2 ⟨rfl, hd, hb⟩; have D1 := hid ((D0.out.step hd hb (fun _ hk => hk)).new 97 [.pointer none, .int .i64 0, .int .i64 0]); clear hb hd))
    clear D0 HFi
    generalize w2.alloc _ = w3 at *
    generalize w2.heap.size = g9 at *
    go_wp2_with fail
    go_returns
    exact ⟨rfl, D1.out.db, D1.out.but⟩
theorem at_any2 (W : World) (p : Dp) (d : DS) (h : DB W p d) (hU : d.m.U) (s va : Int) (v0 : 0 ≤ va) (v1 : va < 4294967296) :
    Calls Try.prog 13 #[ptr p.g, .int .i64 s, .int .u32 va] W fun x W' => x = .returned (.tuple #[(d.atM s va).v, .int .i64 (d.atE s va)]) ∧ DB W' p (d.look s va) ∧ ButL p.f.w W W' := by
  have HFi := hid (fun w (hw : DB w p d) => find2_any w p d hw hU s va v0 v1)
  have D0 := hid ((DG.startw h).new 49 [.bool false, .int .i64 0, .bool false, .bool false])
  have HM := hid (fun w (hw : DB w p (d.fndD s va)) => memory_any w p (d.fndD s va) hw)
  have HT := hid (fun w (hw : DB w p (d.fndD s va)) => mapped2_any w p (d.fndD s va) hw ((d.fndD_m s va).2.2.2.2 hU) (pf (d.w1 s va)) (spJ va))
  rw [(MS.mE_at (d.fndD_m s va).2.1 _).1, (MS.mE_at (d.fndD_m s va).2.1 _).2, (d.fndD_m s va).1, show d.m.word true (pf (d.w1 s va)) (spJ va) = d.w2 s va from rfl] at HT
  unfold DS.atM DS.atE DS.look
  unfold DS.fndV at HFi
  clear h hU v0 v1
  generalize hw2 : d.w2 s va = V at *
  clear hw2
  generalize pf (d.w1 s va) = q at *
  generalize spJ va = J at *
  generalize d.fndE s va = E at *
  generalize hd1 : d.fndD s va = d1 at *
  clear hd1
  generalize d.m.mE V = X at *
  generalize d.m.mM V = M at *
  simp only [ptr, plV, zV3, rdF, Mp.v] at *
  by_cases hE : E = 0
  · subst hE
    simp only [if_true] at HFi ⊢
    go_enter Try.func13, Try.ntmps13
    go_upto_region 1 with fail
    generalize World.alloc _ _ = x0 at *
    generalize hg : W.heap.size = g6 at D0 ⊢
    have HG := hid hg
    clear hg
    go_upto_region 2 with (first | (go_at_call 40; refine (HFi.out _ D0.out.db).mono ?_; rintro x w2 ⟨rfl, hd, hb⟩; have D1 := hid ((D0.out.step hd hb (fun _ hk => hk)).new 97 [.pointer (some ⟨p.f.gm, 0, none⟩), .int .i64 q, .int .i64 J]); have HN : Hid (w2.heap.size ≠ g6) := hid (fun e => by have := ((D0.out.step hd hb (fun _ hk => hk)).get 0 rfl).lt; omega); clear hb hd))
    clear D0 HFi
    generalize w2.alloc _ = w3 at *
    generalize w2.heap.size = g8 at *
    go_upto_region 4 with fail
    refine wp_region_held_drew (S := fun w => Cel w g8 97 [.pointer (some ⟨p.f.gm, 0, none⟩), .int .i64 q, .int .i64 J]) (by kernel_rfl) (D1.out.get 0 rfl) (fun hHeld => ?_)
    have D1b := hid (D1.out.on (Below.refl _ _).drew)
    clear D1
    have D1 := D1b
    clear D1b
    generalize World.drew _ = w4 at *
    refine tk 0 ⟨some 21, .move (.tmp 0), 34, "space.go:69", #[], none⟩ (.pointer (some ⟨p.g, 0, none⟩)) ?_
    simp only [Act.put, List.setIfInBounds_toArray, List.set_cons_zero, List.set_cons_succ]
    refine tk 2 ⟨some 23, .load 97 (.tmp 8), 97, "space.go:69", #[], none⟩ (.agg #[.pointer (some ⟨p.f.gm, 0, none⟩), .int .i64 q, .int .i64 J]) ?_ (hy := yieldsIf_load_mid (by rfl) _ _ rfl _ _ rfl _ _ (fun w hSw => hSw.range) under97 rfl (by rw [size97]; rfl))
    simp only [Act.put, List.setIfInBounds_toArray, List.set_cons_zero, List.set_cons_succ]
    refine tk 3 ⟨some 24, .makeFunc (Fn.func 38) #[.tmp 23] #[], 99, "space.go:69", #[⟨2, .data⟩], none⟩ (.func (.func 38) #[.agg #[.pointer (some ⟨p.f.gm, 0, none⟩), .int .i64 q, .int .i64 J]] #[]) ?_
    simp only [Act.put, List.setIfInBounds_toArray, List.set_cons_zero, List.set_cons_succ]
    refine wpAnyH_ready (rs := [1]) (by kernel_rfl) (by simp) (AllReadyH.cons (o := ⟨some 22, .call { callee := .value (.func 21), args := #[.tmp 21], argTypes := #[34] }, 65, "space.go:69", #[⟨0, .data⟩], none⟩) rfl (fun KQ hK => ?_) AllReadyH.nil)
    go_simp
    refine (HM.out _ D1.out.db).mono ?_
    rintro e w6 ⟨rfl, rfl⟩
    clear HM
    go_wp2_with fail
    refine hK.out _ _ (D1.out.get 0 rfl) (fun hHeld => ?_)
    clear hK KQ
    try simp only [Act.put, List.setIfInBounds_toArray, List.set_cons_zero, List.set_cons_succ]
    refine wpAnyH_ready (rs := [4]) (by kernel_rfl) (by simp) (AllReadyH.cons (o := ⟨some 25, .call { callee := .value (.func 41), args := #[.tmp 22, .tmp 24], argTypes := #[65, 99] }, 50, "space.go:69", #[⟨1, .data⟩, ⟨3, .data⟩, ⟨1, .chain⟩], none⟩) rfl (fun KQ hK => ?_) AllReadyH.nil)
    go_simp
    refine (HT.out _ D1.out.db).mono ?_
    rintro e w7 ⟨rfl, hd, hb⟩
    have D3 := hid (D1.out.step hd hb (fun _ hk => hk))
    clear hb hd D1 HT
    go_wp2_with fail
    refine hK.out _ _ (D3.out.get 0 rfl) (fun hHeld => ?_)
    clear hK KQ
    try simp only [Act.put, List.setIfInBounds_toArray, List.set_cons_zero, List.set_cons_succ]
    refine tk 5 ⟨some 26, .extract (.tmp 25) 0, 49, "space.go:69", #[⟨4, .data⟩], none⟩ (.agg #[.bool M.s, .int .i64 M.p, .bool M.wr, .bool M.ex]) ?_
    simp only [Act.put, List.setIfInBounds_toArray, List.set_cons_zero, List.set_cons_succ]
    refine tk 6 ⟨some 27, .extract (.tmp 25) 1, 27, "space.go:69", #[⟨4, .data⟩], none⟩ (.int .i64 X) ?_
    simp only [Act.put, List.setIfInBounds_toArray, List.set_cons_zero, List.set_cons_succ]
    refine wpAnyH_ready (rs := [7]) (by kernel_rfl) (by simp) (AllReadyH.cons (o := ⟨none, .store 49 (.tmp 6) (.tmp 26), 0, "space.go:69", #[⟨5, .data⟩, ⟨4, .chain⟩, ⟨0, .phase⟩, ⟨1, .phase⟩, ⟨2, .phase⟩, ⟨3, .phase⟩, ⟨4, .phase⟩, ⟨5, .phase⟩, ⟨6, .phase⟩], none⟩) rfl (fun KQ hK => ?_) AllReadyH.nil)
    rw [if_pos (by rfl)]
    refine wp_store_st 49 _ _ rfl g6 [.bool M.s, .int .i64 M.p, .bool M.wr, .bool M.ex] rfl rfl (D3.out.get 1 rfl) size49 rfl rfl ?_
    intro w8 hc hb hs
    have D4 := hid (D3.out.tail.put (by simp) hc hb)
    have HC := hid hc
    have H8 := hid ((D3.out.get 0 rfl).but hb (by simpa using HN.out))
    clear hc hb hs
    refine hK.out _ _ H8.out (fun hHeld => ?_)
    clear hK KQ
    try simp only [Act.put]
    refine wpAnyH_ready (rs := [8]) (by kernel_rfl) (by simp) (AllReadyH.cons (o := ⟨some 7, .assign (.tmp 27), 27, "space.go:69", #[⟨6, .data⟩, ⟨7, .chain⟩, ⟨0, .phase⟩, ⟨1, .phase⟩, ⟨2, .phase⟩, ⟨3, .phase⟩, ⟨4, .phase⟩, ⟨5, .phase⟩, ⟨6, .phase⟩, ⟨7, .phase⟩], none⟩) rfl (fun KQ hK => ?_) AllReadyH.nil)
    go_simp
    refine hK.out _ _ H8.out (fun hHeld => ?_)
    clear hK KQ
    try simp only [Act.put, List.setIfInBounds_toArray, List.set_cons_zero, List.set_cons_succ]
    refine wpAnyH_done (by kernel_rfl) ?_ _
    go_wp2_with fail
    exact ret_st2 rfl rfl g6 _ rfl HC.out under49 rfl size49 ⟨rfl, D4.out.db, D4.out.but⟩
  · simp only [hE, if_false] at HFi ⊢
    go_enter Try.func13, Try.ntmps13
    go_upto_region 1 with fail
    generalize World.alloc _ _ = x0 at *
    generalize hg : W.heap.size = g6 at D0 ⊢
    have HG := hid hg
    clear hg
    go_upto_region 2 with (first | (go_at_call 40; refine (HFi.out _ D0.out.db).mono ?_; rintro x w2 ⟨rfl, hd, hb⟩; have D1 := hid ((D0.out.step hd hb (fun _ hk => hk)).new 97 [.pointer none, .int .i64 0, .int .i64 0]); clear hb hd))
    clear D0 HFi
    generalize w2.alloc _ = w3 at *
    generalize w2.heap.size = g8 at *
    go_wp2_with (first | (refine wpList_build_z49 rfl rfl ?_) | (refine wpList_store_st rfl 49 _ _ rfl g6 [.bool false, .int .i64 0, .bool false, .bool false] rfl rfl (D1.out.get 1 rfl) size49 rfl rfl ?_; intro w6 hc hb hs; have D4 := hid (D1.out.tail.put (by simp) hc hb); have HC := hid hc; clear hc hb hs))
    exact ret_st2 rfl rfl g6 _ rfl HC.out under49 rfl size49 ⟨rfl, D4.out.db, D4.out.but⟩
end Go.Proofs.Ytgbpbfnpeeciaaa
