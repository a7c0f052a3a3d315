import Derived.Test.YtllcbgdcepfdkaaGreatDoorP33
import Derived.Test.YtllcbgdcepfdkaaGreatDoorP26
namespace Go.Proofs.YtllcbgdcepfdkaaGreatDoor
open Go.RowKit
set_option maxRecDepth 100000
set_option maxHeartbeats 4000000
def DS.w2 (d : DS) (s va : Int) : Int := d.m.word true (pf (d.w1 s va)) (spJ va)
def DS.slotE (d : DS) (s va : Int) : Int := if d.fndE s va = 0 then (if d.w2 s va = 0 then 0 else 140) else d.fndE s va
def DS.look (d : DS) (s va : Int) : DS := if d.fndE s va = 0 then (d.fndD s va).rd (pf (d.w1 s va)) (spJ va) else d.fndD s va
def DS.putE (d : DS) (s va : Int) (m : Mp) : Int := if d.fndE s va = 0 then filE (d.w2 s va) m.err else d.fndE s va
def DS.put (d : DS) (s va : Int) (m : Mp) : DS := if d.fndE s va = 0 then (d.fndD s va).tn (pf (d.w1 s va)) (spJ va) (filW (d.w2 s va) m.enc) (filE (d.w2 s va) m.err) else d.fndD s va
def DS.cutE (d : DS) (s va : Int) : Int := if d.fndE s va = 0 then empE (d.w2 s va) else d.fndE s va
def DS.cut (d : DS) (s va : Int) : DS := if d.fndE s va = 0 then (d.fndD s va).tn (pf (d.w1 s va)) (spJ va) 0 (empE (d.w2 s va)) else d.fndD s va
def DS.atE (d : DS) (s va : Int) : Int := if d.fndE s va = 0 then d.m.mE (d.w2 s va) else d.fndE s va
def DS.atM (d : DS) (s va : Int) : Mp := if d.fndE s va = 0 then d.m.mM (d.w2 s va) else Mp.z
theorem DS.fndD_m (d : DS) (s va : Int) : (∀ a b c, (d.fndD s va).m.word a b c = d.m.word a b c) ∧ (∀ a b, (d.fndD s va).m.at a b = d.m.at a b) ∧ (∀ a, (d.fndD s va).ent a = d.ent a) ∧ (∀ a, (d.fndD s va).entE a = d.entE a) ∧ (d.m.U → (d.fndD s va).m.U) := by
  obtain ⟨a, b, c, e, f⟩ := d.folD_m s
  unfold DS.fndD
  split
  · exact ⟨a, b, c, e, f⟩
  · split
    · exact ⟨a, b, c, e, f⟩
    · exact ⟨fun x y z => (MS.read_word ..).trans (a x y z), fun x y => (MS.read_at ..).trans (b x y), fun x => ((DS.rd_ent _ _ _ x).1).trans (c x), fun x => ((DS.rd_ent _ _ _ x).2).trans (e x), fun h => MS.U.read (f h) _ _ _⟩
theorem slot_any (W : World) (p : Dp) (d : DS) (h : DB W p d) (hU : d.m.U) (s va : Int) (v0 : 0 ≤ va) (v1 : va < 4294967296) :
    Calls Tryz.prog 213 #[ptr p.g, .int .i64 s, .int .u32 va] W fun x W' => x = .returned (.int .i64 (d.slotE s va)) ∧ DB W' p (d.look s va) ∧ ButL p.f.w W W' := by
  have HFi := hid (fun w (hw : DB w p d) => find2_any w p d hw hU s va v0 v1)
  have D0 := hid (DG.startw h)
  have HR := hid (fun w (hw : DB w p (d.fndD s va)) => readd_any w p (d.fndD s va) hw (pf (d.w1 s va)) (spJ va))
  rw [(d.fndD_m s va).1, show d.m.word true (pf (d.w1 s va)) (spJ va) = d.w2 s va from rfl] at HR
  unfold DS.slotE DS.look
  unfold DS.fndV at HFi
  clear h hU v0 v1
  generalize hw2 : d.w2 s va = V at *
  clear hw2
  generalize pf (d.w1 s va) = q at *
  generalize spJ va = J at *
  generalize d.fndE s va = E at *
  generalize hd1 : d.fndD s va = d1 at *
  clear hd1
  simp only [ptr, plV, zV3] at *
  by_cases hE : E = 0
  · subst hE
    simp only [if_true] at HFi ⊢
    by_cases hV : V = 0
    · subst hV
      go_enter Tryz.func213, Tryz.ntmps213
      go_upto_region 2 with (first | (go_at_call 115; refine (HFi.out _ D0.out.db).mono ?_; rintro x w2 ⟨rfl, hd, hb⟩; have D1 := hid ((D0.out.step hd hb (fun _ hk => hk)).new 175 [.pointer (some ⟨p.f.gm, 0, none⟩), .int .i64 q, .int .i64 J]); clear hb hd))
      clear D0 HFi
      generalize w2.alloc _ = w3 at *
      generalize w2.heap.size = g7 at *
      go_wp2_with (first | (go_at_call 110; refine (HR.out _ D1.out.db).mono ?_; rintro x w4 ⟨rfl, hd, hb⟩; have D2 := hid (D1.out.step hd hb (fun _ hk => hk)); clear hb hd) | (refine wpList_load_g rfl 175 _ rfl g7 rfl (D1.out.get 0 rfl) rfl under97 size97 ?_))
      go_returns
      exact ⟨rfl, D2.out.db, D2.out.but⟩
    · rw [if_neg hV]
      go_enter Tryz.func213, Tryz.ntmps213
      go_upto_region 2 with (first | (go_at_call 115; refine (HFi.out _ D0.out.db).mono ?_; rintro x w2 ⟨rfl, hd, hb⟩; have D1 := hid ((D0.out.step hd hb (fun _ hk => hk)).new 175 [.pointer (some ⟨p.f.gm, 0, none⟩), .int .i64 q, .int .i64 J]); clear hb hd))
      clear D0 HFi
      generalize w2.alloc _ = w3 at *
      generalize w2.heap.size = g7 at *
      go_wp2_with (first | (go_at_call 110; refine (HR.out _ D1.out.db).mono ?_; rintro x w4 ⟨rfl, hd, hb⟩; have D2 := hid (D1.out.step hd hb (fun _ hk => hk)); clear hb hd) | (refine wpList_load_g rfl 175 _ rfl g7 rfl (D1.out.get 0 rfl) rfl under97 size97 ?_))
      go_returns
      exact ⟨rfl, D2.out.db, D2.out.but⟩
  · simp only [hE, if_false] at HFi ⊢
    go_enter Tryz.func213, Tryz.ntmps213
    go_upto_region 2 with (first | (go_at_call 115; refine (HFi.out _ D0.out.db).mono ?_; rintro x w2 ⟨rfl, hd, hb⟩; have D1 := hid ((D0.out.step hd hb (fun _ hk => hk)).new 175 [.pointer none, .int .i64 0, .int .i64 0]); clear hb hd))
    clear D0 HFi
    generalize w2.alloc _ = w3 at *
    generalize w2.heap.size = g7 at *
    go_wp2_with fail
    go_returns
    exact ⟨rfl, D1.out.db, D1.out.but⟩
theorem put_any (W : World) (p : Dp) (d : DS) (h : DB W p d) (hU : d.m.U) (s va : Int) (m : Mp) (v0 : 0 ≤ va) (v1 : va < 4294967296) :
    Calls Tryz.prog 52 #[ptr p.g, .int .i64 s, .int .u32 va, m.v] W fun x W' => x = .returned (.int .i64 (d.putE s va m)) ∧ DB W' p (d.put s va m) ∧ ButL p.f.w W W' := by
  have HFi := hid (fun w (hw : DB w p d) => find2_any w p d hw hU s va v0 v1)
  have D0 := hid ((DG.startw h).new 108 m.cs)
  have HF := hid (fun w => filled45_any w m)
  have HT := hid (fun w (hw : DB w p (d.fndD s va)) b1 b2 h1 h2 => turn82_any w p (d.fndD s va) hw (pf (d.w1 s va)) (spJ va) m b1 b2 h1 h2)
  rw [(d.fndD_m s va).1, show d.m.word true (pf (d.w1 s va)) (spJ va) = d.w2 s va from rfl] at HT
  unfold DS.putE DS.put
  unfold DS.fndV at HFi
  clear h hU v0 v1
  generalize hw2 : d.w2 s va = V at *
  clear hw2
  generalize pf (d.w1 s va) = q at *
  generalize spJ va = J at *
  generalize d.fndE s va = E at *
  generalize hd1 : d.fndD s va = d1 at *
  clear hd1
  generalize filE V m.err = X at *
  generalize filW V m.enc = Y at *
  simp only [ptr, plV, zV3, rdF, wrF, fnV, Mp.v, Mp.cs] at *
  by_cases hE : E = 0
  · subst hE
    simp only [if_true] at HFi ⊢
    go_enter Tryz.func52, Tryz.ntmps52
    go_upto_region 1 with fail
    generalize World.alloc _ _ = x0 at *
    generalize hg : W.heap.size = g7 at D0 ⊢
    clear hg
    go_upto_region 2 with (first | (go_at_call 115; refine (HFi.out _ D0.out.db).mono ?_; rintro x w2 ⟨rfl, hd, hb⟩; have D1 := hid ((D0.out.step hd hb (fun _ hk => hk)).new 175 [.pointer (some ⟨p.f.gm, 0, none⟩), .int .i64 q, .int .i64 J]); clear hb hd))
    clear D0 HFi
    generalize w2.alloc _ = w3 at *
    generalize w2.heap.size = g9 at *
    go_upto_region 4 with fail
    refine wp_region_held_drew (S := fun w => Cel w g9 175 [.pointer (some ⟨p.f.gm, 0, none⟩), .int .i64 q, .int .i64 J] ∧ Cel w g7 108 [.bool m.s, .int .i64 m.p, .bool m.wr, .bool m.ex]) (by kernel_rfl) ⟨D1.out.get 0 rfl, D1.out.get 1 rfl⟩ (fun hHeld => ?_)
    have D1b := hid (D1.out.on (Below.refl _ _).drew)
    clear D1
    have D1 := D1b
    clear D1b
    generalize World.drew _ = w4 at *
    refine wpAnyH_take (i := 0) (oi := { dst := some 21, op := Op.load 175 (Operand.tmp 9), type := 175, pos := "space.go:51", after := #[], guard := none }) (v := .agg #[.pointer (some ⟨p.f.gm, 0, none⟩), .int .i64 q, .int .i64 J]) rfl (by kernel_rfl) (by kernel_rfl) (by kernel_rfl) (fun _ _ _ h => h) (yieldsIf_load_mid (by rfl) _ _ rfl _ _ rfl _ _ (fun w hSw => hSw.1.range) under97 rfl (by rw [size97]; rfl)) (by assumption) ?_
    simp only [Act.put, List.setIfInBounds_toArray, List.set_cons_zero, List.set_cons_succ]
    refine wpAnyH_take (i := 1) (oi := { dst := some 22, op := Op.makeFunc (Fn.func 110) #[Operand.tmp 21] #[], type := 178, pos := "space.go:51", after := #[{ on := 0, ground := Ground.data }], guard := none }) (v := .func (.func 110) #[.agg #[.pointer (some ⟨p.f.gm, 0, none⟩), .int .i64 q, .int .i64 J]] #[]) rfl (by kernel_rfl) (by kernel_rfl) (by kernel_rfl) (fun _ _ _ h => h) (Or.inl ⟨by rfl, by intro w hSw; go_simp⟩) (by assumption) ?_
    simp only [Act.put, List.setIfInBounds_toArray, List.set_cons_zero, List.set_cons_succ]
    refine wpAnyH_take (i := 2) (oi := { dst := some 23, op := Op.load 175 (Operand.tmp 9), type := 175, pos := "space.go:51", after := #[], guard := none }) (v := .agg #[.pointer (some ⟨p.f.gm, 0, none⟩), .int .i64 q, .int .i64 J]) rfl (by kernel_rfl) (by kernel_rfl) (by kernel_rfl) (fun _ _ _ h => h) (yieldsIf_load_mid (by rfl) _ _ rfl _ _ rfl _ _ (fun w hSw => hSw.1.range) under97 rfl (by rw [size97]; rfl)) (by assumption) ?_
    simp only [Act.put, List.setIfInBounds_toArray, List.set_cons_zero, List.set_cons_succ]
    refine wpAnyH_take (i := 3) (oi := { dst := some 24, op := Op.makeFunc (Fn.func 111) #[Operand.tmp 23] #[], type := 179, pos := "space.go:51", after := #[{ on := 2, ground := Ground.data }], guard := none }) (v := .func (.func 111) #[.agg #[.pointer (some ⟨p.f.gm, 0, none⟩), .int .i64 q, .int .i64 J]] #[]) rfl (by kernel_rfl) (by kernel_rfl) (by kernel_rfl) (fun _ _ _ h => h) (Or.inl ⟨by rfl, by intro w hSw; go_simp⟩) (by assumption) ?_
    simp only [Act.put, List.setIfInBounds_toArray, List.set_cons_zero, List.set_cons_succ]
    refine wpAnyH_take (i := 4) (oi := { dst := some 25, op := Op.load 108 (Operand.tmp 7), type := 108, pos := "space.go:51", after := #[], guard := none }) (v := .agg #[.bool m.s, .int .i64 m.p, .bool m.wr, .bool m.ex]) rfl (by kernel_rfl) (by kernel_rfl) (by kernel_rfl) (fun _ _ _ h => h) (yieldsIf_load_mid (by rfl) _ _ rfl _ _ rfl _ _ (fun w hSw => hSw.2.range) under49 rfl (by rw [size49]; rfl)) (by assumption) ?_
    simp only [Act.put, List.setIfInBounds_toArray, List.set_cons_zero, List.set_cons_succ]
    refine wpAnyH_ready (rs := [5]) (by kernel_rfl) (by simp) (AllReadyH.cons (o := { dst := some 26, op := Op.call { callee := Callee.value (Operand.func 116), args := #[Operand.func 117, Operand.tmp 25], argTypes := #[188, 108] }, type := 180, pos := "space.go:51", after := #[{ on := 4, ground := Ground.data }], guard := none }) rfl (fun KQ hK => ?_) AllReadyH.nil)
    go_simp
    refine (HF.out _).mono ?_
    rintro e w6 ⟨b1, b2, rfl, hB, hb1, hb2⟩
    have D2 := hid (D1.out.on hB.below)
    have HB := hid (And.intro (hB.get 1 rfl) (hB.get 0 rfl))
    clear hB hb1 hb2 D1 HF
    go_wp2_with fail
    refine hK.out _ _ ⟨D2.out.get 0 rfl, D2.out.get 1 rfl⟩ (fun hHeld => ?_)
    clear hK KQ
    try simp only [Act.put, List.setIfInBounds_toArray, List.set_cons_zero, List.set_cons_succ]
    refine wpAnyH_ready (rs := [6]) (by kernel_rfl) (by simp) (AllReadyH.cons (o := { dst := some 27, op := Op.call { callee := Callee.value (Operand.func 109), args := #[Operand.tmp 22, Operand.tmp 24, Operand.tmp 26], argTypes := #[178, 179, 180] }, type := 39, pos := "space.go:51", after := #[{ on := 1, ground := Ground.data }, { on := 3, ground := Ground.data }, { on := 5, ground := Ground.data }, { on := 5, ground := Ground.chain }], guard := none }) rfl (fun KQ hK => ?_) AllReadyH.nil)
    go_simp
    refine (HT.out _ D2.out.db b1 b2 HB.out.1 HB.out.2).mono ?_
    rintro e w7 ⟨rfl, hd, hb⟩
    have D3 := hid (D2.out.step hd hb (fun _ hk => hk))
    clear hb hd D2 HT HB
    go_wp2_with fail
    refine hK.out _ _ ⟨D3.out.get 0 rfl, D3.out.get 1 rfl⟩ (fun hHeld => ?_)
    clear hK KQ
    try simp only [Act.put, List.setIfInBounds_toArray, List.set_cons_zero, List.set_cons_succ]
    refine wpAnyH_ready (rs := [7]) (by kernel_rfl) (by simp) (AllReadyH.cons (o := { dst := some 8, op := Op.assign (Operand.tmp 27), type := 39, pos := "space.go:51", after := #[{ on := 6, ground := Ground.data }, { on := 6, ground := Ground.chain }, { on := 0, ground := Ground.phase }, { on := 1, ground := Ground.phase }, { on := 2, ground := Ground.phase }, { on := 3, ground := Ground.phase }, { on := 4, ground := Ground.phase }, { on := 5, ground := Ground.phase }, { on := 6, ground := Ground.phase }], guard := none }) rfl (fun KQ hK => ?_) AllReadyH.nil)
    go_simp
    refine hK.out _ _ ⟨D3.out.get 0 rfl, D3.out.get 1 rfl⟩ (fun hHeld => ?_)
    clear hK KQ
    try simp only [Act.put, List.setIfInBounds_toArray, List.set_cons_zero, List.set_cons_succ]
    refine wpAnyH_done (by kernel_rfl) ?_ _
    go_wp2_with fail
    go_returns
    exact ⟨rfl, D3.out.db, D3.out.but⟩
  · simp only [hE, if_false] at HFi ⊢
    go_enter Tryz.func52, Tryz.ntmps52
    go_upto_region 1 with fail
    generalize World.alloc _ _ = x0 at *
    generalize hg : W.heap.size = g7 at D0 ⊢
    clear hg
    go_upto_region 2 with (first | (go_at_call 115; refine (HFi.out _ D0.out.db).mono ?_; rintro x w2 ⟨rfl, hd, hb⟩; have D1 := hid ((D0.out.step hd hb (fun _ hk => hk)).new 175 [.pointer none, .int .i64 0, .int .i64 0]); clear hb hd))
    clear D0 HFi
    generalize w2.alloc _ = w3 at *
    generalize w2.heap.size = g9 at *
    go_wp2_with fail
    go_returns
    exact ⟨rfl, D1.out.db, D1.out.but⟩
end Go.Proofs.YtllcbgdcepfdkaaGreatDoor
namespace Go.Proofs.YtllcbgdcepfdkaaGreatDoor
open Go.RowKit
set_option maxRecDepth 100000
set_option maxHeartbeats 4000000
def DS.tab (d : DS) (s : Int) : Int := if d.folE s = 0 then d.fst s else 0
theorem table_any (W : World) (p : Dp) (d : DS) (h : DB W p d) (hU : d.m.U) (s : Int) :
    Calls Tryz.prog 212 #[ptr p.g, .int .i64 s] W fun x W' => x = .returned (.tuple #[.int .i64 (d.tab s), .int .i64 (d.folE s)]) ∧ DB W' p (d.folD s) ∧ ButL p.f.w W W' := by
  have HFo := hid (fun w (hw : DB w p d) => follow_any w p d hw hU s)
  have D0 := hid (DG.startw h)
  unfold DS.folV at HFo
  unfold DS.tab
  clear h hU
  generalize d.folE s = E at *
  generalize d.folD s = d1 at *
  generalize d.fst s = F at *
  simp only [ptr, tbV, zV3] at *
  by_cases hE : E = 0
  · subst hE
    simp only [if_true] at HFo ⊢
    go_enter Tryz.func212, Tryz.ntmps212
    go_upto_region 2 with (first | (go_at_call 106; refine (HFo.out _ D0.out.db).mono ?_; rintro x w2 ⟨rfl, hd, hb⟩; have D1 := hid ((D0.out.step hd hb (fun _ hk => hk)).new 170 [.pointer (some ⟨p.g, 0, none⟩), .int .i64 s, .int .i64 F]); clear hb hd))
    generalize w2.alloc _ = w3 at *
    generalize w2.heap.size = g6 at *
    have c2 := (D1.out.get 0 rfl).cell 2
    simp only [List.getElem?_cons_zero, List.getElem?_cons_succ] at c2
    go_wp2_with fail
    go_returns
    exact ⟨rfl, D1.out.db, D1.out.but⟩
  · simp only [hE, if_false] at HFo ⊢
    go_enter Tryz.func212, Tryz.ntmps212
    go_upto_region 2 with (first | (go_at_call 106; refine (HFo.out _ D0.out.db).mono ?_; rintro x w2 ⟨rfl, hd, hb⟩; have D1 := hid ((D0.out.step hd hb (fun _ hk => hk)).new 170 [.pointer none, .int .i64 0, .int .i64 0]); clear hb hd))
    generalize w2.alloc _ = w3 at *
    generalize w2.heap.size = g6 at *
    have c2 := (D1.out.get 0 rfl).cell 2
    simp only [List.getElem?_cons_zero, List.getElem?_cons_succ] at c2
    go_wp2_with fail
    go_returns
    exact ⟨rfl, D1.out.db, D1.out.but⟩
def DS.addE (d : DS) (s i q : Int) : Int := if d.folE s = 0 then (if 0 ≤ i ∧ i < 256 then (if d.entE q = 0 then (if d.own s q 4 = true then filE (d.m.word true (d.fst s) i) (fE q) else 124) else d.entE q) else 4) else d.folE s
def DS.add (d : DS) (s i q : Int) : DS := if d.folE s = 0 ∧ (0 ≤ i ∧ i < 256) ∧ d.entE q = 0 ∧ d.own s q 4 = true then (d.folD s).tn (d.fst s) i (filW (d.m.word true (d.fst s) i) (fW q)) (filE (d.m.word true (d.fst s) i) (fE q)) else d.folD s
theorem addTable_any (W : World) (p : Dp) (d : DS) (h : DB W p d) (hU : d.m.U) (s i q : Int) :
    Calls Tryz.prog 50 #[ptr p.g, .int .i64 s, .int .i64 i, .int .i64 q] W fun x W' => x = .returned (.int .i64 (d.addE s i q)) ∧ DB W' p (d.add s i q) ∧ ButL p.f.w W W' := by
  have HFo := hid (fun w (hw : DB w p d) => follow_any w p d hw hU s)
  have HE := hid (fun w (hw : DB w p (d.folD s)) => entry_any w p (d.folD s) hw q)
  have HO := hid (fun w (hw : DB w p (d.folD s)) => owns_any w p (d.folD s) hw s (d.fst s) q 4)
  have HP := hid (fun w (hw : DB w p (d.folD s)) => placep_any w p (d.folD s) hw s (d.fst s) (d.fst s) i)
  have HF := hid (fun w => filled75_any w q)
  have HT := hid (fun w (hw : DB w p (d.folD s)) b1 b2 h1 h2 => turn99_any w p (d.folD s) hw (d.fst s) i q b1 b2 h1 h2)
  rw [(d.folD_m s).1] at HT
  rw [(d.folD_m s).2.2.1, (d.folD_m s).2.2.2.1] at HE
  rw [show (d.folD s).own s q 4 = d.own s q 4 by unfold DS.own; rw [(d.folD_m s).2.2.1]] at HO
  have D0 := hid (DG.startw h)
  unfold DS.folV at HFo
  unfold DS.addE DS.add
  clear h hU
  generalize d.folE s = E at *
  generalize d.folD s = d1 at *
  generalize d.fst s = F at *
  generalize d.m.word true F i = V at *
  generalize filE V (fE q) = X at *
  generalize filW V (fW q) = Y at *
  generalize d.own s q 4 = O at *
  generalize d.entE q = DE at *
  generalize d.ent q = D at *
  simp only [ptr, tbV, zV3, plV, rdF, wrF, fnV, En.v] at *
  by_cases h1 : E = 0
  · subst h1
    simp only [if_true, true_and] at HFo ⊢
    by_cases h2 : 0 ≤ i ∧ i < 256
    · obtain ⟨h2a, h2b⟩ := h2
      simp only [h2a, h2b, and_self, if_true, true_and]
      by_cases h3 : DE = 0
      · subst h3
        simp only [if_true, true_and]
        cases O with
        | true =>
          simp only [if_true]
          go_enter Tryz.func50, Tryz.ntmps50
          go_upto_region 2 with (first | (go_at_call 106; refine (HFo.out _ D0.out.db).mono ?_; rintro x w2 ⟨rfl, hd, hb⟩; have D1 := hid ((D0.out.step hd hb (fun _ hk => hk)).new 170 [.pointer (some ⟨p.g, 0, none⟩), .int .i64 s, .int .i64 F]); clear hb hd))
          clear D0 HFo
          generalize w2.alloc _ = w3 at *
          generalize w2.heap.size = g9 at *
          go_upto_region 9 with (first | (go_at_call 12; refine (HE.out _ D1.out.db).mono ?_; rintro x w4 ⟨rfl, hb⟩; have D2 := hid (D1.out.on hb); clear hb) | (refine wpList_store_st rfl 38 _ _ rfl w4.heap.size D.cs rfl rfl (Cel.new w4 38 En.zero.cs) sizeE rfl rfl ?_; intro w5 hc hb hs; have D3 := hid (D2.out.add hc hb); clear hc hb hs))
          have D4 := hid D3.out.tail
          clear D1 D2 D3
          have c2 := (D4.out.get 0 rfl).cell 2
          simp only [List.getElem?_cons_zero, List.getElem?_cons_succ] at c2
          go_upto_region 11 with (first | (go_at_call 107; refine (HO.out _ D4.out.db).mono ?_; rintro x w6 ⟨rfl, hb⟩; have D5 := hid (D4.out.on hb); clear hb) | (refine wpList_load_g rfl 170 _ rfl g9 rfl (D4.out.get 0 rfl) rfl under90 size90 ?_))
          clear D4 c2
          have c2 := (D5.out.get 0 rfl).cell 2
          simp only [List.getElem?_cons_zero, List.getElem?_cons_succ] at c2
          go_upto_region 12 with (first | (go_at_call 108; refine (HP.out _ D5.out.db).mono ?_; rintro x w7 ⟨rfl, hb⟩; have D1 := hid ((D5.out.on hb).new 175 [.pointer (some ⟨p.f.gm, 0, none⟩), .int .i64 F, .int .i64 i]); clear hb) | (refine wpList_load_g rfl 170 _ rfl g9 rfl (D5.out.get 0 rfl) rfl under90 size90 ?_))
          clear D5 c2
          generalize w7.alloc _ = w8 at *
          generalize w7.heap.size = g13 at *
          refine wp_region_held_drew (S := fun w => Cel w g13 175 [.pointer (some ⟨p.f.gm, 0, none⟩), .int .i64 F, .int .i64 i]) (by kernel_rfl) (D1.out.get 0 rfl) (fun hHeld => ?_)
          have D1b := hid (D1.out.on (Below.refl _ _).drew)
          clear D1
          have D1 := D1b
          clear D1b
          generalize World.drew _ = w14 at *
          refine wpAnyH_take (i := 0) (oi := { dst := some 47, op := Op.load 175 (Operand.tmp 13), type := 175, pos := "space.go:33", after := #[], guard := none }) (v := .agg #[.pointer (some ⟨p.f.gm, 0, none⟩), .int .i64 F, .int .i64 i]) rfl (by kernel_rfl) (by kernel_rfl) (by kernel_rfl) (fun _ _ _ h => h) (yieldsIf_load_mid (by rfl) _ _ rfl _ _ rfl _ _ (fun w hSw => hSw.range) under97 rfl (by rw [size97]; rfl)) (by assumption) ?_
          simp only [Act.put, List.setIfInBounds_toArray, List.set_cons_zero, List.set_cons_succ]
          refine wpAnyH_take (i := 1) (oi := { dst := some 48, op := Op.makeFunc (Fn.func 110) #[Operand.tmp 47] #[], type := 178, pos := "space.go:33", after := #[{ on := 0, ground := Ground.data }], guard := none }) (v := .func (.func 110) #[.agg #[.pointer (some ⟨p.f.gm, 0, none⟩), .int .i64 F, .int .i64 i]] #[]) rfl (by kernel_rfl) (by kernel_rfl) (by kernel_rfl) (fun _ _ _ h => h) (Or.inl ⟨by rfl, by intro w hSw; go_simp⟩) (by assumption) ?_
          simp only [Act.put, List.setIfInBounds_toArray, List.set_cons_zero, List.set_cons_succ]
          refine wpAnyH_take (i := 2) (oi := { dst := some 49, op := Op.load 175 (Operand.tmp 13), type := 175, pos := "space.go:33", after := #[], guard := none }) (v := .agg #[.pointer (some ⟨p.f.gm, 0, none⟩), .int .i64 F, .int .i64 i]) rfl (by kernel_rfl) (by kernel_rfl) (by kernel_rfl) (fun _ _ _ h => h) (yieldsIf_load_mid (by rfl) _ _ rfl _ _ rfl _ _ (fun w hSw => hSw.range) under97 rfl (by rw [size97]; rfl)) (by assumption) ?_
          simp only [Act.put, List.setIfInBounds_toArray, List.set_cons_zero, List.set_cons_succ]
          refine wpAnyH_take (i := 3) (oi := { dst := some 50, op := Op.makeFunc (Fn.func 111) #[Operand.tmp 49] #[], type := 179, pos := "space.go:33", after := #[{ on := 2, ground := Ground.data }], guard := none }) (v := .func (.func 111) #[.agg #[.pointer (some ⟨p.f.gm, 0, none⟩), .int .i64 F, .int .i64 i]] #[]) rfl (by kernel_rfl) (by kernel_rfl) (by kernel_rfl) (fun _ _ _ h => h) (Or.inl ⟨by rfl, by intro w hSw; go_simp⟩) (by assumption) ?_
          simp only [Act.put, List.setIfInBounds_toArray, List.set_cons_zero, List.set_cons_succ]
          refine wpAnyH_take (i := 4) (oi := { dst := some 51, op := Op.move (Operand.tmp 3), type := 3, pos := "space.go:33", after := #[], guard := none }) (v := .int .i64 q) rfl (by kernel_rfl) (by kernel_rfl) (by kernel_rfl) (fun _ _ _ h => h) (Or.inl ⟨by rfl, by intro w hSw; go_simp⟩) (by assumption) ?_
          simp only [Act.put, List.setIfInBounds_toArray, List.set_cons_zero, List.set_cons_succ]
          refine wpAnyH_ready (rs := [5]) (by kernel_rfl) (by simp) (AllReadyH.cons (o := { dst := some 52, op := Op.call { callee := Callee.value (Operand.func 112), args := #[Operand.func 113, Operand.tmp 51], argTypes := #[182, 3] }, type := 180, pos := "space.go:33", after := #[{ on := 4, ground := Ground.data }], guard := none }) rfl (fun KQ hK => ?_) AllReadyH.nil)
          go_simp
          refine (HF.out _).mono ?_
          rintro e w16 ⟨b1, b2, rfl, hB, hb1, hb2⟩
          have D2 := hid (D1.out.on hB.below)
          have HB := hid (And.intro (hB.get 1 rfl) (hB.get 0 rfl))
          clear hB hb1 hb2 D1 HF
          go_wp2_with fail
          refine hK.out _ _ (D2.out.get 0 rfl) (fun hHeld => ?_)
          clear hK KQ
          try simp only [Act.put, List.setIfInBounds_toArray, List.set_cons_zero, List.set_cons_succ]
          refine wpAnyH_ready (rs := [6]) (by kernel_rfl) (by simp) (AllReadyH.cons (o := { dst := some 53, op := Op.call { callee := Callee.value (Operand.func 109), args := #[Operand.tmp 48, Operand.tmp 50, Operand.tmp 52], argTypes := #[178, 179, 180] }, type := 39, pos := "space.go:33", after := #[{ on := 1, ground := Ground.data }, { on := 3, ground := Ground.data }, { on := 5, ground := Ground.data }, { on := 5, ground := Ground.chain }], guard := none }) rfl (fun KQ hK => ?_) AllReadyH.nil)
          go_simp
          refine (HT.out _ D2.out.db b1 b2 HB.out.1 HB.out.2).mono ?_
          rintro e w17 ⟨rfl, hd, hb⟩
          have D3 := hid (D2.out.step hd hb (fun _ hk => hk))
          clear hb hd D2 HT HB
          go_wp2_with fail
          refine hK.out _ _ (D3.out.get 0 rfl) (fun hHeld => ?_)
          clear hK KQ
          try simp only [Act.put, List.setIfInBounds_toArray, List.set_cons_zero, List.set_cons_succ]
          refine wpAnyH_ready (rs := [7]) (by kernel_rfl) (by simp) (AllReadyH.cons (o := { dst := some 8, op := Op.assign (Operand.tmp 53), type := 39, pos := "space.go:33", after := #[{ on := 6, ground := Ground.data }, { on := 6, ground := Ground.chain }, { on := 0, ground := Ground.phase }, { on := 1, ground := Ground.phase }, { on := 2, ground := Ground.phase }, { on := 3, ground := Ground.phase }, { on := 4, ground := Ground.phase }, { on := 5, ground := Ground.phase }, { on := 6, ground := Ground.phase }], guard := none }) rfl (fun KQ hK => ?_) AllReadyH.nil)
          go_simp
          refine hK.out _ _ (D3.out.get 0 rfl) (fun hHeld => ?_)
          clear hK KQ
          try simp only [Act.put, List.setIfInBounds_toArray, List.set_cons_zero, List.set_cons_succ]
          refine wpAnyH_done (by kernel_rfl) ?_ _
          go_wp2_with fail
          go_returns
          exact ⟨rfl, D3.out.db, D3.out.but⟩
        | false =>
          simp only [Bool.false_eq_true, if_false]
          go_enter Tryz.func50, Tryz.ntmps50
          go_upto_region 2 with (first | (go_at_call 106; refine (HFo.out _ D0.out.db).mono ?_; rintro x w2 ⟨rfl, hd, hb⟩; have D1 := hid ((D0.out.step hd hb (fun _ hk => hk)).new 170 [.pointer (some ⟨p.g, 0, none⟩), .int .i64 s, .int .i64 F]); clear hb hd))
          clear D0 HFo
          generalize w2.alloc _ = w3 at *
          generalize w2.heap.size = g9 at *
          go_upto_region 9 with (first | (go_at_call 12; refine (HE.out _ D1.out.db).mono ?_; rintro x w4 ⟨rfl, hb⟩; have D2 := hid (D1.out.on hb); clear hb) | (refine wpList_store_st rfl 38 _ _ rfl w4.heap.size D.cs rfl rfl (Cel.new w4 38 En.zero.cs) sizeE rfl rfl ?_; intro w5 hc hb hs; have D3 := hid (D2.out.add hc hb); clear hc hb hs))
          have D4 := hid D3.out.tail
          clear D1 D2 D3
          have c2 := (D4.out.get 0 rfl).cell 2
          simp only [List.getElem?_cons_zero, List.getElem?_cons_succ] at c2
          go_wp2_with (first | (go_at_call 107; refine (HO.out _ D4.out.db).mono ?_; rintro x w6 ⟨rfl, hb⟩; have D5 := hid (D4.out.on hb); clear hb) | (refine wpList_load_g rfl 170 _ rfl g9 rfl (D4.out.get 0 rfl) rfl under90 size90 ?_))
          go_returns
          exact ⟨rfl, D5.out.db, D5.out.but⟩
      · simp only [h3, if_false, false_and]
        go_enter Tryz.func50, Tryz.ntmps50
        go_upto_region 2 with (first | (go_at_call 106; refine (HFo.out _ D0.out.db).mono ?_; rintro x w2 ⟨rfl, hd, hb⟩; have D1 := hid ((D0.out.step hd hb (fun _ hk => hk)).new 170 [.pointer (some ⟨p.g, 0, none⟩), .int .i64 s, .int .i64 F]); clear hb hd))
        clear D0 HFo
        generalize w2.alloc _ = w3 at *
        generalize w2.heap.size = g9 at *
        go_wp2_with (first | (go_at_call 12; refine (HE.out _ D1.out.db).mono ?_; rintro x w4 ⟨rfl, hb⟩; have D2 := hid (D1.out.on hb); clear hb) | (refine wpList_store_st rfl 38 _ _ rfl w4.heap.size D.cs rfl rfl (Cel.new w4 38 En.zero.cs) sizeE rfl rfl ?_; intro w5 hc hb hs; have D3 := hid (D2.out.add hc hb); clear hc hb hs))
        go_returns
        exact ⟨rfl, D3.out.db, D3.out.but⟩
    · rw [if_neg h2, if_neg (fun h => h2 h.1)]
      have h2' : i < 0 ∨ (0 ≤ i ∧ 256 ≤ i) := by omega
      clear h2
      rcases h2' with h2 | ⟨h2, h3⟩
      · go_enter Tryz.func50, Tryz.ntmps50
        go_upto_region 2 with (first | (go_at_call 106; refine (HFo.out _ D0.out.db).mono ?_; rintro x w2 ⟨rfl, hd, hb⟩; have D1 := hid ((D0.out.step hd hb (fun _ hk => hk)).new 170 [.pointer (some ⟨p.g, 0, none⟩), .int .i64 s, .int .i64 F]); clear hb hd))
        clear D0 HFo
        generalize w2.alloc _ = w3 at *
        generalize w2.heap.size = g9 at *
        go_wp2_with fail
        go_returns
        exact ⟨rfl, D1.out.db, D1.out.but⟩
      · go_enter Tryz.func50, Tryz.ntmps50
        go_upto_region 2 with (first | (go_at_call 106; refine (HFo.out _ D0.out.db).mono ?_; rintro x w2 ⟨rfl, hd, hb⟩; have D1 := hid ((D0.out.step hd hb (fun _ hk => hk)).new 170 [.pointer (some ⟨p.g, 0, none⟩), .int .i64 s, .int .i64 F]); clear hb hd))
        clear D0 HFo
        generalize w2.alloc _ = w3 at *
        generalize w2.heap.size = g9 at *
        go_wp2_with fail
        go_returns
        exact ⟨rfl, D1.out.db, D1.out.but⟩
  · simp only [h1, if_false, false_and] at HFo ⊢
    go_enter Tryz.func50, Tryz.ntmps50
    go_upto_region 2 with (first | (go_at_call 106; refine (HFo.out _ D0.out.db).mono ?_; rintro x w2 ⟨rfl, hd, hb⟩; have D1 := hid ((D0.out.step hd hb (fun _ hk => hk)).new 170 [.pointer none, .int .i64 0, .int .i64 0]); clear hb hd))
    clear D0 HFo
    generalize w2.alloc _ = w3 at *
    generalize w2.heap.size = g9 at *
    go_wp2_with fail
    go_returns
    exact ⟨rfl, D1.out.db, D1.out.but⟩
end Go.Proofs.YtllcbgdcepfdkaaGreatDoor
namespace Go.Proofs.YtllcbgdcepfdkaaGreatDoor
open Go.RowKit
set_option maxHeartbeats 2000000
set_option maxRecDepth 100000
def ldE (L : List Int) (k : Nat) : En := dec (wd L (1 + 2 * k)) (wd L (2 + 2 * k))
def ldS (n : Nat) (L : List Int) (k : Nat) : Bool := dok (wd L (1 + 2 * k)) (wd L (2 + 2 * k)) && decide ((ldE L k).o < (n : Int))
def ldok (n : Nat) (L : List Int) : Bool := decide (L.length = 1 + 2 * n) && (decide (wd L 0 ≤ 64) && (List.range n).all (ldS n L))
def DS.load (m : MS) (L : List Int) : DS := ⟨m, wd L 0, (List.range m.ns).map (ldE L)⟩
theorem wd_at {L : List Int} {k : Nat} (h : k < L.length) : L[k]? = some (wd L k) := by
  rw [List.getElem?_eq_getElem h, wd, List.getD_eq_getElem?_getD, List.getElem?_eq_getElem h]; rfl
theorem wd_mem {L : List Int} {k : Nat} (h : k < L.length) : wd L k ∈ L := List.mem_of_getElem? (wd_at h)
theorem ld_at (L : List Int) (n k : Nat) (h : k < n) : ((List.range n).map (ldE L)).getD k En.zero = ldE L k := by
  rw [List.getD_eq_getElem?_getD, List.getElem?_map, List.getElem?_range h]; rfl
theorem ldok_iff (n : Nat) (L : List Int) : ldok n L = true ↔ L.length = 1 + 2 * n ∧ wd L 0 ≤ 64 ∧ ∀ k, k < n → ldS n L k = true := by
  simp [ldok, List.all_eq_true]
theorem ldS_yes {n : Nat} {L : List Int} {k : Nat} (h : ldS n L k = true) : e0 (ldE L k) = wd L (1 + 2 * k) ∧ e1 (ldE L k) = wd L (2 + 2 * k) ∧ (ldE L k).ok = true ∧ (ldE L k).o < (n : Int) := by
  simp only [ldS, Bool.and_eq_true, decide_eq_true_eq] at h
  have h1 := dok_ok h.1
  have h2 : ldE L k = fld (wd L (1 + 2 * k)) (wd L (2 + 2 * k)) := by unfold ldE dec; rw [if_pos h.1]
  rw [h2] at h ⊢
  exact ⟨h1.2.1, h1.2.2, h1.1, h.2⟩
theorem load_ws {m : MS} {L : List Int} (h : ldok m.ns L = true) : (DS.load m L).ws = L := by
  obtain ⟨h1, h2, h3⟩ := (ldok_iff _ _).1 h
  apply List.ext_getElem?
  intro j
  have hl : (DS.load m L).ws.length = 1 + 2 * m.ns := by rw [DS.ws, wdsOf_len]; simp [DS.load]
  by_cases hj : j < 1 + 2 * m.ns
  · rw [wd_at (L := L) (by omega)]
    cases j with
    | zero => rfl
    | succ i =>
      have hk : i / 2 < m.ns := by omega
      have ha := wdsOf_at (wd L 0) ((List.range m.ns).map (ldE L)) (i / 2) (by simpa using hk)
      rw [ld_at L m.ns _ hk] at ha
      have hs := ldS_yes (h3 _ hk)
      rcases Nat.mod_two_eq_zero_or_one i with e | e
      · have : i + 1 = 1 + 2 * (i / 2) := by omega
        rw [this]
        exact ha.1.trans (by rw [hs.1])
      · have : i + 1 = 2 + 2 * (i / 2) := by omega
        rw [this]
        exact ha.2.trans (by rw [hs.2.1])
  · rw [List.getElem?_eq_none (by omega), List.getElem?_eq_none (by omega)]
theorem load_ok {m : MS} {L : List Int} (h : ldok m.ns L = true) (h64 : m.ns ≤ 64) (hr : ∀ x ∈ L, 0 ≤ x ∧ x < 4294967296) : (DS.load m L).Ok := by
  obtain ⟨h1, h2, h3⟩ := (ldok_iff _ _).1 h
  refine ⟨by simp [DS.load], h64, fun k hk => ?_, fun k hk => ?_, (hr _ (wd_mem (by omega))).1, h2⟩
  · rw [DS.at, DS.load, ld_at L m.ns k hk]; exact (ldS_yes (h3 k hk)).2.2.1
  · rw [DS.at, DS.load, ld_at L m.ns k hk]; exact (ldS_yes (h3 k hk)).2.2.2
theorem sound_any (W : World) (f : Fp) (m : MS) {g gw off n c : Nat} {L : List Int} (hm : Mem W f m) (h : DV W g f.gm gw off n c L) (hr : ∀ x ∈ L, 0 ≤ x ∧ x < 4294967296) (k : Nat) (hk : 2 * k + 2 < n) (hk1 : k ≤ 1000) :
    Calls Tryz.prog 88 #[ptr g, .int .i64 (k : Int)] W fun e W' => e = .returned (.bool (ldS m.ns L k)) ∧ Below W.heap.size W W' := by
  have hl := h.len
  have HP := hid (pair_any W h k hk hk1 _ _ (wd_at (by omega)) (wd_at (by omega)))
  have ra := hr _ (wd_mem (k := 1 + 2 * k) (by omega))
  have rb := hr _ (wd_mem (k := 2 + 2 * k) (by omega))
  have HD := hid (fun W => decode_any W _ _ ra.1 ra.2 rb.1 rb.2)
  have HPg := hid (fun w (hw : Mem w f m ∧ DV w g f.gm gw off n c L) => pages_dv hw.1 hw.2)
  have B0 : Hid (Bag W W []) := hid ⟨by simp, Below.refl _ _⟩
  have HX : Hid (Mem W f m ∧ DV W g f.gm gw off n c L) := hid ⟨hm, h⟩
  have HS : Hid (ldS m.ns L k = (dok (wd L (1 + 2 * k)) (wd L (2 + 2 * k)) && decide ((dec (wd L (1 + 2 * k)) (wd L (2 + 2 * k))).o < (m.ns : Int)))) := hid rfl
  have hdk : decE (wd L (1 + 2 * k)) (wd L (2 + 2 * k)) = if dok (wd L (1 + 2 * k)) (wd L (2 + 2 * k)) = true then 0 else 110 := rfl
  generalize ldS m.ns L k = R at *
  clear ra rb hl hm h hr hk hk1
  generalize wd L (1 + 2 * k) = a at *
  generalize wd L (2 + 2 * k) = b at *
  generalize dec a b = D at *
  generalize decE a b = DE at *
  generalize dok a b = dk at *
  obtain ⟨xt, xo, xr, xs, xx⟩ := D
  simp only at HS
  simp only [ptr, En.v, En.cs, twoV] at HP HD HPg ⊢
  cases dk
  · simp only [Bool.false_eq_true, if_false] at hdk
    subst hdk
    have hR : R = false := by rw [HS.out]; rfl
    subst hR
    clear HS
    go_enter Tryz.func88, Tryz.ntmps88
    go_upto_region 2 with (first | (go_at_call 91; refine HP.out.mono ?_; rintro e w1 ⟨rfl, hb⟩; have B1 := hid (B0.out.on hb); have HX1 : Hid (Mem w1 f m ∧ DV w1 g f.gm gw off n c L) := hid ⟨HX.out.1.on hb, HX.out.2.on hb⟩; clear hb) | (go_at_call 90; refine (HD.out _).mono ?_; rintro e w2 ⟨rfl, hb⟩; have B2 := hid (B1.out.on hb); have HX2 : Hid (Mem w2 f m ∧ DV w2 g f.gm gw off n c L) := hid ⟨HX1.out.1.on hb, HX1.out.2.on hb⟩; clear hb) | (refine wpList_store_st rfl 38 _ _ rfl w2.heap.size [.int .i64 xt, .int .i64 xo, .int .i64 xr, .int .i64 xs, .bool xx] rfl rfl (Cel.new w2 38 En.zero.cs) sizeE rfl rfl ?_; intro w3 hc hb hs; have B3 := hid (B2.out.add hc hb); clear hc hb hs))
    generalize w2.heap.size = g5 at *
    have B4 := hid (B3.out.on (Below.refl _ _).drew)
    refine wp_region_held_drew (S := fun w => Cel w g5 38 [.int .i64 xt, .int .i64 xo, .int .i64 xr, .int .i64 xs, .bool xx]) (by kernel_rfl) (B4.out.get 0 rfl) (fun hHeld => ?_)
    refine wpAnyH_take (i := 0) (oi := { dst := some 14, op := Op.move (Operand.tmp 6), type := 39, pos := "words.go:41", after := #[], guard := none }) (v := .int .i64 110) rfl (by kernel_rfl) (by kernel_rfl) (by kernel_rfl) (fun _ _ _ h => h) (Or.inl ⟨by rfl, by intro w hSw; go_simp⟩) (by assumption) ?_
    simp only [Act.put, List.setIfInBounds_toArray, List.set_cons_zero, List.set_cons_succ]
    refine wpAnyH_take (i := 1) (oi := { dst := some 15, op := Op.binOp BinOp.eql 39 (Operand.tmp 14) (Operand.const (Value.int IntKind.i64 0)) 39, type := 4, pos := "words.go:41", after := #[{ on := 0, ground := Ground.data }], guard := none }) (v := .bool false) rfl (by kernel_rfl) (by kernel_rfl) (by kernel_rfl) (fun _ _ _ h => h) (Or.inl ⟨by rfl, by intro w hSw; go_simp⟩) (by assumption) ?_
    simp only [Act.put, List.setIfInBounds_toArray, List.set_cons_zero, List.set_cons_succ]
    refine wpAnyH_take (i := 2) (oi := { dst := some 16, op := Op.move (Operand.tmp 15), type := 4, pos := "words.go:41", after := #[{ on := 1, ground := Ground.data }], guard := none }) (v := .bool false) rfl (by kernel_rfl) (by kernel_rfl) (by kernel_rfl) (fun _ _ _ h => h) (Or.inl ⟨by rfl, by intro w hSw; go_simp⟩) (by assumption) ?_
    simp only [Act.put, List.setIfInBounds_toArray, List.set_cons_zero, List.set_cons_succ]
    refine wpAnyH_take (i := 3) (oi := { dst := some 17, op := Op.fieldAddr 38 (Operand.tmp 5) 1, type := 0, pos := "words.go:41", after := #[{ on := 2, ground := Ground.guard }], guard := some (2, true) }) (v := undef) rfl (by kernel_rfl) (by kernel_rfl) (by kernel_rfl) (fun _ _ _ h => h) (Or.inr ⟨by rfl, rfl⟩) (by assumption) ?_
    simp only [Act.put, List.setIfInBounds_toArray, List.set_cons_zero, List.set_cons_succ]
    refine wpAnyH_take (i := 4) (oi := { dst := some 18, op := Op.load 3 (Operand.tmp 17), type := 3, pos := "words.go:41", after := #[{ on := 3, ground := Ground.data }, { on := 2, ground := Ground.guard }], guard := some (2, true) }) (v := undef) rfl (by kernel_rfl) (by kernel_rfl) (by kernel_rfl) (fun _ _ _ h => h) (Or.inr ⟨by rfl, rfl⟩) (by assumption) ?_
    simp only [Act.put, List.setIfInBounds_toArray, List.set_cons_zero, List.set_cons_succ]
    refine wpAnyH_take (i := 5) (oi := { dst := some 19, op := Op.move (Operand.tmp 0), type := 25, pos := "words.go:41", after := #[{ on := 2, ground := Ground.guard }], guard := some (2, true) }) (v := undef) rfl (by kernel_rfl) (by kernel_rfl) (by kernel_rfl) (fun _ _ _ h => h) (Or.inr ⟨by rfl, rfl⟩) (by assumption) ?_
    simp only [Act.put, List.setIfInBounds_toArray, List.set_cons_zero, List.set_cons_succ]
    refine wpAnyH_take (i := 6) (oi := { dst := some 20, op := Op.call { callee := Callee.value (Operand.func 39), args := #[Operand.tmp 19], argTypes := #[25] }, type := 3, pos := "words.go:41", after := #[{ on := 5, ground := Ground.data }, { on := 2, ground := Ground.chain }, { on := 2, ground := Ground.guard }], guard := some (2, true) }) (v := undef) rfl (by kernel_rfl) (by kernel_rfl) (by kernel_rfl) (fun _ _ _ h => h) (Or.inr ⟨by rfl, rfl⟩) (by assumption) ?_
    simp only [Act.put, List.setIfInBounds_toArray, List.set_cons_zero, List.set_cons_succ]
    refine wpAnyH_take (i := 7) (oi := { dst := some 21, op := Op.binOp BinOp.lss 3 (Operand.tmp 18) (Operand.tmp 20) 3, type := 4, pos := "words.go:41", after := #[{ on := 4, ground := Ground.data }, { on := 6, ground := Ground.data }, { on := 2, ground := Ground.guard }], guard := some (2, true) }) (v := undef) rfl (by kernel_rfl) (by kernel_rfl) (by kernel_rfl) (fun _ _ _ h => h) (Or.inr ⟨by rfl, rfl⟩) (by assumption) ?_
    simp only [Act.put, List.setIfInBounds_toArray, List.set_cons_zero, List.set_cons_succ]
    refine wpAnyH_take (i := 8) (oi := { dst := some 22, op := Op.pick (Operand.tmp 16) (Operand.tmp 21) (Operand.const (Value.bool false)), type := 4, pos := "words.go:41", after := #[{ on := 2, ground := Ground.data }, { on := 7, ground := Ground.data }], guard := none }) (v := .bool false) rfl (by kernel_rfl) (by kernel_rfl) (by kernel_rfl) (fun _ _ _ h => h) (Or.inl ⟨by rfl, by intro w hSw; go_simp⟩) (by assumption) ?_
    simp only [Act.put, List.setIfInBounds_toArray, List.set_cons_zero, List.set_cons_succ]
    refine wpAnyH_ready (rs := [9]) (by kernel_rfl) (by simp) (AllReadyH.cons (o := { dst := some 4, op := Op.assign (Operand.tmp 22), type := 4, pos := "words.go:41", after := #[{ on := 8, ground := Ground.data }, { on := 6, ground := Ground.chain }, { on := 0, ground := Ground.phase }, { on := 1, ground := Ground.phase }, { on := 2, ground := Ground.phase }, { on := 3, ground := Ground.phase }, { on := 4, ground := Ground.phase }, { on := 5, ground := Ground.phase }, { on := 6, ground := Ground.phase }, { on := 7, ground := Ground.phase }, { on := 8, ground := Ground.phase }], guard := none }) rfl (fun KQ hK => ?_) AllReadyH.nil)
    go_simp
    refine hK.out _ _ (B4.out.get 0 rfl) (fun hHeld => ?_)
    clear hK KQ
    try simp only [Act.put, List.setIfInBounds_toArray, List.set_cons_zero, List.set_cons_succ]
    refine wpAnyH_done (by kernel_rfl) ?_ _
    go_wp2_with fail
    go_ret
    exact ⟨rfl, B4.out.below⟩
  · simp only [if_true] at hdk
    subst hdk
    have hR : R = decide (xo < (m.ns : Int)) := by rw [HS.out, Bool.true_and]
    subst hR
    clear HS
    generalize (m.ns : Int) = N at *
    go_enter Tryz.func88, Tryz.ntmps88
    go_upto_region 2 with (first | (go_at_call 91; refine HP.out.mono ?_; rintro e w1 ⟨rfl, hb⟩; have B1 := hid (B0.out.on hb); have HX1 : Hid (Mem w1 f m ∧ DV w1 g f.gm gw off n c L) := hid ⟨HX.out.1.on hb, HX.out.2.on hb⟩; clear hb) | (go_at_call 90; refine (HD.out _).mono ?_; rintro e w2 ⟨rfl, hb⟩; have B2 := hid (B1.out.on hb); have HX2 : Hid (Mem w2 f m ∧ DV w2 g f.gm gw off n c L) := hid ⟨HX1.out.1.on hb, HX1.out.2.on hb⟩; clear hb) | (refine wpList_store_st rfl 38 _ _ rfl w2.heap.size [.int .i64 xt, .int .i64 xo, .int .i64 xr, .int .i64 xs, .bool xx] rfl rfl (Cel.new w2 38 En.zero.cs) sizeE rfl rfl ?_; intro w3 hc hb hs; have B3 := hid (B2.out.add hc hb); have HX3 : Hid (Mem w3 f m ∧ DV w3 g f.gm gw off n c L) := hid ⟨(HX2.out.1.on (below_one w2 (.cells En.zero.cs.toArray 38))).frame hb (fun q hq hm => by rw [List.mem_singleton] at hm; have := HX2.out.1.lt q hq; omega), (HX2.out.2.on (below_one w2 (.cells En.zero.cs.toArray 38))).but hb (by have := HX2.out.2.cel.lt; simp; omega) (by have := HX2.out.2.lt; simp; omega)⟩; clear hc hb hs))
    generalize w2.heap.size = g5 at *
    have B4 := hid (B3.out.on (Below.refl _ _).drew)
    have HX4 : Hid (Mem w3.drew f m ∧ DV w3.drew g f.gm gw off n c L) := hid ⟨HX3.out.1.on (Below.refl _ _).drew, HX3.out.2.on (Below.refl _ _).drew⟩
    refine wp_region_held_drew (S := fun w => Cel w g5 38 [.int .i64 xt, .int .i64 xo, .int .i64 xr, .int .i64 xs, .bool xx]) (by kernel_rfl) (B4.out.get 0 rfl) (fun hHeld => ?_)
    refine wpAnyH_take (i := 0) (oi := { dst := some 14, op := Op.move (Operand.tmp 6), type := 39, pos := "words.go:41", after := #[], guard := none }) (v := .int .i64 0) rfl (by kernel_rfl) (by kernel_rfl) (by kernel_rfl) (fun _ _ _ h => h) (Or.inl ⟨by rfl, by intro w hSw; go_simp⟩) (by assumption) ?_
    simp only [Act.put, List.setIfInBounds_toArray, List.set_cons_zero, List.set_cons_succ]
    refine wpAnyH_take (i := 1) (oi := { dst := some 15, op := Op.binOp BinOp.eql 39 (Operand.tmp 14) (Operand.const (Value.int IntKind.i64 0)) 39, type := 4, pos := "words.go:41", after := #[{ on := 0, ground := Ground.data }], guard := none }) (v := .bool true) rfl (by kernel_rfl) (by kernel_rfl) (by kernel_rfl) (fun _ _ _ h => h) (Or.inl ⟨by rfl, by intro w hSw; go_simp⟩) (by assumption) ?_
    simp only [Act.put, List.setIfInBounds_toArray, List.set_cons_zero, List.set_cons_succ]
    refine wpAnyH_take (i := 2) (oi := { dst := some 16, op := Op.move (Operand.tmp 15), type := 4, pos := "words.go:41", after := #[{ on := 1, ground := Ground.data }], guard := none }) (v := .bool true) rfl (by kernel_rfl) (by kernel_rfl) (by kernel_rfl) (fun _ _ _ h => h) (Or.inl ⟨by rfl, by intro w hSw; go_simp⟩) (by assumption) ?_
    simp only [Act.put, List.setIfInBounds_toArray, List.set_cons_zero, List.set_cons_succ]
    refine wpAnyH_take (i := 3) (oi := { dst := some 17, op := Op.fieldAddr 38 (Operand.tmp 5) 1, type := 0, pos := "words.go:41", after := #[{ on := 2, ground := Ground.guard }], guard := some (2, true) }) (v := .pointer (some ⟨g5, 1, none⟩)) rfl (by kernel_rfl) (by kernel_rfl) (by kernel_rfl) (fun _ _ _ h => h) (Or.inl ⟨by rfl, by intro w hSw; go_simp⟩) (by assumption) ?_
    simp only [Act.put, List.setIfInBounds_toArray, List.set_cons_zero, List.set_cons_succ]
    refine wpAnyH_take (i := 4) (oi := { dst := some 18, op := Op.load 3 (Operand.tmp 17), type := 3, pos := "words.go:41", after := #[{ on := 3, ground := Ground.data }, { on := 2, ground := Ground.guard }], guard := some (2, true) }) (v := .int .i64 xo) rfl (by kernel_rfl) (by kernel_rfl) (by kernel_rfl) (fun _ _ _ h => h) (Or.inl ⟨by rfl, by intro w hSw; have hc := hSw.cell 1; simp only [List.getElem?_cons_zero, List.getElem?_cons_succ] at hc; go_simp⟩) (by assumption) ?_
    simp only [Act.put, List.setIfInBounds_toArray, List.set_cons_zero, List.set_cons_succ]
    refine wpAnyH_take (i := 5) (oi := { dst := some 19, op := Op.move (Operand.tmp 0), type := 25, pos := "words.go:41", after := #[{ on := 2, ground := Ground.guard }], guard := some (2, true) }) (v := .pointer (some ⟨g, 0, none⟩)) rfl (by kernel_rfl) (by kernel_rfl) (by kernel_rfl) (fun _ _ _ h => h) (Or.inl ⟨by rfl, by intro w hSw; go_simp⟩) (by assumption) ?_
    simp only [Act.put, List.setIfInBounds_toArray, List.set_cons_zero, List.set_cons_succ]
    refine wpAnyH_ready (rs := [6]) (by kernel_rfl) (by simp) (AllReadyH.cons (o := { dst := some 20, op := Op.call { callee := Callee.value (Operand.func 39), args := #[Operand.tmp 19], argTypes := #[25] }, type := 3, pos := "words.go:41", after := #[{ on := 5, ground := Ground.data }, { on := 2, ground := Ground.chain }, { on := 2, ground := Ground.guard }], guard := some (2, true) }) rfl (fun KQ hK => ?_) AllReadyH.nil)
    go_simp
    refine (HPg.out _ HX4.out).mono ?_
    rintro e w5 ⟨rfl, hw5⟩
    subst hw5
    go_wp2_with fail
    refine hK.out _ _ (B4.out.get 0 rfl) (fun hHeld => ?_)
    clear hK KQ
    try simp only [Act.put, List.setIfInBounds_toArray, List.set_cons_zero, List.set_cons_succ]
    refine wpAnyH_take (i := 7) (oi := { dst := some 21, op := Op.binOp BinOp.lss 3 (Operand.tmp 18) (Operand.tmp 20) 3, type := 4, pos := "words.go:41", after := #[{ on := 4, ground := Ground.data }, { on := 6, ground := Ground.data }, { on := 2, ground := Ground.guard }], guard := some (2, true) }) (v := .bool (decide (xo < N))) rfl (by kernel_rfl) (by kernel_rfl) (by kernel_rfl) (fun _ _ _ h => h) (Or.inl ⟨by rfl, by intro w hSw; go_simp⟩) (by assumption) ?_
    simp only [Act.put, List.setIfInBounds_toArray, List.set_cons_zero, List.set_cons_succ]
    refine wpAnyH_take (i := 8) (oi := { dst := some 22, op := Op.pick (Operand.tmp 16) (Operand.tmp 21) (Operand.const (Value.bool false)), type := 4, pos := "words.go:41", after := #[{ on := 2, ground := Ground.data }, { on := 7, ground := Ground.data }], guard := none }) (v := .bool (decide (xo < N))) rfl (by kernel_rfl) (by kernel_rfl) (by kernel_rfl) (fun _ _ _ h => h) (Or.inl ⟨by rfl, by intro w hSw; go_simp⟩) (by assumption) ?_
    simp only [Act.put, List.setIfInBounds_toArray, List.set_cons_zero, List.set_cons_succ]
    refine wpAnyH_ready (rs := [9]) (by kernel_rfl) (by simp) (AllReadyH.cons (o := { dst := some 4, op := Op.assign (Operand.tmp 22), type := 4, pos := "words.go:41", after := #[{ on := 8, ground := Ground.data }, { on := 6, ground := Ground.chain }, { on := 0, ground := Ground.phase }, { on := 1, ground := Ground.phase }, { on := 2, ground := Ground.phase }, { on := 3, ground := Ground.phase }, { on := 4, ground := Ground.phase }, { on := 5, ground := Ground.phase }, { on := 6, ground := Ground.phase }, { on := 7, ground := Ground.phase }, { on := 8, ground := Ground.phase }], guard := none }) rfl (fun KQ hK => ?_) AllReadyH.nil)
    go_simp
    refine hK.out _ _ (B4.out.get 0 rfl) (fun hHeld => ?_)
    clear hK KQ
    try simp only [Act.put, List.setIfInBounds_toArray, List.set_cons_zero, List.set_cons_succ]
    refine wpAnyH_done (by kernel_rfl) ?_ _
    go_wp2_with fail
    go_ret
    exact ⟨rfl, B4.out.below⟩
end Go.Proofs.YtllcbgdcepfdkaaGreatDoor
