import Derived.Test.YtllcbgdcepfdkaaGreatDoorP31
namespace Go.Proofs.YtllcbgdcepfdkaaGreatDoor
open Go.RowKit
set_option maxRecDepth 100000
set_option maxHeartbeats 4000000
def rdF (f : Fp) (pg off : Int) : Value := .func (.func 110) #[plV f pg off] #[]
def wrF (f : Fp) (pg off : Int) : Value := .func (.func 111) #[plV f pg off] #[]
/-- Is the word one that names a second-level table of the space's own? -/
def DS.isS (d : DS) (s w : Int) : Bool := decide (pfE w = 0) && d.own s (pf w) 4
theorem second2_any (W : World) (p : Dp) (d : DS) (h : DB W p d) (hU : d.m.U) (s t pg off : Int) :
    Calls Tryz.prog 175 #[tbV p s t, rdF p.f pg off] W fun x W' => x = .returned (.tuple #[.int .i64 (pf (d.m.word true pg off)), .bool (d.isS s (d.m.word true pg off))]) ∧ DB W' p (d.rd pg off) ∧ ButL p.f.w W W' := by
  have D0 := hid ((DG.startw h).new 170 [ptr p.g, .int .i64 s, .int .i64 t])
  have HW := hU.word true pg off
  have HR := hid (fun w (hw : DB w p d) => readd_any w p d hw pg off)
  have HF := hid (fun w => pf_any w _ HW.1 HW.2)
  have HO := hid (fun w (hw : DB w p (d.rd pg off)) => owns_any w p (d.rd pg off) hw s t (pf (d.m.word true pg off)) 4)
  rw [DS.rd_own] at HO
  unfold DS.isS rdF
  clear h hU HW
  generalize d.m.word true pg off = F at *
  generalize hO : d.own s (pf F) 4 = O at *
  clear hO
  generalize pf F = q at *
  generalize hE : pfE F = e at *
  clear hE
  simp only [tbV, ptr, plV] at *
  go_enter Tryz.func175, Tryz.ntmps175
  go_upto_region 1 with fail
  generalize W.alloc _ = X at *
  generalize hg : W.heap.size = g2 at D0 ⊢
  clear hg
  go_upto_region 2 with (first | (go_at_call 110; refine (HR.out _ D0.out.db).mono ?_; rintro x w2 ⟨rfl, hd, hb⟩; have D1 := hid (D0.out.step hd hb (fun _ hk => hk)); clear hb hd) | (go_at_call 214; refine (HF.out _).mono ?_; rintro x w3 ⟨rfl, rfl⟩))
  clear D0 HR HF
  by_cases he : e = 0
  · subst he
    go_wp2_with (first | (go_at_call 107; refine (HO.out _ D1.out.db).mono ?_; rintro x w4 ⟨rfl, hb⟩; have D2 := hid (D1.out.on hb); clear hb) | (refine wpList_load_g rfl 170 _ rfl g2 rfl (D1.out.get 0 rfl) rfl under90 size90 ?_))
    go_returns
    exact ⟨by simp, D2.out.db, D2.out.but⟩
  · go_wp2_with fail
    go_returns
    exact ⟨by simp [he], D1.out.db, D1.out.but⟩
theorem under49 : Tryz.prog.underlying 108 = some (.struct (Tryz.prog.fieldsOf 108)) := by kernel_rfl
theorem size49 : (Tryz.prog.info? 108).map (·.size) = some 4 := by kernel_rfl
theorem wpList_load_gm {ops : Array Oper} {rest : List Oper} {o : Oper} {a : Act} {w : World} {Q : Exit → Act → World → Prop} (hw : Region.wanted o (yielded ops a.tmps) = true) (ty : TypeId) (x : Operand) (ho : o.op = .load ty x)
    (b k : Nat) (hx : a.eval x = .pointer (some ⟨b, k, none⟩)) (cs : List Value) (d : TypeDesc) (hc : w.rangeAt b k cs)
    (hu : Tryz.prog.underlying ty = some d) (hd : d.isRow = true) (hi : (Tryz.prog.info? ty).map (·.size) = some cs.length)
    (h : wpList Tryz.prog ops Q rest (a.put o.dst (.agg cs.toArray)) w) : wpList Tryz.prog ops Q (o :: rest) a w :=
  wpList_step fun K hK => by simp only [hw, if_true]; exact wp_load_mid ty x ho b k hx cs d hc hu hd hi (hK _ _ h)
theorem Cel.part {w : World} {g : Nat} {t : TypeId} {cs : List Value} (h : Cel w g t cs) (k : Nat) (ds : List Value) (hd : ∀ j v, ds[j]? = some v → cs[k + j]? = some v) : w.rangeAt g k ds := fun j v hv => by rw [h.cell (k + j)]; exact hd j v hv
def Mp.cs (m : Mp) : List Value := [.bool m.s, .int .i64 m.p, .bool m.wr, .bool m.ex]
def MS.mE (m : MS) (w : Int) : Int := if psE w = 0 then (if (m.at (ps w).s (ps w).p).isSome then 0 else 90) else psE w
def MS.mM (m : MS) (w : Int) : Mp := if m.mE w = 0 then ps w else Mp.z
end Go.Proofs.YtllcbgdcepfdkaaGreatDoor
namespace Go.Proofs.YtllcbgdcepfdkaaGreatDoor
open Go.RowKit
set_option maxRecDepth 100000
set_option maxHeartbeats 4000000
def DS.w1 (d : DS) (s va : Int) : Int := d.m.word true (d.fst s) (spI va)
def DS.fndE (d : DS) (s va : Int) : Int := if d.folE s ≠ 0 then d.folE s else if spE va ≠ 0 then spE va else if d.isS s (d.w1 s va) = true then 0 else 141
def DS.fndD (d : DS) (s va : Int) : DS := if d.folE s ≠ 0 then d.folD s else if spE va ≠ 0 then d.folD s else (d.folD s).rd (d.fst s) (spI va)
def DS.fndV (d : DS) (p : Dp) (s va : Int) : Value := if d.fndE s va = 0 then plV p.f (pf (d.w1 s va)) (spJ va) else zV3
theorem DS.folD_m (d : DS) (s : Int) : (∀ a b c, (d.folD s).m.word a b c = d.m.word a b c) ∧ (∀ a b, (d.folD s).m.at a b = d.m.at a b) ∧ (∀ a, (d.folD s).ent a = d.ent a) ∧ (∀ a, (d.folD s).entE a = d.entE a) ∧ (d.m.U → (d.folD s).m.U) := by
  unfold DS.folD
  split
  · exact ⟨fun a b c => MS.read_word .., fun a b => MS.read_at .., fun a => (d.rd_ent _ _ a).1, fun a => (d.rd_ent _ _ a).2, fun h => MS.U.read h _ _ _⟩
  · exact ⟨fun _ _ _ => rfl, fun _ _ => rfl, fun _ => rfl, fun _ => rfl, fun h => h⟩
theorem DS.folD_isS (d : DS) (s a w : Int) : (d.folD s).isS a w = d.isS a w := by
  unfold DS.isS DS.own
  rw [(d.folD_m s).2.2.1]
theorem find2_any (W : World) (p : Dp) (d : DS) (h : DB W p d) (hU : d.m.U) (s va : Int) (v0 : 0 ≤ va) (v1 : va < 4294967296) :
    Calls Tryz.prog 115 #[ptr p.g, .int .i64 s, .int .u32 va] W fun x W' => x = .returned (.tuple #[d.fndV p s va, .int .i64 (d.fndE s va)]) ∧ DB W' p (d.fndD s va) ∧ ButL p.f.w W W' := by
  have HFo := hid (fun w (hw : DB w p d) => follow_any w p d hw hU s)
  have D0 := hid ((DG.startw h).new 175 [.pointer none, .int .i64 0, .int .i64 0])
  have HSp := hid (fun w => split_any w va v0 v1)
  have HS2 := hid (fun w (hw : DB w p (d.folD s)) => second2_any w p (d.folD s) hw ((d.folD_m s).2.2.2.2 hU) s (d.fst s) (d.fst s) (spI va))
  have HP := hid (fun w (hw : DB w p (d.folD s)) (a b : Int) => placep_any w p (d.folD s) hw s (d.fst s) a b)
  have HP2 := hid (fun w (hw : DB w p ((d.folD s).rd (d.fst s) (spI va))) (a b : Int) => placep_any w p _ hw s (d.fst s) a b)
  rw [(d.folD_m s).1, DS.folD_isS] at HS2
  unfold DS.fndV
  rw [show d.fndE s va = if d.folE s ≠ 0 then d.folE s else if spE va ≠ 0 then spE va else if d.isS s (d.w1 s va) = true then 0 else 141 from rfl, show d.fndD s va = if d.folE s ≠ 0 then d.folD s else if spE va ≠ 0 then d.folD s else (d.folD s).rd (d.fst s) (spI va) from rfl]
  unfold DS.w1 at *
  unfold DS.folV at HFo
  clear h hU
  generalize d.folE s = E at *
  generalize d.folD s = d1 at *
  generalize d.fst s = F at *
  generalize spE va = SE at *
  generalize spI va = I at *
  generalize spJ va = J at *
  generalize spO va = Oo at *
  generalize d.m.word true F I = V at *
  generalize d.isS s V = T at *
  generalize pf V = q at *
  clear v0 v1
  simp only [ptr, tbV, plV, zV3, rdF] at *
  by_cases h1 : E = 0
  · subst h1
    by_cases h2 : SE = 0
    · subst h2
      simp only [ne_eq, not_true_eq_false, if_false, if_true] at HFo ⊢
      go_enter Tryz.func115, Tryz.ntmps115
      go_upto_region 1 with fail
      generalize W.alloc _ = X at *
      generalize hg : W.heap.size = g6 at D0 ⊢
      clear hg
      go_upto_region 2 with (first | (go_at_call 106; refine (HFo.out _ D0.out.db).mono ?_; rintro x w2 ⟨rfl, hd, hb⟩; have D1 := hid ((D0.out.step hd hb (fun _ hk => hk)).new 170 [.pointer (some ⟨p.g, 0, none⟩), .int .i64 s, .int .i64 F]); have HN : Hid (w2.heap.size ≠ g6) := hid (fun e => by have := ((D0.out.step hd hb (fun _ hk => hk)).get 0 rfl).lt; omega); clear hb hd))
      clear D0 HFo
      generalize w2.alloc _ = w3 at *
      generalize w2.heap.size = g8 at *
      go_upto_region 7 with (first | (go_at_call 174; refine (HSp.out _).mono ?_; rintro x w5 ⟨rfl, rfl⟩))
      refine wp_region_held_drew (S := fun w => Cel w g8 170 [.pointer (some ⟨p.g, 0, none⟩), .int .i64 s, .int .i64 F]) (by kernel_rfl) (D1.out.get 0 rfl) (fun hHeld => ?_)
      have D1b := hid (D1.out.on (Below.refl _ _).drew)
      clear D1
      have D1 := D1b
      clear D1b
      generalize World.drew _ = w4 at *
      refine wpAnyH_take (i := 0) (oi := { dst := some 37, op := Op.load 170 (Operand.tmp 8), type := 170, pos := "table.go:102", after := #[], guard := none }) (v := .agg #[.pointer (some ⟨p.g, 0, none⟩), .int .i64 s, .int .i64 F]) rfl (by kernel_rfl) (by kernel_rfl) (by kernel_rfl) (fun _ _ _ h => h) (yieldsIf_load_mid (by rfl) _ _ rfl _ _ rfl _ _ (fun w hSw => hSw.range) under90 rfl (by rw [size90]; rfl)) (by assumption) ?_
      simp only [Act.put, List.setIfInBounds_toArray, List.set_cons_zero, List.set_cons_succ]
      refine wpAnyH_take (i := 1) (oi := { dst := some 38, op := Op.load 170 (Operand.tmp 8), type := 170, pos := "table.go:102", after := #[], guard := none }) (v := .agg #[.pointer (some ⟨p.g, 0, none⟩), .int .i64 s, .int .i64 F]) rfl (by kernel_rfl) (by kernel_rfl) (by kernel_rfl) (fun _ _ _ h => h) (yieldsIf_load_mid (by rfl) _ _ rfl _ _ rfl _ _ (fun w hSw => hSw.range) under90 rfl (by rw [size90]; rfl)) (by assumption) ?_
      simp only [Act.put, List.setIfInBounds_toArray, List.set_cons_zero, List.set_cons_succ]
      refine wpAnyH_take (i := 2) (oi := { dst := some 39, op := Op.fieldAddr 170 (Operand.tmp 8) 2, type := 0, pos := "table.go:102", after := #[], guard := none }) (v := .pointer (some ⟨g8, 2, none⟩)) rfl (by kernel_rfl) (by kernel_rfl) (by kernel_rfl) (fun _ _ _ h => h) (Or.inl ⟨by rfl, by intro w hSw; go_simp⟩) (by assumption) ?_
      simp only [Act.put, List.setIfInBounds_toArray, List.set_cons_zero, List.set_cons_succ]
      refine wpAnyH_take (i := 3) (oi := { dst := some 40, op := Op.load 3 (Operand.tmp 39), type := 3, pos := "table.go:102", after := #[{ on := 2, ground := Ground.data }], guard := none }) (v := .int .i64 F) rfl (by kernel_rfl) (by kernel_rfl) (by kernel_rfl) (fun _ _ _ h => h) (Or.inl ⟨by rfl, by intro w hSw; have hc := hSw.cell 2; simp only [List.getElem?_cons_zero, List.getElem?_cons_succ] at hc; go_simp⟩) (by assumption) ?_
      simp only [Act.put, List.setIfInBounds_toArray, List.set_cons_zero, List.set_cons_succ]
      refine wpAnyH_take (i := 4) (oi := { dst := some 41, op := Op.move (Operand.tmp 10), type := 3, pos := "table.go:102", after := #[], guard := none }) (v := .int .i64 I) rfl (by kernel_rfl) (by kernel_rfl) (by kernel_rfl) (fun _ _ _ h => h) (Or.inl ⟨by rfl, by intro w hSw; go_simp⟩) (by assumption) ?_
      simp only [Act.put, List.setIfInBounds_toArray, List.set_cons_zero, List.set_cons_succ]
      refine wpAnyH_ready (rs := [5]) (by kernel_rfl) (by simp) (AllReadyH.cons (o := { dst := some 42, op := Op.call { callee := Callee.value (Operand.func 108), args := #[Operand.tmp 38, Operand.tmp 40, Operand.tmp 41], argTypes := #[170, 3, 3] }, type := 175, pos := "table.go:102", after := #[{ on := 1, ground := Ground.data }, { on := 3, ground := Ground.data }, { on := 4, ground := Ground.data }], guard := none }) rfl (fun KQ hK => ?_) AllReadyH.nil)
      go_simp
      refine (HP.out _ D1.out.db F I).mono ?_
      rintro e w6 ⟨rfl, hb⟩
      have D2 := hid (D1.out.on hb)
      clear hb D1 HP
      go_wp2_with fail
      refine hK.out _ _ (D2.out.get 0 rfl) (fun hHeld => ?_)
      clear hK KQ
      try simp only [Act.put, List.setIfInBounds_toArray, List.set_cons_zero, List.set_cons_succ]
      refine wpAnyH_take (i := 6) (oi := { dst := some 43, op := Op.makeFunc (Fn.func 110) #[Operand.tmp 42] #[], type := 178, pos := "table.go:102", after := #[{ on := 5, ground := Ground.data }], guard := none }) (v := .func (.func 110) #[.agg #[.pointer (some ⟨p.f.gm, 0, none⟩), .int .i64 F, .int .i64 I]] #[]) rfl (by kernel_rfl) (by kernel_rfl) (by kernel_rfl) (fun _ _ _ h => h) (Or.inl ⟨by rfl, by intro w hSw; go_simp⟩) (by assumption) ?_
      simp only [Act.put, List.setIfInBounds_toArray, List.set_cons_zero, List.set_cons_succ]
      refine wpAnyH_ready (rs := [7]) (by kernel_rfl) (by simp) (AllReadyH.cons (o := { dst := some 44, op := Op.call { callee := Callee.value (Operand.func 175), args := #[Operand.tmp 37, Operand.tmp 43], argTypes := #[170, 178] }, type := 255, pos := "table.go:102", after := #[{ on := 0, ground := Ground.data }, { on := 6, ground := Ground.data }, { on := 5, ground := Ground.chain }], guard := none }) rfl (fun KQ hK => ?_) AllReadyH.nil)
      go_simp
      refine (HS2.out _ D2.out.db).mono ?_
      rintro e w7 ⟨rfl, hd, hb⟩
      have D3 := hid (D2.out.step hd hb (fun _ hk => hk))
      clear hb hd D2 HS2
      go_wp2_with fail
      refine hK.out _ _ (D3.out.get 0 rfl) (fun hHeld => ?_)
      clear hK KQ
      try simp only [Act.put, List.setIfInBounds_toArray, List.set_cons_zero, List.set_cons_succ]
      refine wpAnyH_take (i := 8) (oi := { dst := some 36, op := Op.move (Operand.tmp 44), type := 255, pos := "table.go:102", after := #[{ on := 7, ground := Ground.data }], guard := none }) (v := .tuple #[.int .i64 q, .bool T]) rfl (by kernel_rfl) (by kernel_rfl) (by kernel_rfl) (fun _ _ _ h => h) (Or.inl ⟨by rfl, by intro w hSw; go_simp⟩) (by assumption) ?_
      simp only [Act.put, List.setIfInBounds_toArray, List.set_cons_zero, List.set_cons_succ]
      refine wpAnyH_take (i := 9) (oi := { dst := some 45, op := Op.extract (Operand.tmp 36) 0, type := 3, pos := "table.go:102", after := #[{ on := 8, ground := Ground.data }], guard := none }) (v := .int .i64 q) rfl (by kernel_rfl) (by kernel_rfl) (by kernel_rfl) (fun _ _ _ h => h) (Or.inl ⟨by rfl, by intro w hSw; go_simp⟩) (by assumption) ?_
      simp only [Act.put, List.setIfInBounds_toArray, List.set_cons_zero, List.set_cons_succ]
      refine wpAnyH_take (i := 10) (oi := { dst := some 46, op := Op.extract (Operand.tmp 36) 1, type := 4, pos := "table.go:102", after := #[{ on := 8, ground := Ground.data }, { on := 11, ground := Ground.gcOnly Departure.lateStores }], guard := none }) (v := .bool T) rfl (by kernel_rfl) (by kernel_rfl) (by kernel_rfl) (fun _ _ _ h => h) (Or.inl ⟨by rfl, by intro w hSw; go_simp⟩) (by assumption) ?_
      simp only [Act.put, List.setIfInBounds_toArray, List.set_cons_zero, List.set_cons_succ]
      refine wpAnyH_ready (rs := [11]) (by kernel_rfl) (by simp) (AllReadyH.cons (o := { dst := some 13, op := Op.assign (Operand.tmp 45), type := 3, pos := "table.go:102", after := #[{ on := 9, ground := Ground.data }, { on := 7, ground := Ground.chain }, { on := 0, ground := Ground.phase }, { on := 1, ground := Ground.phase }, { on := 2, ground := Ground.phase }, { on := 3, ground := Ground.phase }, { on := 4, ground := Ground.phase }, { on := 5, ground := Ground.phase }, { on := 6, ground := Ground.phase }, { on := 7, ground := Ground.phase }, { on := 8, ground := Ground.phase }, { on := 9, ground := Ground.phase }, { on := 10, ground := Ground.textOnly Departure.lateStores }], guard := none }) rfl (fun KQ hK => ?_) AllReadyH.nil)
      go_simp
      refine hK.out _ _ (D3.out.get 0 rfl) (fun hHeld => ?_)
      clear hK KQ
      try simp only [Act.put, List.setIfInBounds_toArray, List.set_cons_zero, List.set_cons_succ]
      refine wpAnyH_ready (rs := [12]) (by kernel_rfl) (by simp) (AllReadyH.cons (o := { dst := some 14, op := Op.assign (Operand.tmp 46), type := 4, pos := "table.go:102", after := #[{ on := 10, ground := Ground.data }, { on := 11, ground := Ground.chain }, { on := 0, ground := Ground.phase }, { on := 1, ground := Ground.phase }, { on := 2, ground := Ground.phase }, { on := 3, ground := Ground.phase }, { on := 4, ground := Ground.phase }, { on := 5, ground := Ground.phase }, { on := 6, ground := Ground.phase }, { on := 7, ground := Ground.phase }, { on := 8, ground := Ground.phase }, { on := 9, ground := Ground.phase }, { on := 10, ground := Ground.phase }, { on := 11, ground := Ground.phase }], guard := none }) rfl (fun KQ hK => ?_) AllReadyH.nil)
      go_simp
      refine hK.out _ _ (D3.out.get 0 rfl) (fun hHeld => ?_)
      clear hK KQ
      try simp only [Act.put, List.setIfInBounds_toArray, List.set_cons_zero, List.set_cons_succ]
      refine wpAnyH_done (by kernel_rfl) ?_ _
      cases T with
      | true =>
        go_wp2_with (first | (go_at_call 108; refine (HP2.out _ D3.out.db _ _).mono ?_; rintro x w9 ⟨rfl, hb⟩; have D4 := hid (D3.out.on hb); clear hb) | (refine wpList_load_g rfl 170 _ rfl g8 rfl (D3.out.get 0 rfl) rfl under90 size90 ?_) | (refine wpList_store_st rfl 175 _ _ rfl g6 [.pointer (some ⟨p.f.gm, 0, none⟩), .int .i64 q, .int .i64 J] rfl rfl (D4.out.get 1 rfl) size97 rfl rfl ?_; intro w4 hc hb hs; have D9 := hid (D4.out.tail.put (by simp) hc hb); have HC := hid hc; clear hc hb hs))
        exact ret_st2 rfl rfl g6 _ rfl HC.out under97 rfl size97 ⟨rfl, D9.out.db, D9.out.but⟩
      | false =>
        go_wp2_with (first | (refine wpList_build_z97 rfl rfl ?_) | (refine wpList_store_st rfl 175 _ _ rfl g6 [.pointer none, .int .i64 0, .int .i64 0] rfl rfl (D3.out.get 1 rfl) size97 rfl rfl ?_; intro w4 hc hb hs; have D9 := hid (D3.out.tail.put (by simp) hc hb); have HC := hid hc; clear hc hb hs))
        exact ret_st2 rfl rfl g6 _ rfl HC.out under97 rfl size97 ⟨rfl, D9.out.db, D9.out.but⟩
    · simp only [h2, ne_eq, not_true_eq_false, not_false_eq_true, if_false, if_true] at HFo ⊢
      go_enter Tryz.func115, Tryz.ntmps115
      go_upto_region 1 with fail
      generalize W.alloc _ = X at *
      generalize hg : W.heap.size = g6 at D0 ⊢
      clear hg
      go_upto_region 2 with (first | (go_at_call 106; refine (HFo.out _ D0.out.db).mono ?_; rintro x w2 ⟨rfl, hd, hb⟩; have D1 := hid ((D0.out.step hd hb (fun _ hk => hk)).new 170 [.pointer (some ⟨p.g, 0, none⟩), .int .i64 s, .int .i64 F]); have HN : Hid (w2.heap.size ≠ g6) := hid (fun e => by have := ((D0.out.step hd hb (fun _ hk => hk)).get 0 rfl).lt; omega); clear hb hd))
      clear D0 HFo
      generalize w2.alloc _ = w3 at *
      generalize w2.heap.size = g8 at *
      go_wp2_with (first | (go_at_call 174; refine (HSp.out _).mono ?_; rintro x w5 ⟨rfl, rfl⟩) | (refine wpList_build_z97 rfl rfl ?_) | (refine wpList_store_st rfl 175 _ _ rfl g6 [.pointer none, .int .i64 0, .int .i64 0] rfl rfl (D1.out.get 1 rfl) size97 rfl rfl ?_; intro w4 hc hb hs; have D9 := hid (D1.out.tail.put (by simp) hc hb); have HC := hid hc; clear hc hb hs))
      exact ret_st2 rfl rfl g6 _ rfl HC.out under97 rfl size97 ⟨rfl, D9.out.db, D9.out.but⟩
  · simp only [h1, ne_eq, not_false_eq_true, if_false, if_true] at HFo ⊢
    go_enter Tryz.func115, Tryz.ntmps115
    go_upto_region 1 with fail
    generalize W.alloc _ = X at *
    generalize hg : W.heap.size = g6 at D0 ⊢
    clear hg
    go_upto_region 2 with (first | (go_at_call 106; refine (HFo.out _ D0.out.db).mono ?_; rintro x w2 ⟨rfl, hd, hb⟩; have D1 := hid ((D0.out.step hd hb (fun _ hk => hk)).new 170 [.pointer none, .int .i64 0, .int .i64 0]); have HN : Hid (w2.heap.size ≠ g6) := hid (fun e => by have := ((D0.out.step hd hb (fun _ hk => hk)).get 0 rfl).lt; omega); clear hb hd))
    clear D0 HFo
    generalize w2.alloc _ = w3 at *
    generalize w2.heap.size = g8 at *
    go_wp2_with (first | (refine wpList_build_z97 rfl rfl ?_) | (refine wpList_store_st rfl 175 _ _ rfl g6 [.pointer none, .int .i64 0, .int .i64 0] rfl rfl (D1.out.get 1 rfl) size97 rfl rfl ?_; intro w4 hc hb hs; have D9 := hid (D1.out.tail.put (by simp) hc hb); have HC := hid hc; clear hc hb hs))
    exact ret_st2 rfl rfl g6 _ rfl HC.out under97 rfl size97 ⟨rfl, D9.out.db, D9.out.but⟩
end Go.Proofs.YtllcbgdcepfdkaaGreatDoor
