import Derived.Test.YtgbpbfnpeeciaaaGreatP25
import Derived.Test.YtgbpbfnpeeciaaaGreatP01
namespace Go.Proofs.YtgbpbfnpeeciaaaGreat
open Go.RowKit
set_option maxRecDepth 100000
set_option maxHeartbeats 4000000
def rdF (f : Fp) (pg off : Int) : Value := .func (.func 79) #[plV f pg off] #[]
def wrF (f : Fp) (pg off : Int) : Value := .func (.func 80) #[plV f pg off] #[]
def DS.isS (d : DS) (s w : Int) : Bool := decide (pfE w = 0) && d.own s (pf w) 4
theorem second2_any (W : World) (p : Dp) (d : DS) (h : DB W p d) (hU : d.m.U) (s t pg off : Int) :
    Calls Tryz.prog 96 #[tbV p s t, rdF p.f pg off] W fun x W' => x = .returned (.tuple #[.int .i64 (pf (d.m.word true pg off)), .bool (d.isS s (d.m.word true pg off))]) ∧ DB W' p (d.rd pg off) ∧ ButL p.f.w W W' := by
  have D0 := hid ((DG.startw h).new 139 [ptr p.g, .int .i64 s, .int .i64 t])
  have HW := hU.word true pg off
  have HR := hid (fun w (hw : DB w p d) => readd_any w p d hw pg off)
  have HF := hid (fun w => pf_any w _ HW.1 HW.2)
  have HO := hid (fun w (hw : DB w p (d.rd pg off)) => owns_any w p (d.rd pg off) hw s t (pf (d.m.word true pg off)) 4)
  rw [DS.rd_own] at HO
  unfold DS.isS rdF
  clear h hU HW
  generalize d.m.word true pg off = F at *
  generalize hO : d.own s (pf F) 4 = O at *
  clear hO
  generalize pf F = q at *
  generalize hE : pfE F = e at *
  clear hE
  simp only [tbV, ptr, plV] at *
  go_enter Tryz.func96, Tryz.ntmps96
  go_upto_region 1 with fail
  generalize W.alloc _ = X at *
  generalize hg : W.heap.size = g2 at D0 ⊢
  clear hg
  go_upto_region 2 with (first | (go_at_call 79; refine (HR.out _ D0.out.db).mono ?_; rintro x w2 ⟨rfl, hd, hb⟩; have D1 := hid (D0.out.step hd hb (fun _ hk => hk)); clear hb hd) | (go_at_call 119; refine (HF.out _).mono ?_; rintro x w3 ⟨rfl, rfl⟩))
  clear D0 HR HF
  by_cases he : e = 0
  · subst he
    go_wp2_with (first | (go_at_call 76; refine (HO.out _ D1.out.db).mono ?_; rintro x w4 ⟨rfl, hb⟩; have D2 := hid (D1.out.on hb); clear hb) | (refine wpList_load_g rfl 139 _ rfl g2 rfl (D1.out.get 0 rfl) rfl under90 size90 ?_))
    go_returns
    exact ⟨by simp, D2.out.db, D2.out.but⟩
  · go_wp2_with fail
    go_returns
    exact ⟨by simp [he], D1.out.db, D1.out.but⟩
theorem under49 : Tryz.prog.underlying 88 = some (.struct (Tryz.prog.fieldsOf 88)) := by kernel_rfl
theorem size49 : (Tryz.prog.info? 88).map (·.size) = some 4 := by kernel_rfl
theorem under47 : Tryz.prog.underlying 67 = some (.struct (Tryz.prog.fieldsOf 67)) := by kernel_rfl
theorem size47 : (Tryz.prog.info? 67).map (·.size) = some 2 := by kernel_rfl
theorem built_z49 : Tryz.prog.built 88 [] = some #[.bool false, .int .i64 0, .bool false, .bool false] := by kernel_rfl
theorem wpList_build_z49 {ops : Array Oper} {rest : List Oper} {o : Oper} {a : Act} {w : World} {Q : Exit → Act → World → Prop} (hgd : o.guard = none) (ho : o.op = .build 88 #[])
    (h : wpList Tryz.prog ops Q rest (a.put o.dst (.agg #[.bool false, .int .i64 0, .bool false, .bool false])) w) : wpList Tryz.prog ops Q (o :: rest) a w :=
  wpList_build_f hgd 88 _ ho #[] (by simp) _ built_z49 h
theorem wpList_load_gm {ops : Array Oper} {rest : List Oper} {o : Oper} {a : Act} {w : World} {Q : Exit → Act → World → Prop} (hw : Region.wanted o (yielded ops a.tmps) = true) (ty : TypeId) (x : Operand) (ho : o.op = .load ty x)
    (b k : Nat) (hx : a.eval x = .pointer (some ⟨b, k, none⟩)) (cs : List Value) (d : TypeDesc) (hc : w.rangeAt b k cs)
    (hu : Tryz.prog.underlying ty = some d) (hd : d.isRow = true) (hi : (Tryz.prog.info? ty).map (·.size) = some cs.length)
    (h : wpList Tryz.prog ops Q rest (a.put o.dst (.agg cs.toArray)) w) : wpList Tryz.prog ops Q (o :: rest) a w :=
  wpList_step fun K hK => by simp only [hw, if_true]; exact wp_load_mid ty x ho b k hx cs d hc hu hd hi (hK _ _ h)
theorem Cel.part {w : World} {g : Nat} {t : TypeId} {cs : List Value} (h : Cel w g t cs) (k : Nat) (ds : List Value) (hd : ∀ j v, ds[j]? = some v → cs[k + j]? = some v) : w.rangeAt g k ds := fun j v hv => by rw [h.cell (k + j)]; exact hd j v hv
def Mp.cs (m : Mp) : List Value := [.bool m.s, .int .i64 m.p, .bool m.wr, .bool m.ex]
theorem Cel.frm {w : World} {g : Nat} {t : TypeId} {m : Mp} (h : Cel w g t [.bool m.s, .int .i64 m.p, .bool m.wr, .bool m.ex]) : w.rangeAt g 0 [.bool m.s, .int .i64 m.p] := h.part 0 _ (fun j v hv => by
  match j with
  | 0 => simpa using hv
  | 1 => simpa using hv
  | j + 2 => simp at hv)
def MS.mE (m : MS) (w : Int) : Int := if psE w = 0 then (if (m.at (ps w).s (ps w).p).isSome then 0 else 90) else psE w
def MS.mM (m : MS) (w : Int) : Mp := if m.mE w = 0 then ps w else Mp.z
theorem ps_z {w : Int} (h : psE w ≠ 0) : ps w = Mp.z := by
  unfold ps psE at *
  by_cases h0 : w = 0
  · subst h0; rw [if_neg (by decide)]
  · rw [if_neg h0] at h
    by_cases h1 : PsOk w
    · rw [if_pos h1] at h; exact absurd rfl h
    · rw [if_neg h1]
end Go.Proofs.YtgbpbfnpeeciaaaGreat
namespace Go.Proofs.YtgbpbfnpeeciaaaGreat
open Go.RowKit
set_option maxRecDepth 100000
set_option maxHeartbeats 4000000
def DS.w1 (d : DS) (s va : Int) : Int := d.m.word true (d.fst s) (spI va)
def DS.fndE (d : DS) (s va : Int) : Int := if d.folE s ≠ 0 then d.folE s else if spE va ≠ 0 then spE va else if d.isS s (d.w1 s va) = true then 0 else 141
def DS.fndD (d : DS) (s va : Int) : DS := if d.folE s ≠ 0 then d.folD s else if spE va ≠ 0 then d.folD s else (d.folD s).rd (d.fst s) (spI va)
def DS.fndV (d : DS) (p : Dp) (s va : Int) : Value := if d.fndE s va = 0 then plV p.f (pf (d.w1 s va)) (spJ va) else zV3
theorem DS.folD_m (d : DS) (s : Int) : (∀ a b c, (d.folD s).m.word a b c = d.m.word a b c) ∧ (∀ a b, (d.folD s).m.at a b = d.m.at a b) ∧ (∀ a, (d.folD s).ent a = d.ent a) ∧ (∀ a, (d.folD s).entE a = d.entE a) ∧ (d.m.U → (d.folD s).m.U) := by
  unfold DS.folD
  split
  · exact ⟨fun a b c => MS.read_word .., fun a b => MS.read_at .., fun a => (d.rd_ent _ _ a).1, fun a => (d.rd_ent _ _ a).2, fun h => MS.U.read h _ _ _⟩
  · exact ⟨fun _ _ _ => rfl, fun _ _ => rfl, fun _ => rfl, fun _ => rfl, fun h => h⟩
theorem DS.folD_isS (d : DS) (s a w : Int) : (d.folD s).isS a w = d.isS a w := by
  unfold DS.isS DS.own
  rw [(d.folD_m s).2.2.1]
theorem find2_any (W : World) (p : Dp) (d : DS) (h : DB W p d) (hU : d.m.U) (s va : Int) (v0 : 0 ≤ va) (v1 : va < 4294967296) :
    Calls Tryz.prog 85 #[ptr p.g, .int .i64 s, .int .u32 va] W fun x W' => x = .returned (.tuple #[d.fndV p s va, .int .i64 (d.fndE s va)]) ∧ DB W' p (d.fndD s va) ∧ ButL p.f.w W W' := by
  have HFo := hid (fun w (hw : DB w p d) => follow_any w p d hw hU s)
  have D0 := hid ((DG.startw h).new 147 [.pointer none, .int .i64 0, .int .i64 0])
  have HSp := hid (fun w => split_any w va v0 v1)
  have HS2 := hid (fun w (hw : DB w p (d.folD s)) => second2_any w p (d.folD s) hw ((d.folD_m s).2.2.2.2 hU) s (d.fst s) (d.fst s) (spI va))
  have HP := hid (fun w (hw : DB w p (d.folD s)) (a b : Int) => placep_any w p (d.folD s) hw s (d.fst s) a b)
  have HP2 := hid (fun w (hw : DB w p ((d.folD s).rd (d.fst s) (spI va))) (a b : Int) => placep_any w p _ hw s (d.fst s) a b)
  rw [(d.folD_m s).1, DS.folD_isS] at HS2
  unfold DS.fndV
  rw [show d.fndE s va = if d.folE s ≠ 0 then d.folE s else if spE va ≠ 0 then spE va else if d.isS s (d.w1 s va) = true then 0 else 141 from rfl, show d.fndD s va = if d.folE s ≠ 0 then d.folD s else if spE va ≠ 0 then d.folD s else (d.folD s).rd (d.fst s) (spI va) from rfl]
  unfold DS.w1 at *
  unfold DS.folV at HFo
  clear h hU
  generalize d.folE s = E at *
  generalize d.folD s = d1 at *
  generalize d.fst s = F at *
  generalize spE va = SE at *
  generalize spI va = I at *
  generalize spJ va = J at *
  generalize spO va = Oo at *
  generalize d.m.word true F I = V at *
  generalize d.isS s V = T at *
  generalize pf V = q at *
  clear v0 v1
  simp only [ptr, tbV, plV, zV3, rdF] at *
  by_cases h1 : E = 0
  · subst h1
    by_cases h2 : SE = 0
    · subst h2
      simp only [ne_eq, not_true_eq_false, if_false, if_true] at HFo ⊢
      go_enter Tryz.func85, Tryz.ntmps85
      go_upto_region 1 with fail
      generalize W.alloc _ = X at *
      generalize hg : W.heap.size = g6 at D0 ⊢
      clear hg
      go_upto_region 2 with (first | (go_at_call 72; refine (HFo.out _ D0.out.db).mono ?_; rintro x w2 ⟨rfl, hd, hb⟩; have D1 := hid ((D0.out.step hd hb (fun _ hk => hk)).new 139 [.pointer (some ⟨p.g, 0, none⟩), .int .i64 s, .int .i64 F]); have HN : Hid (w2.heap.size ≠ g6) := hid (fun e => by have := ((D0.out.step hd hb (fun _ hk => hk)).get 0 rfl).lt; omega); clear hb hd))
      clear D0 HFo
      generalize w2.alloc _ = w3 at *
      generalize w2.heap.size = g8 at *
      go_upto_region 7 with (first | (go_at_call 111; refine (HSp.out _).mono ?_; rintro x w5 ⟨rfl, rfl⟩))
      refine wp_region_held_drew (S := fun w => Cel w g8 139 [.pointer (some ⟨p.g, 0, none⟩), .int .i64 s, .int .i64 F]) (by kernel_rfl) (D1.out.get 0 rfl) (fun hHeld => ?_)
      have D1b := hid (D1.out.on (Below.refl _ _).drew)
      clear D1
      have D1 := D1b
      clear D1b
      generalize World.drew _ = w4 at *
      refine tk 0 ⟨some 37, .load 139 (.tmp 8), 139, "table.go:102", #[], none⟩ (.agg #[.pointer (some ⟨p.g, 0, none⟩), .int .i64 s, .int .i64 F]) ?_ (hy := yieldsIf_load_mid (by rfl) _ _ rfl _ _ rfl _ _ (fun w hSw => hSw.range) under90 rfl (by rw [size90]; rfl))
      simp only [Act.put, List.setIfInBounds_toArray, List.set_cons_zero, List.set_cons_succ]
      refine tk 1 ⟨some 38, .load 139 (.tmp 8), 139, "table.go:102", #[], none⟩ (.agg #[.pointer (some ⟨p.g, 0, none⟩), .int .i64 s, .int .i64 F]) ?_ (hy := yieldsIf_load_mid (by rfl) _ _ rfl _ _ rfl _ _ (fun w hSw => hSw.range) under90 rfl (by rw [size90]; rfl))
      simp only [Act.put, List.setIfInBounds_toArray, List.set_cons_zero, List.set_cons_succ]
      refine tk 2 ⟨some 39, .fieldAddr 139 (.tmp 8) 2, 0, "table.go:102", #[], none⟩ (.pointer (some ⟨g8, 2, none⟩)) ?_
      simp only [Act.put, List.setIfInBounds_toArray, List.set_cons_zero, List.set_cons_succ]
      refine tk 3 ⟨some 40, .load 3 (.tmp 39), 3, "table.go:102", #[⟨2, .data⟩], none⟩ (.int .i64 F) ?_ (hy := Or.inl ⟨by rfl, by intro w hSw; have hc := hSw.cell 2; simp only [List.getElem?_cons_zero, List.getElem?_cons_succ] at hc; go_simp⟩)
      simp only [Act.put, List.setIfInBounds_toArray, List.set_cons_zero, List.set_cons_succ]
      refine tk 4 ⟨some 41, .move (.tmp 10), 3, "table.go:102", #[], none⟩ (.int .i64 I) ?_
      simp only [Act.put, List.setIfInBounds_toArray, List.set_cons_zero, List.set_cons_succ]
      refine wpAnyH_ready (rs := [5]) (by kernel_rfl) (by simp) (AllReadyH.cons (o := ⟨some 42, .call { callee := .value (.func 77), args := #[.tmp 38, .tmp 40, .tmp 41], argTypes := #[139, 3, 3] }, 147, "table.go:102", #[⟨1, .data⟩, ⟨3, .data⟩, ⟨4, .data⟩], none⟩) rfl (fun KQ hK => ?_) AllReadyH.nil)
      go_simp
      refine (HP.out _ D1.out.db F I).mono ?_
      rintro e w6 ⟨rfl, hb⟩
      have D2 := hid (D1.out.on hb)
      clear hb D1 HP
      go_wp2_with fail
      refine hK.out _ _ (D2.out.get 0 rfl) (fun hHeld => ?_)
      clear hK KQ
      try simp only [Act.put, List.setIfInBounds_toArray, List.set_cons_zero, List.set_cons_succ]
      refine tk 6 ⟨some 43, .makeFunc (Fn.func 79) #[.tmp 42] #[], 150, "table.go:102", #[⟨5, .data⟩], none⟩ (.func (.func 79) #[.agg #[.pointer (some ⟨p.f.gm, 0, none⟩), .int .i64 F, .int .i64 I]] #[]) ?_
      simp only [Act.put, List.setIfInBounds_toArray, List.set_cons_zero, List.set_cons_succ]
      refine wpAnyH_ready (rs := [7]) (by kernel_rfl) (by simp) (AllReadyH.cons (o := ⟨some 44, .call { callee := .value (.func 96), args := #[.tmp 37, .tmp 43], argTypes := #[139, 150] }, 170, "table.go:102", #[⟨0, .data⟩, ⟨6, .data⟩, ⟨5, .chain⟩], none⟩) rfl (fun KQ hK => ?_) AllReadyH.nil)
      go_simp
      refine (HS2.out _ D2.out.db).mono ?_
      rintro e w7 ⟨rfl, hd, hb⟩
      have D3 := hid (D2.out.step hd hb (fun _ hk => hk))
      clear hb hd D2 HS2
      go_wp2_with fail
      refine hK.out _ _ (D3.out.get 0 rfl) (fun hHeld => ?_)
      clear hK KQ
      try simp only [Act.put, List.setIfInBounds_toArray, List.set_cons_zero, List.set_cons_succ]
      refine tk 8 ⟨some 36, .move (.tmp 44), 170, "table.go:102", #[⟨7, .data⟩], none⟩ (.tuple #[.int .i64 q, .bool T]) ?_
      simp only [Act.put, List.setIfInBounds_toArray, List.set_cons_zero, List.set_cons_succ]
      refine tk 9 ⟨some 45, .extract (.tmp 36) 0, 3, "table.go:102", #[⟨8, .data⟩], none⟩ (.int .i64 q) ?_
      simp only [Act.put, List.setIfInBounds_toArray, List.set_cons_zero, List.set_cons_succ]
      refine tk 10 ⟨some 46, .extract (.tmp 36) 1, 4, "table.go:102", #[⟨8, .data⟩, { on := 11, ground := .gcOnly Departure.lateStores }], none⟩ (.bool T) ?_
      simp only [Act.put, List.setIfInBounds_toArray, List.set_cons_zero, List.set_cons_succ]
      refine wpAnyH_ready (rs := [11]) (by kernel_rfl) (by simp) (AllReadyH.cons (o := ⟨some 13, .assign (.tmp 45), 3, "table.go:102", #[⟨9, .data⟩, ⟨7, .chain⟩, ⟨0, .phase⟩, ⟨1, .phase⟩, ⟨2, .phase⟩, ⟨3, .phase⟩, ⟨4, .phase⟩, ⟨5, .phase⟩, ⟨6, .phase⟩, ⟨7, .phase⟩, ⟨8, .phase⟩, ⟨9, .phase⟩, { on := 10, ground := .textOnly Departure.lateStores }], none⟩) rfl (fun KQ hK => ?_) AllReadyH.nil)
      go_simp
      refine hK.out _ _ (D3.out.get 0 rfl) (fun hHeld => ?_)
      clear hK KQ
      try simp only [Act.put, List.setIfInBounds_toArray, List.set_cons_zero, List.set_cons_succ]
      refine wpAnyH_ready (rs := [12]) (by kernel_rfl) (by simp) (AllReadyH.cons (o := ⟨some 14, .assign (.tmp 46), 4, "table.go:102", #[⟨10, .data⟩, ⟨11, .chain⟩, ⟨0, .phase⟩, ⟨1, .phase⟩, ⟨2, .phase⟩, ⟨3, .phase⟩, ⟨4, .phase⟩, ⟨5, .phase⟩, ⟨6, .phase⟩, ⟨7, .phase⟩, ⟨8, .phase⟩, ⟨9, .phase⟩, ⟨10, .phase⟩, ⟨11, .phase⟩], none⟩) rfl (fun KQ hK => ?_) AllReadyH.nil)
      go_simp
      refine hK.out _ _ (D3.out.get 0 rfl) (fun hHeld => ?_)
      clear hK KQ
      try simp only [Act.put, List.setIfInBounds_toArray, List.set_cons_zero, List.set_cons_succ]
      refine wpAnyH_done (by kernel_rfl) ?_ _
      cases T with
      | true =>
        go_wp2_with (first | (go_at_call 77; refine (HP2.out _ D3.out.db _ _).mono ?_; rintro x w9 ⟨rfl, hb⟩; have D4 := hid (D3.out.on hb); clear hb) | (refine wpList_load_g rfl 139 _ rfl g8 rfl (D3.out.get 0 rfl) rfl under90 size90 ?_) | (refine wpList_store_st rfl 147 _ _ rfl g6 [.pointer (some ⟨p.f.gm, 0, none⟩), .int .i64 q, .int .i64 J] rfl rfl (D4.out.get 1 rfl) size97 rfl rfl ?_; intro w4 hc hb hs; have D9 := hid (D4.out.tail.put (by simp) hc hb); have HC := hid hc; clear hc hb hs))
        exact ret_st2 rfl rfl g6 _ rfl HC.out under97 rfl size97 ⟨rfl, D9.out.db, D9.out.but⟩
      | false =>
        go_wp2_with (first | (refine wpList_build_z97 rfl rfl ?_) | (refine wpList_store_st rfl 147 _ _ rfl g6 [.pointer none, .int .i64 0, .int .i64 0] rfl rfl (D3.out.get 1 rfl) size97 rfl rfl ?_; intro w4 hc hb hs; have D9 := hid (D3.out.tail.put (by simp) hc hb); have HC := hid hc; clear hc hb hs))
        exact ret_st2 rfl rfl g6 _ rfl HC.out under97 rfl size97 ⟨rfl, D9.out.db, D9.out.but⟩
    · simp only [h2, ne_eq, not_true_eq_false, not_false_eq_true, if_false, if_true] at HFo ⊢
      go_enter Tryz.func85, Tryz.ntmps85
      go_upto_region 1 with fail
      generalize W.alloc _ = X at *
      generalize hg : W.heap.size = g6 at D0 ⊢
      clear hg
      go_upto_region 2 with (first | (go_at_call 72; refine (HFo.out _ D0.out.db).mono ?_; rintro x w2 ⟨rfl, hd, hb⟩; have D1 := hid ((D0.out.step hd hb (fun _ hk => hk)).new 139 [.pointer (some ⟨p.g, 0, none⟩), .int .i64 s, .int .i64 F]); have HN : Hid (w2.heap.size ≠ g6) := hid (fun e => by have := ((D0.out.step hd hb (fun _ hk => hk)).get 0 rfl).lt; omega); clear hb hd))
      clear D0 HFo
      generalize w2.alloc _ = w3 at *
      generalize w2.heap.size = g8 at *
      go_wp2_with (first | (go_at_call 111; refine (HSp.out _).mono ?_; rintro x w5 ⟨rfl, rfl⟩) | (refine wpList_build_z97 rfl rfl ?_) | (refine wpList_store_st rfl 147 _ _ rfl g6 [.pointer none, .int .i64 0, .int .i64 0] rfl rfl (D1.out.get 1 rfl) size97 rfl rfl ?_; intro w4 hc hb hs; have D9 := hid (D1.out.tail.put (by simp) hc hb); have HC := hid hc; clear hc hb hs))
      exact ret_st2 rfl rfl g6 _ rfl HC.out under97 rfl size97 ⟨rfl, D9.out.db, D9.out.but⟩
  · simp only [h1, ne_eq, not_false_eq_true, if_false, if_true] at HFo ⊢
    go_enter Tryz.func85, Tryz.ntmps85
    go_upto_region 1 with fail
    generalize W.alloc _ = X at *
    generalize hg : W.heap.size = g6 at D0 ⊢
    clear hg
    go_upto_region 2 with (first | (go_at_call 72; refine (HFo.out _ D0.out.db).mono ?_; rintro x w2 ⟨rfl, hd, hb⟩; have D1 := hid ((D0.out.step hd hb (fun _ hk => hk)).new 139 [.pointer none, .int .i64 0, .int .i64 0]); have HN : Hid (w2.heap.size ≠ g6) := hid (fun e => by have := ((D0.out.step hd hb (fun _ hk => hk)).get 0 rfl).lt; omega); clear hb hd))
    clear D0 HFo
    generalize w2.alloc _ = w3 at *
    generalize w2.heap.size = g8 at *
    go_wp2_with (first | (refine wpList_build_z97 rfl rfl ?_) | (refine wpList_store_st rfl 147 _ _ rfl g6 [.pointer none, .int .i64 0, .int .i64 0] rfl rfl (D1.out.get 1 rfl) size97 rfl rfl ?_; intro w4 hc hb hs; have D9 := hid (D1.out.tail.put (by simp) hc hb); have HC := hid hc; clear hc hb hs))
    exact ret_st2 rfl rfl g6 _ rfl HC.out under97 rfl size97 ⟨rfl, D9.out.db, D9.out.but⟩
end Go.Proofs.YtgbpbfnpeeciaaaGreat
