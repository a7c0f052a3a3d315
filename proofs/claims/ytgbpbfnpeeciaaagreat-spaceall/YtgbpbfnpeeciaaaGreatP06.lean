import Derived.Test.YtgbpbfnpeeciaaaGreatP05
import Derived.Test.YtgbpbfnpeeciaaaGreatP01
namespace Go.Proofs.YtgbpbfnpeeciaaaGreat
open Go.RowKit
theorem RMem.put {w : World} {r : Rf} {m : MS} (h : RMem w r m) (k : Nat) (hk : k < m.P.length) {b cap : Nat} {cur : Array Value} (e1 : r.v k = .slice (some ⟨b, 0, none⟩) 1024 cap) (e2 : w.heap[b]? = some (.cells cur 29 (0, 0))) (e3 : cur.toList.take 1024 = u32s (m.p k)) (j : Nat) (v : Int) :
    RMem (w.setCell ⟨b, j, none⟩ (.int .u32 v)) r { m with P := m.P.set k ((m.p k).set j v) } := by
  have hb := ButL.setCell (G := [b]) w b j (.int .u32 v) (by simp)
  have hL := (h.pg k hk).1
  have hbk : blkOf (r.v k) = some b := by rw [e1]; rfl
  obtain ⟨cur', h1, h2⟩ := h.pages
  have hpp : ∀ i, i < m.P.length → ({ m with P := m.P.set k ((m.p k).set j v) } : MS).p i = if i = k then (m.p k).set j v else m.p i := by
    intro i hi
    unfold MS.p
    by_cases e : i = k
    · subst e
      rw [if_pos rfl, List.getD_eq_getElem?_getD, List.getElem?_set_self hi]; rfl
    · rw [if_neg e, List.getD_eq_getElem?_getD, List.getElem?_set_ne (Ne.symm e), ← List.getD_eq_getElem?_getD]
  have ng : r.g ∉ [b] := by
    rw [List.mem_singleton]; intro e
    have h3 := h.cel
    unfold Cel at h3
    rw [e, e2] at h3
    injection h3 with h3
    injection h3 with _ h4 _
    exact absurd h4 (by decide)
  have ngp : r.gp ∉ [b] := by
    rw [List.mem_singleton]; intro e
    rw [e, e2] at h1
    injection h1 with h1
    injection h1 with _ h4 _
    exact absurd h4 (by decide)
  refine ⟨?_, ⟨cur', (hb.block _ (Array.getElem?_eq_some_iff.1 h1).1 ngp).trans h1, by simpa using h2⟩, by simp [h.len], by simpa using h.ns0, by simpa using h.most, ?_, ?_⟩
  · simpa using h.cel.but hb ng
  · intro i hi
    simp only [List.length_set] at hi
    rw [hpp i hi]
    split
    · rename_i e
      subst e
      refine ⟨by rw [List.length_set]; exact hL, .inr ⟨b, cap, cur.setIfInBounds j (.int .u32 v), e1, heap_setCell_same w b j _ 29 _ e2, ?_⟩⟩
      rw [Array.toList_setIfInBounds, List.take_set, e3, u32s_set]
    · rename_i e
      exact (h.pg i hi).but hb (fun b' hb' => by rw [List.mem_singleton]; intro e'; subst e'; exact h.apart k i hk hi (fun h' => e h'.symm) b' hbk hb')
  · intro i i' hi hi'
    simp only [List.length_set] at hi hi'
    exact h.apart i i' hi hi'
theorem NewL.pg {w w' : World} {g : Nat} {L : List Int} (h : NewL w w' g L) (hL : L.length = 1024) (c : Nat) : PgIs w' (.slice (some ⟨g, 0, none⟩) 1024 c) L :=
  ⟨hL, .inr ⟨g, c, (u32s L).toArray, rfl, h.cel, by rw [List.take_of_length_le (by rw [u32s_len, hL]; exact Nat.le_refl _)]⟩⟩
theorem PgIs.on {w w' : World} {v : Value} {L : List Int} (h : PgIs w v L) (hb : Below w.heap.size w w') : PgIs w' v L := h.but (G := []) (.of hb) (by simp)
theorem wp_make_pg {o : Oper} {a : Act} {w : World} {K : Act → World → Prop} {Q : Exit → Act → World → Prop} (l c : Operand) (ho : o.op = Op.makeSlice 102 l c) (hl : a.eval l = .int .i64 1024) (hc : a.eval c = .int .i64 1024)
    (h : ∀ w', Cel w' w.heap.size 29 (u32s zs) → Below w.heap.size w w' → w'.heap.size = w.heap.size + 1 → K (a.put o.dst (.slice (some ⟨w.heap.size, 0, none⟩) 1024 1024)) w') : o.wp Tryz.prog a w K Q := by
  obtain ⟨i, hi, hzz⟩ := Option.map_eq_some_iff.1 info32
  simp only [Prod.mk.injEq] at hzz
  obtain ⟨hz, hs, hbb⟩ := hzz
  have hrun := run_make_row (P := Tryz.prog) 102 29 i (.int .u32 0) under24 hi hz hs rfl .i64 .i64 1024 (by rw [hbb]; decide) (by decide) w
  have e1 : madeCells #[Value.int .u32 0] 1024 = (u32s zs).toArray := by
    have e2 : List.replicate 1024 (Value.int .u32 0) = u32s zs := (List.map_replicate).symm
    rw [← e2, ← toList_madeCells_one]
  rw [e1] at hrun
  have hl' : a.eval l = .int .i64 ((1024 : Nat) : Int) := hl
  have hc' : a.eval c = .int .i64 ((1024 : Nat) : Int) := hc
  unfold Oper.wp execOp
  simp only [ho, hl', hc', Sem.run_bind, Sem.run_pure, hrun, Result.andThen_ok]
  exact h _ (Cel.new _ _ _) (below_one _ _) (by simp)
set_option maxRecDepth 40000 in
set_option maxHeartbeats 4000000 in
theorem rwrite_any (w : World) (r : Rf) (m : MS) (h : RMem w r m) (s : Bool) (p off v : Int) :
    Calls Tryz.prog 26 #[ptr r.g, fr s p, .int .i64 off, .int .u32 v] w fun x w' => x = .returned (.int .i64 (m.err s p off)) ∧ ∃ r', RSt w w' r r' (m.write s p off v) := by
  have hX := h.on (below_one w (.cells #[.bool s, .int .i64 p] 72))
  have hB := hid (below_one w (.cells #[.bool s, .int .i64 p] 72))
  have HF := hid (rplace_any _ r m hX s p)
  have h1 := h.ns0
  have h2 := h.most
  have hlt : Hid (∀ k, m.at s p = some k → k < m.P.length) := fun k hk => MS.at_lt h1 hk
  have n2 : (m.P.length : Int) ≤ 128 := by omega
  have H := hid hX
  clear h hX h1 h2
  unfold MS.err MS.write
  generalize hr : m.at s p = o at *
  cases o with
  | none =>
    simp only [fr, ptr, pl] at *
    go_enter Tryz.func26, Tryz.ntmps26
    go_wp2_with fail
    refine HF.out.mono ?_
    rintro x w1 ⟨rfl, hb1⟩
    have HB1 := hid (below_on hB.out hb1)
    have HM := hid (H.out.on hb1)
    clear hb1
    go_wp2_with fail
    go_ret
    exact ⟨rfl, r, .same HM.out (.of HB1.out)⟩
  | some k =>
    have hk := hlt.out k rfl
    have k1 : (k : Int) < (m.P.length : Int) := by omega
    by_cases ho : In off
    · simp only [fr, ptr, pl, if_pos ho] at *
      obtain ⟨o0, o1⟩ := ho
      go_enter Tryz.func26, Tryz.ntmps26
      go_wp2_with fail
      refine HF.out.mono ?_
      rintro x w1 ⟨rfl, hb1⟩
      have HB1 := hid (below_on hB.out hb1)
      have HM := hid (H.out.on hb1)
      clear hb1
      have c2 : w1.cell? ⟨r.g, 2, none⟩ = some (.int .i64 m.c) := HM.out.cel.cell 2
      have f2 := HM.out.cel.free 2
      have HT := hid (HM.out.tick 1)
      have HBT : Hid (ButL r.all w (w1.setCell ⟨r.g, 2, none⟩ (.int .i64 (wrap64 (m.c + 1))))) := hid ((ButL.of HB1.out).trans (.setCell _ _ _ _ (by simp [Rf.all])))
      have y0 : (w1.setCell ⟨r.g, 2, none⟩ (.int .i64 (wrap64 (m.c + 1)))).cell? ⟨r.g, 0, none⟩ = some (.slice (some ⟨r.gp, 0, none⟩) m.P.length r.cap) := HT.out.cel.cell 0
      have y1 := HT.out.cellAt k hk
      rcases (HT.out.pg k hk) with ⟨hL, ⟨e1, e2⟩ | ⟨b, cap, cur, e1, e2, e3⟩⟩
      · rw [e1] at y1
        have HE2 : Hid (m.p k = zs) := hid e2
        clear e1 e2 hL
        go_wp2_with fail
        generalize (w1.setCell ⟨r.g, 2, none⟩ (.int .i64 (wrap64 (m.c + 1)))) = Y at *
        have HX : Hid (∀ x, ButL [r.gp] Y x → x.cell? ⟨r.g, 0, none⟩ = some (.slice (some ⟨r.gp, 0, none⟩) m.P.length r.cap)) := hid (fun x hx => (HT.out.cel.but hx (by rw [List.mem_singleton]; exact HT.out.ne)).cell 0)
        clear y0 y1
        refine wp_region_held_drew (S := fun x => ButL [r.gp] Y x) (by kernel_rfl) (.of (Below.refl _ _).drew) (fun hHeld => ?_)
        refine tk 0 ⟨some 37, .move (.tmp 0), 40, "ref.go:106", #[], none⟩ (.pointer (some ⟨r.g, 0, none⟩)) ?_
        simp only [Act.put, List.setIfInBounds_toArray, List.set_cons_zero, List.set_cons_succ]
        refine tk 1 ⟨some 38, .nilCheck (.tmp 37), 0, "ref.go:106", #[⟨0, .data⟩], none⟩ (.pointer (some ⟨r.g, 0, none⟩)) ?_
        simp only [Act.put, List.setIfInBounds_toArray, List.set_cons_zero, List.set_cons_succ]
        refine tk 2 ⟨some 39, .fieldAddr 114 (.tmp 38) 0, 0, "ref.go:106", #[⟨1, .data⟩], none⟩ (.pointer (some ⟨r.g, 0, none⟩)) ?_
        simp only [Act.put, List.setIfInBounds_toArray, List.set_cons_zero, List.set_cons_succ]
        refine tk 3 ⟨some 40, .load 112 (.tmp 39), 112, "ref.go:106", #[⟨2, .data⟩], none⟩ (.slice (some ⟨r.gp, 0, none⟩) m.P.length r.cap) ?_ (hy := Or.inl ⟨by rfl, by intro w hSw; have hcc := HX.out w hSw; go_simp⟩)
        simp only [Act.put, List.setIfInBounds_toArray, List.set_cons_zero, List.set_cons_succ]
        refine tk 4 ⟨some 41, .move (.tmp 9), 3, "ref.go:106", #[], none⟩ (.int .i64 (k : Int)) ?_
        simp only [Act.put, List.setIfInBounds_toArray, List.set_cons_zero, List.set_cons_succ]
        refine wpAnyH_ready (rs := [5]) (by kernel_rfl) (by simp) (AllReadyH.cons (o := ⟨some 42, .makeSlice 102 (.const (.int .i64 1024)) (.const (.int .i64 1024)), 102, "ref.go:106", #[], none⟩) rfl (fun KQ hK => ?_) AllReadyH.nil)
        rw [if_pos (by rfl)]
        refine wp_make_pg _ _ rfl rfl rfl ?_
        intro w2 hc2 hb2 hs2
        have hbY := below_on ((Below.refl Y.heap.size Y).drew) hb2
        refine hK.out _ _ (.of hbY) (fun hHeld => ?_)
        clear hK KQ
        try simp only [Act.put, List.setIfInBounds_toArray, List.set_cons_zero, List.set_cons_succ]
        refine tk 6 ⟨some 43, .indexAddr 112 (.tmp 40) (.tmp 41), 0, "ref.go:106", #[⟨3, .data⟩, ⟨4, .data⟩, ⟨0, .phase⟩, ⟨1, .phase⟩, ⟨2, .phase⟩, ⟨3, .phase⟩, ⟨4, .phase⟩, ⟨5, .phase⟩], none⟩ (.pointer (some ⟨r.gp, k, none⟩)) ?_
        simp only [Act.put, List.setIfInBounds_toArray, List.set_cons_zero, List.set_cons_succ]
        refine wpAnyH_ready (rs := [7]) (by kernel_rfl) (by simp) (AllReadyH.cons (o := ⟨none, .store 102 (.tmp 43) (.tmp 42), 0, "ref.go:106", #[⟨6, .data⟩, ⟨5, .data⟩, ⟨0, .phase⟩, ⟨1, .phase⟩, ⟨2, .phase⟩, ⟨3, .phase⟩, ⟨4, .phase⟩, ⟨5, .phase⟩], none⟩) rfl (fun KQ hK => ?_) AllReadyH.nil)
        (have hMs := HT.out.on hbY; have ys := hMs.cellAt k hk; have yf := hMs.freeP k; go_simp)
        refine hK.out _ _ (ButL.trans (.of hbY) (.setCell _ _ _ _ (by simp))) (fun hHeld => ?_)
        clear hK KQ
        try simp only [Act.put]
        refine wpAnyH_done (by kernel_rfl) ?_ _
        clear hHeld
        have HNL : Hid (NewL Y w2 Y.heap.size zs) := hid ⟨hbY, Nat.le_refl _, hc2⟩
        have HYL : Hid (∀ b ∈ r.all, b < Y.heap.size) := hid HT.out.lt
        have HST : Hid (RSt w (w2.setCell ⟨r.gp, k, none⟩ (.slice (some ⟨Y.heap.size, 0, none⟩) 1024 1024)) r { r with vs := r.vs.set k (.slice (some ⟨Y.heap.size, 0, none⟩) 1024 1024) } ⟨m.ns, m.P.set k zs, wrap64 (m.c + 1)⟩) := hid ((HT.out.on hbY).step (HBT.out.on hbY) k hk (.slice (some ⟨Y.heap.size, 0, none⟩) 1024 1024) zs (HNL.out.pg zs_len 1024) (fun b hb => by simp only [blkOf, Option.some.injEq] at hb; subst hb; exact ⟨HBT.out.size, fun hm => by have := HYL.out _ hm; omega⟩))
        have HC3 := hid (HNL.out.cel.but (ButL.setCell (G := [r.gp]) w2 r.gp k (.slice (some ⟨Y.heap.size, 0, none⟩) 1024 1024) (by simp)) (by rw [List.mem_singleton]; intro e; have := HYL.out r.gp (by simp [Rf.all]); omega))
        clear hc2 hb2 hs2 hbY HX HNL
        generalize hgY : Y.heap.size = gy at *
        have HGY := hid hgY
        clear hgY
        generalize w2.setCell ⟨r.gp, k, none⟩ _ = w4 at *
        have y0 := HST.out.mem.cel.cell 0
        have hk2 : k < (⟨m.ns, m.P.set k zs, wrap64 (m.c + 1)⟩ : MS).P.length := by show k < (m.P.set k zs).length; rw [List.length_set]; exact hk
        have y1 := HST.out.mem.cellAt k hk2
        have ev : ({ r with vs := r.vs.set k (.slice (some ⟨gy, 0, none⟩) 1024 1024) } : Rf).v k = .slice (some ⟨gy, 0, none⟩) 1024 1024 := by unfold Rf.v; rw [List.getD_eq_getElem?_getD, List.getElem?_set_self (by rw [HT.out.len]; exact hk)]; rfl
        have ep : (⟨m.ns, m.P.set k zs, wrap64 (m.c + 1)⟩ : MS).p k = zs := by unfold MS.p; rw [List.getD_eq_getElem?_getD, List.getElem?_set_self hk]; rfl
        have y2 : w4.cell? ⟨gy, off.toNat, none⟩ = some (.int .u32 0) := by rw [HC3.out.cell, u32s, List.getElem?_map, List.getElem?_eq_getElem (by rw [zs_len]; omega)]; have := wd_zsR off.toNat; unfold wd at this; rw [List.getD_eq_getElem?_getD, List.getElem?_eq_getElem (by rw [zs_len]; omega)] at this; simp only [Option.getD_some] at this; rw [this]; rfl
        have y3 := HC3.out.free off.toNat
        have HP := hid (HST.out.mem.put k hk2 ev HC3.out (by rw [ep, List.take_of_length_le (by rw [u32s_len, zs_len]; exact Nat.le_refl _)]) off.toNat v)
        rw [ev] at y1
        rw [ep] at HP
        have HFIN : Hid (RSt w (w4.setCell ⟨gy, off.toNat, none⟩ (.int .u32 v)) r { r with vs := r.vs.set k (.slice (some ⟨gy, 0, none⟩) 1024 1024) } ⟨m.ns, m.P.set k ((m.p k).set off.toNat v), wrap64 (m.c + 1)⟩) := hid ⟨by have h9 := HP.out; simp only [List.set_set] at h9; rw [HE2.out]; exact h9, HST.out.but.trans' (g := gy) (.setCell w4 gy _ _ (by simp)) (by rw [← HGY.out]; exact HBT.out.size), rfl, HST.out.sub⟩
        simp only [List.getElem?_cons_zero, List.length_set] at y0
        clear ev ep hk2
        go_wp2_with fail
        go_ret
        exact ⟨rfl, _, HFIN.out⟩
      · have y2 := PgIs.cell hL e2 e3 off.toNat (by omega)
        have y3 : (w1.setCell ⟨r.g, 2, none⟩ (.int .i64 (wrap64 (m.c + 1)))).frozen? ⟨b, off.toNat, none⟩ = false := frozen_of_row _ b off.toNat _ 29 e2
        have HP := hid (HT.out.put k hk e1 e2 e3 off.toNat v)
        have HBK : Hid (b ∈ r.all) := hid (Rf.mem_all (by rw [HT.out.len]; exact hk) (by rw [e1]; rfl))
        rw [e1] at y1
        clear e1 e2 e3 hL
        generalize wd ((m.tick 1).p k) off.toNat = oldw at *
        go_wp2_with fail
        go_ret
        exact ⟨rfl, r, .same HP.out (HBT.out.trans (.setCell _ _ _ _ HBK.out))⟩
    · simp only [fr, ptr, pl, if_neg ho] at *
      have ho' : off < 0 ∨ (0 ≤ off ∧ 1024 ≤ off) := by unfold In at ho; omega
      clear ho
      go_enter Tryz.func26, Tryz.ntmps26
      go_wp2_with fail
      refine HF.out.mono ?_
      rintro x w1 ⟨rfl, hb1⟩
      have HB1 := hid (below_on hB.out hb1)
      have HM := hid (H.out.on hb1)
      clear hb1
      rcases ho' with ho | ⟨ho, ho2⟩
      all_goals go_wp2_with fail
      all_goals go_ret
      all_goals exact ⟨rfl, r, .same HM.out (.of HB1.out)⟩
end Go.Proofs.YtgbpbfnpeeciaaaGreat
