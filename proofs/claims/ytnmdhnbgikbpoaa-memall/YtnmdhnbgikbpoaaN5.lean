/- The document's Copy 55, Lay 66. -/
import Derived.Test.YtnmdhnbgikbpoaaN4
namespace Go.Proofs.Ytnmdhnbgikbpoaa
open Go.RowKit
set_option maxRecDepth 40000 in
set_option maxHeartbeats 4000000 in
theorem rcopy_any (w : World) (r : Rf) (m : MS) (h : RMem w r m) (s : Bool) (p : Int) (t : Bool) (q : Int) :
    Calls Try.prog 55 #[ptr r.g, fr s p, fr t q] w fun x w' => x = .returned (.int .i64 (m.cerr s p t q)) ∧ ∃ r', RSt w w' r r' (m.copy s p t q) := by
  have hX := (h.on (below_one w (.cells #[.bool s, .int .i64 p] 95))).on (below_one _ (.cells #[.bool t, .int .i64 q] 95))
  have hB := hid (below_on (below_one w (.cells #[.bool s, .int .i64 p] 95)) (below_one _ (.cells #[.bool t, .int .i64 q] 95)))
  have C2 : Hid (Cel ((w.alloc (.cells #[.bool s, .int .i64 p] 95)).alloc (.cells #[.bool t, .int .i64 q] 95)) (w.heap.size + 1) 95 [.bool t, .int .i64 q]) := hid (by have := Cel.new (w.alloc (.cells #[.bool s, .int .i64 p] 95)) 95 [.bool t, .int .i64 q]; rw [alloc_size] at this; exact this)
  have C1 : Hid (Cel ((w.alloc (.cells #[.bool s, .int .i64 p] 95)).alloc (.cells #[.bool t, .int .i64 q] 95)) w.heap.size 95 [.bool s, .int .i64 p]) := hid ((Cel.new w 95 [.bool s, .int .i64 p]).on (below_one _ _))
  have z0 := C1.out.cell 0
  have z1 := C1.out.cell 1
  simp only [List.getElem?_cons_zero, List.getElem?_cons_succ] at z0 z1
  have HF := hid (place_any _ r m hX s p)
  have h1 := h.ns0
  have h2 := h.most
  have hlt : Hid (∀ k, m.at s p = some k → k < m.P.length) := fun k hk => MS.at_lt h1 hk
  have hlu : Hid (∀ k, m.at t q = some k → k < m.P.length) := fun k hk => MS.at_lt h1 hk
  have n2 : (m.P.length : Int) ≤ 128 := by omega
  have H := hid hX
  clear h hX h1 h2
  unfold MS.copy MS.cerr
  have HF2 : Hid (∀ x, RMem x r m → Calls Try.prog 53 #[ptr r.g, fr t q] x fun y w' => y = .returned (.int .i64 (pl (m.at t q))) ∧ Below x.heap.size x w') := hid (fun x hx => place_any x r m hx t q)
  generalize hr1 : m.at s p = o1 at *
  generalize hr2 : m.at t q = o2 at *
  clear hr1 hr2
  simp only [fr, ptr] at *
  cases o1 <;> cases o2 <;> simp only [pl] at *
  · go_enter Try.func55, Try.ntmps55
    go_wp2_with fail
    refine HF.out.mono ?_
    rintro x w0 ⟨rfl, hb0⟩
    have C3 := C2.out.on hb0
    have y5 : w0.cell? ⟨w.heap.size + 1, 0, none⟩ = some (.bool t) := C3.cell 0
    have y6 : w0.cell? ⟨w.heap.size + 1, 1, none⟩ = some (.int .i64 q) := C3.cell 1
    have HB0 := hid (below_on hB.out hb0)
    have HM0 := hid (H.out.on hb0)
    clear hb0 C3 z0 z1
    go_wp2_with fail
    refine (HF2.out _ HM0.out).mono ?_
    rintro x w1 ⟨rfl, hb1⟩
    have HB1 := hid (below_on HB0.out hb1)
    have HM := hid (HM0.out.on hb1)
    clear hb1 y5 y6
    go_wp2_with fail
    go_ret
    exact ⟨rfl, r, .same HM.out (.of HB1.out)⟩
  · go_enter Try.func55, Try.ntmps55
    go_wp2_with fail
    refine HF.out.mono ?_
    rintro x w0 ⟨rfl, hb0⟩
    have C3 := C2.out.on hb0
    have y5 : w0.cell? ⟨w.heap.size + 1, 0, none⟩ = some (.bool t) := C3.cell 0
    have y6 : w0.cell? ⟨w.heap.size + 1, 1, none⟩ = some (.int .i64 q) := C3.cell 1
    have HB0 := hid (below_on hB.out hb0)
    have HM0 := hid (H.out.on hb0)
    clear hb0 C3 z0 z1
    go_wp2_with fail
    refine (HF2.out _ HM0.out).mono ?_
    rintro x w1 ⟨rfl, hb1⟩
    have HB1 := hid (below_on HB0.out hb1)
    have HM := hid (HM0.out.on hb1)
    clear hb1 y5 y6
    go_wp2_with fail
    go_ret
    exact ⟨rfl, r, .same HM.out (.of HB1.out)⟩
  · go_enter Try.func55, Try.ntmps55
    go_wp2_with fail
    refine HF.out.mono ?_
    rintro x w0 ⟨rfl, hb0⟩
    have C3 := C2.out.on hb0
    have y5 : w0.cell? ⟨w.heap.size + 1, 0, none⟩ = some (.bool t) := C3.cell 0
    have y6 : w0.cell? ⟨w.heap.size + 1, 1, none⟩ = some (.int .i64 q) := C3.cell 1
    have HB0 := hid (below_on hB.out hb0)
    have HM0 := hid (H.out.on hb0)
    clear hb0 C3 z0 z1
    go_wp2_with fail
    refine (HF2.out _ HM0.out).mono ?_
    rintro x w1 ⟨rfl, hb1⟩
    have HB1 := hid (below_on HB0.out hb1)
    have HM := hid (HM0.out.on hb1)
    clear hb1 y5 y6
    go_wp2_with fail
    go_ret
    exact ⟨rfl, r, .same HM.out (.of HB1.out)⟩
  · rename_i k j
    have hk := hlt.out k rfl
    have hj := hlu.out j rfl
    have k1 : (k : Int) < (m.P.length : Int) := by omega
    have j1 : (j : Int) < (m.P.length : Int) := by omega
    go_enter Try.func55, Try.ntmps55
    go_wp2_with fail
    refine HF.out.mono ?_
    rintro x w0 ⟨rfl, hb0⟩
    have C3 := C2.out.on hb0
    have y5 : w0.cell? ⟨w.heap.size + 1, 0, none⟩ = some (.bool t) := C3.cell 0
    have y6 : w0.cell? ⟨w.heap.size + 1, 1, none⟩ = some (.int .i64 q) := C3.cell 1
    have HB0 := hid (below_on hB.out hb0)
    have HM0 := hid (H.out.on hb0)
    clear hb0 C3 z0 z1
    go_wp2_with fail
    refine (HF2.out _ HM0.out).mono ?_
    rintro x w1 ⟨rfl, hb1⟩
    have HB1 := hid (below_on HB0.out hb1)
    have HM := hid (HM0.out.on hb1)
    clear hb1 y5 y6
    have c2 : w1.cell? ⟨r.g, 2, none⟩ = some (.int .i64 m.c) := HM.out.cel.cell 2
    have f2 := HM.out.cel.free 2
    have HT := hid (HM.out.tick 2048)
    have HBT : Hid (ButL r.all w (w1.setCell ⟨r.g, 2, none⟩ (.int .i64 (wrap64 (m.c + 2048))))) := hid ((ButL.of HB1.out).trans (.setCell _ _ _ _ (by simp [Rf.all])))
    go_wp2_with fail
    generalize (w1.setCell ⟨r.g, 2, none⟩ (.int .i64 (wrap64 (m.c + 2048)))) = Y at *
    have HX : Hid (∀ x, ButL [r.gp] Y x → x.cell? ⟨r.g, 0, none⟩ = some (.slice (some ⟨r.gp, 0, none⟩) m.P.length r.cap)) := hid (fun x hx => (HT.out.cel.but hx (by rw [List.mem_singleton]; exact HT.out.ne)).cell 0)
    refine wp_region_held_drew (S := fun x => ButL [r.gp] Y x) (by kernel_rfl) (.of (Below.refl _ _).drew) (fun hHeld => ?_)
    refine wpAnyH_take (i := 0) (oi := { dst := some 29, op := Op.move (Operand.tmp 0), type := 64, pos := "ref.go:131", after := #[], guard := none }) (v := .pointer (some ⟨r.g, 0, none⟩)) rfl (by kernel_rfl) (by kernel_rfl) (by kernel_rfl) (fun _ _ _ h => h) (Or.inl ⟨by rfl, by intro w hSw; go_simp⟩) (by assumption) ?_
    simp only [Act.put, List.setIfInBounds_toArray, List.set_cons_zero, List.set_cons_succ]
    refine wpAnyH_take (i := 1) (oi := { dst := some 30, op := Op.nilCheck (Operand.tmp 29), type := 0, pos := "ref.go:131", after := #[{ on := 0, ground := Ground.data }], guard := none }) (v := .pointer (some ⟨r.g, 0, none⟩)) rfl (by kernel_rfl) (by kernel_rfl) (by kernel_rfl) (fun _ _ _ h => h) (Or.inl ⟨by rfl, by intro w hSw; go_simp⟩) (by assumption) ?_
    simp only [Act.put, List.setIfInBounds_toArray, List.set_cons_zero, List.set_cons_succ]
    refine wpAnyH_take (i := 2) (oi := { dst := some 31, op := Op.fieldAddr 105 (Operand.tmp 30) 0, type := 0, pos := "ref.go:131", after := #[{ on := 1, ground := Ground.data }], guard := none }) (v := .pointer (some ⟨r.g, 0, none⟩)) rfl (by kernel_rfl) (by kernel_rfl) (by kernel_rfl) (fun _ _ _ h => h) (Or.inl ⟨by rfl, by intro w hSw; go_simp⟩) (by assumption) ?_
    simp only [Act.put, List.setIfInBounds_toArray, List.set_cons_zero, List.set_cons_succ]
    refine wpAnyH_take (i := 3) (oi := { dst := some 32, op := Op.load 66 (Operand.tmp 31), type := 66, pos := "ref.go:131", after := #[{ on := 2, ground := Ground.data }], guard := none }) (v := .slice (some ⟨r.gp, 0, none⟩) m.P.length r.cap) rfl (by kernel_rfl) (by kernel_rfl) (by kernel_rfl) (fun _ _ _ h => h) (Or.inl ⟨by rfl, by intro w hSw; have hcc := HX.out w hSw; go_simp⟩) (by assumption) ?_
    simp only [Act.put, List.setIfInBounds_toArray, List.set_cons_zero, List.set_cons_succ]
    refine wpAnyH_take (i := 4) (oi := { dst := some 33, op := Op.move (Operand.tmp 7), type := 3, pos := "ref.go:131", after := #[], guard := none }) (v := .int .i64 (k : Int)) rfl (by kernel_rfl) (by kernel_rfl) (by kernel_rfl) (fun _ _ _ h => h) (Or.inl ⟨by rfl, by intro w hSw; go_simp⟩) (by assumption) ?_
    simp only [Act.put, List.setIfInBounds_toArray, List.set_cons_zero, List.set_cons_succ]
    refine wpAnyH_take (i := 5) (oi := { dst := some 34, op := Op.move (Operand.tmp 0), type := 64, pos := "ref.go:131", after := #[], guard := none }) (v := .pointer (some ⟨r.g, 0, none⟩)) rfl (by kernel_rfl) (by kernel_rfl) (by kernel_rfl) (fun _ _ _ h => h) (Or.inl ⟨by rfl, by intro w hSw; go_simp⟩) (by assumption) ?_
    simp only [Act.put, List.setIfInBounds_toArray, List.set_cons_zero, List.set_cons_succ]
    refine wpAnyH_take (i := 6) (oi := { dst := some 35, op := Op.move (Operand.tmp 8), type := 3, pos := "ref.go:131", after := #[], guard := none }) (v := .int .i64 (j : Int)) rfl (by kernel_rfl) (by kernel_rfl) (by kernel_rfl) (fun _ _ _ h => h) (Or.inl ⟨by rfl, by intro w hSw; go_simp⟩) (by assumption) ?_
    simp only [Act.put, List.setIfInBounds_toArray, List.set_cons_zero, List.set_cons_succ]
    refine wpAnyH_ready (rs := [7]) (by kernel_rfl) (by simp) (AllReadyH.cons (o := { dst := some 36, op := Op.call { callee := Callee.value (Operand.func 61), args := #[Operand.tmp 34, Operand.tmp 35], argTypes := #[64, 3] }, type := 24, pos := "ref.go:131", after := #[{ on := 5, ground := Ground.data }, { on := 6, ground := Ground.data }], guard := none }) rfl (fun KQ hK => ?_) AllReadyH.nil)
    go_simp
    refine (rwhole_any _ r (m.tick 2048) (HT.out.on (Below.refl _ _).drew) j hj).mono ?_
    rintro x w2 ⟨gn, rfl, hnl⟩
    have hbY := below_on ((Below.refl Y.heap.size Y).drew) hnl.below
    go_wp2_with fail
    refine hK.out _ _ (.of hbY) (fun hHeld => ?_)
    clear hK KQ
    try simp only [Act.put, List.setIfInBounds_toArray, List.set_cons_zero, List.set_cons_succ]
    refine wpAnyH_take (i := 8) (oi := { dst := some 37, op := Op.indexAddr 66 (Operand.tmp 32) (Operand.tmp 33), type := 0, pos := "ref.go:131", after := #[{ on := 3, ground := Ground.data }, { on := 4, ground := Ground.data }, { on := 0, ground := Ground.phase }, { on := 1, ground := Ground.phase }, { on := 2, ground := Ground.phase }, { on := 3, ground := Ground.phase }, { on := 4, ground := Ground.phase }, { on := 5, ground := Ground.phase }, { on := 6, ground := Ground.phase }, { on := 7, ground := Ground.phase }], guard := none }) (v := .pointer (some ⟨r.gp, k, none⟩)) rfl (by kernel_rfl) (by kernel_rfl) (by kernel_rfl) (fun _ _ _ h => h) (Or.inl ⟨by rfl, by intro w hSw; go_simp⟩) (by assumption) ?_
    simp only [Act.put, List.setIfInBounds_toArray, List.set_cons_zero, List.set_cons_succ]
    refine wpAnyH_ready (rs := [9]) (by kernel_rfl) (by simp) (AllReadyH.cons (o := { dst := none, op := Op.store 24 (Operand.tmp 37) (Operand.tmp 36), type := 0, pos := "ref.go:131", after := #[{ on := 8, ground := Ground.data }, { on := 7, ground := Ground.data }, { on := 7, ground := Ground.chain }, { on := 0, ground := Ground.phase }, { on := 1, ground := Ground.phase }, { on := 2, ground := Ground.phase }, { on := 3, ground := Ground.phase }, { on := 4, ground := Ground.phase }, { on := 5, ground := Ground.phase }, { on := 6, ground := Ground.phase }, { on := 7, ground := Ground.phase }], guard := none }) rfl (fun KQ hK => ?_) AllReadyH.nil)
    (have hMs := HT.out.on hbY; have ys := hMs.cellAt k hk; have yf := hMs.freeP k; go_simp)
    refine hK.out _ _ (ButL.trans (.of hbY) (.setCell _ r.gp k _ (by simp))) (fun hHeld => ?_)
    clear hK KQ
    try simp only [Act.put]
    refine wpAnyH_done (by kernel_rfl) ?_ _
    clear hHeld
    have HYL : Hid (∀ b ∈ r.all, b < Y.heap.size) := hid HT.out.lt
    have HST : Hid (RSt w (w2.setCell ⟨r.gp, k, none⟩ (.slice (some ⟨gn, 0, none⟩) 1024 1024)) r { r with vs := r.vs.set k (.slice (some ⟨gn, 0, none⟩) 1024 1024) } ⟨m.ns, m.P.set k (m.p j), wrap64 (m.c + 2048)⟩) := hid ((HT.out.on hbY).step (HBT.out.on hbY) k hk (.slice (some ⟨gn, 0, none⟩) 1024 1024) (m.p j) (hnl.pg (HT.out.pg j hj).1 1024) (fun b hb => by simp only [blkOf, Option.some.injEq] at hb; subst hb; have := hnl.hg; exact ⟨Nat.le_trans HBT.out.size this, fun hm => by have h9 := HYL.out _ hm; have h8 : Y.heap.size ≤ gn := this; omega⟩))
    clear hnl hbY HX
    go_wp2_with fail
    go_ret
    exact ⟨rfl, _, HST.out⟩
theorem wp_append_new {o : Oper} {a : Act} {w : World} {K : Act → World → Prop} {Q : Exit → Act → World → Prop} (s x : Operand)
    (ho : o.op = .call { callee := .builtin .append, args := #[s, x], argTypes := #[24, 24] }) (hs : a.eval s = .slice none 0 0) (ad : Addr) (m c : Nat) (xs : List Int) (hx : a.eval x = .slice (some ad) m c) (hl : xs.length = m)
    (hsrc : ∀ j u, (u32s xs)[j]? = some u → w.cell? (ad.add j) = some u) (hbytes : m * 4 ≤ 140737488355328)
    (h : ∀ v' w', Hl w w' v' xs → K (a.put o.dst v') w') : o.wp Try.prog a w K Q := by
  obtain ⟨i, hi, hz, hsize, hby⟩ := info_parts info32
  obtain ⟨v', w', hr, h1, h2, _⟩ := run_append_own (P := Try.prog) w w.heap.size 24 o.type 32 i (.int .u32 0) 1 4 under24 hi hz hsize hby rfl (by decide) (.slice none 0 0) 0 [] (World.ownsRow_nil w _ 32 1) ad m c (u32s xs) (by rw [u32s_len, hl, Nat.mul_one]) hsrc (u32s_one xs) (by unfold maxLen; omega) (by omega) (Nat.le_refl _)
  have hH : Hl w w' v' xs := ⟨by
    rw [List.nil_append, Nat.zero_add, ← hl] at h1; exact h1, (Below.refl _ _).grown h2 (Nat.le_refl _) (fun g hg => by cases hg)⟩
  unfold Oper.wp execOp
  simp only [ho, resolve, invoke, builtin, Sem.run_bind, Sem.run_pure, Result.andThen_ok, List.map_toArray, List.map_cons, List.map_nil, hs, hx, hr]
  exact h _ _ hH
theorem Hl.pg {W w : World} {v : Value} {L : List Int} (h : Hl W w v L) (hL : L.length = 1024) : PgIs w v L ∧ (∀ b, blkOf v = some b → W.heap.size ≤ b) := by
  rcases h.own.2 with ⟨hv, h0⟩ | ⟨g, cap, cur, hv, hB, hg, hle, r⟩
  · omega
  · rw [hL] at hv
    refine ⟨⟨hL, .inr ⟨g, cap, cur, hv, hg, ?_⟩⟩, fun b hb => by rw [hv] at hb; simp only [blkOf, Option.some.injEq] at hb; rw [← hb]; exact hB⟩
    apply List.ext_getElem?
    intro j
    by_cases hj : j < 1024
    · have hjl : j < (u32s L).length := by rw [u32s_len, hL]; exact hj
      have hc := h.own.cells (g := g) (by rw [hv]; rfl) j _ (List.getElem?_eq_getElem hjl)
      rw [Addr.add_mid, Nat.zero_add, cell_of_row w g j _ 32 (0, 0) hg] at hc
      rw [List.getElem?_take_of_lt hj, List.getElem?_eq_getElem hjl]
      simpa using hc
    · rw [List.getElem?_take_eq_none (by omega), List.getElem?_eq_none (by rw [u32s_len, hL]; omega)]
set_option maxRecDepth 40000 in
set_option maxHeartbeats 4000000 in
theorem rlay_any (w : World) (r : Rf) (m : MS) (h : RMem w r m) (s : Bool) (p : Int) (L : List Int) (ao : Option Addr) (c : Nat) (hn : L.length ≤ 9223372036854775807)
    (hw : L.length = 1024 → ∃ g o, ao = some ⟨g, o, none⟩ ∧ g < w.heap.size ∧ g ∉ r.all ∧ ∀ j v, (u32s L)[j]? = some v → w.cell? ⟨g, o + j, none⟩ = some v) :
    Calls Try.prog 66 #[ptr r.g, fr s p, .slice ao L.length c] w fun x w' => x = .returned (.int .i64 (m.lerr s p L)) ∧ ∃ r', RSt w w' r r' (m.lay s p L) := by
  have hX := h.on (below_one w (.cells #[.bool s, .int .i64 p] 95))
  have hB := hid (below_one w (.cells #[.bool s, .int .i64 p] 95))
  have HF := hid (place_any _ r m hX s p)
  have h1 := h.ns0
  have h2 := h.most
  have hlt : Hid (∀ k, m.at s p = some k → k < m.P.length) := fun k hk => MS.at_lt h1 hk
  have n2 : (m.P.length : Int) ≤ 128 := by omega
  have H := hid hX
  clear h hX h1 h2
  have q1 : (L.length : Int) ≤ 9223372036854775807 := by omega
  have HW := hid hw
  clear hw hn
  unfold MS.lerr MS.lay
  generalize hr : m.at s p = o at *
  cases o with
  | none =>
    simp only [fr, ptr, pl] at *
    go_enter Try.func66, Try.ntmps66
    go_wp2_with fail
    refine HF.out.mono ?_
    rintro x w1 ⟨rfl, hb1⟩
    have HB1 := hid (below_on hB.out hb1)
    have HM := hid (H.out.on hb1)
    clear hb1
    go_wp2_with fail
    go_ret
    exact ⟨rfl, r, .same HM.out (.of HB1.out)⟩
  | some k =>
    have hk := hlt.out k rfl
    have k1 : (k : Int) < (m.P.length : Int) := by omega
    by_cases hl : L.length = 1024
    · obtain ⟨gw, ow, rfl, hgw, hfw, hcw⟩ := HW.out hl
      simp only [if_pos hl]
      rw [hl]
      have hL := hid hl
      clear HW hl q1
      simp only [fr, ptr, pl] at *
      go_enter Try.func66, Try.ntmps66
      go_wp2_with fail
      refine HF.out.mono ?_
      rintro x w1 ⟨rfl, hb1⟩
      have HB1 := hid (below_on hB.out hb1)
      have HM := hid (H.out.on hb1)
      clear hb1
      have c2 : w1.cell? ⟨r.g, 2, none⟩ = some (.int .i64 m.c) := HM.out.cel.cell 2
      have f2 := HM.out.cel.free 2
      have HT := hid (HM.out.tick 1024)
      have HBT : Hid (ButL r.all w (w1.setCell ⟨r.g, 2, none⟩ (.int .i64 (wrap64 (m.c + 1024))))) := hid ((ButL.of HB1.out).trans (.setCell _ _ _ _ (by simp [Rf.all])))
      have HSRC : Hid (∀ j v, (u32s L)[j]? = some v → (w1.setCell ⟨r.g, 2, none⟩ (.int .i64 (wrap64 (m.c + 1024)))).cell? ((⟨gw, ow, none⟩ : Addr).add j) = some v) := hid (fun j v hv => by
        have e := HBT.out.block gw hgw hfw
        rw [Addr.add_mid]
        exact (World.cell?_of_block (w := w) e).trans (hcw j v hv))
      go_wp2_with fail
      generalize (w1.setCell ⟨r.g, 2, none⟩ (.int .i64 (wrap64 (m.c + 1024)))) = Y at *
      have HX : Hid (∀ x, ButL [r.gp] Y x → x.cell? ⟨r.g, 0, none⟩ = some (.slice (some ⟨r.gp, 0, none⟩) m.P.length r.cap)) := hid (fun x hx => (HT.out.cel.but hx (by rw [List.mem_singleton]; exact HT.out.ne)).cell 0)
      refine wp_region_held_drew (S := fun x => ButL [r.gp] Y x) (by kernel_rfl) (.of (Below.refl _ _).drew) (fun hHeld => ?_)
      refine wpAnyH_take (i := 0) (oi := { dst := some 25, op := Op.move (Operand.tmp 0), type := 64, pos := "ref.go:156", after := #[], guard := none }) (v := .pointer (some ⟨r.g, 0, none⟩)) rfl (by kernel_rfl) (by kernel_rfl) (by kernel_rfl) (fun _ _ _ h => h) (Or.inl ⟨by rfl, by intro w hSw; go_simp⟩) (by assumption) ?_
      simp only [Act.put, List.setIfInBounds_toArray, List.set_cons_zero, List.set_cons_succ]
      refine wpAnyH_take (i := 1) (oi := { dst := some 26, op := Op.nilCheck (Operand.tmp 25), type := 0, pos := "ref.go:156", after := #[{ on := 0, ground := Ground.data }], guard := none }) (v := .pointer (some ⟨r.g, 0, none⟩)) rfl (by kernel_rfl) (by kernel_rfl) (by kernel_rfl) (fun _ _ _ h => h) (Or.inl ⟨by rfl, by intro w hSw; go_simp⟩) (by assumption) ?_
      simp only [Act.put, List.setIfInBounds_toArray, List.set_cons_zero, List.set_cons_succ]
      refine wpAnyH_take (i := 2) (oi := { dst := some 27, op := Op.fieldAddr 105 (Operand.tmp 26) 0, type := 0, pos := "ref.go:156", after := #[{ on := 1, ground := Ground.data }], guard := none }) (v := .pointer (some ⟨r.g, 0, none⟩)) rfl (by kernel_rfl) (by kernel_rfl) (by kernel_rfl) (fun _ _ _ h => h) (Or.inl ⟨by rfl, by intro w hSw; go_simp⟩) (by assumption) ?_
      simp only [Act.put, List.setIfInBounds_toArray, List.set_cons_zero, List.set_cons_succ]
      refine wpAnyH_take (i := 3) (oi := { dst := some 28, op := Op.load 66 (Operand.tmp 27), type := 66, pos := "ref.go:156", after := #[{ on := 2, ground := Ground.data }], guard := none }) (v := .slice (some ⟨r.gp, 0, none⟩) m.P.length r.cap) rfl (by kernel_rfl) (by kernel_rfl) (by kernel_rfl) (fun _ _ _ h => h) (Or.inl ⟨by rfl, by intro w hSw; have hcc := HX.out w hSw; go_simp⟩) (by assumption) ?_
      simp only [Act.put, List.setIfInBounds_toArray, List.set_cons_zero, List.set_cons_succ]
      refine wpAnyH_take (i := 4) (oi := { dst := some 29, op := Op.move (Operand.tmp 7), type := 3, pos := "ref.go:156", after := #[], guard := none }) (v := .int .i64 (k : Int)) rfl (by kernel_rfl) (by kernel_rfl) (by kernel_rfl) (fun _ _ _ h => h) (Or.inl ⟨by rfl, by intro w hSw; go_simp⟩) (by assumption) ?_
      simp only [Act.put, List.setIfInBounds_toArray, List.set_cons_zero, List.set_cons_succ]
      refine wpAnyH_take (i := 5) (oi := { dst := some 30, op := Op.move (Operand.tmp 8), type := 24, pos := "ref.go:156", after := #[], guard := none }) (v := .slice none 0 0) rfl (by kernel_rfl) (by kernel_rfl) (by kernel_rfl) (fun _ _ _ h => h) (Or.inl ⟨by rfl, by intro w hSw; go_simp⟩) (by assumption) ?_
      simp only [Act.put, List.setIfInBounds_toArray, List.set_cons_zero, List.set_cons_succ]
      refine wpAnyH_take (i := 6) (oi := { dst := some 31, op := Op.move (Operand.tmp 2), type := 24, pos := "ref.go:156", after := #[], guard := none }) (v := .slice (some ⟨gw, ow, none⟩) 1024 c) rfl (by kernel_rfl) (by kernel_rfl) (by kernel_rfl) (fun _ _ _ h => h) (Or.inl ⟨by rfl, by intro w hSw; go_simp⟩) (by assumption) ?_
      simp only [Act.put, List.setIfInBounds_toArray, List.set_cons_zero, List.set_cons_succ]
      refine wpAnyH_ready (rs := [7]) (by kernel_rfl) (by simp) (AllReadyH.cons (o := { dst := some 32, op := Op.call { callee := Callee.builtin Builtin.append, args := #[Operand.tmp 30, Operand.tmp 31], argTypes := #[24, 24] }, type := 24, pos := "ref.go:156", after := #[{ on := 5, ground := Ground.data }, { on := 6, ground := Ground.data }], guard := none }) rfl (fun KQ hK => ?_) AllReadyH.nil)
      rw [if_pos (by rfl)]
      refine wp_append_new _ _ rfl rfl ⟨gw, ow, none⟩ 1024 c L rfl hL.out HSRC.out (by decide) ?_
      intro v2 w2 hnl
      obtain ⟨ro, rc, rfl, _⟩ := hnl.form
      have hbY := below_on ((Below.refl Y.heap.size Y).drew) hnl.below
      refine hK.out _ _ (.of hbY) (fun hHeld => ?_)
      clear hK KQ
      try simp only [Act.put, List.setIfInBounds_toArray, List.set_cons_zero, List.set_cons_succ]
      refine wpAnyH_take (i := 8) (oi := { dst := some 33, op := Op.indexAddr 66 (Operand.tmp 28) (Operand.tmp 29), type := 0, pos := "ref.go:156", after := #[{ on := 3, ground := Ground.data }, { on := 4, ground := Ground.data }, { on := 0, ground := Ground.phase }, { on := 1, ground := Ground.phase }, { on := 2, ground := Ground.phase }, { on := 3, ground := Ground.phase }, { on := 4, ground := Ground.phase }, { on := 5, ground := Ground.phase }, { on := 6, ground := Ground.phase }, { on := 7, ground := Ground.phase }], guard := none }) (v := .pointer (some ⟨r.gp, k, none⟩)) rfl (by kernel_rfl) (by kernel_rfl) (by kernel_rfl) (fun _ _ _ h => h) (Or.inl ⟨by rfl, by intro w hSw; go_simp⟩) (by assumption) ?_
      simp only [Act.put, List.setIfInBounds_toArray, List.set_cons_zero, List.set_cons_succ]
      refine wpAnyH_ready (rs := [9]) (by kernel_rfl) (by simp) (AllReadyH.cons (o := { dst := none, op := Op.store 24 (Operand.tmp 33) (Operand.tmp 32), type := 0, pos := "ref.go:156", after := #[{ on := 8, ground := Ground.data }, { on := 7, ground := Ground.data }, { on := 7, ground := Ground.chain }, { on := 0, ground := Ground.phase }, { on := 1, ground := Ground.phase }, { on := 2, ground := Ground.phase }, { on := 3, ground := Ground.phase }, { on := 4, ground := Ground.phase }, { on := 5, ground := Ground.phase }, { on := 6, ground := Ground.phase }, { on := 7, ground := Ground.phase }], guard := none }) rfl (fun KQ hK => ?_) AllReadyH.nil)
      (have hMs := HT.out.on hbY; have ys := hMs.cellAt k hk; have yf := hMs.freeP k; go_simp)
      refine hK.out _ _ (ButL.trans (.of hbY) (.setCell _ r.gp k _ (by simp))) (fun hHeld => ?_)
      clear hK KQ
      try simp only [Act.put]
      refine wpAnyH_done (by kernel_rfl) ?_ _
      clear hHeld
      have HYL : Hid (∀ b ∈ r.all, b < Y.heap.size) := hid HT.out.lt
      have HST : Hid (RSt w (w2.setCell ⟨r.gp, k, none⟩ (.slice ro L.length rc)) r { r with vs := r.vs.set k (.slice ro L.length rc) } ⟨m.ns, m.P.set k L, wrap64 (m.c + 1024)⟩) := hid ((HT.out.on hbY).step (HBT.out.on hbY) k hk (.slice ro L.length rc) L (hnl.pg hL.out).1 (fun b hb => by have := (hnl.pg hL.out).2 b hb; exact ⟨Nat.le_trans HBT.out.size this, fun hm => by have h9 := HYL.out _ hm; have h8 : Y.heap.size ≤ b := this; omega⟩))
      clear hnl hbY HX
      go_wp2_with fail
      go_ret
      exact ⟨rfl, _, HST.out⟩
    · have hl2 : ((L.length : Int) = 1024) = False := by simp; omega
      simp only [if_neg hl] at *
      clear HW
      simp only [fr, ptr, pl] at *
      go_enter Try.func66, Try.ntmps66
      go_wp2_with fail
      refine HF.out.mono ?_
      rintro x w1 ⟨rfl, hb1⟩
      have HB1 := hid (below_on hB.out hb1)
      have HM := hid (H.out.on hb1)
      clear hb1
      go_wp2_with fail
      go_ret
      exact ⟨rfl, r, .same HM.out (.of HB1.out)⟩
end Go.Proofs.Ytnmdhnbgikbpoaa
