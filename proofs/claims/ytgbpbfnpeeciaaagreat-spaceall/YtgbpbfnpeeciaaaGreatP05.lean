import Derived.Test.YtgbpbfnpeeciaaaGreatP04
namespace Go.Proofs.YtgbpbfnpeeciaaaGreat
open Go.RowKit
theorem PgIs.cell {w : World} {b : Nat} {cur : Array Value} {L : List Int} (hL : L.length = 1024) (h : w.heap[b]? = some (.cells cur 29 (0, 0))) (h2 : cur.toList.take 1024 = u32s L) (j : Nat) (hj : j < 1024) : w.cell? ⟨b, j, none⟩ = some (.int .u32 (wd L j)) := by
  rw [cell_of_row w b j _ 29 (0, 0) h]
  have : (cur.toList.take 1024)[j]? = some (.int .u32 (wd L j)) := by
    rw [h2, u32s, List.getElem?_map, List.getElem?_eq_getElem (by omega)]
    simp [wd, List.getD_eq_getElem?_getD, List.getElem?_eq_getElem (show j < L.length by omega)]
  rw [List.getElem?_take_of_lt hj] at this
  simpa using this
theorem wd_zsR (k : Nat) : wd zs k = 0 := by
  unfold wd zs; rw [List.getD_eq_getElem?_getD, List.getElem?_replicate]; split <;> rfl
theorem wd_zsR' (k : Nat) : wd zs k = 0 := wd_zsR k
set_option maxRecDepth 40000 in
theorem rpeek_any (w : World) (r : Rf) (m : MS) (h : RMem w r m) (s : Bool) (p off : Int) :
    Calls Tryz.prog 51 #[ptr r.g, fr s p, .int .i64 off] w fun x w' => x = .returned (.int .u32 (m.word s p off)) ∧ Below w.heap.size w w' := by
  have hX := h.on (below_one w (.cells #[.bool s, .int .i64 p] 72))
  have hB := hid (below_one w (.cells #[.bool s, .int .i64 p] 72))
  have HF := hid (rplace_any _ r m hX s p)
  have h1 := h.ns0
  have h2 := h.most
  have hlt : Hid (∀ k, m.at s p = some k → k < m.P.length) := fun k hk => MS.at_lt h1 hk
  have n2 : (m.P.length : Int) ≤ 128 := by omega
  have H := hid hX
  clear h hX h1 h2
  unfold MS.word
  generalize hr : m.at s p = o at *
  cases o with
  | none =>
    simp only [fr, ptr, pl] at *
    go_enter Tryz.func51, Tryz.ntmps51
    go_wp2_with fail
    refine HF.out.mono ?_
    rintro x w1 ⟨rfl, hb1⟩
    have HB1 := hid (below_on hB.out hb1)
    have HM := hid (H.out.on hb1)
    clear hb1
    go_wp2_with fail
    go_ret
    exact ⟨rfl, HB1.out⟩
  | some k =>
    have hk := hlt.out k rfl
    have k1 : (k : Int) < (m.P.length : Int) := by omega
    by_cases ho : In off
    · simp only [fr, ptr, pl, if_pos ho] at *
      obtain ⟨o0, o1⟩ := ho
      go_enter Tryz.func51, Tryz.ntmps51
      go_wp2_with fail
      refine HF.out.mono ?_
      rintro x w1 ⟨rfl, hb1⟩
      have HB1 := hid (below_on hB.out hb1)
      have HM := hid (H.out.on hb1)
      clear hb1
      have y0 := HM.out.cel.cell 0
      have y1 := HM.out.cellAt k hk
      simp only [List.getElem?_cons_zero] at y0
      rcases HM.out.pg k hk with ⟨hL, ⟨e1, e2⟩ | ⟨b, cap, cur, e1, e2, e3⟩⟩
      · have HZ : Hid (wd (m.p k) off.toNat = 0) := hid (by rw [e2, wd_zsR'])
        rw [e1] at y1
        clear e1 e2 hL
        go_wp2_with fail
        go_ret
        exact ⟨ret_int HZ.out.symm, HB1.out⟩
      · have y2 := PgIs.cell hL e2 e3 off.toNat (by omega)
        rw [e1] at y1
        clear e1 e2 e3 hL
        obtain ⟨res, hres⟩ : ∃ res, wd (m.p k) off.toNat = res := ⟨_, rfl⟩
        rw [hres] at y2
        have HR := hid hres
        clear hres
        go_wp2_with fail
        go_ret
        exact ⟨ret_int HR.out.symm, HB1.out⟩
    · simp only [fr, ptr, pl, if_neg ho] at *
      have ho' : off < 0 ∨ (0 ≤ off ∧ 1024 ≤ off) := by unfold In at ho; omega
      clear ho
      go_enter Tryz.func51, Tryz.ntmps51
      go_wp2_with fail
      refine HF.out.mono ?_
      rintro x w1 ⟨rfl, hb1⟩
      have HB1 := hid (below_on hB.out hb1)
      have HM := hid (H.out.on hb1)
      clear hb1
      rcases ho' with ho | ⟨ho, ho2⟩
      all_goals go_wp2_with fail
      all_goals go_ret
      all_goals exact ⟨rfl, HB1.out⟩
structure NewL (w w' : World) (g : Nat) (L : List Int) : Prop where
  below : Below w.heap.size w w'
  hg : w.heap.size ≤ g
  cel : Cel w' g 29 (u32s L)
def partL (L : List Int) (j : Nat) : List Int := L.take j ++ List.replicate (1024 - j) 0
end Go.Proofs.YtgbpbfnpeeciaaaGreat
namespace Go.Proofs.YtgbpbfnpeeciaaaGreat
open Go.RowKit
theorem RSt.same {w w' : World} {r : Rf} {m' : MS} (h : RMem w' r m') (hb : ButL r.all w w') : RSt w w' r r m' := ⟨h, hb, rfl, fun _ hk => .inl hk⟩
set_option maxRecDepth 40000 in
set_option maxHeartbeats 4000000 in
set_option maxRecDepth 40000 in
theorem pg_nil (w : World) : PgIs w (.slice none 0 0) zs := ⟨zs_len, .inl ⟨rfl, rfl⟩⟩
theorem RMem.step {w w1 : World} {r : Rf} {m : MS} (h : RMem w1 r m) (hb : ButL r.all w w1) (k : Nat) (hk : k < m.P.length) (v' : Value) (L' : List Int) (hp : PgIs w1 v' L') (hnew : ∀ b, blkOf v' = some b → w.heap.size ≤ b ∧ b ∉ r.all) :
    RSt w (w1.setCell ⟨r.gp, k, none⟩ v') r { r with vs := r.vs.set k v' } { m with P := m.P.set k L' } := by
  refine ⟨h.setPage k hk v' L' hp (fun b hb' => (hnew b hb').2), hb.trans (.setCell _ _ _ _ (by simp [Rf.all])), rfl, fun b hb' => ?_⟩
  rcases Rf.all_mem hb' with rfl | rfl | ⟨j, hj, hbj⟩
  · exact .inl (by simp [Rf.all])
  · exact .inl (by simp [Rf.all])
  · simp only [List.length_set] at hj
    by_cases e : j = k
    · subst e
      have e2 : ({ r with vs := r.vs.set j v' } : Rf).v j = v' := by
        unfold Rf.v; rw [List.getD_eq_getElem?_getD, List.getElem?_set_self hj]; rfl
      rw [e2] at hbj
      exact .inr (hnew b hbj).1
    · have e2 : ({ r with vs := r.vs.set k v' } : Rf).v j = r.v j := by
        unfold Rf.v; rw [List.getD_eq_getElem?_getD, List.getElem?_set_ne (Ne.symm e), ← List.getD_eq_getElem?_getD]
      rw [e2] at hbj
      exact .inl (Rf.mem_all hj hbj)
set_option maxRecDepth 40000 in
theorem rzero_any (w : World) (r : Rf) (m : MS) (h : RMem w r m) (s : Bool) (p : Int) :
    Calls Tryz.prog 57 #[ptr r.g, fr s p] w fun x w' => x = .returned (.int .i64 (m.perr s p)) ∧ ∃ r', RSt w w' r r' (m.zero s p) := by
  have hX := h.on (below_one w (.cells #[.bool s, .int .i64 p] 72))
  have hB := hid (below_one w (.cells #[.bool s, .int .i64 p] 72))
  have HF := hid (rplace_any _ r m hX s p)
  have h1 := h.ns0
  have h2 := h.most
  have hlt : Hid (∀ k, m.at s p = some k → k < m.P.length) := fun k hk => MS.at_lt h1 hk
  have n2 : (m.P.length : Int) ≤ 128 := by omega
  have H := hid hX
  clear h hX h1 h2
  unfold MS.zero MS.perr
  generalize hr : m.at s p = o at *
  cases o with
  | none =>
    simp only [fr, ptr, pl] at *
    go_enter Tryz.func57, Tryz.ntmps57
    go_wp2_with fail
    refine HF.out.mono ?_
    rintro x w1 ⟨rfl, hb1⟩
    have HB1 := hid (below_on hB.out hb1)
    have HM := hid (H.out.on hb1)
    clear hb1
    go_wp2_with fail
    go_ret
    exact ⟨rfl, r, .same HM.out (.of HB1.out)⟩
  | some k =>
    have hk := hlt.out k rfl
    have k1 : (k : Int) < (m.P.length : Int) := by omega
    simp only [fr, ptr, pl] at *
    go_enter Tryz.func57, Tryz.ntmps57
    go_wp2_with fail
    refine HF.out.mono ?_
    rintro x w1 ⟨rfl, hb1⟩
    have HB1 := hid (below_on hB.out hb1)
    have HM := hid (H.out.on hb1)
    clear hb1
    have c2 : w1.cell? ⟨r.g, 2, none⟩ = some (.int .i64 m.c) := HM.out.cel.cell 2
    have f2 := HM.out.cel.free 2
    have HT := hid (HM.out.tick 1024)
    have HBT : Hid (ButL r.all w (w1.setCell ⟨r.g, 2, none⟩ (.int .i64 (wrap64 (m.c + 1024))))) := hid ((ButL.of HB1.out).trans (.setCell _ _ _ _ (by simp [Rf.all])))
    have y0 : (w1.setCell ⟨r.g, 2, none⟩ (.int .i64 (wrap64 (m.c + 1024)))).cell? ⟨r.g, 0, none⟩ = some (.slice (some ⟨r.gp, 0, none⟩) m.P.length r.cap) := HT.out.cel.cell 0
    have y1 := HT.out.cellAt k hk
    have y2 := HT.out.freeP k
    have HST := hid (HT.out.step HBT.out k hk (.slice none 0 0) zs (pg_nil _) (fun b hb => by cases hb))
    generalize r.v k = oldv at *
    go_wp2_with fail
    go_ret
    exact ⟨rfl, _, HST.out⟩
end Go.Proofs.YtgbpbfnpeeciaaaGreat
