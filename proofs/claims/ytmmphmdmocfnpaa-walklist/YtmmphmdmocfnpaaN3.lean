/- The document's Page 56, Blank 60, Read 41, Zero 54. -/
import Derived.Test.YtmmphmdmocfnpaaN2
namespace Go.Proofs.Ytmmphmdmocfnpaa
open Go.RowKit
theorem RSt.same {w w' : World} {r : Rf} {m' : MS} (h : RMem w' r m') (hb : ButL r.all w w') : RSt w w' r r m' := ⟨h, hb, rfl, fun _ hk => .inl hk⟩
set_option maxRecDepth 40000 in
theorem ret_tb {a b : Bool} {v : Value} (h : a = b) : Ending.returned (.tuple #[.bool a, v]) = .returned (.tuple #[.bool b, v]) := by rw [h]
theorem zs_of {L : List Int} (hL : L.length = 1024) (h : ∀ j, j < 1024 → wd L j = 0) : L = zs := by
  have e : ∀ j, j < L.length → wd L j = wd zs j := fun j hj => by rw [wd_zs, h j (by omega)]
  apply List.ext_getElem (by rw [hL, zs_len])
  intro i h1 h2
  have := e i h1
  unfold wd at this
  rw [List.getD_eq_getElem?_getD, List.getElem?_eq_getElem h1, List.getD_eq_getElem?_getD, List.getElem?_eq_getElem h2] at this
  exact this
set_option maxRecDepth 40000 in
set_option maxHeartbeats 4000000 in
set_option maxRecDepth 40000 in
theorem rread_any (w : World) (r : Rf) (m : MS) (h : RMem w r m) (s : Bool) (p off : Int) :
    Calls Try.prog 66 #[ptr r.g, fr s p, .int .i64 off] w fun x w' => x = .returned (.tuple #[.int .u32 (m.word s p off), .int .i64 (m.err s p off)]) ∧ RSt w w' r r (m.read s p off) := by
  have hX := h.on (below_one w (.cells #[.bool s, .int .i64 p] 99))
  have hB := hid (below_one w (.cells #[.bool s, .int .i64 p] 99))
  have C4 := hid (Cel.new w 99 [.bool s, .int .i64 p])
  have HF := hid (rhas_any _ r m hX s p)
  have HNE : Hid (w.heap.size ∉ r.all) := hid (fun hm => by have := h.lt _ hm; omega)
  have H := hid hX
  clear h hX
  by_cases ho : (m.at s p).isSome = true ∧ In off
  · obtain ⟨ho1, ho2⟩ := ho
    have HE : Hid (m.err s p off = 0) := hid (by unfold MS.err; obtain ⟨k, hk⟩ := Option.isSome_iff_exists.1 ho1; rw [hk]; simp only [if_pos ho2])
    have HRD : Hid (m.read s p off = m.tick 1) := hid (by unfold MS.read; obtain ⟨k, hk⟩ := Option.isSome_iff_exists.1 ho1; rw [hk]; simp only [if_pos ho2])
    have HW : Hid ((m.tick 1).word s p off = m.word s p off) := hid rfl
    rw [ho1] at HF
    rw [HE.out, HRD.out]
    clear ho1
    obtain ⟨o0, o1⟩ := ho2
    simp only [fr, ptr] at *
    go_enter Try.func66, Try.ntmps66
    go_wp2_with fail
    refine HF.out.mono ?_
    rintro x w1 ⟨rfl, hb1⟩
    have HB1 := hid (below_on hB.out hb1)
    have HM := hid (H.out.on hb1)
    have C5 := hid (C4.out.on hb1)
    clear hb1
    have c2 : w1.cell? ⟨r.g, 2, none⟩ = some (.int .i64 m.c) := HM.out.cel.cell 2
    have f2 := HM.out.cel.free 2
    have HT := hid (HM.out.tick 1)
    have HBT : Hid (ButL r.all w (w1.setCell ⟨r.g, 2, none⟩ (.int .i64 (wrap64 (m.c + 1))))) := hid ((ButL.of HB1.out).trans (.setCell _ _ _ _ (by simp [Rf.all])))
    have C6 := hid (C5.out.but (ButL.setCell (G := [r.g]) w1 r.g 2 (.int .i64 (wrap64 (m.c + 1))) (by simp)) (by rw [List.mem_singleton]; intro e; exact HNE.out (by simp [Rf.all, e])))
    have y0 : (w1.setCell ⟨r.g, 2, none⟩ (.int .i64 (wrap64 (m.c + 1)))).cell? ⟨w.heap.size, 0, none⟩ = some (.bool s) := C6.out.cell 0
    have y1 : (w1.setCell ⟨r.g, 2, none⟩ (.int .i64 (wrap64 (m.c + 1)))).cell? ⟨w.heap.size, 1, none⟩ = some (.int .i64 p) := C6.out.cell 1
    go_wp2_with fail
    refine (rpeek_any _ r (m.tick 1) HT.out s p off).mono ?_
    rintro x w3 ⟨rfl, hb3⟩
    have HB3 := hid hb3
    clear hb3
    rw [HW.out]
    go_wp2_with fail
    go_ret2
    exact ⟨rfl, .same (HT.out.on HB3.out) (HBT.out.on HB3.out)⟩
  · have HRD : Hid (m.read s p off = m) := hid (by
      unfold MS.read
      cases hq : m.at s p with
      | none => rfl
      | some k => rw [hq] at ho; exact if_neg (fun hi => ho ⟨rfl, hi⟩))
    have HWD : Hid (m.word s p off = 0) := hid (by
      unfold MS.word
      cases hq : m.at s p with
      | none => rfl
      | some k => rw [hq] at ho; exact if_neg (fun hi => ho ⟨rfl, hi⟩))
    rw [HRD.out, HWD.out]
    unfold MS.err
    generalize m.at s p = o at *
    cases o with
    | none =>
      simp only [fr, ptr, Option.isSome] at *
      go_enter Try.func66, Try.ntmps66
      go_wp2_with fail
      refine HF.out.mono ?_
      rintro x w1 ⟨rfl, hb1⟩
      have HB1 := hid (below_on hB.out hb1)
      have HM := hid (H.out.on hb1)
      clear hb1
      go_wp2_with fail
      go_ret2
      exact ⟨rfl, .same HM.out (.of HB1.out)⟩
    | some k =>
      have hn : ¬ In off := fun hi => ho ⟨rfl, hi⟩
      have ho' : off < 0 ∨ (0 ≤ off ∧ 1024 ≤ off) := by unfold In at hn; omega
      simp only [fr, ptr, Option.isSome, if_neg hn] at *
      clear ho hn
      go_enter Try.func66, Try.ntmps66
      go_wp2_with fail
      refine HF.out.mono ?_
      rintro x w1 ⟨rfl, hb1⟩
      have HB1 := hid (below_on hB.out hb1)
      have HM := hid (H.out.on hb1)
      clear hb1
      rcases ho' with ho | ⟨ho, ho2⟩
      all_goals go_wp2_with fail
      all_goals go_ret2
      all_goals exact ⟨rfl, .same HM.out (.of HB1.out)⟩
theorem pg_nil (w : World) : PgIs w (.slice none 0 0) zs := ⟨zs_len, .inl ⟨rfl, rfl⟩⟩
/-- A page has been laid anew: the step. -/
theorem RMem.step {w w1 : World} {r : Rf} {m : MS} (h : RMem w1 r m) (hb : ButL r.all w w1) (k : Nat) (hk : k < m.P.length) (v' : Value) (L' : List Int) (hp : PgIs w1 v' L') (hnew : ∀ b, blkOf v' = some b → w.heap.size ≤ b ∧ b ∉ r.all) :
    RSt w (w1.setCell ⟨r.gp, k, none⟩ v') r { r with vs := r.vs.set k v' } { m with P := m.P.set k L' } := by
  refine ⟨h.setPage k hk v' L' hp (fun b hb' => (hnew b hb').2), hb.trans (.setCell _ _ _ _ (by simp [Rf.all])), rfl, fun b hb' => ?_⟩
  rcases Rf.all_mem hb' with rfl | rfl | ⟨j, hj, hbj⟩
  · exact .inl (by simp [Rf.all])
  · exact .inl (by simp [Rf.all])
  · simp only [List.length_set] at hj
    by_cases e : j = k
    · subst e
      have e2 : ({ r with vs := r.vs.set j v' } : Rf).v j = v' := by
        unfold Rf.v; rw [List.getD_eq_getElem?_getD, List.getElem?_set_self hj]; rfl
      rw [e2] at hbj
      exact .inr (hnew b hbj).1
    · have e2 : ({ r with vs := r.vs.set k v' } : Rf).v j = r.v j := by
        unfold Rf.v; rw [List.getD_eq_getElem?_getD, List.getElem?_set_ne (Ne.symm e), ← List.getD_eq_getElem?_getD]
      rw [e2] at hbj
      exact .inl (Rf.mem_all hj hbj)
end Go.Proofs.Ytmmphmdmocfnpaa
