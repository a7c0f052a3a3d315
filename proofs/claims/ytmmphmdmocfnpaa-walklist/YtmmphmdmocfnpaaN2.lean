/- The document's Peek 45, whole 61, Page 56, Blank 60. -/
import Derived.Test.YtmmphmdmocfnpaaN1
namespace Go.Proofs.Ytmmphmdmocfnpaa
open Go.RowKit
theorem PgIs.cell {w : World} {b : Nat} {cur : Array Value} {L : List Int} (hL : L.length = 1024) (h : w.heap[b]? = some (.cells cur 22 (0, 0))) (h2 : cur.toList.take 1024 = u32s L) (j : Nat) (hj : j < 1024) : w.cell? ⟨b, j, none⟩ = some (.int .u32 (wd L j)) := by
  rw [cell_of_row w b j _ 22 (0, 0) h]
  have : (cur.toList.take 1024)[j]? = some (.int .u32 (wd L j)) := by
    rw [h2, u32s, List.getElem?_map, List.getElem?_eq_getElem (by omega)]
    simp [wd, List.getD_eq_getElem?_getD, List.getElem?_eq_getElem (show j < L.length by omega)]
  rw [List.getElem?_take_of_lt hj] at this
  simpa using this
theorem wd_zs (k : Nat) : wd zs k = 0 := by
  unfold wd zs; rw [List.getD_eq_getElem?_getD, List.getElem?_replicate]; split <;> rfl
theorem wd_zs' (k : Nat) : wd zs k = 0 := wd_zs k
set_option maxRecDepth 40000 in
theorem rpeek_any (w : World) (r : Rf) (m : MS) (h : RMem w r m) (s : Bool) (p off : Int) :
    Calls Try.prog 75 #[ptr r.g, fr s p, .int .i64 off] w fun x w' => x = .returned (.int .u32 (m.word s p off)) ∧ Below w.heap.size w w' := by
  have hX := h.on (below_one w (.cells #[.bool s, .int .i64 p] 99))
  have hB := hid (below_one w (.cells #[.bool s, .int .i64 p] 99))
  have HF := hid (place_any _ r m hX s p)
  have h1 := h.ns0
  have h2 := h.most
  have hlt : Hid (∀ k, m.at s p = some k → k < m.P.length) := fun k hk => MS.at_lt h1 hk
  have n2 : (m.P.length : Int) ≤ 128 := by omega
  have H := hid hX
  clear h hX h1 h2
  unfold MS.word
  generalize hr : m.at s p = o at *
  cases o with
  | none =>
    simp only [fr, ptr, pl] at *
    go_enter Try.func75, Try.ntmps75
    go_wp2_with fail
    refine HF.out.mono ?_
    rintro x w1 ⟨rfl, hb1⟩
    have HB1 := hid (below_on hB.out hb1)
    have HM := hid (H.out.on hb1)
    clear hb1
    go_wp2_with fail
    go_ret
    exact ⟨rfl, HB1.out⟩
  | some k =>
    have hk := hlt.out k rfl
    have k1 : (k : Int) < (m.P.length : Int) := by omega
    by_cases ho : In off
    · simp only [fr, ptr, pl, if_pos ho] at *
      obtain ⟨o0, o1⟩ := ho
      go_enter Try.func75, Try.ntmps75
      go_wp2_with fail
      refine HF.out.mono ?_
      rintro x w1 ⟨rfl, hb1⟩
      have HB1 := hid (below_on hB.out hb1)
      have HM := hid (H.out.on hb1)
      clear hb1
      have y0 := HM.out.cel.cell 0
      have y1 := HM.out.cellAt k hk
      simp only [List.getElem?_cons_zero] at y0
      rcases HM.out.pg k hk with ⟨hL, ⟨e1, e2⟩ | ⟨b, cap, cur, e1, e2, e3⟩⟩
      · have HZ : Hid (wd (m.p k) off.toNat = 0) := hid (by rw [e2, wd_zs'])
        rw [e1] at y1
        clear e1 e2 hL
        go_wp2_with fail
        go_ret
        exact ⟨ret_int HZ.out.symm, HB1.out⟩
      · have y2 := PgIs.cell hL e2 e3 off.toNat (by omega)
        rw [e1] at y1
        clear e1 e2 e3 hL
        obtain ⟨res, hres⟩ : ∃ res, wd (m.p k) off.toNat = res := ⟨_, rfl⟩
        rw [hres] at y2
        have HR := hid hres
        clear hres
        go_wp2_with fail
        go_ret
        exact ⟨ret_int HR.out.symm, HB1.out⟩
    · simp only [fr, ptr, pl, if_neg ho] at *
      have ho' : off < 0 ∨ (0 ≤ off ∧ 1024 ≤ off) := by unfold In at ho; omega
      clear ho
      go_enter Try.func75, Try.ntmps75
      go_wp2_with fail
      refine HF.out.mono ?_
      rintro x w1 ⟨rfl, hb1⟩
      have HB1 := hid (below_on hB.out hb1)
      have HM := hid (H.out.on hb1)
      clear hb1
      rcases ho' with ho | ⟨ho, ho2⟩
      all_goals go_wp2_with fail
      all_goals go_ret
      all_goals exact ⟨rfl, HB1.out⟩
/-- A new list of 1024 words. -/
structure NewL (w w' : World) (g : Nat) (L : List Int) : Prop where
  below : Below w.heap.size w w'
  hg : w.heap.size ≤ g
  cel : Cel w' g 22 (u32s L)
theorem u32s_setz (L : List Int) (j : Nat) (v : Int) : (u32s L).set j (.int .u32 v) = u32s (L.set j v) := u32s_set L j v
def partL (L : List Int) (j : Nat) : List Int := L.take j ++ List.replicate (1024 - j) 0
theorem partL_zero (L : List Int) : partL L 0 = zs := by unfold partL zs; rw [List.take_zero, List.nil_append]
theorem partL_full (L : List Int) (h : L.length = 1024) : partL L 1024 = L := by unfold partL; rw [List.take_of_length_le (by omega), Nat.sub_self]; simp
theorem partL_len (L : List Int) (j : Nat) (h : L.length = 1024) (hj : j ≤ 1024) : (partL L j).length = 1024 := by unfold partL; simp [h]; omega
theorem partL_set (L : List Int) (j : Nat) (h : L.length = 1024) (hj : j < 1024) : (partL L j).set j (wd L j) = partL L (j + 1) := by
  unfold partL
  have h1 : (L.take j).length = j := by rw [List.length_take]; omega
  rw [List.set_append_right _ _ (by omega), h1, Nat.sub_self]
  obtain ⟨k, hk⟩ : ∃ k, 1024 - j = k + 1 := ⟨1024 - j - 1, by omega⟩
  have hk2 : 1024 - (j + 1) = k := by omega
  have hjl : j < L.length := by omega
  rw [hk, hk2, List.replicate_succ, List.set_cons_zero, List.take_succ_eq_append_getElem hjl]
  unfold wd
  rw [List.getD_eq_getElem?_getD, List.getElem?_eq_getElem hjl]
  simp only [List.append_assoc, List.singleton_append, Option.getD_some]
end Go.Proofs.Ytmmphmdmocfnpaa
