/- A program whose labels are being finished. -/
import Derived.Test.YtncnogndopgknaaGreatDoorAsG
import Derived.Laws.CopyRow
namespace Go.Proofs.YtncnogndopgknaaGreatDoor
open Go.RowKit
/-- All is laid, and the first i of what waits are done. -/
structure PF (W w : World) (g gm base line : Nat) (ws : List Nat) (labs : List (List UInt8 × Nat)) (lat : List S.Lt) (fs : List Fc) (i : Nat) (vw vl vf : Value) : Prop where
  below : Below W.heap.size W w
  hg : W.heap.size ≤ g
  hm : W.heap.size ≤ gm
  cel : Cel w g 77 (psC base line vw vl gm vf)
  wr : w.ownsRow W.heap.size 22 1 vw ws.length (u32s ws)
  lb : w.ownsRow W.heap.size 43 2 vl labs.length (labsC labs)
  lt : w.ownsRow W.heap.size 111 1 vf lat.length (fs.map fcV)
  map : MapIs w gm labs
  len : fs.length = lat.length
  clos : ∀ j, i ≤ j → ∀ (h : j < lat.length) (h' : j < fs.length), ClosAt w g fs[j] lat[j]
  nodup : (fs.map (·.gO)).Nodup
  rows : ∀ d ∈ fs, W.heap.size ≤ d.gO
  room : ws.length ≤ 2048
  places : ∀ x ∈ labs, x.2 ≤ 2048
theorem PS.fin {W w : World} {g gm base line : Nat} {st : S.St} {fs : List Fc} {vw vl vf : Value} (h : PS W w g gm base line st fs vw vl vf) : PF W w g gm base line st.ws st.labs st.lat fs 0 vw vl vf :=
  ⟨h.below, h.hg, h.hm, h.cel, h.ws, h.lb, h.lt, h.map, h.len, fun j _ a b => h.clos j a b, h.nodup, h.rows, h.room, h.places⟩
theorem PF.on {W w w' : World} {g gm base line i : Nat} {ws : List Nat} {labs : List (List UInt8 × Nat)} {lat : List S.Lt} {fs : List Fc} {vw vl vf : Value} (h : PF W w g gm base line ws labs lat fs i vw vl vf) (hb : Below w.heap.size w w') : PF W w' g gm base line ws labs lat fs i vw vl vf :=
  ⟨below_on h.below hb, h.hg, h.hm, h.cel.on hb, own_below h.wr hb, own_below h.lb hb, own_below h.lt hb, map_on h.map hb, h.len, fun j hj a b => (h.clos j hj a b).kt (.of_below hb) (.of_below hb) (.of_below hb) (.of_below hb) (.of_below hb), h.nodup, h.rows, h.room, h.places⟩
theorem opsC_set : ∀ (os : List S.Opn) (q : Nat) (h : q < os.length) (v : Nat), (opsC os).set (q * 3) (.int .u32 (v : Int)) = opsC (os.set q { os[q] with val := v })
  | o :: os, 0, _, v => by
    show (opC o ++ opsC os).set (0 * 3) _ = opC _ ++ opsC os
    rw [Nat.zero_mul]
    rfl
  | o :: os, q + 1, h, v => by
    show (opC o ++ opsC os).set ((q + 1) * 3) _ = opC o ++ opsC (os.set q _)
    rw [List.set_append_right _ _ (by simp [opC]; omega)]
    have e : (q + 1) * 3 - (opC o).length = q * 3 := by simp [opC]; omega
    rw [e, opsC_set os q (by simpa using h) v]
    rfl
/-- The row of operands that a closure holds. -/
def RowAt (w : World) (g : Nat) (os : List S.Opn) : Prop := ∃ cur, w.heap[g]? = some (.cells cur 197 (0, 0)) ∧ cur.toList.take (os.length * 3) = opsC os
theorem RowAt.cell {w : World} {g : Nat} {os : List S.Opn} (h : RowAt w g os) (q r : Nat) (hq : q < os.length) (hr : r < 3) : w.cell? ⟨g, q * 3 + r, none⟩ = (opC os[q])[r]? := by
  obtain ⟨cur, h1, h2⟩ := h
  have hc : Cel w g 197 cur.toList := by unfold Cel; rw [h1]
  rw [hc.cell, ← opsC_get os q r hq hr, ← h2, List.getElem?_take_of_lt (by omega)]
theorem RowAt.at {w : World} {g : Nat} {os : List S.Opn} (h : RowAt w g os) : OpsAt w (some ⟨g, 0, none⟩) os := by
  refine .inr ⟨g, 0, rfl, ?_, fun i hi j u hu => ?_⟩
  · obtain ⟨cur, h1, _⟩ := h
    exact (Array.getElem?_eq_some_iff.1 h1).1
  · have hj : j < 3 := by
      rcases Nat.lt_or_ge j 3 with h | h
      · exact h
      · rw [List.getElem?_eq_none (by simp [opC]; omega)] at hu; cases hu
    rw [Nat.zero_add, h.cell i j hi hj, hu]
theorem RowAt.free {w : World} {g : Nat} {os : List S.Opn} (h : RowAt w g os) (j : Nat) : w.frozen? ⟨g, j, none⟩ = false := by
  obtain ⟨cur, h1, _⟩ := h
  have hc : Cel w g 197 cur.toList := by unfold Cel; rw [h1]
  exact hc.free j
theorem RowAt.kt {w w' : World} {g : Nat} {os : List S.Opn} (h : RowAt w g os) (k : KT 197 w w') : RowAt w' g os := by
  obtain ⟨cur, h1, h2⟩ := h
  exact ⟨cur, k _ _ _ h1, h2⟩
/-- A label's worth is put into its operand. -/
theorem PF.val {W w : World} {g gm base line i : Nat} {ws : List Nat} {labs : List (List UInt8 × Nat)} {lat : List S.Lt} {fs : List Fc} {vw vl vf : Value} (h : PF W w g gm base line ws labs lat fs i vw vl vf) (hi : i < fs.length) (os : List S.Opn) (hr : RowAt w fs[i].gO os) (q : Nat) (hq : q < os.length) (v : Nat) :
    PF W (w.setCell ⟨fs[i].gO, q * 3, none⟩ (.int .u32 (v : Int))) g gm base line ws labs lat fs (i + 1) vw vl vf ∧ RowAt (w.setCell ⟨fs[i].gO, q * 3, none⟩ (.int .u32 (v : Int))) fs[i].gO (os.set q { os[q] with val := v }) ∧ (∀ e, e ≠ 197 → KT e w (w.setCell ⟨fs[i].gO, q * 3, none⟩ (.int .u32 (v : Int)))) := by
  obtain ⟨cur, h1, h2⟩ := hr
  have hc : Cel w fs[i].gO 197 cur.toList := by unfold Cel; rw [h1]
  have kt : ∀ e, e ≠ 197 → KT e w (w.setCell ⟨fs[i].gO, q * 3, none⟩ (.int .u32 (v : Int))) := fun e he => KT.setCell hc he _ _
  refine ⟨⟨h.below.setCell (p := ⟨fs[i].gO, q * 3, none⟩) (h.rows _ (List.getElem_mem _)) _, h.hg, h.hm, h.cel.kt (kt _ (by decide)), own_kt h.wr (kt _ (by decide)), own_kt h.lb (kt _ (by decide)), own_kt h.lt (kt _ (by decide)), map_setCell h.map hc _ _, h.len, fun j hj a b => ?_, h.nodup, h.rows, h.room, h.places⟩, ?_, kt⟩
  · have ho := h.clos j (by omega) a b
    refine ⟨ho.c7.kt (kt _ (by decide)), ho.c8.kt (kt _ (by decide)), ho.c5.kt (kt _ (by decide)), ho.c11.kt (kt _ (by decide)), ho.c6.kt (kt _ (by decide)), ho.c9.kt (kt _ (by decide)), ?_, ho.at', ho.k, ho.os, ho.place⟩
    obtain ⟨cur', k1, k2⟩ := ho.row
    refine ⟨cur', ?_, k2⟩
    rw [heap_setCell_other w ⟨fs[i].gO, q * 3, none⟩ fs[j].gO _ (fun hh => ?_)]
    · exact k1
    · have hh' : fs[j].gO = fs[i].gO := hh
      have := (List.nodup_iff_pairwise_ne.1 h.nodup)
      rw [List.pairwise_iff_getElem] at this
      have := this i j (by simpa using hi) (by simpa using b) (by omega)
      simp only [List.getElem_map] at this
      exact this hh'.symm
  · refine ⟨(cur.toList.set (q * 3) (.int .u32 (v : Int))).toArray, hc.setCell _ _, ?_⟩
    rw [List.length_set, List.toList_toArray, List.take_set, h2, opsC_set os q hq v]
theorem KT.setRow {e t : TypeId} {w : World} {g : Nat} {cur : Array Value} {fr : Nat × Nat} (h : w.heap[g]? = some (.cells cur t fr)) (hne : e ≠ t) (cs : Array Value) : KT e w (w.setRow g cs) := fun i ds fr' hi => by
  rw [setRow_other w g i cs (fun hh => by
    subst hh
    rw [h] at hi
    injection hi with hi
    injection hi with h1 h2 h3
    exact hne h2.symm)]
  exact hi
theorem map_setRow {w : World} {g gm : Nat} {t : TypeId} {cur : Array Value} {fr : Nat × Nat} {labs : List (List UInt8 × Nat)} (hm : MapIs w gm labs) (h : w.heap[g]? = some (.cells cur t fr)) (cs : Array Value) : MapIs (w.setRow g cs) gm labs :=
  hm.block (setRow_other w g gm cs (fun hh => by
    subst hh
    obtain ⟨es, clock, h1⟩ := hm.isMap
    rw [h] at h1
    cases h1))
theorem u32s_take (l : List Nat) (n : Nat) : u32s (l.take n) = (u32s l).take n := by simp [u32s, List.map_take]
theorem u32s_drop (l : List Nat) (n : Nat) : u32s (l.drop n) = (u32s l).drop n := by simp [u32s, List.map_drop]
theorem over_row (L : List Value) (ws xs : List Nat) (p : Nat) (hp : p ≤ ws.length) (hL : L.take ws.length = u32s ws) (cs : List Value) (hcs : cs = u32s (xs.take (ws.length - p))) : (L.take p ++ cs ++ L.drop (p + cs.length)).take ws.length = u32s (S.over ws p xs) := by
  subst hcs
  have hlen : (u32s (xs.take (ws.length - p))).length = min (ws.length - p) xs.length := by simp [u32s]
  have hLl : ws.length ≤ L.length := by
    have := congrArg List.length hL
    simp [u32s] at this
    omega
  unfold S.over
  have eA : u32s (ws.take p) = L.take p := by rw [u32s_take, ← hL, List.take_take]; congr 1; omega
  have eD : u32s (ws.drop (p + xs.length)) = (L.take ws.length).drop (p + xs.length) := by rw [u32s_drop, hL]
  rw [u32s_append, u32s_append, eA, eD]
  rw [List.take_append, List.take_of_length_le (by simp [u32s]; omega)]
  congr 1
  rw [List.length_append, hlen, List.length_take]
  have e2 : min p L.length = p := by omega
  rw [e2]
  by_cases hx : xs.length ≤ ws.length - p
  · have e3 : min (ws.length - p) xs.length = xs.length := by omega
    rw [e3, List.drop_take]
  · have e3 : min (ws.length - p) xs.length = ws.length - p := by omega
    rw [e3]
    rw [show ws.length - (p + (ws.length - p)) = 0 from by omega, List.take_zero, List.drop_take, show ws.length - (p + xs.length) = 0 from by omega, List.take_zero]
/-- The statement's words are laid once more. -/
theorem PF.put {W w : World} {g gm base line i : Nat} {ws : List Nat} {labs : List (List UInt8 × Nat)} {lat : List S.Lt} {fs : List Fc} {vw vl vf : Value} (h : PF W w g gm base line ws labs lat fs i vw vl vf) (p : Nat) (hp : p < ws.length) (xs : List Nat) (cs : List Value) (hcs : cs = u32s (xs.take (ws.length - p))) :
    ∃ gW c cur, vw = .slice (some ⟨gW, 0, none⟩) ws.length c ∧ ws.length ≤ c ∧ w.heap[gW]? = some (.cells cur 22 (0, 0)) ∧ p + cs.length ≤ cur.size ∧ PF W (w.setRow gW (cur.toList.take p ++ cs ++ cur.toList.drop (p + cs.length)).toArray) g gm base line (S.over ws p xs) labs lat fs i vw vl vf := by
  rcases h.wr.2 with ⟨_, h0⟩ | ⟨gW, c, cur, hv, hB, hW, hnc, hcm, hsz, htk⟩
  · omega
  have hl : cs.length = min (ws.length - p) xs.length := by rw [hcs]; simp [u32s]
  have kt : ∀ e, e ≠ 22 → KT e w (w.setRow gW (cur.toList.take p ++ cs ++ cur.toList.drop (p + cs.length)).toArray) := fun e he => KT.setRow hW he _
  have hov := S.over_len (xs := xs) (Nat.le_of_lt hp)
  rw [Nat.mul_one] at hsz
  rw [Nat.mul_one] at htk
  refine ⟨gW, c, cur, hv, hnc, hW, by omega, ⟨?_, h.hg, h.hm, h.cel.kt (kt _ (by decide)), ?_, own_kt h.lb (kt _ (by decide)), own_kt h.lt (kt _ (by decide)), map_setRow h.map hW _, h.len, fun j hj a b => (h.clos j hj a b).kt (kt _ (by decide)) (kt _ (by decide)) (kt _ (by decide)) (kt _ (by decide)) (kt _ (by decide)), h.nodup, h.rows, by rw [hov]; exact h.room, h.places⟩⟩
  · exact h.below.trans ⟨rfl, rfl, rfl, by simp [World.setRow], fun k hk => setRow_other w gW k _ (by omega)⟩
  · rw [hov]
    refine ⟨by rw [Nat.mul_one]; simp [u32s, hov], .inr ⟨gW, c, _, hv, hB, setRow_heap w gW cur _ 22 _ hW, hnc, hcm, ?_, ?_⟩⟩
    · simp only [List.size_toArray, List.length_append, List.length_take, List.length_drop, Array.length_toList]
      omega
    · rw [Nat.mul_one, List.toList_toArray]
      exact over_row cur.toList ws xs p (Nat.le_of_lt hp) htk cs hcs
end Go.Proofs.YtncnogndopgknaaGreatDoor
