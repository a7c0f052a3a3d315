/- The document's Split 16, Join 18, First 19, ParseFirst 20, own 21, Second 23, ParseSecond 23. The document's memories: where they lie. The document's place 53, Has 48, Secure 50, Insecure 52, Meter 31; mem's Secure 49, Insecure 51; the law's doc 42. The document's Peek 45, whole 61, Page 56, Blank 60. The document's Page 56, Blank 60, Read 162, Zero 54. The document's Write 43, Copy 55, Lay 95. -/
import Derived.Test.YteldpapacdbbiaaGreatDoorW1W2W3
import Derived.Test.YteldpapacdbbiaaGreatDoorM4M5M6
import Derived.Test.YteldpapacdbbiaaGreatDoorB1LpP6a
namespace Go.Proofs.YteldpapacdbbiaaGreatDoor
open Go.RowKit
set_option maxHeartbeats 4000000
theorem rsplit_any (W : World) (v : Int) (h0 : 0 ≤ v) (h1 : v < 4294967296) :
    Calls Tryz.prog 89 #[.int .u32 v] W fun x W' => x = .returned (.tuple #[.int .i64 (spI v), .int .i64 (spJ v), .int .i64 (spO v), .int .i64 (spE v)]) ∧ W' = W := by
  unfold spI spJ spO spE
  by_cases h : VaOk v
  · simp only [if_pos h]
    obtain ⟨a, b⟩ := h
    have e1 : v % 4096 / 4 = v / 4 % 1024 := by omega
    rw [← e1]
    go_enter Tryz.func89, Tryz.ntmps89
    go_wp2_with fail
    go_returns
    exact ⟨rfl, rfl⟩
  · simp only [if_neg h]
    have h' : 1073741824 ≤ v ∨ v % 4 ≠ 0 := by unfold VaOk at h; omega
    clear h
    go_enter Tryz.func89, Tryz.ntmps89
    by_cases h2 : 1073741824 ≤ v
    · go_wp2_with fail
      go_returns
      exact ⟨rfl, rfl⟩
    · have h3 : v % 4 ≠ 0 := by omega
      go_wp2_with fail
      go_returns
      exact ⟨rfl, rfl⟩
theorem rfirst_any (W : World) (p : Int) :
    Calls Tryz.prog 117 #[.int .i64 p] W fun x W' => x = .returned (.tuple #[.int .u32 (fW p), .int .i64 (fE p)]) ∧ W' = W := by
  unfold fW fE
  by_cases h : Pg p
  · simp only [if_pos h]
    obtain ⟨h0, h1⟩ := h
    go_enter Tryz.func117, Tryz.ntmps117
    go_wp2_with fail
    go_returns
    exact ⟨rfl, rfl⟩
  · simp only [if_neg h]
    have h' : p < 0 ∨ (0 ≤ p ∧ 64 ≤ p) := by unfold Pg at h; omega
    clear h
    go_enter Tryz.func117, Tryz.ntmps117
    rcases h' with h | ⟨h1, h⟩
    all_goals go_wp2_with fail
    all_goals go_returns
    all_goals exact ⟨rfl, rfl⟩
theorem rpf_any (W : World) (v : Int) :
    Calls Tryz.prog 104 #[.int .u32 v] W fun x W' => x = .returned (.tuple #[.int .i64 (pf v), .int .i64 (pfE v)]) ∧ W' = W := by
  by_cases hv : v = 0
  · subst hv
    unfold pf pfE
    rw [if_neg (by unfold PfOk; decide), if_pos rfl]
    go_enter Tryz.func104, Tryz.ntmps104
    go_wp2_with fail
    go_returns
    exact ⟨rfl, rfl⟩
  · have HY : Hid (PfOk v → pf v = v / 256 ∧ pfE v = 0) := hid (fun h => by unfold pf pfE; rw [if_pos h, if_neg hv, if_pos h]; exact ⟨rfl, rfl⟩)
    have HN : Hid (¬ PfOk v → pf v = 0 ∧ pfE v = 90) := hid (fun h => by unfold pf pfE; rw [if_neg h, if_neg hv, if_neg h]; exact ⟨rfl, rfl⟩)
    generalize pf v = A at *
    generalize pfE v = B at *
    have HF := hid (fun p => rfirst_any W p)
    have hvb : (v == 0) = false := by simp [hv]
    go_enter Tryz.func104, Tryz.ntmps104
    go_wp2_with fail
    go_loopw [4] (fun i wr => ∃ k : Nat, k ≤ 64 ∧ i = .int .i64 (k : Int) ∧ wr = W ∧ Hid (∀ q : Int, 0 ≤ q → q < (k : Int) → ¬ 256 * q + 1 = v)) (fun i _ => 64 - (intOf i).toNat)
    case atStart => exact ⟨0, by decide, rfl, rfl, hid (fun q h1 h2 => by omega)⟩
    case round =>
      obtain ⟨k, hk, rfl, hwr, HQ⟩ := hrel
      subst hwr
      by_cases hlt : k < 64
      · have c1 : (k : Int) < 64 := by omega
        have hr := hid (HF.out (k : Int))
        have e1 : fW (k : Int) = 256 * (k : Int) + 1 := by unfold fW; rw [if_pos (by unfold Pg; omega)]
        have e2 : fE (k : Int) = 0 := by unfold fE; rw [if_pos (by unfold Pg; omega)]
        rw [e1, e2] at hr
        clear e1 e2 hk
        by_cases he : 256 * (k : Int) + 1 = v
        · have HOK : Hid (A = (k : Int) ∧ B = 0) := hid (by have := HY.out ⟨by unfold Pg; omega, by omega⟩; exact ⟨by omega, this.2⟩)
          rw [he] at hr
          go_wp2_with fail
          refine hr.out.mono ?_
          rintro x w1 ⟨rfl, rfl⟩
          go_wp2_with fail
          go_returns
          rw [HOK.out.1, HOK.out.2]
          exact ⟨rfl, rfl⟩
        · go_wp2_with fail
          refine hr.out.mono ?_
          rintro x w1 ⟨rfl, rfl⟩
          go_wp2_with fail
          go_roundw
          case measure => simp [intOf] <;> omega
          case rel =>
            refine ⟨k + 1, by omega, by simp, by first | rfl | trivial, hid (fun q h1 h2 => ?_)⟩
            by_cases hq : q = (k : Int)
            · rw [hq]; exact he
            · exact HQ.out q h1 (by omega)
      · have hqe : k = 64 := by omega
        subst hqe
        have HM := hid (HN.out (fun h => HQ.out (v / 256) h.1.1 h.1.2 h.2))
        go_wp2_with fail
        go_returns
        rw [HM.out.1, HM.out.2]
        exact ⟨rfl, rfl⟩
theorem rsecond_any (W : World) (m : Mp) :
    Calls Tryz.prog 118 #[m.v] W fun x W' => x = .returned (.tuple #[.int .u32 m.enc, .int .i64 m.err]) ∧ Below W.heap.size W W' := by
  have HC := hid (Cel.new W 162 [.bool m.s, .int .i64 m.p, .bool m.wr, .bool m.ex])
  have HB := hid (below_one W (.cells #[.bool m.s, .int .i64 m.p, .bool m.wr, .bool m.ex] 162))
  obtain ⟨s, p, wr, ex⟩ := m
  unfold Mp.enc Mp.err Mp.code Mp.v
  simp only at *
  by_cases hp : Pg p
  · simp only [if_pos hp]
    obtain ⟨p0, p1⟩ := hp
    cases s <;> cases ex <;> cases wr <;> simp only [b2, Bool.not_false, Bool.not_true, Bool.and_true, Bool.and_false, Bool.false_eq_true, if_true, if_false, Int.add_zero, if_neg (show ¬ (1 : Int) = 0 by decide)]
    all_goals go_enter Tryz.func118, Tryz.ntmps118
    all_goals go_upto_region 1 with fail
    all_goals generalize hX : W.alloc _ = X at *
    all_goals clear hX
    all_goals have c0 := HC.out.cell 0
    all_goals have c1 := HC.out.cell 1
    all_goals have c2 := HC.out.cell 2
    all_goals have c3 := HC.out.cell 3
    all_goals simp only [List.getElem?_cons_zero, List.getElem?_cons_succ] at c0 c1 c2 c3
    all_goals go_wp2_with fail
    all_goals go_returns
    all_goals exact ⟨rfl, HB.out⟩
  · simp only [if_neg hp, if_neg (show ¬ (4 : Int) = 0 by decide)]
    have h' : p < 0 ∨ (0 ≤ p ∧ 64 ≤ p) := by unfold Pg at hp; omega
    clear hp
    rcases h' with h | ⟨h1, h⟩
    all_goals go_enter Tryz.func118, Tryz.ntmps118
    all_goals go_upto_region 1 with fail
    all_goals generalize hX : W.alloc _ = X at *
    all_goals clear hX
    all_goals have c1 := HC.out.cell 1
    all_goals simp only [List.getElem?_cons_zero, List.getElem?_cons_succ] at c1
    all_goals go_wp2_with fail
    all_goals go_returns
    all_goals exact ⟨rfl, HB.out⟩
theorem cel4r {w : World} {g : Nat} {m : Mp} (h : Cel w g 162 [.bool m.s, .int .i64 m.p, .bool m.wr, .bool m.ex]) :
    w.cell? ⟨g, 0, none⟩ = some (.bool m.s) ∧ w.cell? ⟨g, 1, none⟩ = some (.int .i64 m.p) ∧ w.cell? ⟨g, 2, none⟩ = some (.bool m.wr) ∧ w.cell? ⟨g, 3, none⟩ = some (.bool m.ex) :=
  ⟨h.cell 0, h.cell 1, h.cell 2, h.cell 3⟩
theorem chain4r {w w3 : World} {g : Nat} {a b c d : Value} (h : Cel w g 162 [a, b, c, d]) (x y z t : Value) (e : (((w.setCell ⟨g, 0, none⟩ x).setCell ⟨g, 1, none⟩ y).setCell ⟨g, 2, none⟩ z).setCell ⟨g, 3, none⟩ t = w3) :
    w3.cell? ⟨g, 0, none⟩ = some x ∧ w3.cell? ⟨g, 1, none⟩ = some y ∧ w3.cell? ⟨g, 2, none⟩ = some z ∧ w3.cell? ⟨g, 3, none⟩ = some t := by
  have h4 : Cel w3 g 162 [x, y, z, t] := by rw [← e]; exact (((h.setCell 0 x).setCell 1 y).setCell 2 z).setCell 3 t
  exact ⟨h4.cell 0, h4.cell 1, h4.cell 2, h4.cell 3⟩
theorem rps_any (W : World) (v : Int) (h0 : 0 ≤ v) (h1 : v < 4294967296) :
    Calls Tryz.prog 105 #[.int .u32 v] W fun x W' => x = .returned (.tuple #[(ps v).v, .int .i64 (psE v)]) ∧ Below W.heap.size W W' := by
  unfold ps psE
  by_cases hv : v = 0
  · subst hv
    rw [if_neg (by unfold PsOk; decide), if_pos rfl]
    clear h0 h1
    unfold Mp.v Mp.z
    go_enter Tryz.func105, Tryz.ntmps105
    go_wp2_with fail
    go_returns
    exact ⟨rfl, below_one _ _⟩
  · have HS := hid (fun W => rsecond_any W (fldM v))
    have HP : Hid (PsOk v ↔ (fldM v).err = 0 ∧ (fldM v).code = v) := hid Iff.rfl
    have HEn : Hid ((fldM v).enc = if (fldM v).err = 0 then (fldM v).code else 0) := hid rfl
    have HFl : Hid (fldM v = ⟨decide (v / 2 % 2 = 1), v / 256, decide (v / 4 % 2 = 1), decide (v / 8 % 2 = 1)⟩) := hid rfl
    have HC0 : Hid (Cel (W.alloc (.cells #[.bool false, .int .i64 0, .bool false, .bool false] 162)) W.heap.size 162 [.bool Mp.z.s, .int .i64 Mp.z.p, .bool Mp.z.wr, .bool Mp.z.ex]) := hid (Cel.new W 162 _)
    have HB0 : Hid (Below W.heap.size W (W.alloc (.cells #[.bool false, .int .i64 0, .bool false, .bool false] 162))) := hid (below_one _ _)
    rw [if_neg hv]
    have HT : Hid (∀ (c e : Int) (r : Mp) (E : Int), (∀ W, Calls Tryz.prog 118 #[(fldM v).v] W fun x W' => x = .returned (.tuple #[.int .u32 c, .int .i64 e]) ∧ Below W.heap.size W W') → (e = 0 ∧ c = v ∧ r = fldM v ∧ E = 0 ∨ e = 0 ∧ ¬ c = v ∧ r = Mp.z ∧ E = 90 ∨ ¬ e = 0 ∧ r = Mp.z ∧ E = 90) →
        Calls Tryz.prog 105 #[.int .u32 v] W fun x W' => x = .returned (.tuple #[r.v, .int .i64 E]) ∧ Below W.heap.size W W') := by
      intro c e r E hS hr
      have HS := hid hS
      clear hS HP HEn
      unfold fldM Mp.v at HS
      rcases hr with ⟨rfl, hc, hrf, rfl⟩ | ⟨rfl, hc, hrf, rfl⟩ | ⟨he, hrf, rfl⟩
      all_goals rw [hrf]
      all_goals clear hrf
      all_goals unfold Mp.v
      all_goals go_enter Tryz.func105, Tryz.ntmps105
      all_goals go_upto_region 1 with fail
      all_goals generalize hX : W.alloc _ = X at *
      all_goals clear hX
      all_goals go_wp2_with fail
      all_goals refine (HS.out _).mono ?_
      all_goals rintro x w2 ⟨rfl, hb2⟩
      all_goals have HE0 := hid ((HC0.out.on (below_one _ _)).on hb2)
      all_goals have HE9 := hid ((Cel.new X 162 [.bool (fldM v).s, .int .i64 (fldM v).p, .bool (fldM v).wr, .bool (fldM v).ex]).on hb2)
      all_goals have HB2 := hid (below_on (below_on HB0.out (below_one _ _)) hb2)
      all_goals clear hb2 HB0 HC0 HS
      all_goals generalize X.heap.size = g9 at *
      all_goals obtain ⟨a0, a1, a2, a3⟩ := cel4r HE0.out
      all_goals have af0 := HE0.out.free 0
      all_goals have af1 := HE0.out.free 1
      all_goals have af2 := HE0.out.free 2
      all_goals have af3 := HE0.out.free 3
      all_goals obtain ⟨b0, b1, b2, b3⟩ := cel4r HE9.out
      all_goals go_wp2_with fail
      all_goals generalize hX3 : World.setCell _ _ _ = w3
      all_goals have HC3 := chain4r HE0.out _ _ _ _ hX3
      all_goals have HB3 : Hid (Below W.heap.size W w3) := by rw [← hX3]; exact hid ((((HB2.out.setCell (p := ⟨W.heap.size, 0, none⟩) (Nat.le_refl _) _).setCell (p := ⟨W.heap.size, 1, none⟩) (Nat.le_refl _) _).setCell (p := ⟨W.heap.size, 2, none⟩) (Nat.le_refl _) _).setCell (p := ⟨W.heap.size, 3, none⟩) (Nat.le_refl _) _)
      all_goals clear hX3
      all_goals obtain ⟨d0, d1, d2, d3⟩ := HC3
      all_goals (refine bodyPost_ret (by simp [results, Tryz.results105, go_sem, d0, d1, d2, d3]; try rfl) rfl ?_)
      all_goals exact ⟨rfl, HB3.out⟩
    by_cases he : (fldM v).err = 0
    · by_cases hc : (fldM v).code = v
      · simp only [if_pos (HP.out.2 ⟨he, hc⟩)]
        exact HT.out _ _ _ _ HS.out (.inl ⟨he, by rw [HEn.out, if_pos he, hc], rfl, rfl⟩)
      · simp only [if_neg (show ¬ PsOk v from fun h => hc (HP.out.1 h).2)]
        exact HT.out _ _ _ _ HS.out (.inr (.inl ⟨he, by rw [HEn.out, if_pos he]; exact hc, rfl, rfl⟩))
    · simp only [if_neg (show ¬ PsOk v from fun h => he (HP.out.1 h).1)]
      exact HT.out _ _ _ _ HS.out (.inr (.inr ⟨he, rfl, rfl⟩))
end Go.Proofs.YteldpapacdbbiaaGreatDoor
namespace Go.Proofs.YteldpapacdbbiaaGreatDoor
open Go.RowKit
def nilV : Value := .slice none 0 0
def blkOf : Value → Option Nat
  | .slice (some a) _ _ => some a.block
  | _ => none
structure Rf where
  g : Nat
  gp : Nat
  cap : Nat
  vs : List Value
def Rf.all (r : Rf) : List Nat := r.g :: r.gp :: r.vs.filterMap blkOf
def Rf.v (r : Rf) (k : Nat) : Value := r.vs.getD k nilV
def PgIs (w : World) (v : Value) (L : List Int) : Prop := L.length = 1024 ∧ ((v = .slice none 0 0 ∧ L = zs) ∨ ∃ b cap cur, v = .slice (some ⟨b, 0, none⟩) 1024 cap ∧ w.heap[b]? = some (.cells cur 23 (0, 0)) ∧ cur.toList.take 1024 = u32s L)
theorem PgIs.but {w w' : World} {G : List Nat} {v : Value} {L : List Int} (h : PgIs w v L) (hb : ButL G w w') (hn : ∀ b, blkOf v = some b → b ∉ G) : PgIs w' v L := by
  refine ⟨h.1, h.2.imp id ?_⟩
  rintro ⟨b, cap, cur, rfl, h1, h2⟩
  exact ⟨b, cap, cur, rfl, (hb.block b (Array.getElem?_eq_some_iff.1 h1).1 (hn b rfl)).trans h1, h2⟩
theorem PgIs.lt {w : World} {v : Value} {L : List Int} (h : PgIs w v L) {b : Nat} (hb : blkOf v = some b) : b < w.heap.size := by
  rcases h.2 with ⟨rfl, _⟩ | ⟨b', cap, cur, rfl, h1, _⟩
  · cases hb
  · simp only [blkOf, Option.some.injEq] at hb
    subst hb
    exact (Array.getElem?_eq_some_iff.1 h1).1
/-- A document's memory in state m. -/
structure RMem (w : World) (r : Rf) (m : MS) : Prop where
  cel : Cel w r.g 97 [.slice (some ⟨r.gp, 0, none⟩) m.P.length r.cap, .int .i64 (m.ns : Int), .int .i64 m.c]
  pages : ∃ cur, w.heap[r.gp]? = some (.cells cur 60 (0, 0)) ∧ cur.toList.take m.P.length = r.vs
  len : r.vs.length = m.P.length
  ns0 : m.ns ≤ m.P.length
  most : m.P.length ≤ 128
  pg : ∀ k, k < m.P.length → PgIs w (r.v k) (m.p k)
  apart : ∀ j k, j < m.P.length → k < m.P.length → j ≠ k → ∀ b, blkOf (r.v j) = some b → blkOf (r.v k) ≠ some b
theorem Rf.mem_all {r : Rf} {k b : Nat} (hk : k < r.vs.length) (h : blkOf (r.v k) = some b) : b ∈ r.all := by
  have e : r.v k = r.vs[k] := by unfold Rf.v; rw [List.getD_eq_getElem?_getD, List.getElem?_eq_getElem hk]; rfl
  simp only [Rf.all, List.mem_cons, List.mem_filterMap]
  exact .inr (.inr ⟨r.vs[k], List.getElem_mem hk, e ▸ h⟩)
theorem Rf.all_mem {r : Rf} {b : Nat} (h : b ∈ r.all) : b = r.g ∨ b = r.gp ∨ ∃ k, k < r.vs.length ∧ blkOf (r.v k) = some b := by
  simp only [Rf.all, List.mem_cons, List.mem_filterMap] at h
  rcases h with h | h | ⟨v, hv, hb⟩
  · exact .inl h
  · exact .inr (.inl h)
  · obtain ⟨k, hk, rfl⟩ := List.mem_iff_getElem.1 hv
    refine .inr (.inr ⟨k, hk, ?_⟩)
    have e : r.v k = r.vs[k] := by unfold Rf.v; rw [List.getD_eq_getElem?_getD, List.getElem?_eq_getElem hk]; rfl
    rw [e]; exact hb
theorem RMem.frame {w w' : World} {r : Rf} {m : MS} {G : List Nat} (h : RMem w r m) (hb : ButL G w w') (hd : ∀ k ∈ r.all, k ∉ G) : RMem w' r m := by
  obtain ⟨cur, h1, h2⟩ := h.pages
  refine ⟨h.cel.but hb (hd _ (by simp [Rf.all])), ⟨cur, (hb.block _ (Array.getElem?_eq_some_iff.1 h1).1 (hd _ (by simp [Rf.all]))).trans h1, h2⟩, h.len, h.ns0, h.most, fun k hk => (h.pg k hk).but hb (fun b hbk => hd b (Rf.mem_all (by rw [h.len]; exact hk) hbk)), h.apart⟩
theorem RMem.on {w w' : World} {r : Rf} {m : MS} (h : RMem w r m) (hb : Below w.heap.size w w') : RMem w' r m := h.frame (G := []) (.of hb) (by simp)
theorem RMem.lt {w : World} {r : Rf} {m : MS} (h : RMem w r m) : ∀ k ∈ r.all, k < w.heap.size := by
  intro k hk
  rcases Rf.all_mem hk with rfl | rfl | ⟨j, hj, hb⟩
  · exact h.cel.lt
  · obtain ⟨cur, h1, _⟩ := h.pages
    exact (Array.getElem?_eq_some_iff.1 h1).1
  · exact (h.pg j (by rw [← h.len]; exact hj)).lt hb
theorem RMem.ne {w : World} {r : Rf} {m : MS} (h : RMem w r m) : r.g ≠ r.gp := by
  obtain ⟨cur, h1, _⟩ := h.pages
  intro e
  have h2 := h.cel
  unfold Cel at h2
  rw [e, h1] at h2
  injection h2 with h2
  injection h2 with _ h3 _
  exact absurd h3 (by decide)
theorem PgIs.ty {w : World} {v : Value} {L : List Int} (h : PgIs w v L) {b : Nat} (hb : blkOf v = some b) {cur : Array Value} {t : TypeId} {fr : Nat × Nat} (hh : w.heap[b]? = some (.cells cur t fr)) : t = 23 := by
  rcases h.2 with ⟨rfl, _⟩ | ⟨b', cap, cur', rfl, h1, _⟩
  · cases hb
  · simp only [blkOf, Option.some.injEq] at hb
    subst hb
    rw [h1] at hh
    injection hh with hh
    injection hh with _ h3 _
    exact h3.symm
/-- The cell of a page. -/
theorem RMem.cellAt {w : World} {r : Rf} {m : MS} (h : RMem w r m) (k : Nat) (hk : k < m.P.length) : w.cell? ⟨r.gp, k, none⟩ = some (r.v k) := by
  obtain ⟨cur, h1, h2⟩ := h.pages
  rw [cell_of_row w r.gp k _ 60 (0, 0) h1]
  have : (cur.toList.take m.P.length)[k]? = some (r.v k) := by
    rw [h2]; unfold Rf.v
    rw [List.getD_eq_getElem?_getD, List.getElem?_eq_getElem (by rw [h.len]; exact hk)]; rfl
  rw [List.getElem?_take_of_lt hk] at this
  simpa using this
theorem RMem.freeP {w : World} {r : Rf} {m : MS} (h : RMem w r m) (k : Nat) : w.frozen? ⟨r.gp, k, none⟩ = false := by
  obtain ⟨cur, h1, _⟩ := h.pages
  exact frozen_of_row w r.gp k _ 60 h1
/-- The meter is set. -/
theorem RMem.tick {w : World} {r : Rf} {m : MS} (h : RMem w r m) (n : Int) : RMem (w.setCell ⟨r.g, 2, none⟩ (.int .i64 (wrap64 (m.c + n)))) r (m.tick n) := by
  have hb := ButL.setCell (G := [r.g]) w r.g 2 (.int .i64 (wrap64 (m.c + n))) (by simp)
  obtain ⟨cur, h1, h2⟩ := h.pages
  refine ⟨h.cel.setCell 2 _, ⟨cur, (hb.block _ (Array.getElem?_eq_some_iff.1 h1).1 (by rw [List.mem_singleton]; exact fun e => h.ne e.symm)).trans h1, h2⟩, h.len, h.ns0, h.most, fun k hk => (h.pg k hk).but hb (fun b hbk => ?_), h.apart⟩
  rw [List.mem_singleton]
  intro e
  subst e
  exact absurd ((h.pg k hk).ty hbk h.cel) (by decide)
/-- A page is laid anew. -/
theorem RMem.setPage {w : World} {r : Rf} {m : MS} (h : RMem w r m) (k : Nat) (hk : k < m.P.length) (v' : Value) (L' : List Int) (hp : PgIs w v' L') (hnew : ∀ b, blkOf v' = some b → b ∉ r.all) :
    RMem (w.setCell ⟨r.gp, k, none⟩ v') { r with vs := r.vs.set k v' } { m with P := m.P.set k L' } := by
  have hb := ButL.setCell (G := [r.gp]) w r.gp k v' (by simp)
  obtain ⟨cur, h1, h2⟩ := h.pages
  have hv : ∀ j, j < m.P.length → ({ r with vs := r.vs.set k v' } : Rf).v j = if j = k then v' else r.v j := by
    intro j hj
    unfold Rf.v
    by_cases e : j = k
    · subst e
      rw [if_pos rfl, List.getD_eq_getElem?_getD, List.getElem?_set_self (by rw [h.len]; exact hj)]; rfl
    · rw [if_neg e, List.getD_eq_getElem?_getD, List.getElem?_set_ne (Ne.symm e), ← List.getD_eq_getElem?_getD]
  have hpp : ∀ j, j < m.P.length → ({ m with P := m.P.set k L' } : MS).p j = if j = k then L' else m.p j := by
    intro j hj
    unfold MS.p
    by_cases e : j = k
    · subst e
      rw [if_pos rfl, List.getD_eq_getElem?_getD, List.getElem?_set_self hj]; rfl
    · rw [if_neg e, List.getD_eq_getElem?_getD, List.getElem?_set_ne (Ne.symm e), ← List.getD_eq_getElem?_getD]
  have hty : ∀ j, j < m.P.length → ∀ b, blkOf (r.v j) = some b → b ≠ r.gp := fun j hj b hbj e => by
    subst e
    exact absurd ((h.pg j hj).ty hbj h1) (by decide)
  have hty' : ∀ b, blkOf v' = some b → b ≠ r.gp := fun b hbj e => by
    subst e
    exact absurd (hp.ty hbj h1) (by decide)
  refine ⟨?_, ⟨cur.setIfInBounds k v', ?_, ?_⟩, ?_, ?_, ?_, ?_, ?_⟩
  · simpa using h.cel.but hb (by rw [List.mem_singleton]; exact h.ne)
  · exact heap_setCell_same w r.gp k _ 60 _ h1
  · simp only [List.length_set, Array.toList_setIfInBounds]
    rw [List.take_set, h2]
  · simp [h.len]
  · simpa using h.ns0
  · simpa using h.most
  · intro j hj
    simp only [List.length_set] at hj
    rw [hv j hj, hpp j hj]
    split
    · exact hp.but hb (fun b hbj => by rw [List.mem_singleton]; exact hty' b hbj)
    · exact (h.pg j hj).but hb (fun b hbj => by rw [List.mem_singleton]; exact hty j hj b hbj)
  · intro i j hi hj hij b
    simp only [List.length_set] at hi hj
    rw [hv i hi, hv j hj]
    split
    · rename_i e1
      rw [if_neg (by omega)]
      intro hb1 hb2
      exact hnew b hb1 (Rf.mem_all (by rw [h.len]; exact hj) hb2)
    · split
      · intro hb1 hb2
        exact hnew b hb2 (Rf.mem_all (by rw [h.len]; exact hi) hb1)
      · exact h.apart i j hi hj hij b
/-- A step of a document's memory. -/
structure RSt (w w' : World) (r r' : Rf) (m' : MS) : Prop where
  mem : RMem w' r' m'
  but : ButL r.all w w'
  g : r'.g = r.g
  sub : ∀ k ∈ r'.all, k ∈ r.all ∨ w.heap.size ≤ k
theorem RSt.of {w w' : World} {r : Rf} {m : MS} (h : RMem w r m) (hb : Below w.heap.size w w') : RSt w w' r r m := ⟨h.on hb, .of hb, rfl, fun _ hk => .inl hk⟩
end Go.Proofs.YteldpapacdbbiaaGreatDoor
namespace Go.Proofs.YteldpapacdbbiaaGreatDoor
open Go.RowKit
theorem under95 : Tryz.prog.underlying 68 = some (.struct (Tryz.prog.fieldsOf 68)) := by kernel_rfl
theorem size95 : (Tryz.prog.info? 68).map (·.size) = some 2 := by kernel_rfl
theorem wrapI (n : Int) (h : -9223372036854775808 ≤ n ∧ n ≤ 9223372036854775807) : IntKind.i64.wrap n = n := by
  rw [IntKind.wrap_i64]; omega
def pl (o : Option Nat) : Int := match o with
  | none => -1
  | some k => (k : Int)
set_option maxRecDepth 40000 in
set_option maxHeartbeats 4000000 in
theorem place_any (w : World) (r : Rf) (m : MS) (h : RMem w r m) (s : Bool) (p : Int) :
    Calls Tryz.prog 40 #[ptr r.g, fr s p] w fun x w' => x = .returned (.int .i64 (pl (m.at s p))) ∧ Below w.heap.size w w' := by
  have hX := h.on (below_one w (.cells #[.bool s, .int .i64 p] 68))
  have hB := hid (below_one w (.cells #[.bool s, .int .i64 p] 68))
  have C3 := hid (Cel.new w 68 [.bool s, .int .i64 p])
  have h1 := h.ns0
  have h2 := h.most
  have HX : Hid (∀ x, Below (w.alloc (.cells #[.bool s, .int .i64 p] 68)).heap.size (w.alloc (.cells #[.bool s, .int .i64 p] 68)) x → x.cell? ⟨w.heap.size, 0, none⟩ = some (.bool s) ∧ x.cell? ⟨w.heap.size, 1, none⟩ = some (.int .i64 p) ∧ x.cell? ⟨r.g, 0, none⟩ = some (.slice (some ⟨r.gp, 0, none⟩) m.P.length r.cap) ∧ x.cell? ⟨r.g, 1, none⟩ = some (.int .i64 (m.ns : Int))) := hid (fun x hx => ⟨(C3.out.on hx).cell 0, (C3.out.on hx).cell 1, (hX.on hx).cel.cell 0, (hX.on hx).cel.cell 1⟩)
  obtain ⟨y0, y1, y2, y3⟩ := HX.out _ (Below.refl _ _)
  clear h hX C3
  have n1 : (m.ns : Int) ≤ (m.P.length : Int) := by omega
  have n2 : (m.P.length : Int) ≤ 128 := by omega
  have HN : Hid (p < 0 → pl (m.at s p) = -1) := hid (fun hh => by unfold MS.at; rw [if_neg (by omega)]; rfl)
  have HS1 : Hid (s = true → 0 ≤ p → p < (m.ns : Int) → pl (m.at s p) = p) := hid (fun hs a b => by unfold MS.at; rw [if_pos a, if_pos hs, if_pos b]; show ((p.toNat : Nat) : Int) = p; omega)
  have HS2 : Hid (s = true → 0 ≤ p → ¬ p < (m.ns : Int) → pl (m.at s p) = -1) := hid (fun hs a b => by unfold MS.at; rw [if_pos a, if_pos hs, if_neg b]; rfl)
  have HI1 : Hid (s = false → 0 ≤ p → p < (m.P.length : Int) - (m.ns : Int) → pl (m.at s p) = (m.ns : Int) + p) := hid (fun hs a b => by unfold MS.at; rw [if_pos a, if_neg (by simp [hs]), if_pos (by omega)]; show ((m.ns + p.toNat : Nat) : Int) = _; omega)
  have HI2 : Hid (s = false → 0 ≤ p → ¬ p < (m.P.length : Int) - (m.ns : Int) → pl (m.at s p) = -1) := hid (fun hs a b => by unfold MS.at; rw [if_pos a, if_neg (by simp [hs]), if_neg (by omega)]; rfl)
  generalize pl (m.at s p) = res at *
  simp only [ptr, fr]
  go_enter Tryz.func40, Tryz.ntmps40
  by_cases hp : p < 0
  · have hr := HN.out hp
    subst hr
    go_wp2_with fail
    go_ret
    exact ⟨rfl, hB.out⟩
  have p0 : 0 ≤ p := by omega
  cases s
  · by_cases hq : p < (m.P.length : Int) - (m.ns : Int)
    · have HR := hid (HI1.out rfl p0 hq)
      clear HN HS1 HS2 HI1 HI2 hp
      go_wp2_with fail
      refine wp_region_held_drew (S := fun x => Below (w.alloc (.cells #[.bool false, .int .i64 p] 68)).heap.size (w.alloc (.cells #[.bool false, .int .i64 p] 68)) x) (by kernel_rfl) ((Below.refl _ _).drew) (fun hHeld => ?_)
      refine wpAnyH_take (i := 0) (oi := { dst := some 19, op := Op.fieldAddr 68 (Operand.tmp 3) 1, type := 0, pos := "ref.go:56", after := #[], guard := none }) (v := .pointer (some ⟨w.heap.size, 1, none⟩)) rfl (by kernel_rfl) (by kernel_rfl) (by kernel_rfl) (fun _ _ _ h => h) (Or.inl ⟨by rfl, by intro w hSw; go_simp⟩) (by assumption) ?_
      simp only [Act.put, List.setIfInBounds_toArray, List.set_cons_zero, List.set_cons_succ]
      refine wpAnyH_take (i := 1) (oi := { dst := some 20, op := Op.load 3 (Operand.tmp 19), type := 3, pos := "ref.go:56", after := #[{ on := 0, ground := Ground.data }], guard := none }) (v := .int .i64 p) rfl (by kernel_rfl) (by kernel_rfl) (by kernel_rfl) (fun _ _ _ h => h) (Or.inl ⟨by rfl, by intro w hSw; have hcc := (HX.out w hSw).2.1; go_simp⟩) (by assumption) ?_
      simp only [Act.put, List.setIfInBounds_toArray, List.set_cons_zero, List.set_cons_succ]
      refine wpAnyH_take (i := 2) (oi := { dst := some 21, op := Op.move (Operand.tmp 0), type := 32, pos := "ref.go:56", after := #[], guard := none }) (v := .pointer (some ⟨r.g, 0, none⟩)) rfl (by kernel_rfl) (by kernel_rfl) (by kernel_rfl) (fun _ _ _ h => h) (Or.inl ⟨by rfl, by intro w hSw; go_simp⟩) (by assumption) ?_
      simp only [Act.put, List.setIfInBounds_toArray, List.set_cons_zero, List.set_cons_succ]
      refine wpAnyH_take (i := 3) (oi := { dst := some 22, op := Op.nilCheck (Operand.tmp 21), type := 0, pos := "ref.go:56", after := #[{ on := 2, ground := Ground.data }], guard := none }) (v := .pointer (some ⟨r.g, 0, none⟩)) rfl (by kernel_rfl) (by kernel_rfl) (by kernel_rfl) (fun _ _ _ h => h) (Or.inl ⟨by rfl, by intro w hSw; go_simp⟩) (by assumption) ?_
      simp only [Act.put, List.setIfInBounds_toArray, List.set_cons_zero, List.set_cons_succ]
      refine wpAnyH_take (i := 4) (oi := { dst := some 23, op := Op.fieldAddr 97 (Operand.tmp 22) 0, type := 0, pos := "ref.go:56", after := #[{ on := 3, ground := Ground.data }], guard := none }) (v := .pointer (some ⟨r.g, 0, none⟩)) rfl (by kernel_rfl) (by kernel_rfl) (by kernel_rfl) (fun _ _ _ h => h) (Or.inl ⟨by rfl, by intro w hSw; go_simp⟩) (by assumption) ?_
      simp only [Act.put, List.setIfInBounds_toArray, List.set_cons_zero, List.set_cons_succ]
      refine wpAnyH_take (i := 5) (oi := { dst := some 24, op := Op.load 95 (Operand.tmp 23), type := 95, pos := "ref.go:56", after := #[{ on := 4, ground := Ground.data }], guard := none }) (v := .slice (some ⟨r.gp, 0, none⟩) m.P.length r.cap) rfl (by kernel_rfl) (by kernel_rfl) (by kernel_rfl) (fun _ _ _ h => h) (Or.inl ⟨by rfl, by intro w hSw; have hcc := (HX.out w hSw).2.2.1; go_simp⟩) (by assumption) ?_
      simp only [Act.put, List.setIfInBounds_toArray, List.set_cons_zero, List.set_cons_succ]
      refine wpAnyH_take (i := 6) (oi := { dst := some 25, op := Op.call { callee := Callee.builtin Builtin.len, args := #[Operand.tmp 24], argTypes := #[95] }, type := 3, pos := "ref.go:56", after := #[{ on := 5, ground := Ground.data }], guard := none }) (v := .int .i64 (m.P.length : Int)) rfl (by kernel_rfl) (by kernel_rfl) (by kernel_rfl) (fun _ _ _ h => h) (Or.inl ⟨by rfl, by intro w hSw; go_simp⟩) (by assumption) ?_
      simp only [Act.put, List.setIfInBounds_toArray, List.set_cons_zero, List.set_cons_succ]
      refine wpAnyH_take (i := 7) (oi := { dst := some 26, op := Op.move (Operand.tmp 0), type := 32, pos := "ref.go:56", after := #[], guard := none }) (v := .pointer (some ⟨r.g, 0, none⟩)) rfl (by kernel_rfl) (by kernel_rfl) (by kernel_rfl) (fun _ _ _ h => h) (Or.inl ⟨by rfl, by intro w hSw; go_simp⟩) (by assumption) ?_
      simp only [Act.put, List.setIfInBounds_toArray, List.set_cons_zero, List.set_cons_succ]
      refine wpAnyH_take (i := 8) (oi := { dst := some 27, op := Op.nilCheck (Operand.tmp 26), type := 0, pos := "ref.go:56", after := #[{ on := 7, ground := Ground.data }], guard := none }) (v := .pointer (some ⟨r.g, 0, none⟩)) rfl (by kernel_rfl) (by kernel_rfl) (by kernel_rfl) (fun _ _ _ h => h) (Or.inl ⟨by rfl, by intro w hSw; go_simp⟩) (by assumption) ?_
      simp only [Act.put, List.setIfInBounds_toArray, List.set_cons_zero, List.set_cons_succ]
      refine wpAnyH_take (i := 9) (oi := { dst := some 28, op := Op.fieldAddr 97 (Operand.tmp 27) 1, type := 0, pos := "ref.go:56", after := #[{ on := 8, ground := Ground.data }], guard := none }) (v := .pointer (some ⟨r.g, 1, none⟩)) rfl (by kernel_rfl) (by kernel_rfl) (by kernel_rfl) (fun _ _ _ h => h) (Or.inl ⟨by rfl, by intro w hSw; go_simp⟩) (by assumption) ?_
      simp only [Act.put, List.setIfInBounds_toArray, List.set_cons_zero, List.set_cons_succ]
      refine wpAnyH_take (i := 10) (oi := { dst := some 29, op := Op.load 3 (Operand.tmp 28), type := 3, pos := "ref.go:56", after := #[{ on := 9, ground := Ground.data }], guard := none }) (v := .int .i64 (m.ns : Int)) rfl (by kernel_rfl) (by kernel_rfl) (by kernel_rfl) (fun _ _ _ h => h) (Or.inl ⟨by rfl, by intro w hSw; have hcc := (HX.out w hSw).2.2.2; go_simp⟩) (by assumption) ?_
      simp only [Act.put, List.setIfInBounds_toArray, List.set_cons_zero, List.set_cons_succ]
      refine wpAnyH_take (i := 11) (oi := { dst := some 30, op := Op.binOp BinOp.sub 3 (Operand.tmp 25) (Operand.tmp 29) 3, type := 3, pos := "ref.go:56", after := #[{ on := 6, ground := Ground.data }, { on := 10, ground := Ground.data }], guard := none }) (v := .int .i64 ((m.P.length : Int) - (m.ns : Int))) rfl (by kernel_rfl) (by kernel_rfl) (by kernel_rfl) (fun _ _ _ h => h) (Or.inl ⟨by rfl, by intro w hSw; go_simp; exact wrapI _ (by omega)⟩) (by assumption) ?_
      simp only [Act.put, List.setIfInBounds_toArray, List.set_cons_zero, List.set_cons_succ]
      refine wpAnyH_take (i := 12) (oi := { dst := some 31, op := Op.binOp BinOp.lss 3 (Operand.tmp 20) (Operand.tmp 30) 3, type := 4, pos := "ref.go:56", after := #[{ on := 1, ground := Ground.data }, { on := 11, ground := Ground.data }], guard := none }) (v := .bool true) rfl (by kernel_rfl) (by kernel_rfl) (by kernel_rfl) (fun _ _ _ h => h) (Or.inl ⟨by rfl, by intro w hSw; go_simp⟩) (by assumption) ?_
      simp only [Act.put, List.setIfInBounds_toArray, List.set_cons_zero, List.set_cons_succ]
      refine wpAnyH_done (by kernel_rfl) ?_ _
      clear y0 y1 y2 y3
      clear hHeld
      obtain ⟨y0, y1, y2, y3⟩ := HX.out _ ((Below.refl _ _).drew)
      go_wp2_with fail
      refine wp_region_held_drew (S := fun x => Below (w.alloc (.cells #[.bool false, .int .i64 p] 68)).heap.size (w.alloc (.cells #[.bool false, .int .i64 p] 68)) x) (by kernel_rfl) ((Below.refl _ _).drew.drew) (fun hHeld => ?_)
      refine wpAnyH_take (i := 0) (oi := { dst := some 32, op := Op.move (Operand.tmp 0), type := 32, pos := "ref.go:57", after := #[], guard := none }) (v := .pointer (some ⟨r.g, 0, none⟩)) rfl (by kernel_rfl) (by kernel_rfl) (by kernel_rfl) (fun _ _ _ h => h) (Or.inl ⟨by rfl, by intro w hSw; go_simp⟩) (by assumption) ?_
      simp only [Act.put, List.setIfInBounds_toArray, List.set_cons_zero, List.set_cons_succ]
      refine wpAnyH_take (i := 1) (oi := { dst := some 33, op := Op.nilCheck (Operand.tmp 32), type := 0, pos := "ref.go:57", after := #[{ on := 0, ground := Ground.data }], guard := none }) (v := .pointer (some ⟨r.g, 0, none⟩)) rfl (by kernel_rfl) (by kernel_rfl) (by kernel_rfl) (fun _ _ _ h => h) (Or.inl ⟨by rfl, by intro w hSw; go_simp⟩) (by assumption) ?_
      simp only [Act.put, List.setIfInBounds_toArray, List.set_cons_zero, List.set_cons_succ]
      refine wpAnyH_take (i := 2) (oi := { dst := some 34, op := Op.fieldAddr 97 (Operand.tmp 33) 1, type := 0, pos := "ref.go:57", after := #[{ on := 1, ground := Ground.data }], guard := none }) (v := .pointer (some ⟨r.g, 1, none⟩)) rfl (by kernel_rfl) (by kernel_rfl) (by kernel_rfl) (fun _ _ _ h => h) (Or.inl ⟨by rfl, by intro w hSw; go_simp⟩) (by assumption) ?_
      simp only [Act.put, List.setIfInBounds_toArray, List.set_cons_zero, List.set_cons_succ]
      refine wpAnyH_take (i := 3) (oi := { dst := some 35, op := Op.load 3 (Operand.tmp 34), type := 3, pos := "ref.go:57", after := #[{ on := 2, ground := Ground.data }], guard := none }) (v := .int .i64 (m.ns : Int)) rfl (by kernel_rfl) (by kernel_rfl) (by kernel_rfl) (fun _ _ _ h => h) (Or.inl ⟨by rfl, by intro w hSw; have hcc := (HX.out w hSw).2.2.2; go_simp⟩) (by assumption) ?_
      simp only [Act.put, List.setIfInBounds_toArray, List.set_cons_zero, List.set_cons_succ]
      refine wpAnyH_take (i := 4) (oi := { dst := some 36, op := Op.fieldAddr 68 (Operand.tmp 3) 1, type := 0, pos := "ref.go:57", after := #[], guard := none }) (v := .pointer (some ⟨w.heap.size, 1, none⟩)) rfl (by kernel_rfl) (by kernel_rfl) (by kernel_rfl) (fun _ _ _ h => h) (Or.inl ⟨by rfl, by intro w hSw; go_simp⟩) (by assumption) ?_
      simp only [Act.put, List.setIfInBounds_toArray, List.set_cons_zero, List.set_cons_succ]
      refine wpAnyH_take (i := 5) (oi := { dst := some 37, op := Op.load 3 (Operand.tmp 36), type := 3, pos := "ref.go:57", after := #[{ on := 4, ground := Ground.data }], guard := none }) (v := .int .i64 p) rfl (by kernel_rfl) (by kernel_rfl) (by kernel_rfl) (fun _ _ _ h => h) (Or.inl ⟨by rfl, by intro w hSw; have hcc := (HX.out w hSw).2.1; go_simp⟩) (by assumption) ?_
      simp only [Act.put, List.setIfInBounds_toArray, List.set_cons_zero, List.set_cons_succ]
      refine wpAnyH_take (i := 6) (oi := { dst := some 38, op := Op.binOp BinOp.add 3 (Operand.tmp 35) (Operand.tmp 37) 3, type := 3, pos := "ref.go:57", after := #[{ on := 3, ground := Ground.data }, { on := 5, ground := Ground.data }], guard := none }) (v := .int .i64 ((m.ns : Int) + p)) rfl (by kernel_rfl) (by kernel_rfl) (by kernel_rfl) (fun _ _ _ h => h) (Or.inl ⟨by rfl, by intro w hSw; go_simp; exact wrapI _ (by omega)⟩) (by assumption) ?_
      simp only [Act.put, List.setIfInBounds_toArray, List.set_cons_zero, List.set_cons_succ]
      refine wpAnyH_ready (rs := [7]) (by kernel_rfl) (by simp) (AllReadyH.cons (o := { dst := some 4, op := Op.assign (Operand.tmp 38), type := 3, pos := "ref.go:57", after := #[{ on := 6, ground := Ground.data }, { on := 0, ground := Ground.phase }, { on := 1, ground := Ground.phase }, { on := 2, ground := Ground.phase }, { on := 3, ground := Ground.phase }, { on := 4, ground := Ground.phase }, { on := 5, ground := Ground.phase }, { on := 6, ground := Ground.phase }], guard := none }) rfl (fun KQ hK => ?_) AllReadyH.nil)
      go_simp
      refine hK.out _ _ ((Below.refl _ _).drew.drew) (fun hHeld => ?_)
      clear hK KQ
      try simp only [Act.put, List.setIfInBounds_toArray, List.set_cons_zero, List.set_cons_succ]
      refine wpAnyH_done (by kernel_rfl) ?_ _
      clear hHeld
      go_wp2_with fail
      go_ret
      exact ⟨ret_int HR.out.symm, below_on hB.out ((Below.refl _ _).drew.drew)⟩
    · have HR := hid (HI2.out rfl p0 hq)
      clear HN HS1 HS2 HI1 HI2 hp
      go_wp2_with fail
      refine wp_region_held_drew (S := fun x => Below (w.alloc (.cells #[.bool false, .int .i64 p] 68)).heap.size (w.alloc (.cells #[.bool false, .int .i64 p] 68)) x) (by kernel_rfl) ((Below.refl _ _).drew) (fun hHeld => ?_)
      refine wpAnyH_take (i := 0) (oi := { dst := some 19, op := Op.fieldAddr 68 (Operand.tmp 3) 1, type := 0, pos := "ref.go:56", after := #[], guard := none }) (v := .pointer (some ⟨w.heap.size, 1, none⟩)) rfl (by kernel_rfl) (by kernel_rfl) (by kernel_rfl) (fun _ _ _ h => h) (Or.inl ⟨by rfl, by intro w hSw; go_simp⟩) (by assumption) ?_
      simp only [Act.put, List.setIfInBounds_toArray, List.set_cons_zero, List.set_cons_succ]
      refine wpAnyH_take (i := 1) (oi := { dst := some 20, op := Op.load 3 (Operand.tmp 19), type := 3, pos := "ref.go:56", after := #[{ on := 0, ground := Ground.data }], guard := none }) (v := .int .i64 p) rfl (by kernel_rfl) (by kernel_rfl) (by kernel_rfl) (fun _ _ _ h => h) (Or.inl ⟨by rfl, by intro w hSw; have hcc := (HX.out w hSw).2.1; go_simp⟩) (by assumption) ?_
      simp only [Act.put, List.setIfInBounds_toArray, List.set_cons_zero, List.set_cons_succ]
      refine wpAnyH_take (i := 2) (oi := { dst := some 21, op := Op.move (Operand.tmp 0), type := 32, pos := "ref.go:56", after := #[], guard := none }) (v := .pointer (some ⟨r.g, 0, none⟩)) rfl (by kernel_rfl) (by kernel_rfl) (by kernel_rfl) (fun _ _ _ h => h) (Or.inl ⟨by rfl, by intro w hSw; go_simp⟩) (by assumption) ?_
      simp only [Act.put, List.setIfInBounds_toArray, List.set_cons_zero, List.set_cons_succ]
      refine wpAnyH_take (i := 3) (oi := { dst := some 22, op := Op.nilCheck (Operand.tmp 21), type := 0, pos := "ref.go:56", after := #[{ on := 2, ground := Ground.data }], guard := none }) (v := .pointer (some ⟨r.g, 0, none⟩)) rfl (by kernel_rfl) (by kernel_rfl) (by kernel_rfl) (fun _ _ _ h => h) (Or.inl ⟨by rfl, by intro w hSw; go_simp⟩) (by assumption) ?_
      simp only [Act.put, List.setIfInBounds_toArray, List.set_cons_zero, List.set_cons_succ]
      refine wpAnyH_take (i := 4) (oi := { dst := some 23, op := Op.fieldAddr 97 (Operand.tmp 22) 0, type := 0, pos := "ref.go:56", after := #[{ on := 3, ground := Ground.data }], guard := none }) (v := .pointer (some ⟨r.g, 0, none⟩)) rfl (by kernel_rfl) (by kernel_rfl) (by kernel_rfl) (fun _ _ _ h => h) (Or.inl ⟨by rfl, by intro w hSw; go_simp⟩) (by assumption) ?_
      simp only [Act.put, List.setIfInBounds_toArray, List.set_cons_zero, List.set_cons_succ]
      refine wpAnyH_take (i := 5) (oi := { dst := some 24, op := Op.load 95 (Operand.tmp 23), type := 95, pos := "ref.go:56", after := #[{ on := 4, ground := Ground.data }], guard := none }) (v := .slice (some ⟨r.gp, 0, none⟩) m.P.length r.cap) rfl (by kernel_rfl) (by kernel_rfl) (by kernel_rfl) (fun _ _ _ h => h) (Or.inl ⟨by rfl, by intro w hSw; have hcc := (HX.out w hSw).2.2.1; go_simp⟩) (by assumption) ?_
      simp only [Act.put, List.setIfInBounds_toArray, List.set_cons_zero, List.set_cons_succ]
      refine wpAnyH_take (i := 6) (oi := { dst := some 25, op := Op.call { callee := Callee.builtin Builtin.len, args := #[Operand.tmp 24], argTypes := #[95] }, type := 3, pos := "ref.go:56", after := #[{ on := 5, ground := Ground.data }], guard := none }) (v := .int .i64 (m.P.length : Int)) rfl (by kernel_rfl) (by kernel_rfl) (by kernel_rfl) (fun _ _ _ h => h) (Or.inl ⟨by rfl, by intro w hSw; go_simp⟩) (by assumption) ?_
      simp only [Act.put, List.setIfInBounds_toArray, List.set_cons_zero, List.set_cons_succ]
      refine wpAnyH_take (i := 7) (oi := { dst := some 26, op := Op.move (Operand.tmp 0), type := 32, pos := "ref.go:56", after := #[], guard := none }) (v := .pointer (some ⟨r.g, 0, none⟩)) rfl (by kernel_rfl) (by kernel_rfl) (by kernel_rfl) (fun _ _ _ h => h) (Or.inl ⟨by rfl, by intro w hSw; go_simp⟩) (by assumption) ?_
      simp only [Act.put, List.setIfInBounds_toArray, List.set_cons_zero, List.set_cons_succ]
      refine wpAnyH_take (i := 8) (oi := { dst := some 27, op := Op.nilCheck (Operand.tmp 26), type := 0, pos := "ref.go:56", after := #[{ on := 7, ground := Ground.data }], guard := none }) (v := .pointer (some ⟨r.g, 0, none⟩)) rfl (by kernel_rfl) (by kernel_rfl) (by kernel_rfl) (fun _ _ _ h => h) (Or.inl ⟨by rfl, by intro w hSw; go_simp⟩) (by assumption) ?_
      simp only [Act.put, List.setIfInBounds_toArray, List.set_cons_zero, List.set_cons_succ]
      refine wpAnyH_take (i := 9) (oi := { dst := some 28, op := Op.fieldAddr 97 (Operand.tmp 27) 1, type := 0, pos := "ref.go:56", after := #[{ on := 8, ground := Ground.data }], guard := none }) (v := .pointer (some ⟨r.g, 1, none⟩)) rfl (by kernel_rfl) (by kernel_rfl) (by kernel_rfl) (fun _ _ _ h => h) (Or.inl ⟨by rfl, by intro w hSw; go_simp⟩) (by assumption) ?_
      simp only [Act.put, List.setIfInBounds_toArray, List.set_cons_zero, List.set_cons_succ]
      refine wpAnyH_take (i := 10) (oi := { dst := some 29, op := Op.load 3 (Operand.tmp 28), type := 3, pos := "ref.go:56", after := #[{ on := 9, ground := Ground.data }], guard := none }) (v := .int .i64 (m.ns : Int)) rfl (by kernel_rfl) (by kernel_rfl) (by kernel_rfl) (fun _ _ _ h => h) (Or.inl ⟨by rfl, by intro w hSw; have hcc := (HX.out w hSw).2.2.2; go_simp⟩) (by assumption) ?_
      simp only [Act.put, List.setIfInBounds_toArray, List.set_cons_zero, List.set_cons_succ]
      refine wpAnyH_take (i := 11) (oi := { dst := some 30, op := Op.binOp BinOp.sub 3 (Operand.tmp 25) (Operand.tmp 29) 3, type := 3, pos := "ref.go:56", after := #[{ on := 6, ground := Ground.data }, { on := 10, ground := Ground.data }], guard := none }) (v := .int .i64 ((m.P.length : Int) - (m.ns : Int))) rfl (by kernel_rfl) (by kernel_rfl) (by kernel_rfl) (fun _ _ _ h => h) (Or.inl ⟨by rfl, by intro w hSw; go_simp; exact wrapI _ (by omega)⟩) (by assumption) ?_
      simp only [Act.put, List.setIfInBounds_toArray, List.set_cons_zero, List.set_cons_succ]
      refine wpAnyH_take (i := 12) (oi := { dst := some 31, op := Op.binOp BinOp.lss 3 (Operand.tmp 20) (Operand.tmp 30) 3, type := 4, pos := "ref.go:56", after := #[{ on := 1, ground := Ground.data }, { on := 11, ground := Ground.data }], guard := none }) (v := .bool false) rfl (by kernel_rfl) (by kernel_rfl) (by kernel_rfl) (fun _ _ _ h => h) (Or.inl ⟨by rfl, by intro w hSw; go_simp⟩) (by assumption) ?_
      simp only [Act.put, List.setIfInBounds_toArray, List.set_cons_zero, List.set_cons_succ]
      refine wpAnyH_done (by kernel_rfl) ?_ _
      clear y0 y1 y2 y3
      clear hHeld
      obtain ⟨y0, y1, y2, y3⟩ := HX.out _ ((Below.refl _ _).drew)
      go_wp2_with fail
      go_ret
      exact ⟨ret_int HR.out.symm, below_on hB.out ((Below.refl _ _).drew)⟩
  · by_cases hq : p < (m.ns : Int)
    · have HR := hid (HS1.out rfl p0 hq)
      clear HN HS1 HS2 HI1 HI2 hp
      go_wp2_with fail
      refine wp_region_held_drew (S := fun x => Below (w.alloc (.cells #[.bool true, .int .i64 p] 68)).heap.size (w.alloc (.cells #[.bool true, .int .i64 p] 68)) x) (by kernel_rfl) ((Below.refl _ _).drew) (fun hHeld => ?_)
      refine wpAnyH_take (i := 0) (oi := { dst := some 10, op := Op.fieldAddr 68 (Operand.tmp 3) 1, type := 0, pos := "ref.go:51", after := #[], guard := none }) (v := .pointer (some ⟨w.heap.size, 1, none⟩)) rfl (by kernel_rfl) (by kernel_rfl) (by kernel_rfl) (fun _ _ _ h => h) (Or.inl ⟨by rfl, by intro w hSw; go_simp⟩) (by assumption) ?_
      simp only [Act.put, List.setIfInBounds_toArray, List.set_cons_zero, List.set_cons_succ]
      refine wpAnyH_take (i := 1) (oi := { dst := some 11, op := Op.load 3 (Operand.tmp 10), type := 3, pos := "ref.go:51", after := #[{ on := 0, ground := Ground.data }], guard := none }) (v := .int .i64 p) rfl (by kernel_rfl) (by kernel_rfl) (by kernel_rfl) (fun _ _ _ h => h) (Or.inl ⟨by rfl, by intro w hSw; have hcc := (HX.out w hSw).2.1; go_simp⟩) (by assumption) ?_
      simp only [Act.put, List.setIfInBounds_toArray, List.set_cons_zero, List.set_cons_succ]
      refine wpAnyH_take (i := 2) (oi := { dst := some 12, op := Op.move (Operand.tmp 0), type := 32, pos := "ref.go:51", after := #[], guard := none }) (v := .pointer (some ⟨r.g, 0, none⟩)) rfl (by kernel_rfl) (by kernel_rfl) (by kernel_rfl) (fun _ _ _ h => h) (Or.inl ⟨by rfl, by intro w hSw; go_simp⟩) (by assumption) ?_
      simp only [Act.put, List.setIfInBounds_toArray, List.set_cons_zero, List.set_cons_succ]
      refine wpAnyH_take (i := 3) (oi := { dst := some 13, op := Op.nilCheck (Operand.tmp 12), type := 0, pos := "ref.go:51", after := #[{ on := 2, ground := Ground.data }], guard := none }) (v := .pointer (some ⟨r.g, 0, none⟩)) rfl (by kernel_rfl) (by kernel_rfl) (by kernel_rfl) (fun _ _ _ h => h) (Or.inl ⟨by rfl, by intro w hSw; go_simp⟩) (by assumption) ?_
      simp only [Act.put, List.setIfInBounds_toArray, List.set_cons_zero, List.set_cons_succ]
      refine wpAnyH_take (i := 4) (oi := { dst := some 14, op := Op.fieldAddr 97 (Operand.tmp 13) 1, type := 0, pos := "ref.go:51", after := #[{ on := 3, ground := Ground.data }], guard := none }) (v := .pointer (some ⟨r.g, 1, none⟩)) rfl (by kernel_rfl) (by kernel_rfl) (by kernel_rfl) (fun _ _ _ h => h) (Or.inl ⟨by rfl, by intro w hSw; go_simp⟩) (by assumption) ?_
      simp only [Act.put, List.setIfInBounds_toArray, List.set_cons_zero, List.set_cons_succ]
      refine wpAnyH_take (i := 5) (oi := { dst := some 15, op := Op.load 3 (Operand.tmp 14), type := 3, pos := "ref.go:51", after := #[{ on := 4, ground := Ground.data }], guard := none }) (v := .int .i64 (m.ns : Int)) rfl (by kernel_rfl) (by kernel_rfl) (by kernel_rfl) (fun _ _ _ h => h) (Or.inl ⟨by rfl, by intro w hSw; have hcc := (HX.out w hSw).2.2.2; go_simp⟩) (by assumption) ?_
      simp only [Act.put, List.setIfInBounds_toArray, List.set_cons_zero, List.set_cons_succ]
      refine wpAnyH_take (i := 6) (oi := { dst := some 16, op := Op.binOp BinOp.lss 3 (Operand.tmp 11) (Operand.tmp 15) 3, type := 4, pos := "ref.go:51", after := #[{ on := 1, ground := Ground.data }, { on := 5, ground := Ground.data }], guard := none }) (v := .bool true) rfl (by kernel_rfl) (by kernel_rfl) (by kernel_rfl) (fun _ _ _ h => h) (Or.inl ⟨by rfl, by intro w hSw; go_simp⟩) (by assumption) ?_
      simp only [Act.put, List.setIfInBounds_toArray, List.set_cons_zero, List.set_cons_succ]
      refine wpAnyH_done (by kernel_rfl) ?_ _
      clear y0 y1 y2 y3
      clear hHeld
      obtain ⟨y0, y1, y2, y3⟩ := HX.out _ ((Below.refl _ _).drew)
      go_wp2_with fail
      go_ret
      exact ⟨ret_int HR.out.symm, below_on hB.out ((Below.refl _ _).drew)⟩
    · have HR := hid (HS2.out rfl p0 hq)
      clear HN HS1 HS2 HI1 HI2 hp
      go_wp2_with fail
      refine wp_region_held_drew (S := fun x => Below (w.alloc (.cells #[.bool true, .int .i64 p] 68)).heap.size (w.alloc (.cells #[.bool true, .int .i64 p] 68)) x) (by kernel_rfl) ((Below.refl _ _).drew) (fun hHeld => ?_)
      refine wpAnyH_take (i := 0) (oi := { dst := some 10, op := Op.fieldAddr 68 (Operand.tmp 3) 1, type := 0, pos := "ref.go:51", after := #[], guard := none }) (v := .pointer (some ⟨w.heap.size, 1, none⟩)) rfl (by kernel_rfl) (by kernel_rfl) (by kernel_rfl) (fun _ _ _ h => h) (Or.inl ⟨by rfl, by intro w hSw; go_simp⟩) (by assumption) ?_
      simp only [Act.put, List.setIfInBounds_toArray, List.set_cons_zero, List.set_cons_succ]
      refine wpAnyH_take (i := 1) (oi := { dst := some 11, op := Op.load 3 (Operand.tmp 10), type := 3, pos := "ref.go:51", after := #[{ on := 0, ground := Ground.data }], guard := none }) (v := .int .i64 p) rfl (by kernel_rfl) (by kernel_rfl) (by kernel_rfl) (fun _ _ _ h => h) (Or.inl ⟨by rfl, by intro w hSw; have hcc := (HX.out w hSw).2.1; go_simp⟩) (by assumption) ?_
      simp only [Act.put, List.setIfInBounds_toArray, List.set_cons_zero, List.set_cons_succ]
      refine wpAnyH_take (i := 2) (oi := { dst := some 12, op := Op.move (Operand.tmp 0), type := 32, pos := "ref.go:51", after := #[], guard := none }) (v := .pointer (some ⟨r.g, 0, none⟩)) rfl (by kernel_rfl) (by kernel_rfl) (by kernel_rfl) (fun _ _ _ h => h) (Or.inl ⟨by rfl, by intro w hSw; go_simp⟩) (by assumption) ?_
      simp only [Act.put, List.setIfInBounds_toArray, List.set_cons_zero, List.set_cons_succ]
      refine wpAnyH_take (i := 3) (oi := { dst := some 13, op := Op.nilCheck (Operand.tmp 12), type := 0, pos := "ref.go:51", after := #[{ on := 2, ground := Ground.data }], guard := none }) (v := .pointer (some ⟨r.g, 0, none⟩)) rfl (by kernel_rfl) (by kernel_rfl) (by kernel_rfl) (fun _ _ _ h => h) (Or.inl ⟨by rfl, by intro w hSw; go_simp⟩) (by assumption) ?_
      simp only [Act.put, List.setIfInBounds_toArray, List.set_cons_zero, List.set_cons_succ]
      refine wpAnyH_take (i := 4) (oi := { dst := some 14, op := Op.fieldAddr 97 (Operand.tmp 13) 1, type := 0, pos := "ref.go:51", after := #[{ on := 3, ground := Ground.data }], guard := none }) (v := .pointer (some ⟨r.g, 1, none⟩)) rfl (by kernel_rfl) (by kernel_rfl) (by kernel_rfl) (fun _ _ _ h => h) (Or.inl ⟨by rfl, by intro w hSw; go_simp⟩) (by assumption) ?_
      simp only [Act.put, List.setIfInBounds_toArray, List.set_cons_zero, List.set_cons_succ]
      refine wpAnyH_take (i := 5) (oi := { dst := some 15, op := Op.load 3 (Operand.tmp 14), type := 3, pos := "ref.go:51", after := #[{ on := 4, ground := Ground.data }], guard := none }) (v := .int .i64 (m.ns : Int)) rfl (by kernel_rfl) (by kernel_rfl) (by kernel_rfl) (fun _ _ _ h => h) (Or.inl ⟨by rfl, by intro w hSw; have hcc := (HX.out w hSw).2.2.2; go_simp⟩) (by assumption) ?_
      simp only [Act.put, List.setIfInBounds_toArray, List.set_cons_zero, List.set_cons_succ]
      refine wpAnyH_take (i := 6) (oi := { dst := some 16, op := Op.binOp BinOp.lss 3 (Operand.tmp 11) (Operand.tmp 15) 3, type := 4, pos := "ref.go:51", after := #[{ on := 1, ground := Ground.data }, { on := 5, ground := Ground.data }], guard := none }) (v := .bool false) rfl (by kernel_rfl) (by kernel_rfl) (by kernel_rfl) (fun _ _ _ h => h) (Or.inl ⟨by rfl, by intro w hSw; go_simp⟩) (by assumption) ?_
      simp only [Act.put, List.setIfInBounds_toArray, List.set_cons_zero, List.set_cons_succ]
      refine wpAnyH_done (by kernel_rfl) ?_ _
      clear y0 y1 y2 y3
      clear hHeld
      obtain ⟨y0, y1, y2, y3⟩ := HX.out _ ((Below.refl _ _).drew)
      go_wp2_with fail
      go_ret
      exact ⟨ret_int HR.out.symm, below_on hB.out ((Below.refl _ _).drew)⟩
theorem rhas_any (w : World) (r : Rf) (m : MS) (h : RMem w r m) (s : Bool) (p : Int) :
    Calls Tryz.prog 90 #[ptr r.g, fr s p] w fun x w' => x = .returned (.bool (m.at s p).isSome) ∧ Below w.heap.size w w' := by
  have hX := h.on (below_one w (.cells #[.bool s, .int .i64 p] 68))
  have hB := hid (below_one w (.cells #[.bool s, .int .i64 p] 68))
  have HF := hid (place_any _ r m hX s p)
  clear h hX
  generalize hr : m.at s p = o at *
  clear hr
  cases o with
  | none =>
    simp only [fr, ptr, pl, Option.isSome] at *
    go_enter Tryz.func90, Tryz.ntmps90
    go_wp2_with fail
    refine HF.out.mono ?_
    rintro x w1 ⟨rfl, hb1⟩
    have HB1 := hid (below_on hB.out hb1)
    clear hb1
    go_wp2_with fail
    go_ret
    exact ⟨rfl, HB1.out⟩
  | some k =>
    simp only [fr, ptr, pl, Option.isSome] at *
    go_enter Tryz.func90, Tryz.ntmps90
    go_wp2_with fail
    refine HF.out.mono ?_
    rintro x w1 ⟨rfl, hb1⟩
    have HB1 := hid (below_on hB.out hb1)
    clear hb1
    go_wp2_with fail
    go_ret
    exact ⟨ret_bool (by simp), HB1.out⟩
theorem rsecure_any (w : World) (r : Rf) (m : MS) (h : RMem w r m) : Calls Tryz.prog 103 #[ptr r.g] w fun x w' => x = .returned (.int .i64 (m.ns : Int)) ∧ w' = w := by
  have c1 := h.cel.cell 1
  clear h
  simp only [ptr, List.getElem?_cons_zero, List.getElem?_cons_succ] at *
  go_enter Tryz.func103, Tryz.ntmps103
  go_wp2_with fail
  go_ret
  exact ⟨rfl, rfl⟩
theorem rmeter_any (w : World) (r : Rf) (m : MS) (h : RMem w r m) : Calls Tryz.prog 12 #[ptr r.g] w fun x w' => x = .returned (.int .i64 m.c) ∧ w' = w := by
  have c1 := h.cel.cell 2
  clear h
  simp only [ptr, List.getElem?_cons_zero, List.getElem?_cons_succ] at *
  go_enter Tryz.func12, Tryz.ntmps12
  go_wp2_with fail
  go_ret
  exact ⟨rfl, rfl⟩
end Go.Proofs.YteldpapacdbbiaaGreatDoor
namespace Go.Proofs.YteldpapacdbbiaaGreatDoor
open Go.RowKit
theorem PgIs.cell {w : World} {b : Nat} {cur : Array Value} {L : List Int} (hL : L.length = 1024) (h : w.heap[b]? = some (.cells cur 23 (0, 0))) (h2 : cur.toList.take 1024 = u32s L) (j : Nat) (hj : j < 1024) : w.cell? ⟨b, j, none⟩ = some (.int .u32 (wd L j)) := by
  rw [cell_of_row w b j _ 23 (0, 0) h]
  have : (cur.toList.take 1024)[j]? = some (.int .u32 (wd L j)) := by
    rw [h2, u32s, List.getElem?_map, List.getElem?_eq_getElem (by omega)]
    simp [wd, List.getD_eq_getElem?_getD, List.getElem?_eq_getElem (show j < L.length by omega)]
  rw [List.getElem?_take_of_lt hj] at this
  simpa using this
theorem wd_zs (k : Nat) : wd zs k = 0 := by
  unfold wd zs; rw [List.getD_eq_getElem?_getD, List.getElem?_replicate]; split <;> rfl
theorem wd_zs' (k : Nat) : wd zs k = 0 := wd_zs k
set_option maxRecDepth 40000 in
theorem rpeek_any (w : World) (r : Rf) (m : MS) (h : RMem w r m) (s : Bool) (p off : Int) :
    Calls Tryz.prog 37 #[ptr r.g, fr s p, .int .i64 off] w fun x w' => x = .returned (.int .u32 (m.word s p off)) ∧ Below w.heap.size w w' := by
  have hX := h.on (below_one w (.cells #[.bool s, .int .i64 p] 68))
  have hB := hid (below_one w (.cells #[.bool s, .int .i64 p] 68))
  have HF := hid (place_any _ r m hX s p)
  have h1 := h.ns0
  have h2 := h.most
  have hlt : Hid (∀ k, m.at s p = some k → k < m.P.length) := fun k hk => MS.at_lt h1 hk
  have n2 : (m.P.length : Int) ≤ 128 := by omega
  have H := hid hX
  clear h hX h1 h2
  unfold MS.word
  generalize hr : m.at s p = o at *
  cases o with
  | none =>
    simp only [fr, ptr, pl] at *
    go_enter Tryz.func37, Tryz.ntmps37
    go_wp2_with fail
    refine HF.out.mono ?_
    rintro x w1 ⟨rfl, hb1⟩
    have HB1 := hid (below_on hB.out hb1)
    have HM := hid (H.out.on hb1)
    clear hb1
    go_wp2_with fail
    go_ret
    exact ⟨rfl, HB1.out⟩
  | some k =>
    have hk := hlt.out k rfl
    have k1 : (k : Int) < (m.P.length : Int) := by omega
    by_cases ho : In off
    · simp only [fr, ptr, pl, if_pos ho] at *
      obtain ⟨o0, o1⟩ := ho
      go_enter Tryz.func37, Tryz.ntmps37
      go_wp2_with fail
      refine HF.out.mono ?_
      rintro x w1 ⟨rfl, hb1⟩
      have HB1 := hid (below_on hB.out hb1)
      have HM := hid (H.out.on hb1)
      clear hb1
      have y0 := HM.out.cel.cell 0
      have y1 := HM.out.cellAt k hk
      simp only [List.getElem?_cons_zero] at y0
      rcases HM.out.pg k hk with ⟨hL, ⟨e1, e2⟩ | ⟨b, cap, cur, e1, e2, e3⟩⟩
      · have HZ : Hid (wd (m.p k) off.toNat = 0) := hid (by rw [e2, wd_zs'])
        rw [e1] at y1
        clear e1 e2 hL
        go_wp2_with fail
        go_ret
        exact ⟨ret_int HZ.out.symm, HB1.out⟩
      · have y2 := PgIs.cell hL e2 e3 off.toNat (by omega)
        rw [e1] at y1
        clear e1 e2 e3 hL
        obtain ⟨res, hres⟩ : ∃ res, wd (m.p k) off.toNat = res := ⟨_, rfl⟩
        rw [hres] at y2
        have HR := hid hres
        clear hres
        go_wp2_with fail
        go_ret
        exact ⟨ret_int HR.out.symm, HB1.out⟩
    · simp only [fr, ptr, pl, if_neg ho] at *
      have ho' : off < 0 ∨ (0 ≤ off ∧ 1024 ≤ off) := by unfold In at ho; omega
      clear ho
      go_enter Tryz.func37, Tryz.ntmps37
      go_wp2_with fail
      refine HF.out.mono ?_
      rintro x w1 ⟨rfl, hb1⟩
      have HB1 := hid (below_on hB.out hb1)
      have HM := hid (H.out.on hb1)
      clear hb1
      rcases ho' with ho | ⟨ho, ho2⟩
      all_goals go_wp2_with fail
      all_goals go_ret
      all_goals exact ⟨rfl, HB1.out⟩
/-- A new list of 1024 words. -/
structure NewL (w w' : World) (g : Nat) (L : List Int) : Prop where
  below : Below w.heap.size w w'
  hg : w.heap.size ≤ g
  cel : Cel w' g 23 (u32s L)
theorem u32s_setz (L : List Int) (j : Nat) (v : Int) : (u32s L).set j (.int .u32 v) = u32s (L.set j v) := u32s_set L j v
def partL (L : List Int) (j : Nat) : List Int := L.take j ++ List.replicate (1024 - j) 0
theorem partL_zero (L : List Int) : partL L 0 = zs := by unfold partL zs; rw [List.take_zero, List.nil_append]
theorem partL_full (L : List Int) (h : L.length = 1024) : partL L 1024 = L := by unfold partL; rw [List.take_of_length_le (by omega), Nat.sub_self]; simp
theorem partL_len (L : List Int) (j : Nat) (h : L.length = 1024) (hj : j ≤ 1024) : (partL L j).length = 1024 := by unfold partL; simp [h]; omega
theorem partL_set (L : List Int) (j : Nat) (h : L.length = 1024) (hj : j < 1024) : (partL L j).set j (wd L j) = partL L (j + 1) := by
  unfold partL
  have h1 : (L.take j).length = j := by rw [List.length_take]; omega
  rw [List.set_append_right _ _ (by omega), h1, Nat.sub_self]
  obtain ⟨k, hk⟩ : ∃ k, 1024 - j = k + 1 := ⟨1024 - j - 1, by omega⟩
  have hk2 : 1024 - (j + 1) = k := by omega
  have hjl : j < L.length := by omega
  rw [hk, hk2, List.replicate_succ, List.set_cons_zero, List.take_succ_eq_append_getElem hjl]
  unfold wd
  rw [List.getD_eq_getElem?_getD, List.getElem?_eq_getElem hjl]
  simp only [List.append_assoc, List.singleton_append, Option.getD_some]
end Go.Proofs.YteldpapacdbbiaaGreatDoor
namespace Go.Proofs.YteldpapacdbbiaaGreatDoor
open Go.RowKit
theorem RSt.same {w w' : World} {r : Rf} {m' : MS} (h : RMem w' r m') (hb : ButL r.all w w') : RSt w w' r r m' := ⟨h, hb, rfl, fun _ hk => .inl hk⟩
set_option maxRecDepth 40000 in
theorem ret_tb {a b : Bool} {v : Value} (h : a = b) : Ending.returned (.tuple #[.bool a, v]) = .returned (.tuple #[.bool b, v]) := by rw [h]
theorem zs_of {L : List Int} (hL : L.length = 1024) (h : ∀ j, j < 1024 → wd L j = 0) : L = zs := by
  have e : ∀ j, j < L.length → wd L j = wd zs j := fun j hj => by rw [wd_zs, h j (by omega)]
  apply List.ext_getElem (by rw [hL, zs_len])
  intro i h1 h2
  have := e i h1
  unfold wd at this
  rw [List.getD_eq_getElem?_getD, List.getElem?_eq_getElem h1, List.getD_eq_getElem?_getD, List.getElem?_eq_getElem h2] at this
  exact this
set_option maxRecDepth 40000 in
set_option maxHeartbeats 4000000 in
set_option maxRecDepth 40000 in
theorem rread_any (w : World) (r : Rf) (m : MS) (h : RMem w r m) (s : Bool) (p off : Int) :
    Calls Tryz.prog 58 #[ptr r.g, fr s p, .int .i64 off] w fun x w' => x = .returned (.tuple #[.int .u32 (m.word s p off), .int .i64 (m.err s p off)]) ∧ RSt w w' r r (m.read s p off) := by
  have hX := h.on (below_one w (.cells #[.bool s, .int .i64 p] 68))
  have hB := hid (below_one w (.cells #[.bool s, .int .i64 p] 68))
  have C4 := hid (Cel.new w 68 [.bool s, .int .i64 p])
  have HF := hid (rhas_any _ r m hX s p)
  have HNE : Hid (w.heap.size ∉ r.all) := hid (fun hm => by have := h.lt _ hm; omega)
  have H := hid hX
  clear h hX
  by_cases ho : (m.at s p).isSome = true ∧ In off
  · obtain ⟨ho1, ho2⟩ := ho
    have HE : Hid (m.err s p off = 0) := hid (by unfold MS.err; obtain ⟨k, hk⟩ := Option.isSome_iff_exists.1 ho1; rw [hk]; simp only [if_pos ho2])
    have HRD : Hid (m.read s p off = m.tick 1) := hid (by unfold MS.read; obtain ⟨k, hk⟩ := Option.isSome_iff_exists.1 ho1; rw [hk]; simp only [if_pos ho2])
    have HW : Hid ((m.tick 1).word s p off = m.word s p off) := hid rfl
    rw [ho1] at HF
    rw [HE.out, HRD.out]
    clear ho1
    obtain ⟨o0, o1⟩ := ho2
    simp only [fr, ptr] at *
    go_enter Tryz.func58, Tryz.ntmps58
    go_wp2_with fail
    refine HF.out.mono ?_
    rintro x w1 ⟨rfl, hb1⟩
    have HB1 := hid (below_on hB.out hb1)
    have HM := hid (H.out.on hb1)
    have C5 := hid (C4.out.on hb1)
    clear hb1
    have c2 : w1.cell? ⟨r.g, 2, none⟩ = some (.int .i64 m.c) := HM.out.cel.cell 2
    have f2 := HM.out.cel.free 2
    have HT := hid (HM.out.tick 1)
    have HBT : Hid (ButL r.all w (w1.setCell ⟨r.g, 2, none⟩ (.int .i64 (wrap64 (m.c + 1))))) := hid ((ButL.of HB1.out).trans (.setCell _ _ _ _ (by simp [Rf.all])))
    have C6 := hid (C5.out.but (ButL.setCell (G := [r.g]) w1 r.g 2 (.int .i64 (wrap64 (m.c + 1))) (by simp)) (by rw [List.mem_singleton]; intro e; exact HNE.out (by simp [Rf.all, e])))
    have y0 : (w1.setCell ⟨r.g, 2, none⟩ (.int .i64 (wrap64 (m.c + 1)))).cell? ⟨w.heap.size, 0, none⟩ = some (.bool s) := C6.out.cell 0
    have y1 : (w1.setCell ⟨r.g, 2, none⟩ (.int .i64 (wrap64 (m.c + 1)))).cell? ⟨w.heap.size, 1, none⟩ = some (.int .i64 p) := C6.out.cell 1
    go_wp2_with fail
    refine (rpeek_any _ r (m.tick 1) HT.out s p off).mono ?_
    rintro x w3 ⟨rfl, hb3⟩
    have HB3 := hid hb3
    clear hb3
    rw [HW.out]
    go_wp2_with fail
    go_ret2
    exact ⟨rfl, .same (HT.out.on HB3.out) (HBT.out.on HB3.out)⟩
  · have HRD : Hid (m.read s p off = m) := hid (by
      unfold MS.read
      cases hq : m.at s p with
      | none => rfl
      | some k => rw [hq] at ho; exact if_neg (fun hi => ho ⟨rfl, hi⟩))
    have HWD : Hid (m.word s p off = 0) := hid (by
      unfold MS.word
      cases hq : m.at s p with
      | none => rfl
      | some k => rw [hq] at ho; exact if_neg (fun hi => ho ⟨rfl, hi⟩))
    rw [HRD.out, HWD.out]
    unfold MS.err
    generalize m.at s p = o at *
    cases o with
    | none =>
      simp only [fr, ptr, Option.isSome] at *
      go_enter Tryz.func58, Tryz.ntmps58
      go_wp2_with fail
      refine HF.out.mono ?_
      rintro x w1 ⟨rfl, hb1⟩
      have HB1 := hid (below_on hB.out hb1)
      have HM := hid (H.out.on hb1)
      clear hb1
      go_wp2_with fail
      go_ret2
      exact ⟨rfl, .same HM.out (.of HB1.out)⟩
    | some k =>
      have hn : ¬ In off := fun hi => ho ⟨rfl, hi⟩
      have ho' : off < 0 ∨ (0 ≤ off ∧ 1024 ≤ off) := by unfold In at hn; omega
      simp only [fr, ptr, Option.isSome, if_neg hn] at *
      clear ho hn
      go_enter Tryz.func58, Tryz.ntmps58
      go_wp2_with fail
      refine HF.out.mono ?_
      rintro x w1 ⟨rfl, hb1⟩
      have HB1 := hid (below_on hB.out hb1)
      have HM := hid (H.out.on hb1)
      clear hb1
      rcases ho' with ho | ⟨ho, ho2⟩
      all_goals go_wp2_with fail
      all_goals go_ret2
      all_goals exact ⟨rfl, .same HM.out (.of HB1.out)⟩
theorem pg_nil (w : World) : PgIs w (.slice none 0 0) zs := ⟨zs_len, .inl ⟨rfl, rfl⟩⟩
/-- A page has been laid anew: the step. -/
theorem RMem.step {w w1 : World} {r : Rf} {m : MS} (h : RMem w1 r m) (hb : ButL r.all w w1) (k : Nat) (hk : k < m.P.length) (v' : Value) (L' : List Int) (hp : PgIs w1 v' L') (hnew : ∀ b, blkOf v' = some b → w.heap.size ≤ b ∧ b ∉ r.all) :
    RSt w (w1.setCell ⟨r.gp, k, none⟩ v') r { r with vs := r.vs.set k v' } { m with P := m.P.set k L' } := by
  refine ⟨h.setPage k hk v' L' hp (fun b hb' => (hnew b hb').2), hb.trans (.setCell _ _ _ _ (by simp [Rf.all])), rfl, fun b hb' => ?_⟩
  rcases Rf.all_mem hb' with rfl | rfl | ⟨j, hj, hbj⟩
  · exact .inl (by simp [Rf.all])
  · exact .inl (by simp [Rf.all])
  · simp only [List.length_set] at hj
    by_cases e : j = k
    · subst e
      have e2 : ({ r with vs := r.vs.set j v' } : Rf).v j = v' := by
        unfold Rf.v; rw [List.getD_eq_getElem?_getD, List.getElem?_set_self hj]; rfl
      rw [e2] at hbj
      exact .inr (hnew b hbj).1
    · have e2 : ({ r with vs := r.vs.set k v' } : Rf).v j = r.v j := by
        unfold Rf.v; rw [List.getD_eq_getElem?_getD, List.getElem?_set_ne (Ne.symm e), ← List.getD_eq_getElem?_getD]
      rw [e2] at hbj
      exact .inl (Rf.mem_all hj hbj)
end Go.Proofs.YteldpapacdbbiaaGreatDoor
namespace Go.Proofs.YteldpapacdbbiaaGreatDoor
open Go.RowKit
/-- A word of a page that lies there. -/
theorem RMem.put {w : World} {r : Rf} {m : MS} (h : RMem w r m) (k : Nat) (hk : k < m.P.length) {b cap : Nat} {cur : Array Value} (e1 : r.v k = .slice (some ⟨b, 0, none⟩) 1024 cap) (e2 : w.heap[b]? = some (.cells cur 23 (0, 0))) (e3 : cur.toList.take 1024 = u32s (m.p k)) (j : Nat) (v : Int) :
    RMem (w.setCell ⟨b, j, none⟩ (.int .u32 v)) r { m with P := m.P.set k ((m.p k).set j v) } := by
  have hb := ButL.setCell (G := [b]) w b j (.int .u32 v) (by simp)
  have hL := (h.pg k hk).1
  have hbk : blkOf (r.v k) = some b := by rw [e1]; rfl
  obtain ⟨cur', h1, h2⟩ := h.pages
  have hpp : ∀ i, i < m.P.length → ({ m with P := m.P.set k ((m.p k).set j v) } : MS).p i = if i = k then (m.p k).set j v else m.p i := by
    intro i hi
    unfold MS.p
    by_cases e : i = k
    · subst e
      rw [if_pos rfl, List.getD_eq_getElem?_getD, List.getElem?_set_self hi]; rfl
    · rw [if_neg e, List.getD_eq_getElem?_getD, List.getElem?_set_ne (Ne.symm e), ← List.getD_eq_getElem?_getD]
  have ng : r.g ∉ [b] := by
    rw [List.mem_singleton]; intro e
    have h3 := h.cel
    unfold Cel at h3
    rw [e, e2] at h3
    injection h3 with h3
    injection h3 with _ h4 _
    exact absurd h4 (by decide)
  have ngp : r.gp ∉ [b] := by
    rw [List.mem_singleton]; intro e
    rw [e, e2] at h1
    injection h1 with h1
    injection h1 with _ h4 _
    exact absurd h4 (by decide)
  refine ⟨?_, ⟨cur', (hb.block _ (Array.getElem?_eq_some_iff.1 h1).1 ngp).trans h1, by simpa using h2⟩, by simp [h.len], by simpa using h.ns0, by simpa using h.most, ?_, ?_⟩
  · simpa using h.cel.but hb ng
  · intro i hi
    simp only [List.length_set] at hi
    rw [hpp i hi]
    split
    · rename_i e
      subst e
      refine ⟨by rw [List.length_set]; exact hL, .inr ⟨b, cap, cur.setIfInBounds j (.int .u32 v), e1, heap_setCell_same w b j _ 23 _ e2, ?_⟩⟩
      rw [Array.toList_setIfInBounds, List.take_set, e3, u32s_set]
    · rename_i e
      exact (h.pg i hi).but hb (fun b' hb' => by rw [List.mem_singleton]; intro e'; subst e'; exact h.apart k i hk hi (fun h' => e h'.symm) b' hbk hb')
  · intro i i' hi hi'
    simp only [List.length_set] at hi hi'
    exact h.apart i i' hi hi'
theorem NewL.pg {w w' : World} {g : Nat} {L : List Int} (h : NewL w w' g L) (hL : L.length = 1024) (c : Nat) : PgIs w' (.slice (some ⟨g, 0, none⟩) 1024 c) L :=
  ⟨hL, .inr ⟨g, c, (u32s L).toArray, rfl, h.cel, by rw [List.take_of_length_le (by rw [u32s_len, hL]; exact Nat.le_refl _)]⟩⟩
theorem PgIs.on {w w' : World} {v : Value} {L : List Int} (h : PgIs w v L) (hb : Below w.heap.size w w') : PgIs w' v L := h.but (G := []) (.of hb) (by simp)
theorem wp_make_pg {o : Oper} {a : Act} {w : World} {K : Act → World → Prop} {Q : Exit → Act → World → Prop} (l c : Operand) (ho : o.op = Op.makeSlice 60 l c) (hl : a.eval l = .int .i64 1024) (hc : a.eval c = .int .i64 1024)
    (h : ∀ w', Cel w' w.heap.size 23 (u32s zs) → Below w.heap.size w w' → w'.heap.size = w.heap.size + 1 → K (a.put o.dst (.slice (some ⟨w.heap.size, 0, none⟩) 1024 1024)) w') : o.wp Tryz.prog a w K Q := by
  obtain ⟨i, hi, hzz⟩ := Option.map_eq_some_iff.1 info32
  simp only [Prod.mk.injEq] at hzz
  obtain ⟨hz, hs, hbb⟩ := hzz
  have hrun := run_make_row (P := Tryz.prog) 60 23 i (.int .u32 0) under24 hi hz hs rfl .i64 .i64 1024 (by rw [hbb]; decide) (by decide) w
  have e1 : madeCells #[Value.int .u32 0] 1024 = (u32s zs).toArray := by
    have e2 : List.replicate 1024 (Value.int .u32 0) = u32s zs := (List.map_replicate).symm
    rw [← e2, ← toList_madeCells_one]
  rw [e1] at hrun
  have hl' : a.eval l = .int .i64 ((1024 : Nat) : Int) := hl
  have hc' : a.eval c = .int .i64 ((1024 : Nat) : Int) := hc
  unfold Oper.wp execOp
  simp only [ho, hl', hc', Sem.run_bind, Sem.run_pure, hrun, Result.andThen_ok]
  exact h _ (Cel.new _ _ _) (below_one _ _) (by simp)
set_option maxRecDepth 40000 in
set_option maxHeartbeats 4000000 in
theorem rwrite_any (w : World) (r : Rf) (m : MS) (h : RMem w r m) (s : Bool) (p off v : Int) :
    Calls Tryz.prog 22 #[ptr r.g, fr s p, .int .i64 off, .int .u32 v] w fun x w' => x = .returned (.int .i64 (m.err s p off)) ∧ ∃ r', RSt w w' r r' (m.write s p off v) := by
  have hX := h.on (below_one w (.cells #[.bool s, .int .i64 p] 68))
  have hB := hid (below_one w (.cells #[.bool s, .int .i64 p] 68))
  have HF := hid (place_any _ r m hX s p)
  have h1 := h.ns0
  have h2 := h.most
  have hlt : Hid (∀ k, m.at s p = some k → k < m.P.length) := fun k hk => MS.at_lt h1 hk
  have n2 : (m.P.length : Int) ≤ 128 := by omega
  have H := hid hX
  clear h hX h1 h2
  unfold MS.err MS.write
  generalize hr : m.at s p = o at *
  cases o with
  | none =>
    simp only [fr, ptr, pl] at *
    go_enter Tryz.func22, Tryz.ntmps22
    go_wp2_with fail
    refine HF.out.mono ?_
    rintro x w1 ⟨rfl, hb1⟩
    have HB1 := hid (below_on hB.out hb1)
    have HM := hid (H.out.on hb1)
    clear hb1
    go_wp2_with fail
    go_ret
    exact ⟨rfl, r, .same HM.out (.of HB1.out)⟩
  | some k =>
    have hk := hlt.out k rfl
    have k1 : (k : Int) < (m.P.length : Int) := by omega
    by_cases ho : In off
    · simp only [fr, ptr, pl, if_pos ho] at *
      obtain ⟨o0, o1⟩ := ho
      go_enter Tryz.func22, Tryz.ntmps22
      go_wp2_with fail
      refine HF.out.mono ?_
      rintro x w1 ⟨rfl, hb1⟩
      have HB1 := hid (below_on hB.out hb1)
      have HM := hid (H.out.on hb1)
      clear hb1
      have c2 : w1.cell? ⟨r.g, 2, none⟩ = some (.int .i64 m.c) := HM.out.cel.cell 2
      have f2 := HM.out.cel.free 2
      have HT := hid (HM.out.tick 1)
      have HBT : Hid (ButL r.all w (w1.setCell ⟨r.g, 2, none⟩ (.int .i64 (wrap64 (m.c + 1))))) := hid ((ButL.of HB1.out).trans (.setCell _ _ _ _ (by simp [Rf.all])))
      have y0 : (w1.setCell ⟨r.g, 2, none⟩ (.int .i64 (wrap64 (m.c + 1)))).cell? ⟨r.g, 0, none⟩ = some (.slice (some ⟨r.gp, 0, none⟩) m.P.length r.cap) := HT.out.cel.cell 0
      have y1 := HT.out.cellAt k hk
      rcases (HT.out.pg k hk) with ⟨hL, ⟨e1, e2⟩ | ⟨b, cap, cur, e1, e2, e3⟩⟩
      · rw [e1] at y1
        have HE2 : Hid (m.p k = zs) := hid e2
        clear e1 e2 hL
        go_wp2_with fail
        generalize (w1.setCell ⟨r.g, 2, none⟩ (.int .i64 (wrap64 (m.c + 1)))) = Y at *
        have HX : Hid (∀ x, ButL [r.gp] Y x → x.cell? ⟨r.g, 0, none⟩ = some (.slice (some ⟨r.gp, 0, none⟩) m.P.length r.cap)) := hid (fun x hx => (HT.out.cel.but hx (by rw [List.mem_singleton]; exact HT.out.ne)).cell 0)
        clear y0 y1
        refine wp_region_held_drew (S := fun x => ButL [r.gp] Y x) (by kernel_rfl) (.of (Below.refl _ _).drew) (fun hHeld => ?_)
        refine wpAnyH_take (i := 0) (oi := { dst := some 37, op := Op.move (Operand.tmp 0), type := 32, pos := "ref.go:106", after := #[], guard := none }) (v := .pointer (some ⟨r.g, 0, none⟩)) rfl (by kernel_rfl) (by kernel_rfl) (by kernel_rfl) (fun _ _ _ h => h) (Or.inl ⟨by rfl, by intro w hSw; go_simp⟩) (by assumption) ?_
        simp only [Act.put, List.setIfInBounds_toArray, List.set_cons_zero, List.set_cons_succ]
        refine wpAnyH_take (i := 1) (oi := { dst := some 38, op := Op.nilCheck (Operand.tmp 37), type := 0, pos := "ref.go:106", after := #[{ on := 0, ground := Ground.data }], guard := none }) (v := .pointer (some ⟨r.g, 0, none⟩)) rfl (by kernel_rfl) (by kernel_rfl) (by kernel_rfl) (fun _ _ _ h => h) (Or.inl ⟨by rfl, by intro w hSw; go_simp⟩) (by assumption) ?_
        simp only [Act.put, List.setIfInBounds_toArray, List.set_cons_zero, List.set_cons_succ]
        refine wpAnyH_take (i := 2) (oi := { dst := some 39, op := Op.fieldAddr 97 (Operand.tmp 38) 0, type := 0, pos := "ref.go:106", after := #[{ on := 1, ground := Ground.data }], guard := none }) (v := .pointer (some ⟨r.g, 0, none⟩)) rfl (by kernel_rfl) (by kernel_rfl) (by kernel_rfl) (fun _ _ _ h => h) (Or.inl ⟨by rfl, by intro w hSw; go_simp⟩) (by assumption) ?_
        simp only [Act.put, List.setIfInBounds_toArray, List.set_cons_zero, List.set_cons_succ]
        refine wpAnyH_take (i := 3) (oi := { dst := some 40, op := Op.load 95 (Operand.tmp 39), type := 95, pos := "ref.go:106", after := #[{ on := 2, ground := Ground.data }], guard := none }) (v := .slice (some ⟨r.gp, 0, none⟩) m.P.length r.cap) rfl (by kernel_rfl) (by kernel_rfl) (by kernel_rfl) (fun _ _ _ h => h) (Or.inl ⟨by rfl, by intro w hSw; have hcc := HX.out w hSw; go_simp⟩) (by assumption) ?_
        simp only [Act.put, List.setIfInBounds_toArray, List.set_cons_zero, List.set_cons_succ]
        refine wpAnyH_take (i := 4) (oi := { dst := some 41, op := Op.move (Operand.tmp 9), type := 3, pos := "ref.go:106", after := #[], guard := none }) (v := .int .i64 (k : Int)) rfl (by kernel_rfl) (by kernel_rfl) (by kernel_rfl) (fun _ _ _ h => h) (Or.inl ⟨by rfl, by intro w hSw; go_simp⟩) (by assumption) ?_
        simp only [Act.put, List.setIfInBounds_toArray, List.set_cons_zero, List.set_cons_succ]
        refine wpAnyH_ready (rs := [5]) (by kernel_rfl) (by simp) (AllReadyH.cons (o := { dst := some 42, op := Op.makeSlice 60 (Operand.const (Value.int IntKind.i64 1024)) (Operand.const (Value.int IntKind.i64 1024)), type := 60, pos := "ref.go:106", after := #[], guard := none }) rfl (fun KQ hK => ?_) AllReadyH.nil)
        rw [if_pos (by rfl)]
        refine wp_make_pg _ _ rfl rfl rfl ?_
        intro w2 hc2 hb2 hs2
        have hbY := below_on ((Below.refl Y.heap.size Y).drew) hb2
        refine hK.out _ _ (.of hbY) (fun hHeld => ?_)
        clear hK KQ
        try simp only [Act.put, List.setIfInBounds_toArray, List.set_cons_zero, List.set_cons_succ]
        refine wpAnyH_take (i := 6) (oi := { dst := some 43, op := Op.indexAddr 95 (Operand.tmp 40) (Operand.tmp 41), type := 0, pos := "ref.go:106", after := #[{ on := 3, ground := Ground.data }, { on := 4, ground := Ground.data }, { on := 0, ground := Ground.phase }, { on := 1, ground := Ground.phase }, { on := 2, ground := Ground.phase }, { on := 3, ground := Ground.phase }, { on := 4, ground := Ground.phase }, { on := 5, ground := Ground.phase }], guard := none }) (v := .pointer (some ⟨r.gp, k, none⟩)) rfl (by kernel_rfl) (by kernel_rfl) (by kernel_rfl) (fun _ _ _ h => h) (Or.inl ⟨by rfl, by intro w hSw; go_simp⟩) (by assumption) ?_
        simp only [Act.put, List.setIfInBounds_toArray, List.set_cons_zero, List.set_cons_succ]
        refine wpAnyH_ready (rs := [7]) (by kernel_rfl) (by simp) (AllReadyH.cons (o := { dst := none, op := Op.store 60 (Operand.tmp 43) (Operand.tmp 42), type := 0, pos := "ref.go:106", after := #[{ on := 6, ground := Ground.data }, { on := 5, ground := Ground.data }, { on := 0, ground := Ground.phase }, { on := 1, ground := Ground.phase }, { on := 2, ground := Ground.phase }, { on := 3, ground := Ground.phase }, { on := 4, ground := Ground.phase }, { on := 5, ground := Ground.phase }], guard := none }) rfl (fun KQ hK => ?_) AllReadyH.nil)
        (have hMs := HT.out.on hbY; have ys := hMs.cellAt k hk; have yf := hMs.freeP k; go_simp)
        refine hK.out _ _ (ButL.trans (.of hbY) (.setCell _ _ _ _ (by simp))) (fun hHeld => ?_)
        clear hK KQ
        try simp only [Act.put]
        refine wpAnyH_done (by kernel_rfl) ?_ _
        clear hHeld
        have HNL : Hid (NewL Y w2 Y.heap.size zs) := hid ⟨hbY, Nat.le_refl _, hc2⟩
        have HYL : Hid (∀ b ∈ r.all, b < Y.heap.size) := hid HT.out.lt
        have HST : Hid (RSt w (w2.setCell ⟨r.gp, k, none⟩ (.slice (some ⟨Y.heap.size, 0, none⟩) 1024 1024)) r { r with vs := r.vs.set k (.slice (some ⟨Y.heap.size, 0, none⟩) 1024 1024) } ⟨m.ns, m.P.set k zs, wrap64 (m.c + 1)⟩) := hid ((HT.out.on hbY).step (HBT.out.on hbY) k hk (.slice (some ⟨Y.heap.size, 0, none⟩) 1024 1024) zs (HNL.out.pg zs_len 1024) (fun b hb => by simp only [blkOf, Option.some.injEq] at hb; subst hb; exact ⟨HBT.out.size, fun hm => by have := HYL.out _ hm; omega⟩))
        have HC3 := hid (HNL.out.cel.but (ButL.setCell (G := [r.gp]) w2 r.gp k (.slice (some ⟨Y.heap.size, 0, none⟩) 1024 1024) (by simp)) (by rw [List.mem_singleton]; intro e; have := HYL.out r.gp (by simp [Rf.all]); omega))
        clear hc2 hb2 hs2 hbY HX HNL
        generalize hgY : Y.heap.size = gy at *
        have HGY := hid hgY
        clear hgY
        generalize w2.setCell ⟨r.gp, k, none⟩ _ = w4 at *
        have y0 := HST.out.mem.cel.cell 0
        have hk2 : k < (⟨m.ns, m.P.set k zs, wrap64 (m.c + 1)⟩ : MS).P.length := by show k < (m.P.set k zs).length; rw [List.length_set]; exact hk
        have y1 := HST.out.mem.cellAt k hk2
        have ev : ({ r with vs := r.vs.set k (.slice (some ⟨gy, 0, none⟩) 1024 1024) } : Rf).v k = .slice (some ⟨gy, 0, none⟩) 1024 1024 := by unfold Rf.v; rw [List.getD_eq_getElem?_getD, List.getElem?_set_self (by rw [HT.out.len]; exact hk)]; rfl
        have ep : (⟨m.ns, m.P.set k zs, wrap64 (m.c + 1)⟩ : MS).p k = zs := by unfold MS.p; rw [List.getD_eq_getElem?_getD, List.getElem?_set_self hk]; rfl
        have y2 : w4.cell? ⟨gy, off.toNat, none⟩ = some (.int .u32 0) := by rw [HC3.out.cell, u32s, List.getElem?_map, List.getElem?_eq_getElem (by rw [zs_len]; omega)]; have := wd_zs off.toNat; unfold wd at this; rw [List.getD_eq_getElem?_getD, List.getElem?_eq_getElem (by rw [zs_len]; omega)] at this; simp only [Option.getD_some] at this; rw [this]; rfl
        have y3 := HC3.out.free off.toNat
        have HP := hid (HST.out.mem.put k hk2 ev HC3.out (by rw [ep, List.take_of_length_le (by rw [u32s_len, zs_len]; exact Nat.le_refl _)]) off.toNat v)
        rw [ev] at y1
        rw [ep] at HP
        have HFIN : Hid (RSt w (w4.setCell ⟨gy, off.toNat, none⟩ (.int .u32 v)) r { r with vs := r.vs.set k (.slice (some ⟨gy, 0, none⟩) 1024 1024) } ⟨m.ns, m.P.set k ((m.p k).set off.toNat v), wrap64 (m.c + 1)⟩) := hid ⟨by have h9 := HP.out; simp only [List.set_set] at h9; rw [HE2.out]; exact h9, HST.out.but.trans' (g := gy) (.setCell w4 gy _ _ (by simp)) (by rw [← HGY.out]; exact HBT.out.size), rfl, HST.out.sub⟩
        simp only [List.getElem?_cons_zero, List.length_set] at y0
        clear ev ep hk2
        go_wp2_with fail
        go_ret
        exact ⟨rfl, _, HFIN.out⟩
      · have y2 := PgIs.cell hL e2 e3 off.toNat (by omega)
        have y3 : (w1.setCell ⟨r.g, 2, none⟩ (.int .i64 (wrap64 (m.c + 1)))).frozen? ⟨b, off.toNat, none⟩ = false := frozen_of_row _ b off.toNat _ 23 e2
        have HP := hid (HT.out.put k hk e1 e2 e3 off.toNat v)
        have HBK : Hid (b ∈ r.all) := hid (Rf.mem_all (by rw [HT.out.len]; exact hk) (by rw [e1]; rfl))
        rw [e1] at y1
        clear e1 e2 e3 hL
        generalize wd ((m.tick 1).p k) off.toNat = oldw at *
        go_wp2_with fail
        go_ret
        exact ⟨rfl, r, .same HP.out (HBT.out.trans (.setCell _ _ _ _ HBK.out))⟩
    · simp only [fr, ptr, pl, if_neg ho] at *
      have ho' : off < 0 ∨ (0 ≤ off ∧ 1024 ≤ off) := by unfold In at ho; omega
      clear ho
      go_enter Tryz.func22, Tryz.ntmps22
      go_wp2_with fail
      refine HF.out.mono ?_
      rintro x w1 ⟨rfl, hb1⟩
      have HB1 := hid (below_on hB.out hb1)
      have HM := hid (H.out.on hb1)
      clear hb1
      rcases ho' with ho | ⟨ho, ho2⟩
      all_goals go_wp2_with fail
      all_goals go_ret
      all_goals exact ⟨rfl, r, .same HM.out (.of HB1.out)⟩
end Go.Proofs.YteldpapacdbbiaaGreatDoor
