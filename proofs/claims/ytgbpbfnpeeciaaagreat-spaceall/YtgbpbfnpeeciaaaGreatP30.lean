import Derived.Test.YtgbpbfnpeeciaaaGreatP23
namespace Go.Proofs.YtgbpbfnpeeciaaaGreat
open Go.RowKit
set_option maxHeartbeats 4000000
theorem rsplit_any (W : World) (v : Int) (h0 : 0 ≤ v) (h1 : v < 4294967296) :
    Calls Tryz.prog 112 #[.int .u32 v] W fun x W' => x = .returned (.tuple #[.int .i64 (spI v), .int .i64 (spJ v), .int .i64 (spO v), .int .i64 (spE v)]) ∧ W' = W := by
  unfold spI spJ spO spE
  by_cases h : VaOk v
  · simp only [if_pos h]
    obtain ⟨a, b⟩ := h
    have e1 : v % 4096 / 4 = v / 4 % 1024 := by omega
    rw [← e1]
    go_enter Tryz.func112, Tryz.ntmps112
    go_wp2_with fail
    go_returns
    exact ⟨rfl, rfl⟩
  · simp only [if_neg h]
    have h' : 1073741824 ≤ v ∨ v % 4 ≠ 0 := by unfold VaOk at h; omega
    clear h
    go_enter Tryz.func112, Tryz.ntmps112
    by_cases h2 : 1073741824 ≤ v
    · go_wp2_with fail
      go_returns
      exact ⟨rfl, rfl⟩
    · have h3 : v % 4 ≠ 0 := by omega
      go_wp2_with fail
      go_returns
      exact ⟨rfl, rfl⟩
theorem rjoin_any (W : World) (i j o : Int) :
    Calls Tryz.prog 98 #[.int .i64 i, .int .i64 j, .int .i64 o] W fun x W' => x = .returned (.tuple #[.int .u32 (jW i j o), .int .i64 (jE i j o)]) ∧ W' = W := by
  unfold jW jE
  by_cases h : JoinOk i j o
  · simp only [if_pos h]
    obtain ⟨⟨a1, a2⟩, ⟨b1, b2⟩, ⟨c1, c2⟩⟩ := h
    have q : i * 4096 * 1024 + j * 4096 + o * 4 = i * 4194304 + j * 4096 + o * 4 := by omega
    rw [← q]
    clear q
    go_enter Tryz.func98, Tryz.ntmps98
    go_wp2_with fail
    go_returns
    exact ⟨rfl, rfl⟩
  · simp only [if_neg h]
    have h' : i < 0 ∨ (0 ≤ i ∧ 255 < i) ∨ (0 ≤ i ∧ i ≤ 255 ∧ j < 0) ∨ (0 ≤ i ∧ i ≤ 255 ∧ 0 ≤ j ∧ 1023 < j) ∨ (0 ≤ i ∧ i ≤ 255 ∧ 0 ≤ j ∧ j ≤ 1023 ∧ o < 0) ∨ (0 ≤ i ∧ i ≤ 255 ∧ 0 ≤ j ∧ j ≤ 1023 ∧ 0 ≤ o ∧ 1023 < o) := by unfold JoinOk at h; omega
    clear h
    go_enter Tryz.func98, Tryz.ntmps98
    rcases h' with h | ⟨h1, h⟩ | ⟨h1, h2, h⟩ | ⟨h1, h2, h3, h⟩ | ⟨h1, h2, h3, h4, h⟩ | ⟨h1, h2, h3, h4, h5, h⟩
    all_goals go_wp2_with fail
    all_goals go_returns
    all_goals exact ⟨rfl, rfl⟩
theorem rfirst_any (W : World) (p : Int) :
    Calls Tryz.prog 84 #[.int .i64 p] W fun x W' => x = .returned (.tuple #[.int .u32 (fW p), .int .i64 (fE p)]) ∧ W' = W := by
  unfold fW fE
  by_cases h : Pg p
  · simp only [if_pos h]
    obtain ⟨h0, h1⟩ := h
    go_enter Tryz.func84, Tryz.ntmps84
    go_wp2_with fail
    go_returns
    exact ⟨rfl, rfl⟩
  · simp only [if_neg h]
    have h' : p < 0 ∨ (0 ≤ p ∧ 64 ≤ p) := by unfold Pg at h; omega
    clear h
    go_enter Tryz.func84, Tryz.ntmps84
    rcases h' with h | ⟨h1, h⟩
    all_goals go_wp2_with fail
    all_goals go_returns
    all_goals exact ⟨rfl, rfl⟩
theorem rpf_any (W : World) (v : Int) :
    Calls Tryz.prog 113 #[.int .u32 v] W fun x W' => x = .returned (.tuple #[.int .i64 (pf v), .int .i64 (pfE v)]) ∧ W' = W := by
  by_cases hv : v = 0
  · subst hv
    unfold pf pfE
    rw [if_neg (by unfold PfOk; decide), if_pos rfl]
    go_enter Tryz.func113, Tryz.ntmps113
    go_wp2_with fail
    go_returns
    exact ⟨rfl, rfl⟩
  · have HY : Hid (PfOk v → pf v = v / 256 ∧ pfE v = 0) := hid (fun h => by unfold pf pfE; rw [if_pos h, if_neg hv, if_pos h]; exact ⟨rfl, rfl⟩)
    have HN : Hid (¬ PfOk v → pf v = 0 ∧ pfE v = 90) := hid (fun h => by unfold pf pfE; rw [if_neg h, if_neg hv, if_neg h]; exact ⟨rfl, rfl⟩)
    generalize pf v = A at *
    generalize pfE v = B at *
    have HF := hid (fun p => rfirst_any W p)
    have hvb : (v == 0) = false := by simp [hv]
    go_enter Tryz.func113, Tryz.ntmps113
    go_wp2_with fail
    go_loopw [4] (fun i wr => ∃ k : Nat, k ≤ 64 ∧ i = .int .i64 (k : Int) ∧ wr = W ∧ Hid (∀ q : Int, 0 ≤ q → q < (k : Int) → ¬ 256 * q + 1 = v)) (fun i _ => 64 - (intOf i).toNat)
    case atStart => exact ⟨0, by decide, rfl, rfl, hid (fun q h1 h2 => by omega)⟩
    case round =>
      obtain ⟨k, hk, rfl, hwr, HQ⟩ := hrel
      subst hwr
      by_cases hlt : k < 64
      · have c1 : (k : Int) < 64 := by omega
        have hr := hid (HF.out (k : Int))
        have e1 : fW (k : Int) = 256 * (k : Int) + 1 := by unfold fW; rw [if_pos (by unfold Pg; omega)]
        have e2 : fE (k : Int) = 0 := by unfold fE; rw [if_pos (by unfold Pg; omega)]
        rw [e1, e2] at hr
        clear e1 e2 hk
        by_cases he : 256 * (k : Int) + 1 = v
        · have HOK : Hid (A = (k : Int) ∧ B = 0) := hid (by have := HY.out ⟨by unfold Pg; omega, by omega⟩; exact ⟨by omega, this.2⟩)
          rw [he] at hr
          go_wp2_with fail
          refine hr.out.mono ?_
          rintro x w1 ⟨rfl, rfl⟩
          go_wp2_with fail
          go_returns
          rw [HOK.out.1, HOK.out.2]
          exact ⟨rfl, rfl⟩
        · go_wp2_with fail
          refine hr.out.mono ?_
          rintro x w1 ⟨rfl, rfl⟩
          go_wp2_with fail
          go_roundw
          case measure => simp [intOf] <;> omega
          case rel =>
            refine ⟨k + 1, by omega, by simp, by first | rfl | trivial, hid (fun q h1 h2 => ?_)⟩
            by_cases hq : q = (k : Int)
            · rw [hq]; exact he
            · exact HQ.out q h1 (by omega)
      · have hqe : k = 64 := by omega
        subst hqe
        have HM := hid (HN.out (fun h => HQ.out (v / 256) h.1.1 h.1.2 h.2))
        go_wp2_with fail
        go_returns
        rw [HM.out.1, HM.out.2]
        exact ⟨rfl, rfl⟩
theorem rsecond_any (W : World) (m : Mp) :
    Calls Tryz.prog 89 #[m.v] W fun x W' => x = .returned (.tuple #[.int .u32 m.enc, .int .i64 m.err]) ∧ Below W.heap.size W W' := by
  have HC := hid (Cel.new W 31 [.bool m.s, .int .i64 m.p, .bool m.wr, .bool m.ex])
  have HB := hid (below_one W (.cells #[.bool m.s, .int .i64 m.p, .bool m.wr, .bool m.ex] 31))
  obtain ⟨s, p, wr, ex⟩ := m
  unfold Mp.enc Mp.err Mp.code Mp.v
  simp only at *
  by_cases hp : Pg p
  · simp only [if_pos hp]
    obtain ⟨p0, p1⟩ := hp
    cases s <;> cases ex <;> cases wr <;> simp only [b2, Bool.not_false, Bool.not_true, Bool.and_true, Bool.and_false, Bool.false_eq_true, if_true, if_false, Int.add_zero, if_neg (show ¬ (1 : Int) = 0 by decide)]
    all_goals go_enter Tryz.func89, Tryz.ntmps89
    all_goals go_upto_region 1 with fail
    all_goals generalize hX : W.alloc _ = X at *
    all_goals clear hX
    all_goals have c0 := HC.out.cell 0
    all_goals have c1 := HC.out.cell 1
    all_goals have c2 := HC.out.cell 2
    all_goals have c3 := HC.out.cell 3
    all_goals simp only [List.getElem?_cons_zero, List.getElem?_cons_succ] at c0 c1 c2 c3
    all_goals go_wp2_with fail
    all_goals go_returns
    all_goals exact ⟨rfl, HB.out⟩
  · simp only [if_neg hp, if_neg (show ¬ (4 : Int) = 0 by decide)]
    have h' : p < 0 ∨ (0 ≤ p ∧ 64 ≤ p) := by unfold Pg at hp; omega
    clear hp
    rcases h' with h | ⟨h1, h⟩
    all_goals go_enter Tryz.func89, Tryz.ntmps89
    all_goals go_upto_region 1 with fail
    all_goals generalize hX : W.alloc _ = X at *
    all_goals clear hX
    all_goals have c1 := HC.out.cell 1
    all_goals simp only [List.getElem?_cons_zero, List.getElem?_cons_succ] at c1
    all_goals go_wp2_with fail
    all_goals go_returns
    all_goals exact ⟨rfl, HB.out⟩
theorem cel4r {w : World} {g : Nat} {m : Mp} (h : Cel w g 31 [.bool m.s, .int .i64 m.p, .bool m.wr, .bool m.ex]) :
    w.cell? ⟨g, 0, none⟩ = some (.bool m.s) ∧ w.cell? ⟨g, 1, none⟩ = some (.int .i64 m.p) ∧ w.cell? ⟨g, 2, none⟩ = some (.bool m.wr) ∧ w.cell? ⟨g, 3, none⟩ = some (.bool m.ex) :=
  ⟨h.cell 0, h.cell 1, h.cell 2, h.cell 3⟩
theorem chain4r {w w3 : World} {g : Nat} {a b c d : Value} (h : Cel w g 31 [a, b, c, d]) (x y z t : Value) (e : (((w.setCell ⟨g, 0, none⟩ x).setCell ⟨g, 1, none⟩ y).setCell ⟨g, 2, none⟩ z).setCell ⟨g, 3, none⟩ t = w3) :
    w3.cell? ⟨g, 0, none⟩ = some x ∧ w3.cell? ⟨g, 1, none⟩ = some y ∧ w3.cell? ⟨g, 2, none⟩ = some z ∧ w3.cell? ⟨g, 3, none⟩ = some t := by
  have h4 : Cel w3 g 31 [x, y, z, t] := by rw [← e]; exact (((h.setCell 0 x).setCell 1 y).setCell 2 z).setCell 3 t
  exact ⟨h4.cell 0, h4.cell 1, h4.cell 2, h4.cell 3⟩
theorem rps_any (W : World) (v : Int) (h0 : 0 ≤ v) (h1 : v < 4294967296) :
    Calls Tryz.prog 93 #[.int .u32 v] W fun x W' => x = .returned (.tuple #[(ps v).v, .int .i64 (psE v)]) ∧ Below W.heap.size W W' := by
  unfold ps psE
  by_cases hv : v = 0
  · subst hv
    rw [if_neg (by unfold PsOk; decide), if_pos rfl]
    clear h0 h1
    unfold Mp.v Mp.z
    go_enter Tryz.func93, Tryz.ntmps93
    go_wp2_with fail
    go_returns
    exact ⟨rfl, below_one _ _⟩
  · have HS := hid (fun W => rsecond_any W (fldM v))
    have HP : Hid (PsOk v ↔ (fldM v).err = 0 ∧ (fldM v).code = v) := hid Iff.rfl
    have HEn : Hid ((fldM v).enc = if (fldM v).err = 0 then (fldM v).code else 0) := hid rfl
    have HFl : Hid (fldM v = ⟨decide (v / 2 % 2 = 1), v / 256, decide (v / 4 % 2 = 1), decide (v / 8 % 2 = 1)⟩) := hid rfl
    have HC0 : Hid (Cel (W.alloc (.cells #[.bool false, .int .i64 0, .bool false, .bool false] 31)) W.heap.size 31 [.bool Mp.z.s, .int .i64 Mp.z.p, .bool Mp.z.wr, .bool Mp.z.ex]) := hid (Cel.new W 31 _)
    have HB0 : Hid (Below W.heap.size W (W.alloc (.cells #[.bool false, .int .i64 0, .bool false, .bool false] 31))) := hid (below_one _ _)
    rw [if_neg hv]
    have HT : Hid (∀ (c e : Int) (r : Mp) (E : Int), (∀ W, Calls Tryz.prog 89 #[(fldM v).v] W fun x W' => x = .returned (.tuple #[.int .u32 c, .int .i64 e]) ∧ Below W.heap.size W W') → (e = 0 ∧ c = v ∧ r = fldM v ∧ E = 0 ∨ e = 0 ∧ ¬ c = v ∧ r = Mp.z ∧ E = 90 ∨ ¬ e = 0 ∧ r = Mp.z ∧ E = 90) →
        Calls Tryz.prog 93 #[.int .u32 v] W fun x W' => x = .returned (.tuple #[r.v, .int .i64 E]) ∧ Below W.heap.size W W') := by
      intro c e r E hS hr
      have HS := hid hS
      clear hS HP HEn
      unfold fldM Mp.v at HS
      rcases hr with ⟨rfl, hc, hrf, rfl⟩ | ⟨rfl, hc, hrf, rfl⟩ | ⟨he, hrf, rfl⟩
      all_goals rw [hrf]
      all_goals clear hrf
      all_goals unfold Mp.v
      all_goals go_enter Tryz.func93, Tryz.ntmps93
      all_goals go_upto_region 1 with fail
      all_goals generalize hX : W.alloc _ = X at *
      all_goals clear hX
      all_goals go_wp2_with fail
      all_goals refine (HS.out _).mono ?_
      all_goals rintro x w2 ⟨rfl, hb2⟩
      all_goals have HE0 := hid ((HC0.out.on (below_one _ _)).on hb2)
      all_goals have HE9 := hid ((Cel.new X 31 [.bool (fldM v).s, .int .i64 (fldM v).p, .bool (fldM v).wr, .bool (fldM v).ex]).on hb2)
      all_goals have HB2 := hid (below_on (below_on HB0.out (below_one _ _)) hb2)
      all_goals clear hb2 HB0 HC0 HS
      all_goals generalize X.heap.size = g9 at *
      all_goals obtain ⟨a0, a1, a2, a3⟩ := cel4r HE0.out
      all_goals have af0 := HE0.out.free 0
      all_goals have af1 := HE0.out.free 1
      all_goals have af2 := HE0.out.free 2
      all_goals have af3 := HE0.out.free 3
      all_goals obtain ⟨b0, b1, b2, b3⟩ := cel4r HE9.out
      all_goals go_wp2_with fail
      all_goals generalize hX3 : World.setCell _ _ _ = w3
      all_goals have HC3 := chain4r HE0.out _ _ _ _ hX3
      all_goals have HB3 : Hid (Below W.heap.size W w3) := by rw [← hX3]; exact hid ((((HB2.out.setCell (p := ⟨W.heap.size, 0, none⟩) (Nat.le_refl _) _).setCell (p := ⟨W.heap.size, 1, none⟩) (Nat.le_refl _) _).setCell (p := ⟨W.heap.size, 2, none⟩) (Nat.le_refl _) _).setCell (p := ⟨W.heap.size, 3, none⟩) (Nat.le_refl _) _)
      all_goals clear hX3
      all_goals obtain ⟨d0, d1, d2, d3⟩ := HC3
      all_goals (refine bodyPost_ret (by simp [results, Tryz.results93, go_sem, d0, d1, d2, d3]; try rfl) rfl ?_)
      all_goals exact ⟨rfl, HB3.out⟩
    by_cases he : (fldM v).err = 0
    · by_cases hc : (fldM v).code = v
      · simp only [if_pos (HP.out.2 ⟨he, hc⟩)]
        exact HT.out _ _ _ _ HS.out (.inl ⟨he, by rw [HEn.out, if_pos he, hc], rfl, rfl⟩)
      · simp only [if_neg (show ¬ PsOk v from fun h => hc (HP.out.1 h).2)]
        exact HT.out _ _ _ _ HS.out (.inr (.inl ⟨he, by rw [HEn.out, if_pos he]; exact hc, rfl, rfl⟩))
    · simp only [if_neg (show ¬ PsOk v from fun h => he (HP.out.1 h).1)]
      exact HT.out _ _ _ _ HS.out (.inr (.inr ⟨he, rfl, rfl⟩))
end Go.Proofs.YtgbpbfnpeeciaaaGreat
