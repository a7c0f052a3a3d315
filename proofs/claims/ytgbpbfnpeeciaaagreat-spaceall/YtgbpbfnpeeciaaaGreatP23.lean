import Derived.Test.YtgbpbfnpeeciaaaGreatP21
namespace Go.Proofs.YtgbpbfnpeeciaaaGreat
open Go.RowKit
set_option maxHeartbeats 4000000
def PsOk (v : Int) : Prop := (fldM v).err = 0 ∧ (fldM v).code = v
instance (v : Int) : Decidable (PsOk v) := by unfold PsOk; exact inferInstance
def psE (v : Int) : Int := if v = 0 then 92 else if PsOk v then 0 else 90
def ps (v : Int) : Mp := if PsOk v then fldM v else Mp.z
theorem cel4 {w : World} {g : Nat} {m : Mp} (h : Cel w g 88 [.bool m.s, .int .i64 m.p, .bool m.wr, .bool m.ex]) :
    w.cell? ⟨g, 0, none⟩ = some (.bool m.s) ∧ w.cell? ⟨g, 1, none⟩ = some (.int .i64 m.p) ∧ w.cell? ⟨g, 2, none⟩ = some (.bool m.wr) ∧ w.cell? ⟨g, 3, none⟩ = some (.bool m.ex) :=
  ⟨h.cell 0, h.cell 1, h.cell 2, h.cell 3⟩
theorem chain4 {w w3 : World} {g : Nat} {a b c d : Value} (h : Cel w g 88 [a, b, c, d]) (x y z t : Value) (e : (((w.setCell ⟨g, 0, none⟩ x).setCell ⟨g, 1, none⟩ y).setCell ⟨g, 2, none⟩ z).setCell ⟨g, 3, none⟩ t = w3) :
    w3.cell? ⟨g, 0, none⟩ = some x ∧ w3.cell? ⟨g, 1, none⟩ = some y ∧ w3.cell? ⟨g, 2, none⟩ = some z ∧ w3.cell? ⟨g, 3, none⟩ = some t := by
  have h4 : Cel w3 g 88 [x, y, z, t] := by rw [← e]; exact (((h.setCell 0 x).setCell 1 y).setCell 2 z).setCell 3 t
  exact ⟨h4.cell 0, h4.cell 1, h4.cell 2, h4.cell 3⟩
theorem told2_any (W : World) (v : Int) (h0 : 0 ≤ v) (h1 : v < 4294967296) :
    Calls Tryz.prog 124 #[.int .u32 v, fnV 125, fnV 88] W fun x W' => x = .returned (.tuple #[(ps v).v, .int .i64 (psE v)]) ∧ Below W.heap.size W W' := by
  unfold ps psE fnV
  by_cases hv : v = 0
  · subst hv
    rw [if_neg (by unfold PsOk; decide), if_pos rfl]
    clear h0 h1
    unfold Mp.v Mp.z
    go_enter Tryz.func124, Tryz.ntmps124
    go_wp2_with fail
    go_returns
    exact ⟨rfl, (below_one _ _).trans ((below_one _ _).mono (by simp))⟩
  · have HF := hid (fun W => w_fields_any W v h0 h1)
    have HS := hid (fun W => second_any W (fldM v))
    have HP : Hid (PsOk v ↔ (fldM v).err = 0 ∧ (fldM v).code = v) := hid Iff.rfl
    have HEn : Hid ((fldM v).enc = if (fldM v).err = 0 then (fldM v).code else 0) := hid rfl
    have HC0 : Hid (Cel ((W.alloc (.cells #[.bool false, .int .i64 0, .bool false, .bool false] 88)).alloc (.cells #[.bool false, .int .i64 0, .bool false, .bool false] 88)) W.heap.size 88 [.bool Mp.z.s, .int .i64 Mp.z.p, .bool Mp.z.wr, .bool Mp.z.ex]) := hid ((Cel.new W 88 _).on (below_one _ _))
    have HC1 : Hid (Cel ((W.alloc (.cells #[.bool false, .int .i64 0, .bool false, .bool false] 88)).alloc (.cells #[.bool false, .int .i64 0, .bool false, .bool false] 88)) (W.heap.size + 1) 88 [.bool Mp.z.s, .int .i64 Mp.z.p, .bool Mp.z.wr, .bool Mp.z.ex]) := by
      have := Cel.new (W.alloc (.cells #[.bool false, .int .i64 0, .bool false, .bool false] 88)) 88 [.bool Mp.z.s, .int .i64 Mp.z.p, .bool Mp.z.wr, .bool Mp.z.ex]
      rw [World.size_alloc] at this
      exact hid this
    have HB0 : Hid (Below W.heap.size W ((W.alloc (.cells #[.bool false, .int .i64 0, .bool false, .bool false] 88)).alloc (.cells #[.bool false, .int .i64 0, .bool false, .bool false] 88))) := hid ((below_one _ _).trans ((below_one _ _).mono (by simp)))
    rw [if_neg hv]
    generalize hf : fldM v = f at *
    clear hf
    have HT : Hid (∀ (c e : Int) (r : Mp) (E : Int), (∀ W, Calls Tryz.prog 88 #[f.v] W fun x W' => x = .returned (.tuple #[.int .u32 c, .int .i64 e]) ∧ Below W.heap.size W W') → (e = 0 ∧ c = v ∧ r = f ∧ E = 0 ∨ e = 0 ∧ ¬ c = v ∧ r = Mp.z ∧ E = 90 ∨ ¬ e = 0 ∧ r = Mp.z ∧ E = 90) →
        Calls Tryz.prog 124 #[.int .u32 v, .func (.func 125) #[] #[], .func (.func 88) #[] #[]] W fun x W' => x = .returned (.tuple #[r.v, .int .i64 E]) ∧ Below W.heap.size W W') := by
      intro c e r E hS hr
      have HS := hid hS
      clear hS HP HEn
      rcases hr with ⟨rfl, rfl, hrf, rfl⟩ | ⟨rfl, hc, hrf, rfl⟩ | ⟨he, hrf, rfl⟩
      all_goals rw [hrf]
      all_goals clear hrf
      all_goals go_enter Tryz.func124, Tryz.ntmps124
      all_goals go_upto_region 2 with fail
      all_goals generalize hX : (W.alloc _).alloc _ = X at *
      all_goals clear hX
      all_goals go_wp2_with fail
      all_goals refine (HF.out _).mono ?_
      all_goals rintro x w1 ⟨rfl, hb1⟩
      all_goals have HD0 := hid (HC0.out.on hb1)
      all_goals have HD1 := hid (HC1.out.on hb1)
      all_goals have HB1 := hid (below_on HB0.out hb1)
      all_goals clear hb1
      all_goals unfold Mp.v
      all_goals go_wp2_with fail
      all_goals refine (HS.out _).mono ?_
      all_goals rintro x w2 ⟨rfl, hb2⟩
      all_goals have HE0 := hid ((HD0.out.on (below_one _ _)).on hb2)
      all_goals have HE1 := hid ((HD1.out.on (below_one _ _)).on hb2)
      all_goals have HE2 : Hid (Cel w2 w1.heap.size 88 [.bool f.s, .int .i64 f.p, .bool f.wr, .bool f.ex]) := hid ((Cel.new w1 88 _).on hb2)
      all_goals have HB2 := hid (below_on (below_on HB1.out (below_one _ _)) hb2)
      all_goals have HSZ := hid HB1.out.size
      all_goals clear hb2 HD0 HD1 HB1 HB0 HC0 HC1 HF HS
      all_goals obtain ⟨a0, a1, a2, a3⟩ := cel4 HE0.out
      all_goals obtain ⟨b0, b1, b2, b3⟩ := cel4 HE1.out
      all_goals obtain ⟨c0, c1, c2, c3⟩ := cel4 HE2.out
      all_goals have z0 := HE0.out.free 0
      all_goals have z1 := HE0.out.free 1
      all_goals have z2 := HE0.out.free 2
      all_goals have z3 := HE0.out.free 3
      all_goals have HW : Hid (∀ x y z t : Value, Below W.heap.size W ((((w2.setCell ⟨W.heap.size, 0, none⟩ x).setCell ⟨W.heap.size, 1, none⟩ y).setCell ⟨W.heap.size, 2, none⟩ z).setCell ⟨W.heap.size, 3, none⟩ t)) := hid fun x y z t => (((HB2.out.setCell (p := ⟨W.heap.size, 0, none⟩) (Nat.le_refl _) _).setCell (p := ⟨W.heap.size, 1, none⟩) (Nat.le_refl _) _).setCell (p := ⟨W.heap.size, 2, none⟩) (Nat.le_refl _) _).setCell (p := ⟨W.heap.size, 3, none⟩) (Nat.le_refl _) _
      all_goals generalize w1.heap.size = g9 at *
      all_goals go_wp2_with fail
      all_goals generalize hX3 : World.setCell _ _ _ = w3
      all_goals have HC3 := chain4 HE0.out _ _ _ _ hX3
      all_goals have HB3 : Hid (Below W.heap.size W w3) := by rw [← hX3]; exact hid (HW.out _ _ _ _)
      all_goals clear hX3
      all_goals obtain ⟨d0, d1, d2, d3⟩ := HC3
      all_goals (refine bodyPost_ret (by simp [results, Tryz.results124, go_sem, d0, d1, d2, d3]; try rfl) rfl ?_)
      all_goals exact ⟨rfl, HB3.out⟩
    by_cases he : f.err = 0
    · by_cases hc : f.code = v
      · simp only [if_pos (HP.out.2 ⟨he, hc⟩)]
        exact HT.out _ _ _ _ HS.out (.inl ⟨he, by rw [HEn.out, if_pos he, hc], rfl, rfl⟩)
      · simp only [if_neg (show ¬ PsOk v from fun h => hc (HP.out.1 h).2)]
        exact HT.out _ _ _ _ HS.out (.inr (.inl ⟨he, by rw [HEn.out, if_pos he]; exact hc, rfl, rfl⟩))
    · simp only [if_neg (show ¬ PsOk v from fun h => he (HP.out.1 h).1)]
      exact HT.out _ _ _ _ HS.out (.inr (.inr ⟨he, rfl, rfl⟩))
theorem ps_any (W : World) (v : Int) (h0 : 0 ≤ v) (h1 : v < 4294967296) :
    Calls Tryz.prog 116 #[.int .u32 v] W fun x W' => x = .returned (.tuple #[(ps v).v, .int .i64 (psE v)]) ∧ Below W.heap.size W W' := by
  have HT := hid (fun W => told2_any W v h0 h1)
  unfold fnV at HT
  generalize ps v = m at *
  generalize psE v = B at *
  unfold Mp.v at *
  have HC := hid (Cel.new W 88 [.bool false, .int .i64 0, .bool false, .bool false])
  have HB := hid (below_one W (.cells #[.bool false, .int .i64 0, .bool false, .bool false] 88))
  go_enter Tryz.func116, Tryz.ntmps116
  go_upto_region 1 with fail
  generalize hX : W.alloc _ = X at *
  clear hX
  go_wp2_with fail
  refine (HT.out _).mono ?_
  rintro x w2 ⟨rfl, hb2⟩
  have HE0 := hid (HC.out.on hb2)
  have HB2 := hid (below_on HB.out hb2)
  clear hb2 HC HB HT
  have a0 := HE0.out.cell 0
  have a1 := HE0.out.cell 1
  have a2 := HE0.out.cell 2
  have a3 := HE0.out.cell 3
  simp only [List.getElem?_cons_zero, List.getElem?_cons_succ] at a0 a1 a2 a3
  have z0 := HE0.out.free 0
  have z1 := HE0.out.free 1
  have z2 := HE0.out.free 2
  have z3 := HE0.out.free 3
  have HW : Hid (∀ x y z t : Value, Below W.heap.size W ((((w2.setCell ⟨W.heap.size, 0, none⟩ x).setCell ⟨W.heap.size, 1, none⟩ y).setCell ⟨W.heap.size, 2, none⟩ z).setCell ⟨W.heap.size, 3, none⟩ t)) := hid fun x y z t => (((HB2.out.setCell (p := ⟨W.heap.size, 0, none⟩) (Nat.le_refl _) _).setCell (p := ⟨W.heap.size, 1, none⟩) (Nat.le_refl _) _).setCell (p := ⟨W.heap.size, 2, none⟩) (Nat.le_refl _) _).setCell (p := ⟨W.heap.size, 3, none⟩) (Nat.le_refl _) _
  go_wp2_with fail
  generalize hX3 : World.setCell _ _ _ = w3
  have HC3 := chain4 HE0.out _ _ _ _ hX3
  have HB3 : Hid (Below W.heap.size W w3) := by rw [← hX3]; exact hid (HW.out _ _ _ _)
  clear hX3
  obtain ⟨d0, d1, d2, d3⟩ := HC3
  (refine bodyPost_ret (by simp [results, Tryz.results116, go_sem, d0, d1, d2, d3]; try rfl) rfl ?_)
  exact ⟨rfl, HB3.out⟩
end Go.Proofs.YtgbpbfnpeeciaaaGreat
