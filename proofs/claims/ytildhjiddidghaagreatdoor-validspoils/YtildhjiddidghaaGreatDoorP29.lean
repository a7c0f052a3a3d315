import Derived.Test.YtildhjiddidghaaGreatDoorP28
import Derived.Test.YtildhjiddidghaaGreatDoorP17
import Derived.Test.YtildhjiddidghaaGreatDoorP01
namespace Go.Proofs.YtildhjiddidghaaGreatDoor
open Go.RowKit
set_option maxHeartbeats 4000000
def PsOk (v : Int) : Prop := (fldM v).err = 0 ∧ (fldM v).code = v
instance (v : Int) : Decidable (PsOk v) := by unfold PsOk; exact inferInstance
def psE (v : Int) : Int := if v = 0 then 92 else if PsOk v then 0 else 90
def ps (v : Int) : Mp := if PsOk v then fldM v else Mp.z
theorem cel4 {w : World} {g : Nat} {m : Mp} (h : Cel w g 180 [.bool m.s, .int .i64 m.p, .bool m.wr, .bool m.ex]) :
    w.cell? ⟨g, 0, none⟩ = some (.bool m.s) ∧ w.cell? ⟨g, 1, none⟩ = some (.int .i64 m.p) ∧ w.cell? ⟨g, 2, none⟩ = some (.bool m.wr) ∧ w.cell? ⟨g, 3, none⟩ = some (.bool m.ex) :=
  ⟨h.cell 0, h.cell 1, h.cell 2, h.cell 3⟩
theorem chain4 {w w3 : World} {g : Nat} {a b c d : Value} (h : Cel w g 180 [a, b, c, d]) (x y z t : Value) (e : (((w.setCell ⟨g, 0, none⟩ x).setCell ⟨g, 1, none⟩ y).setCell ⟨g, 2, none⟩ z).setCell ⟨g, 3, none⟩ t = w3) :
    w3.cell? ⟨g, 0, none⟩ = some x ∧ w3.cell? ⟨g, 1, none⟩ = some y ∧ w3.cell? ⟨g, 2, none⟩ = some z ∧ w3.cell? ⟨g, 3, none⟩ = some t := by
  have h4 : Cel w3 g 180 [x, y, z, t] := by rw [← e]; exact (((h.setCell 0 x).setCell 1 y).setCell 2 z).setCell 3 t
  exact ⟨h4.cell 0, h4.cell 1, h4.cell 2, h4.cell 3⟩
theorem told2_any (W : World) (v : Int) (h0 : 0 ≤ v) (h1 : v < 4294967296) :
    Calls Tryz.prog 163 #[.int .u32 v, fnV 164, fnV 165] W fun x W' => x = .returned (.tuple #[(ps v).v, .int .i64 (psE v)]) ∧ Below W.heap.size W W' := by
  unfold ps psE fnV
  by_cases hv : v = 0
  · subst hv
    rw [if_neg (by unfold PsOk; decide), if_pos rfl]
    clear h0 h1
    unfold Mp.v Mp.z
    go_enter Tryz.func163, Tryz.ntmps163
    go_wp2_with fail
    go_returns
    exact ⟨rfl, (below_one _ _).trans ((below_one _ _).mono (by simp))⟩
  · have HF := hid (fun W => w_fields_any W v h0 h1)
    have HS := hid (fun W => second_any W (fldM v))
    have HP : Hid (PsOk v ↔ (fldM v).err = 0 ∧ (fldM v).code = v) := hid Iff.rfl
    have HEn : Hid ((fldM v).enc = if (fldM v).err = 0 then (fldM v).code else 0) := hid rfl
    have HC0 : Hid (Cel ((W.alloc (.cells #[.bool false, .int .i64 0, .bool false, .bool false] 180)).alloc (.cells #[.bool false, .int .i64 0, .bool false, .bool false] 180)) W.heap.size 180 [.bool Mp.z.s, .int .i64 Mp.z.p, .bool Mp.z.wr, .bool Mp.z.ex]) := hid ((Cel.new W 180 _).on (below_one _ _))
    have HC1 : Hid (Cel ((W.alloc (.cells #[.bool false, .int .i64 0, .bool false, .bool false] 180)).alloc (.cells #[.bool false, .int .i64 0, .bool false, .bool false] 180)) (W.heap.size + 1) 180 [.bool Mp.z.s, .int .i64 Mp.z.p, .bool Mp.z.wr, .bool Mp.z.ex]) := by
      have := Cel.new (W.alloc (.cells #[.bool false, .int .i64 0, .bool false, .bool false] 180)) 180 [.bool Mp.z.s, .int .i64 Mp.z.p, .bool Mp.z.wr, .bool Mp.z.ex]
      rw [World.size_alloc] at this
      exact hid this
    have HB0 : Hid (Below W.heap.size W ((W.alloc (.cells #[.bool false, .int .i64 0, .bool false, .bool false] 180)).alloc (.cells #[.bool false, .int .i64 0, .bool false, .bool false] 180))) := hid ((below_one _ _).trans ((below_one _ _).mono (by simp)))
    rw [if_neg hv]
    generalize hf : fldM v = f at *
    clear hf
    have HT : Hid (∀ (c e : Int) (r : Mp) (E : Int), (∀ W, Calls Tryz.prog 165 #[f.v] W fun x W' => x = .returned (.tuple #[.int .u32 c, .int .i64 e]) ∧ Below W.heap.size W W') → (e = 0 ∧ c = v ∧ r = f ∧ E = 0 ∨ e = 0 ∧ ¬ c = v ∧ r = Mp.z ∧ E = 90 ∨ ¬ e = 0 ∧ r = Mp.z ∧ E = 90) →
        Calls Tryz.prog 163 #[.int .u32 v, .func (.func 164) #[] #[], .func (.func 165) #[] #[]] W fun x W' => x = .returned (.tuple #[r.v, .int .i64 E]) ∧ Below W.heap.size W W') := by
      intro c e r E hS hr
      have HS := hid hS
      clear hS HP HEn
      rcases hr with ⟨rfl, rfl, hrf, rfl⟩ | ⟨rfl, hc, hrf, rfl⟩ | ⟨he, hrf, rfl⟩
      all_goals rw [hrf]
      all_goals clear hrf
      all_goals go_enter Tryz.func163, Tryz.ntmps163
      all_goals go_upto_region 2 with fail
      all_goals generalize hX : (W.alloc _).alloc _ = X at *
      all_goals clear hX
      all_goals go_wp2_with fail
      all_goals refine (HF.out _).mono ?_
      all_goals rintro x w1 ⟨rfl, hb1⟩
      all_goals have HD0 := hid (HC0.out.on hb1)
      all_goals have HD1 := hid (HC1.out.on hb1)
      all_goals have HB1 := hid (below_on HB0.out hb1)
      all_goals clear hb1
      all_goals unfold Mp.v
      all_goals go_wp2_with fail
      all_goals refine (HS.out _).mono ?_
      all_goals rintro x w2 ⟨rfl, hb2⟩
      all_goals have HE0 := hid ((HD0.out.on (below_one _ _)).on hb2)
      all_goals have HE1 := hid ((HD1.out.on (below_one _ _)).on hb2)
      all_goals have HE2 : Hid (Cel w2 w1.heap.size 180 [.bool f.s, .int .i64 f.p, .bool f.wr, .bool f.ex]) := hid ((Cel.new w1 180 _).on hb2)
      all_goals have HB2 := hid (below_on (below_on HB1.out (below_one _ _)) hb2)
      all_goals have HSZ := hid HB1.out.size
      all_goals clear hb2 HD0 HD1 HB1 HB0 HC0 HC1 HF HS
      all_goals obtain ⟨a0, a1, a2, a3⟩ := cel4 HE0.out
      all_goals obtain ⟨b0, b1, b2, b3⟩ := cel4 HE1.out
      all_goals obtain ⟨c0, c1, c2, c3⟩ := cel4 HE2.out
      all_goals have z0 := HE0.out.free 0
      all_goals have z1 := HE0.out.free 1
      all_goals have z2 := HE0.out.free 2
      all_goals have z3 := HE0.out.free 3
      all_goals have HW : Hid (∀ x y z t : Value, Below W.heap.size W ((((w2.setCell ⟨W.heap.size, 0, none⟩ x).setCell ⟨W.heap.size, 1, none⟩ y).setCell ⟨W.heap.size, 2, none⟩ z).setCell ⟨W.heap.size, 3, none⟩ t)) := hid fun x y z t => (((HB2.out.setCell (p := ⟨W.heap.size, 0, none⟩) (Nat.le_refl _) _).setCell (p := ⟨W.heap.size, 1, none⟩) (Nat.le_refl _) _).setCell (p := ⟨W.heap.size, 2, none⟩) (Nat.le_refl _) _).setCell (p := ⟨W.heap.size, 3, none⟩) (Nat.le_refl _) _
      all_goals generalize w1.heap.size = g9 at *
      all_goals go_wp2_with fail
      all_goals generalize hX3 : World.setCell _ _ _ = w3
      all_goals have HC3 := chain4 HE0.out _ _ _ _ hX3
      all_goals have HB3 : Hid (Below W.heap.size W w3) := by rw [← hX3]; exact hid (HW.out _ _ _ _)
      all_goals clear hX3
      all_goals obtain ⟨d0, d1, d2, d3⟩ := HC3
      all_goals (refine bodyPost_ret (by simp [results, Tryz.results163, go_sem, d0, d1, d2, d3]; try rfl) rfl ?_)
      all_goals exact ⟨rfl, HB3.out⟩
    by_cases he : f.err = 0
    · by_cases hc : f.code = v
      · simp only [if_pos (HP.out.2 ⟨he, hc⟩)]
        exact HT.out _ _ _ _ HS.out (.inl ⟨he, by rw [HEn.out, if_pos he, hc], rfl, rfl⟩)
      · simp only [if_neg (show ¬ PsOk v from fun h => hc (HP.out.1 h).2)]
        exact HT.out _ _ _ _ HS.out (.inr (.inl ⟨he, by rw [HEn.out, if_pos he]; exact hc, rfl, rfl⟩))
    · simp only [if_neg (show ¬ PsOk v from fun h => he (HP.out.1 h).1)]
      exact HT.out _ _ _ _ HS.out (.inr (.inr ⟨he, rfl, rfl⟩))
theorem ps_any (W : World) (v : Int) (h0 : 0 ≤ v) (h1 : v < 4294967296) :
    Calls Tryz.prog 138 #[.int .u32 v] W fun x W' => x = .returned (.tuple #[(ps v).v, .int .i64 (psE v)]) ∧ Below W.heap.size W W' := by
  have HT := hid (fun W => told2_any W v h0 h1)
  unfold fnV at HT
  generalize ps v = m at *
  generalize psE v = B at *
  unfold Mp.v at *
  have HC := hid (Cel.new W 180 [.bool false, .int .i64 0, .bool false, .bool false])
  have HB := hid (below_one W (.cells #[.bool false, .int .i64 0, .bool false, .bool false] 180))
  go_enter Tryz.func138, Tryz.ntmps138
  go_upto_region 1 with fail
  generalize hX : W.alloc _ = X at *
  clear hX
  go_wp2_with fail
  refine (HT.out _).mono ?_
  rintro x w2 ⟨rfl, hb2⟩
  have HE0 := hid (HC.out.on hb2)
  have HB2 := hid (below_on HB.out hb2)
  clear hb2 HC HB HT
  have a0 := HE0.out.cell 0
  have a1 := HE0.out.cell 1
  have a2 := HE0.out.cell 2
  have a3 := HE0.out.cell 3
  simp only [List.getElem?_cons_zero, List.getElem?_cons_succ] at a0 a1 a2 a3
  have z0 := HE0.out.free 0
  have z1 := HE0.out.free 1
  have z2 := HE0.out.free 2
  have z3 := HE0.out.free 3
  have HW : Hid (∀ x y z t : Value, Below W.heap.size W ((((w2.setCell ⟨W.heap.size, 0, none⟩ x).setCell ⟨W.heap.size, 1, none⟩ y).setCell ⟨W.heap.size, 2, none⟩ z).setCell ⟨W.heap.size, 3, none⟩ t)) := hid fun x y z t => (((HB2.out.setCell (p := ⟨W.heap.size, 0, none⟩) (Nat.le_refl _) _).setCell (p := ⟨W.heap.size, 1, none⟩) (Nat.le_refl _) _).setCell (p := ⟨W.heap.size, 2, none⟩) (Nat.le_refl _) _).setCell (p := ⟨W.heap.size, 3, none⟩) (Nat.le_refl _) _
  go_wp2_with fail
  generalize hX3 : World.setCell _ _ _ = w3
  have HC3 := chain4 HE0.out _ _ _ _ hX3
  have HB3 : Hid (Below W.heap.size W w3) := by rw [← hX3]; exact hid (HW.out _ _ _ _)
  clear hX3
  obtain ⟨d0, d1, d2, d3⟩ := HC3
  (refine bodyPost_ret (by simp [results, Tryz.results138, go_sem, d0, d1, d2, d3]; try rfl) rfl ?_)
  exact ⟨rfl, HB3.out⟩
end Go.Proofs.YtildhjiddidghaaGreatDoor
namespace Go.Proofs.YtildhjiddidghaaGreatDoor
open Go.RowKit
theorem has_any (w : World) (f : Fp) (m : MS) (h : Mem w f m) (s : Bool) (p : Int) :
    Calls Tryz.prog 170 #[ptr f.gm, fr s p] w fun x w' => x = .returned (.bool (m.at s p).isSome) ∧ Below w.heap.size w w' := by
  have hX := h.on (below_one w (.cells #[.bool s, .int .i64 p] 57))
  have hB := hid (below_one w (.cells #[.bool s, .int .i64 p] 57))
  have HF := hid (find_any _ f m hX s p)
  clear h hX
  generalize hr : m.at s p = r at *
  cases r <;> simp only [fr, ptr, pv, Option.isSome] at *
  all_goals go_enter Tryz.func170, Tryz.ntmps170
  all_goals go_wp2_with fail
  all_goals refine HF.out.mono ?_
  all_goals rintro x w1 ⟨rfl, hb1⟩
  all_goals have HB1 := hid (below_on hB.out hb1)
  all_goals clear hb1
  all_goals go_wp2_with fail
  all_goals go_ret
  all_goals exact ⟨rfl, HB1.out⟩
end Go.Proofs.YtildhjiddidghaaGreatDoor
namespace Go.Proofs.YtildhjiddidghaaGreatDoor
open Go.RowKit
set_option maxHeartbeats 4000000
set_option maxRecDepth 100000
def DS.firsts (d : DS) (k n : Nat) : List Int := ((List.range n).filter (fun j => d.isOf j 3 (k : Int))).map (fun j : Nat => (j : Int))
theorem firsts_yes {d : DS} {k j : Nat} (h : d.isOf j 3 (k : Int) = true) : d.firsts k (j + 1) = d.firsts k j ++ [(j : Int)] := by
  simp [DS.firsts, List.range_succ, h]
theorem firsts_no {d : DS} {k j : Nat} (h : d.isOf j 3 (k : Int) = false) : d.firsts k (j + 1) = d.firsts k j := by
  simp [DS.firsts, List.range_succ, h]
theorem firsts_len (d : DS) (k n : Nat) : (d.firsts k n).length ≤ n := by
  unfold DS.firsts
  rw [List.length_map]
  exact Nat.le_trans (List.length_filter_le _ _) (by simp)
def DS.one1 (d : DS) (k : Nat) : Bool := if (d.at k).s = 3 then true else ((d.firsts k d.m.ns).length == 1) && ((d.firsts k d.m.ns).getD 0 0 == d.w k 0)
theorem oneFirst_v (w : World) (v : Vp) (p : Dp) (d : DS) (h : VS w v p d) (k : Nat) (hk : k < d.m.ns) :
    Calls Tryz.prog 101 #[.pointer (some ⟨v.g, 0, none⟩), .int .i64 (k : Int)] w fun e w' => e = .returned (.bool (d.one1 k)) ∧ Below w.heap.size w w' := by
  have HV := hid h
  have HW : Hid (∀ w, VS w v p d → Calls Tryz.prog 143 #[.pointer (some ⟨v.g, 0, none⟩), .int .i64 (k : Int), .int .i64 0] w fun e w' => e = .returned (.int .u32 (d.w k 0)) ∧ Below w.heap.size w w') := hid (fun w h => word_v w v p d h (k : Int) 0)
  have HI := hid (fun w h j => isOf_v w v p d h j 3 (k : Int))
  have x2 := h.c2
  have x3 := (h.row k hk).2.2.2.1
  have HC2 := hid (fun w (h : VS w v p d) => h.c2)
  have n64 := h.db.ok.n64
  have HN := hid (And.intro hk n64)
  have q1 : (k : Int) < (d.m.ns : Int) := by omega
  have HY := hid (fun j => @firsts_yes d k j)
  have HO := hid (fun j => @firsts_no d k j)
  have HL := hid (fun j => firsts_len d k j)
  have HF0 : Hid (d.firsts k 0 = []) := hid rfl
  unfold DS.one1
  clear h hk
  generalize d.w k 0 = u at *
  generalize hs : (d.at k).s = s at *
  clear hs
  by_cases h3 : s = 3
  · subst h3
    rw [if_pos rfl]
    generalize d.m.ns = n at *
    go_enter Tryz.func101, Tryz.ntmps101
    go_wp2_with fail
    go_ret
    exact ⟨rfl, Below.refl _ _⟩
  · rw [if_neg h3]
    have h3' : (s == 3) = false := by simpa using h3
    clear h3
    generalize hz : (((d.firsts k d.m.ns).length == 1) && ((d.firsts k d.m.ns).getD 0 0 == u)) = z
    have HZ := hid hz
    clear hz
    generalize hn : d.m.ns = n at *
    clear hn
    go_enter Tryz.func101, Tryz.ntmps101
    go_upto_region 5 with fail
    clear x2 x3
    go_loopw [5, 21] (fun t i wr => ∃ (j : Nat) (T : Value), j ≤ n ∧ i = .int .i64 (j : Int) ∧ t = T ∧ Hid (Hl w wr T (d.firsts k j))) (fun _ i _ => n - (intOf i).toNat)
    case atStart => exact ⟨0, _, Nat.zero_le _, rfl, rfl, hid (by rw [HF0.out]; exact Hl.start w)⟩
    case round =>
      obtain ⟨j, T, hj, rfl, hT, HQ⟩ := hrel
      obtain ⟨ao, c, hv, hf⟩ := HQ.out.form
      subst hv
      subst hT
      have HFm := hid hf
      clear hf
      by_cases hlt : j < n
      · have q2 : (j : Int) < (n : Int) := by omega
        have hh := HN.out
        have q3 : (j : Int) ≤ 64 := by omega
        have wj : IntKind.wrap .u32 (j : Int) = (j : Int) := wr32 _ (by omega) (by omega)
        have HJ := hid (And.intro hlt hh.2)
        have HIj := hid (HI.out _ (HV.out.on HQ.out.below) j)
        clear hlt hj hh
        cases hi : d.isOf j 3 (k : Int)
        · rw [hi] at HIj
          have HS := hid (HO.out j hi)
          clear hi
          go_wp2_with (go_at_call 139; refine HIj.out.mono ?_; rintro e wx ⟨rfl, hw⟩; subst wx)
          go_roundw
          case measure => have := HJ.out; simp [intOf] <;> omega
          case rel => exact ⟨j + 1, _, HJ.out.1, by simp, rfl, hid (by rw [HS.out]; exact HQ.out)⟩
        · rw [hi] at HIj
          have HS := hid (HY.out j hi)
          clear hi
          have HQ1 : Hid (Hl w (wr.alloc (.cells #[.int .u32 (j : Int)] 22)) (.slice ao (d.firsts k j).length c) (d.firsts k j)) := hid (HQ.out.on (below_one _ _))
          have HLj := hid (HL.out j)
          go_wp2_with (first | (go_at_call 139; refine HIj.out.mono ?_; rintro e wx ⟨rfl, hw⟩; subst wx) | (at_builtin; refine wpList_append_w (W := w) rfl _ _ rfl (.slice ao (d.firsts k j).length c) (d.firsts k j) rfl HQ1.out ⟨wr.heap.size, 0, none⟩ 1 1 [(j : Int)] rfl rfl (Cel.new wr 22 [.int .u32 (j : Int)]).src (by have a := HLj.out; have b := HJ.out; omega) ?_; intro v' w' h' hgr; have HQ2 := hid h'; clear h' hgr))
          go_roundw
          case measure => have := HJ.out; simp [intOf] <;> omega
          case rel => exact ⟨j + 1, _, HJ.out.1, by simp, rfl, hid (by rw [HS.out]; exact HQ2.out)⟩
      · have hjn : j = n := by omega
        subst hjn
        clear hlt hj
        generalize hA : d.firsts k j = A at *
        clear hA
        cases h1 : (A.length == 1)
        · have hl : ((A.length : Int) == 1) = false := by
            have := beq_eq_false_iff_ne.1 h1
            rw [beq_eq_false_iff_ne]; omega
          rw [h1, Bool.false_and] at HZ
          clear h1
          go_upto_region 10 with fail
          have HB := hid (below_on HQ.out.below (Below.refl _ _).drew)
          refine wp_region_held_drew (S := fun _ => True) (by kernel_rfl) trivial (fun hHeld => ?_)
          generalize World.drew _ = x1 at *
          refine tk 0 ⟨some 34, .move (.tmp 5), 40, "space.go:59", #[], none⟩ (.slice ao A.length c) ?_
          simp only [Act.put, List.setIfInBounds_toArray, List.set_cons_zero, List.set_cons_succ]
          refine tk 1 ⟨some 35, .call { callee := .builtin .len, args := #[.tmp 34], argTypes := #[40] }, 3, "space.go:59", #[⟨0, .data⟩], none⟩ (.int .i64 (A.length : Int)) ?_
          simp only [Act.put, List.setIfInBounds_toArray, List.set_cons_zero, List.set_cons_succ]
          refine tk 2 ⟨some 36, .binOp .eql 3 (.tmp 35) (.const (.int .i64 1)) 3, 4, "space.go:59", #[⟨1, .data⟩], none⟩ (.bool false) ?_
          simp only [Act.put, List.setIfInBounds_toArray, List.set_cons_zero, List.set_cons_succ]
          refine tk 3 ⟨some 37, .move (.tmp 36), 4, "space.go:59", #[⟨2, .data⟩], none⟩ (.bool false) ?_
          simp only [Act.put, List.setIfInBounds_toArray, List.set_cons_zero, List.set_cons_succ]
          refine tk 4 ⟨some 38, .move (.tmp 5), 40, "space.go:59", #[⟨3, .guard⟩], some (3, true)⟩ undef ?_ (hy := Or.inr ⟨by rfl, rfl⟩)
          simp only [Act.put, List.setIfInBounds_toArray, List.set_cons_zero, List.set_cons_succ]
          refine tk 5 ⟨some 39, .indexAddr 40 (.tmp 38) (.const (.int .i64 0)), 0, "space.go:59", #[⟨4, .data⟩, ⟨3, .guard⟩], some (3, true)⟩ undef ?_ (hy := Or.inr ⟨by rfl, rfl⟩)
          simp only [Act.put, List.setIfInBounds_toArray, List.set_cons_zero, List.set_cons_succ]
          refine tk 6 ⟨some 40, .load 22 (.tmp 39), 22, "space.go:59", #[⟨5, .data⟩, ⟨3, .guard⟩], some (3, true)⟩ undef ?_ (hy := Or.inr ⟨by rfl, rfl⟩)
          simp only [Act.put, List.setIfInBounds_toArray, List.set_cons_zero, List.set_cons_succ]
          refine tk 7 ⟨some 41, .move (.tmp 0), 102, "space.go:59", #[⟨3, .guard⟩], some (3, true)⟩ undef ?_ (hy := Or.inr ⟨by rfl, rfl⟩)
          simp only [Act.put, List.setIfInBounds_toArray, List.set_cons_zero, List.set_cons_succ]
          refine tk 8 ⟨some 42, .move (.tmp 1), 3, "space.go:59", #[⟨3, .guard⟩], some (3, true)⟩ undef ?_ (hy := Or.inr ⟨by rfl, rfl⟩)
          simp only [Act.put, List.setIfInBounds_toArray, List.set_cons_zero, List.set_cons_succ]
          refine tk 9 ⟨some 43, .call { callee := .value (.func 143), args := #[.tmp 41, .tmp 42, .const (.int .i64 0)], argTypes := #[102, 3, 3] }, 22, "space.go:59", #[⟨7, .data⟩, ⟨8, .data⟩, ⟨3, .chain⟩, ⟨3, .guard⟩], some (3, true)⟩ undef ?_ (hy := Or.inr ⟨by rfl, rfl⟩)
          simp only [Act.put, List.setIfInBounds_toArray, List.set_cons_zero, List.set_cons_succ]
          refine tk 10 ⟨some 44, .binOp .eql 22 (.tmp 40) (.tmp 43) 22, 4, "space.go:59", #[⟨6, .data⟩, ⟨9, .data⟩, ⟨3, .guard⟩], some (3, true)⟩ undef ?_ (hy := Or.inr ⟨by rfl, rfl⟩)
          simp only [Act.put, List.setIfInBounds_toArray, List.set_cons_zero, List.set_cons_succ]
          refine tk 11 ⟨some 45, .pick (.tmp 37) (.tmp 44) (.const (.bool false)), 4, "space.go:59", #[⟨3, .data⟩, ⟨10, .data⟩], none⟩ (.bool false) ?_
          simp only [Act.put, List.setIfInBounds_toArray, List.set_cons_zero, List.set_cons_succ]
          refine wpAnyH_ready (rs := [12]) (by kernel_rfl) (by simp) (AllReadyH.cons (o := ⟨some 4, .assign (.tmp 45), 4, "space.go:59", #[⟨11, .data⟩, ⟨9, .chain⟩, ⟨0, .phase⟩, ⟨1, .phase⟩, ⟨2, .phase⟩, ⟨3, .phase⟩, ⟨4, .phase⟩, ⟨5, .phase⟩, ⟨6, .phase⟩, ⟨7, .phase⟩, ⟨8, .phase⟩, ⟨9, .phase⟩, ⟨10, .phase⟩, ⟨11, .phase⟩], none⟩) rfl (fun KQ hK => ?_) AllReadyH.nil)
          go_simp
          refine hK.out _ _ trivial (fun hHeld => ?_)
          clear hK KQ
          try simp only [Act.put, List.setIfInBounds_toArray, List.set_cons_zero, List.set_cons_succ]
          refine wpAnyH_done (by kernel_rfl) ?_ _
          go_wp2_with fail
          go_ret
          rw [← HZ.out]
          exact ⟨rfl, HB.out⟩
        · have hl1 : A.length = 1 := by simpa using h1
          rw [h1, Bool.true_and] at HZ
          obtain ⟨g, rfl, _, hg, _, hc⟩ := HFm.out (by omega)
          have hc0 := hc 0 (.int .u32 (A.getD 0 0)) (by
            rw [u32s, List.getElem?_map, List.getD_eq_getElem?_getD, List.getElem?_eq_getElem (by omega)]
            rfl)
          have HC : Hid (∀ w', Below wr.heap.size wr w' → w'.cell? ⟨g, 0, none⟩ = some (.int .u32 (A.getD 0 0))) := hid (fun w' hb => by
            have := hc0
            unfold World.cell? at this ⊢
            rw [hb.block g hg]
            exact this)
          clear hc hc0 HFm h1
          rw [hl1]
          generalize A.getD 0 0 = a at *
          go_upto_region 10 with fail
          have HB := hid (And.intro HQ.out.below ((Below.refl wr.heap.size wr).drew))
          refine wp_region_held_drew (S := fun w => Below wr.heap.size wr w) (by kernel_rfl) HB.out.2 (fun hHeld => ?_)
          generalize World.drew _ = x1 at *
          refine tk 0 ⟨some 34, .move (.tmp 5), 40, "space.go:59", #[], none⟩ (.slice (some ⟨g, 0, none⟩) 1 c) ?_
          simp only [Act.put, List.setIfInBounds_toArray, List.set_cons_zero, List.set_cons_succ]
          refine tk 1 ⟨some 35, .call { callee := .builtin .len, args := #[.tmp 34], argTypes := #[40] }, 3, "space.go:59", #[⟨0, .data⟩], none⟩ (.int .i64 1) ?_
          simp only [Act.put, List.setIfInBounds_toArray, List.set_cons_zero, List.set_cons_succ]
          refine tk 2 ⟨some 36, .binOp .eql 3 (.tmp 35) (.const (.int .i64 1)) 3, 4, "space.go:59", #[⟨1, .data⟩], none⟩ (.bool true) ?_
          simp only [Act.put, List.setIfInBounds_toArray, List.set_cons_zero, List.set_cons_succ]
          refine tk 3 ⟨some 37, .move (.tmp 36), 4, "space.go:59", #[⟨2, .data⟩], none⟩ (.bool true) ?_
          simp only [Act.put, List.setIfInBounds_toArray, List.set_cons_zero, List.set_cons_succ]
          refine tk 4 ⟨some 38, .move (.tmp 5), 40, "space.go:59", #[⟨3, .guard⟩], some (3, true)⟩ (.slice (some ⟨g, 0, none⟩) 1 c) ?_
          simp only [Act.put, List.setIfInBounds_toArray, List.set_cons_zero, List.set_cons_succ]
          refine tk 5 ⟨some 39, .indexAddr 40 (.tmp 38) (.const (.int .i64 0)), 0, "space.go:59", #[⟨4, .data⟩, ⟨3, .guard⟩], some (3, true)⟩ (.pointer (some ⟨g, 0, none⟩)) ?_
          simp only [Act.put, List.setIfInBounds_toArray, List.set_cons_zero, List.set_cons_succ]
          refine tk 6 ⟨some 40, .load 22 (.tmp 39), 22, "space.go:59", #[⟨5, .data⟩, ⟨3, .guard⟩], some (3, true)⟩ (.int .u32 a) ?_ (hy := Or.inl ⟨by rfl, by intro w hSw; have hc := HC.out w hSw; go_simp⟩)
          simp only [Act.put, List.setIfInBounds_toArray, List.set_cons_zero, List.set_cons_succ]
          refine tk 7 ⟨some 41, .move (.tmp 0), 102, "space.go:59", #[⟨3, .guard⟩], some (3, true)⟩ (.pointer (some ⟨v.g, 0, none⟩)) ?_
          simp only [Act.put, List.setIfInBounds_toArray, List.set_cons_zero, List.set_cons_succ]
          refine tk 8 ⟨some 42, .move (.tmp 1), 3, "space.go:59", #[⟨3, .guard⟩], some (3, true)⟩ (.int .i64 (k : Int)) ?_
          simp only [Act.put, List.setIfInBounds_toArray, List.set_cons_zero, List.set_cons_succ]
          refine wpAnyH_ready (rs := [9]) (by kernel_rfl) (by simp) (AllReadyH.cons (o := ⟨some 43, .call { callee := .value (.func 143), args := #[.tmp 41, .tmp 42, .const (.int .i64 0)], argTypes := #[102, 3, 3] }, 22, "space.go:59", #[⟨7, .data⟩, ⟨8, .data⟩, ⟨3, .chain⟩, ⟨3, .guard⟩], some (3, true)⟩) rfl (fun KQ hK => ?_) AllReadyH.nil)
          go_simp
          refine (HW.out _ (HV.out.on (below_on HB.out.1 HB.out.2))).mono ?_
          rintro e w2 ⟨rfl, hb⟩
          have HB2 := hid (below_on (below_on HB.out.1 HB.out.2) hb)
          have HB3 := hid (below_on HB.out.2 hb)
          clear hb
          go_wp2_with fail
          refine hK.out _ _ HB3.out (fun hHeld => ?_)
          clear hK KQ
          try simp only [Act.put, List.setIfInBounds_toArray, List.set_cons_zero, List.set_cons_succ]
          refine tk 10 ⟨some 44, .binOp .eql 22 (.tmp 40) (.tmp 43) 22, 4, "space.go:59", #[⟨6, .data⟩, ⟨9, .data⟩, ⟨3, .guard⟩], some (3, true)⟩ (.bool (a == u)) ?_
          simp only [Act.put, List.setIfInBounds_toArray, List.set_cons_zero, List.set_cons_succ]
          refine tk 11 ⟨some 45, .pick (.tmp 37) (.tmp 44) (.const (.bool false)), 4, "space.go:59", #[⟨3, .data⟩, ⟨10, .data⟩], none⟩ (.bool (a == u)) ?_
          simp only [Act.put, List.setIfInBounds_toArray, List.set_cons_zero, List.set_cons_succ]
          refine wpAnyH_ready (rs := [12]) (by kernel_rfl) (by simp) (AllReadyH.cons (o := ⟨some 4, .assign (.tmp 45), 4, "space.go:59", #[⟨11, .data⟩, ⟨9, .chain⟩, ⟨0, .phase⟩, ⟨1, .phase⟩, ⟨2, .phase⟩, ⟨3, .phase⟩, ⟨4, .phase⟩, ⟨5, .phase⟩, ⟨6, .phase⟩, ⟨7, .phase⟩, ⟨8, .phase⟩, ⟨9, .phase⟩, ⟨10, .phase⟩, ⟨11, .phase⟩], none⟩) rfl (fun KQ hK => ?_) AllReadyH.nil)
          go_simp
          refine hK.out _ _ HB3.out (fun hHeld => ?_)
          clear hK KQ
          try simp only [Act.put, List.setIfInBounds_toArray, List.set_cons_zero, List.set_cons_succ]
          refine wpAnyH_done (by kernel_rfl) ?_ _
          go_wp2_with fail
          go_ret
          rw [← HZ.out]
          exact ⟨rfl, HB2.out⟩
theorem under57 : Tryz.prog.underlying 57 = some (.struct (Tryz.prog.fieldsOf 57)) := by kernel_rfl
theorem size57 : (Tryz.prog.info? 57).map (·.size) = some 2 := by kernel_rfl
def DS.may (d : DS) (s : Bool) (n : Nat) (o : Int) : Bool := if s = true then d.isOf n 5 o else (d.m.at false (n : Int)).isSome
theorem mayBe_v (w : World) (v : Vp) (p : Dp) (d : DS) (h : VS w v p d) (s : Bool) (n : Nat) (o : Int) :
    Calls Tryz.prog 149 #[.pointer (some ⟨v.g, 0, none⟩), .agg #[.bool s, .int .i64 (n : Int)], .int .i64 o] w fun e w' => e = .returned (.bool (d.may s n o)) ∧ Below w.heap.size w w' := by
  have HV : Hid (VS (w.alloc (.cells #[.bool s, .int .i64 (n : Int)] 57)) v p d) := hid (h.on (below_one _ _))
  have HC : Hid (Cel (w.alloc (.cells #[.bool s, .int .i64 (n : Int)] 57)) w.heap.size 57 [.bool s, .int .i64 (n : Int)]) := hid (Cel.new w 57 [.bool s, .int .i64 (n : Int)])
  have HB : Hid (Below w.heap.size w (w.alloc (.cells #[.bool s, .int .i64 (n : Int)] 57))) := hid (below_one _ _)
  have HI := hid (fun w h => isOf_v w v p d h n 5 o)
  have HH := hid (fun w (h : VS w v p d) => has_any w p.f d.m h.db.mem false (n : Int))
  have HC1 := hid (fun w (h : VS w v p d) => h.c1)
  unfold DS.may
  clear h
  generalize d.isOf n 5 o = z at *
  generalize (d.m.at false (n : Int)).isSome = y at *
  simp only [ptr, fr] at *
  cases s
  · rw [if_neg (by decide)]
    go_enter Tryz.func149, Tryz.ntmps149
    go_upto_region 1 with fail
    generalize World.alloc _ _ = X at *
    generalize hg : w.heap.size = g4 at HC ⊢
    have HG := hid hg
    clear hg
    have y0 : X.cell? ⟨g4, 0, none⟩ = some (.bool false) := HC.out.cell 0
    go_upto_region 3 with fail
    clear y0
    have K1 := hid (And.intro (HV.out.on (Below.refl _ _).drew) (HC.out.on (Below.refl _ _).drew))
    have B1 := hid (below_on HB.out (Below.refl _ _).drew)
    refine wp_region_held_drew (S := fun w => VS w v p d ∧ Cel w g4 57 [.bool false, .int .i64 (n : Int)]) (by kernel_rfl) K1.out (fun hHeld => ?_)
    generalize World.drew _ = x1 at *
    refine tk 0 ⟨some 14, .move (.tmp 0), 102, "table.go:52", #[], none⟩ (.pointer (some ⟨v.g, 0, none⟩)) ?_
    simp only [Act.put, List.setIfInBounds_toArray, List.set_cons_zero, List.set_cons_succ]
    refine tk 1 ⟨some 15, .nilCheck (.tmp 14), 0, "table.go:52", #[⟨0, .data⟩], none⟩ (.pointer (some ⟨v.g, 0, none⟩)) ?_
    simp only [Act.put, List.setIfInBounds_toArray, List.set_cons_zero, List.set_cons_succ]
    refine tk 2 ⟨some 16, .fieldAddr 108 (.tmp 15) 1, 0, "table.go:52", #[⟨1, .data⟩], none⟩ (.pointer (some ⟨v.g, 1, none⟩)) ?_
    simp only [Act.put, List.setIfInBounds_toArray, List.set_cons_zero, List.set_cons_succ]
    refine tk 3 ⟨some 17, .load 30 (.tmp 16), 30, "table.go:52", #[⟨2, .data⟩], none⟩ (.pointer (some ⟨p.f.gm, 0, none⟩)) ?_ (hy := Or.inl ⟨by rfl, by intro w hSw; have hc := HC1.out w hSw.1; go_simp⟩)
    simp only [Act.put, List.setIfInBounds_toArray, List.set_cons_zero, List.set_cons_succ]
    refine tk 4 ⟨some 18, .load 57 (.tmp 4), 57, "table.go:52", #[], none⟩ (.agg #[.bool false, .int .i64 (n : Int)]) ?_ (hy := yieldsIf_load_mid (by rfl) _ _ rfl _ _ rfl _ _ (fun w hSw => hSw.2.range) under57 rfl (by rw [size57]; rfl))
    simp only [Act.put, List.setIfInBounds_toArray, List.set_cons_zero, List.set_cons_succ]
    refine wpAnyH_ready (rs := [5]) (by kernel_rfl) (by simp) (AllReadyH.cons (o := ⟨some 19, .call { callee := .value (.func 170), args := #[.tmp 17, .tmp 18], argTypes := #[30, 57] }, 4, "table.go:52", #[⟨3, .data⟩, ⟨4, .data⟩], none⟩) rfl (fun KQ hK => ?_) AllReadyH.nil)
    go_simp
    refine (HH.out _ K1.out.1).mono ?_
    rintro e w2 ⟨rfl, hb⟩
    have K2 := hid (And.intro (K1.out.1.on hb) (K1.out.2.on hb))
    have B2 := hid (below_on B1.out hb)
    clear hb K1
    go_wp2_with fail
    refine hK.out _ _ K2.out (fun hHeld => ?_)
    clear hK KQ
    try simp only [Act.put, List.setIfInBounds_toArray, List.set_cons_zero, List.set_cons_succ]
    refine wpAnyH_ready (rs := [6]) (by kernel_rfl) (by simp) (AllReadyH.cons (o := ⟨some 6, .assign (.tmp 19), 4, "table.go:52", #[⟨5, .data⟩, ⟨5, .chain⟩, ⟨0, .phase⟩, ⟨1, .phase⟩, ⟨2, .phase⟩, ⟨3, .phase⟩, ⟨4, .phase⟩, ⟨5, .phase⟩], none⟩) rfl (fun KQ hK => ?_) AllReadyH.nil)
    go_simp
    refine hK.out _ _ K2.out (fun hHeld => ?_)
    clear hK KQ
    try simp only [Act.put, List.setIfInBounds_toArray, List.set_cons_zero, List.set_cons_succ]
    refine wpAnyH_done (by kernel_rfl) ?_ _
    go_wp2_with fail
    go_ret
    have hgg := HG.out
    subst hgg
    exact ⟨rfl, B2.out⟩
  · rw [if_pos rfl]
    go_enter Tryz.func149, Tryz.ntmps149
    go_upto_region 1 with fail
    generalize World.alloc _ _ = X at *
    generalize hg : w.heap.size = g4 at HC ⊢
    have HG := hid hg
    clear hg
    have y0 : X.cell? ⟨g4, 0, none⟩ = some (.bool true) := HC.out.cell 0
    have y1 : X.cell? ⟨g4, 1, none⟩ = some (.int .i64 (n : Int)) := HC.out.cell 1
    go_wp2_with (go_at_call 139; refine (HI.out _ HV.out).mono ?_; rintro e wx ⟨rfl, hw⟩; subst wx)
    go_ret
    have hgg := HG.out
    subst hgg
    exact ⟨rfl, HB.out⟩
end Go.Proofs.YtildhjiddidghaaGreatDoor
