import Derived.Test.YtildhjiddidghaaGreatDoorP28
import Derived.Test.YtildhjiddidghaaGreatDoorP45
import Derived.Test.YtildhjiddidghaaGreatDoorP01
import Derived.Test.YtildhjiddidghaaGreatDoorP29
namespace Go.Proofs.YtildhjiddidghaaGreatDoor
open Go.RowKit
set_option maxHeartbeats 4000000
theorem rfirst_any (W : World) (p : Int) :
    Calls Tryz.prog 179 #[.int .i64 p] W fun x W' => x = .returned (.tuple #[.int .u32 (fW p), .int .i64 (fE p)]) ∧ W' = W := by
  unfold fW fE
  by_cases h : Pg p
  · simp only [if_pos h]
    obtain ⟨h0, h1⟩ := h
    go_enter Tryz.func179, Tryz.ntmps179
    go_wp2_with fail
    go_returns
    exact ⟨rfl, rfl⟩
  · simp only [if_neg h]
    have h' : p < 0 ∨ (0 ≤ p ∧ 64 ≤ p) := by unfold Pg at h; omega
    clear h
    go_enter Tryz.func179, Tryz.ntmps179
    rcases h' with h | ⟨h1, h⟩
    all_goals go_wp2_with fail
    all_goals go_returns
    all_goals exact ⟨rfl, rfl⟩
theorem rpf_any (W : World) (v : Int) :
    Calls Tryz.prog 159 #[.int .u32 v] W fun x W' => x = .returned (.tuple #[.int .i64 (pf v), .int .i64 (pfE v)]) ∧ W' = W := by
  by_cases hv : v = 0
  · subst hv
    unfold pf pfE
    rw [if_neg (by unfold PfOk; decide), if_pos rfl]
    go_enter Tryz.func159, Tryz.ntmps159
    go_wp2_with fail
    go_returns
    exact ⟨rfl, rfl⟩
  · have HY : Hid (PfOk v → pf v = v / 256 ∧ pfE v = 0) := hid (fun h => by unfold pf pfE; rw [if_pos h, if_neg hv, if_pos h]; exact ⟨rfl, rfl⟩)
    have HN : Hid (¬ PfOk v → pf v = 0 ∧ pfE v = 90) := hid (fun h => by unfold pf pfE; rw [if_neg h, if_neg hv, if_neg h]; exact ⟨rfl, rfl⟩)
    generalize pf v = A at *
    generalize pfE v = B at *
    have HF := hid (fun p => rfirst_any W p)
    have hvb : (v == 0) = false := by simp [hv]
    go_enter Tryz.func159, Tryz.ntmps159
    go_wp2_with fail
    go_loopw [4] (fun i wr => ∃ k : Nat, k ≤ 64 ∧ i = .int .i64 (k : Int) ∧ wr = W ∧ Hid (∀ q : Int, 0 ≤ q → q < (k : Int) → ¬ 256 * q + 1 = v)) (fun i _ => 64 - (intOf i).toNat)
    case atStart => exact ⟨0, by decide, rfl, rfl, hid (fun q h1 h2 => by omega)⟩
    case round =>
      obtain ⟨k, hk, rfl, hwr, HQ⟩ := hrel
      subst hwr
      by_cases hlt : k < 64
      · have c1 : (k : Int) < 64 := by omega
        have hr := hid (HF.out (k : Int))
        have e1 : fW (k : Int) = 256 * (k : Int) + 1 := by unfold fW; rw [if_pos (by unfold Pg; omega)]
        have e2 : fE (k : Int) = 0 := by unfold fE; rw [if_pos (by unfold Pg; omega)]
        rw [e1, e2] at hr
        clear e1 e2 hk
        by_cases he : 256 * (k : Int) + 1 = v
        · have HOK : Hid (A = (k : Int) ∧ B = 0) := hid (by have := HY.out ⟨by unfold Pg; omega, by omega⟩; exact ⟨by omega, this.2⟩)
          rw [he] at hr
          go_wp2_with fail
          refine hr.out.mono ?_
          rintro x w1 ⟨rfl, rfl⟩
          go_wp2_with fail
          go_returns
          rw [HOK.out.1, HOK.out.2]
          exact ⟨rfl, rfl⟩
        · go_wp2_with fail
          refine hr.out.mono ?_
          rintro x w1 ⟨rfl, rfl⟩
          go_wp2_with fail
          go_roundw
          case measure => simp [intOf] <;> omega
          case rel =>
            refine ⟨k + 1, by omega, by simp, by first | rfl | trivial, hid (fun q h1 h2 => ?_)⟩
            by_cases hq : q = (k : Int)
            · rw [hq]; exact he
            · exact HQ.out q h1 (by omega)
      · have hqe : k = 64 := by omega
        subst hqe
        have HM := hid (HN.out (fun h => HQ.out (v / 256) h.1.1 h.1.2 h.2))
        go_wp2_with fail
        go_returns
        rw [HM.out.1, HM.out.2]
        exact ⟨rfl, rfl⟩
theorem rsecond_any (W : World) (m : Mp) :
    Calls Tryz.prog 180 #[m.v] W fun x W' => x = .returned (.tuple #[.int .u32 m.enc, .int .i64 m.err]) ∧ Below W.heap.size W W' := by
  have HC := hid (Cel.new W 204 [.bool m.s, .int .i64 m.p, .bool m.wr, .bool m.ex])
  have HB := hid (below_one W (.cells #[.bool m.s, .int .i64 m.p, .bool m.wr, .bool m.ex] 204))
  obtain ⟨s, p, wr, ex⟩ := m
  unfold Mp.enc Mp.err Mp.code Mp.v
  simp only at *
  by_cases hp : Pg p
  · simp only [if_pos hp]
    obtain ⟨p0, p1⟩ := hp
    cases s <;> cases ex <;> cases wr <;> simp only [b2, Bool.not_false, Bool.not_true, Bool.and_true, Bool.and_false, Bool.false_eq_true, if_true, if_false, Int.add_zero, if_neg (show ¬ (1 : Int) = 0 by decide)]
    all_goals go_enter Tryz.func180, Tryz.ntmps180
    all_goals go_upto_region 1 with fail
    all_goals generalize hX : W.alloc _ = X at *
    all_goals clear hX
    all_goals have c0 := HC.out.cell 0
    all_goals have c1 := HC.out.cell 1
    all_goals have c2 := HC.out.cell 2
    all_goals have c3 := HC.out.cell 3
    all_goals simp only [List.getElem?_cons_zero, List.getElem?_cons_succ] at c0 c1 c2 c3
    all_goals go_wp2_with fail
    all_goals go_returns
    all_goals exact ⟨rfl, HB.out⟩
  · simp only [if_neg hp, if_neg (show ¬ (4 : Int) = 0 by decide)]
    have h' : p < 0 ∨ (0 ≤ p ∧ 64 ≤ p) := by unfold Pg at hp; omega
    clear hp
    rcases h' with h | ⟨h1, h⟩
    all_goals go_enter Tryz.func180, Tryz.ntmps180
    all_goals go_upto_region 1 with fail
    all_goals generalize hX : W.alloc _ = X at *
    all_goals clear hX
    all_goals have c1 := HC.out.cell 1
    all_goals simp only [List.getElem?_cons_zero, List.getElem?_cons_succ] at c1
    all_goals go_wp2_with fail
    all_goals go_returns
    all_goals exact ⟨rfl, HB.out⟩
theorem cel4r {w : World} {g : Nat} {m : Mp} (h : Cel w g 204 [.bool m.s, .int .i64 m.p, .bool m.wr, .bool m.ex]) :
    w.cell? ⟨g, 0, none⟩ = some (.bool m.s) ∧ w.cell? ⟨g, 1, none⟩ = some (.int .i64 m.p) ∧ w.cell? ⟨g, 2, none⟩ = some (.bool m.wr) ∧ w.cell? ⟨g, 3, none⟩ = some (.bool m.ex) :=
  ⟨h.cell 0, h.cell 1, h.cell 2, h.cell 3⟩
theorem chain4r {w w3 : World} {g : Nat} {a b c d : Value} (h : Cel w g 204 [a, b, c, d]) (x y z t : Value) (e : (((w.setCell ⟨g, 0, none⟩ x).setCell ⟨g, 1, none⟩ y).setCell ⟨g, 2, none⟩ z).setCell ⟨g, 3, none⟩ t = w3) :
    w3.cell? ⟨g, 0, none⟩ = some x ∧ w3.cell? ⟨g, 1, none⟩ = some y ∧ w3.cell? ⟨g, 2, none⟩ = some z ∧ w3.cell? ⟨g, 3, none⟩ = some t := by
  have h4 : Cel w3 g 204 [x, y, z, t] := by rw [← e]; exact (((h.setCell 0 x).setCell 1 y).setCell 2 z).setCell 3 t
  exact ⟨h4.cell 0, h4.cell 1, h4.cell 2, h4.cell 3⟩
theorem rps_any (W : World) (v : Int) (h0 : 0 ≤ v) (h1 : v < 4294967296) :
    Calls Tryz.prog 160 #[.int .u32 v] W fun x W' => x = .returned (.tuple #[(ps v).v, .int .i64 (psE v)]) ∧ Below W.heap.size W W' := by
  unfold ps psE
  by_cases hv : v = 0
  · subst hv
    rw [if_neg (by unfold PsOk; decide), if_pos rfl]
    clear h0 h1
    unfold Mp.v Mp.z
    go_enter Tryz.func160, Tryz.ntmps160
    go_wp2_with fail
    go_returns
    exact ⟨rfl, below_one _ _⟩
  · have HS := hid (fun W => rsecond_any W (fldM v))
    have HP : Hid (PsOk v ↔ (fldM v).err = 0 ∧ (fldM v).code = v) := hid Iff.rfl
    have HEn : Hid ((fldM v).enc = if (fldM v).err = 0 then (fldM v).code else 0) := hid rfl
    have HFl : Hid (fldM v = ⟨decide (v / 2 % 2 = 1), v / 256, decide (v / 4 % 2 = 1), decide (v / 8 % 2 = 1)⟩) := hid rfl
    have HC0 : Hid (Cel (W.alloc (.cells #[.bool false, .int .i64 0, .bool false, .bool false] 204)) W.heap.size 204 [.bool Mp.z.s, .int .i64 Mp.z.p, .bool Mp.z.wr, .bool Mp.z.ex]) := hid (Cel.new W 204 _)
    have HB0 : Hid (Below W.heap.size W (W.alloc (.cells #[.bool false, .int .i64 0, .bool false, .bool false] 204))) := hid (below_one _ _)
    rw [if_neg hv]
    have HT : Hid (∀ (c e : Int) (r : Mp) (E : Int), (∀ W, Calls Tryz.prog 180 #[(fldM v).v] W fun x W' => x = .returned (.tuple #[.int .u32 c, .int .i64 e]) ∧ Below W.heap.size W W') → (e = 0 ∧ c = v ∧ r = fldM v ∧ E = 0 ∨ e = 0 ∧ ¬ c = v ∧ r = Mp.z ∧ E = 90 ∨ ¬ e = 0 ∧ r = Mp.z ∧ E = 90) →
        Calls Tryz.prog 160 #[.int .u32 v] W fun x W' => x = .returned (.tuple #[r.v, .int .i64 E]) ∧ Below W.heap.size W W') := by
      intro c e r E hS hr
      have HS := hid hS
      clear hS HP HEn
      unfold fldM Mp.v at HS
      rcases hr with ⟨rfl, hc, hrf, rfl⟩ | ⟨rfl, hc, hrf, rfl⟩ | ⟨he, hrf, rfl⟩
      all_goals rw [hrf]
      all_goals clear hrf
      all_goals unfold Mp.v
      all_goals go_enter Tryz.func160, Tryz.ntmps160
      all_goals go_upto_region 1 with fail
      all_goals generalize hX : W.alloc _ = X at *
      all_goals clear hX
      all_goals go_wp2_with fail
      all_goals refine (HS.out _).mono ?_
      all_goals rintro x w2 ⟨rfl, hb2⟩
      all_goals have HE0 := hid ((HC0.out.on (below_one _ _)).on hb2)
      all_goals have HE9 := hid ((Cel.new X 204 [.bool (fldM v).s, .int .i64 (fldM v).p, .bool (fldM v).wr, .bool (fldM v).ex]).on hb2)
      all_goals have HB2 := hid (below_on (below_on HB0.out (below_one _ _)) hb2)
      all_goals clear hb2 HB0 HC0 HS
      all_goals generalize X.heap.size = g9 at *
      all_goals obtain ⟨a0, a1, a2, a3⟩ := cel4r HE0.out
      all_goals have af0 := HE0.out.free 0
      all_goals have af1 := HE0.out.free 1
      all_goals have af2 := HE0.out.free 2
      all_goals have af3 := HE0.out.free 3
      all_goals obtain ⟨b0, b1, b2, b3⟩ := cel4r HE9.out
      all_goals go_wp2_with fail
      all_goals generalize hX3 : World.setCell _ _ _ = w3
      all_goals have HC3 := chain4r HE0.out _ _ _ _ hX3
      all_goals have HB3 : Hid (Below W.heap.size W w3) := by rw [← hX3]; exact hid ((((HB2.out.setCell (p := ⟨W.heap.size, 0, none⟩) (Nat.le_refl _) _).setCell (p := ⟨W.heap.size, 1, none⟩) (Nat.le_refl _) _).setCell (p := ⟨W.heap.size, 2, none⟩) (Nat.le_refl _) _).setCell (p := ⟨W.heap.size, 3, none⟩) (Nat.le_refl _) _)
      all_goals clear hX3
      all_goals obtain ⟨d0, d1, d2, d3⟩ := HC3
      all_goals (refine bodyPost_ret (by simp [results, Tryz.results160, go_sem, d0, d1, d2, d3]; try rfl) rfl ?_)
      all_goals exact ⟨rfl, HB3.out⟩
    by_cases he : (fldM v).err = 0
    · by_cases hc : (fldM v).code = v
      · simp only [if_pos (HP.out.2 ⟨he, hc⟩)]
        exact HT.out _ _ _ _ HS.out (.inl ⟨he, by rw [HEn.out, if_pos he, hc], rfl, rfl⟩)
      · simp only [if_neg (show ¬ PsOk v from fun h => hc (HP.out.1 h).2)]
        exact HT.out _ _ _ _ HS.out (.inr (.inl ⟨he, by rw [HEn.out, if_pos he]; exact hc, rfl, rfl⟩))
    · simp only [if_neg (show ¬ PsOk v from fun h => he (HP.out.1 h).1)]
      exact HT.out _ _ _ _ HS.out (.inr (.inr ⟨he, rfl, rfl⟩))
end Go.Proofs.YtildhjiddidghaaGreatDoor
namespace Go.Proofs.YtildhjiddidghaaGreatDoor
open Go.RowKit
set_option maxHeartbeats 8000000
set_option maxRecDepth 100000
theorem size204 : (Tryz.prog.info? 204).map (·.size) = some 4 := by kernel_rfl
theorem may_ins (d : DS) (n : Nat) (o : Int) : d.may false n o = decide ((n : Int) < ((d.m.P.length - d.m.ns : Nat) : Int)) := by
  unfold DS.may MS.at
  by_cases h : (n : Int) < ((d.m.P.length - d.m.ns : Nat) : Int)
  · simp [h]
  · simp [h]
theorem maps_d (w : World) (p : Rp) (d : DS) (h : RDB w p d) (hu : d.m.U) (k : Nat) (hk : k < d.m.ns) :
    Calls Tryz.prog 134 #[ptr p.g, .int .i64 (k : Int)] w fun e w' => e = .returned (.bool (d.mays k)) ∧ Below w.heap.size w w' := by
  have HV := hid h
  have HW : Hid (∀ w (j : Nat), RDB w p d → Calls Tryz.prog 156 #[ptr p.g, .int .i64 (k : Int), .int .i64 (j : Int)] w fun e w' => e = .returned (.int .u32 (d.w k j)) ∧ Below w.heap.size w w') := hid (fun w j h => word_d w p d h (k : Int) (j : Int))
  have HPs := hid (fun j w => rps_any w (d.w k j) (hu.word true (k : Int) (j : Int)).1 (hu.word true (k : Int) (j : Int)).2)
  have HNat := hid (fun j => ps_nat (u := d.w k j) (hu.word true (k : Int) (j : Int)).1)
  have HOf := hid (fun w h n => ofN_d w p d h n 5 (d.at k).o)
  have HNi := hid (fun w (h : RDB w p d) => rinsec_any w p.r d.m h.mem)
  have HRw := hid (fun w (h : RDB w p d) => (h.row k hk).2.1)
  have HA : Hid (∀ j, d.mp1 k j = ((psE (d.w k j) == 92) || ((psE (d.w k j) == 0) && d.may (ps (d.w k j)).s (ps (d.w k j)).p.toNat (d.at k).o))) := hid (fun _ => rfl)
  have HZ : Hid (d.mays k = (List.range 1024).all (d.mp1 k)) := hid rfl
  have HIn := hid (fun n => may_ins d n (d.at k).o)
  have HSe : Hid (∀ n, d.may true n (d.at k).o = d.isOf n 5 (d.at k).o) := hid (fun _ => rfl)
  have q1 : (k : Int) < (d.m.ns : Int) := by omega
  clear h hu hk
  simp only [ptr] at *
  generalize d.mays k = z at *
  generalize hA : d.mp1 k = A at *
  clear hA
  generalize (d.at k).o = ow at *
  generalize hni : ((d.m.P.length - d.m.ns : Nat) : Int) = ni at *
  clear hni
  go_enter Tryz.func134, Tryz.ntmps134
  go_upto_region 2 with fail
  go_loopw [5] (fun i wr => ∃ j : Nat, j ≤ 1024 ∧ i = .int .i64 (j : Int) ∧ Hid (Below w.heap.size w wr ∧ ∀ q, q < j → A q = true)) (fun i _ => 1024 - (intOf i).toNat)
  case atStart => exact ⟨0, Nat.zero_le _, rfl, hid ⟨Below.refl _ _, by intro q hq; omega⟩⟩
  case round =>
    obtain ⟨j, hj, rfl, HQ⟩ := hrel
    by_cases hlt : j < 1024
    · have q2 : (j : Int) < 1024 := by omega
      have HJ := hid hlt
      have HWj := hid (HW.out · j ·)
      have HPj := hid (HPs.out j)
      have HNj := hid (HNat.out j)
      have HAA := hid (HA.out j)
      clear hlt hj HW HPs HNat HA
      generalize d.w k j = u at *
      by_cases hu0 : u = 0
      · subst hu0
        have HAj : Hid (A j = true) := hid (by rw [HAA.out]; rfl)
        go_wp2_with (go_at_call 156; refine (HWj.out _ (HV.out.on HQ.out.1)).mono ?_; rintro e w2 ⟨rfl, hb⟩; have B2 := hid (below_on HQ.out.1 hb); clear hb)
        go_roundw
        case measure => have := HJ.out; simp [intOf] <;> omega
        case rel => exact ⟨j + 1, HJ.out, by simp, hid ⟨B2.out, fun q hq => by
          by_cases e : q = j
          · rw [e]; exact HAj.out
          · exact HQ.out.2 q (by omega)⟩⟩
      · have hu1 : (u == 0) = false := by simpa using hu0
        have hp92 : psE u ≠ 92 := by
          unfold psE
          rw [if_neg hu0]
          split <;> decide
        by_cases hE : psE u = 0
        · rw [hE] at HPj HAA
          generalize ps u = M at *
          obtain ⟨sb, pp, wr4, ex4⟩ := M
          have hNj : pp = ((pp.toNat : Nat) : Int) := HNj.out
          unfold Mp.v at HPj
          simp only at HPj HAA
          generalize pp.toNat = pn at *
          subst hNj
          clear hE hp92 hu0 HNj
          have HAB : Hid (A j = d.may sb pn ow) := hid (by rw [HAA.out]; rfl)
          clear HAA
          have HIo := hid (HOf.out · · pn)
          go_upto_region 9 with (first | (go_at_call 156; refine (HWj.out _ (HV.out.on HQ.out.1)).mono ?_; rintro e w2 ⟨rfl, hb⟩; have B2 := hid (below_on HQ.out.1 hb); clear hb) | (go_at_call 160; refine (HPj.out _).mono ?_; rintro e w4 ⟨rfl, hb⟩; have B4 := hid (below_on B2.out hb); clear hb) | (refine wpList_store_st rfl 204 _ _ rfl w4.heap.size [.bool sb, .int .i64 (pn : Int), .bool wr4, .bool ex4] rfl rfl (Cel.new w4 204 [.bool false, .int .i64 0, .bool false, .bool false]) size204 rfl rfl ?_; intro w5 hc hb hs; have C5 := hid (And.intro hc (below_on B4.out ((below_one w4 _).trans (hb.below (by simp) (by simp))))); clear hc hb hs))
          have E1 := hid (And.intro (HV.out.on C5.out.2) C5.out)
          clear C5 B4 B2
          generalize w4.heap.size = g7 at *
          have x7 := E1.out.2.1.cell 0
          simp only [List.getElem?_cons_zero] at x7
          cases sb
          · rw [HIn.out] at HAB
            go_upto_region 12 with fail
            have E2 := hid (And.intro (E1.out.1.on (Below.refl _ _).drew) (And.intro (E1.out.2.1.on (Below.refl _ _).drew) (below_on E1.out.2.2 (Below.refl _ _).drew)))
            clear E1 x7
            by_cases hpn : (pn : Int) < ni
            · have hpn' : ¬ (ni ≤ (pn : Int)) := by omega
              have HAj : Hid (A j = true) := hid (by rw [HAB.out]; exact decide_eq_true hpn)
              clear hpn
              refine wp_region_held_drew (S := fun w => RDB w p d ∧ Cel w g7 204 [.bool false, .int .i64 (pn : Int), .bool wr4, .bool ex4]) (by kernel_rfl) ⟨E2.out.1, E2.out.2.1⟩ (fun hHeld => ?_)
              generalize World.drew _ = x3 at *
              refine tk 0 (some 41) (.pointer (some ⟨g7, 1, none⟩)) ?_
              simp only [Act.put, tqA, tqZ, tqS]
              refine tk 1 (some 42) (.int .i64 (pn : Int)) ?_ (hy := Or.inl ⟨by rfl, by intro w hSw; have hc := hSw.2.cell 1; go_simp⟩)
              simp only [Act.put, tqA, tqZ, tqS]
              refine tk 2 (some 43) (.pointer (some ⟨p.g, 0, none⟩)) ?_
              simp only [Act.put, tqA, tqZ, tqS]
              refine tk 3 (some 44) (.pointer (some ⟨p.g, 0, none⟩)) ?_
              simp only [Act.put, tqA, tqZ, tqS]
              refine tk 4 (some 45) (.pointer (some ⟨p.g, 0, none⟩)) ?_
              simp only [Act.put, tqA, tqZ, tqS]
              refine tk 5 (some 46) (.pointer (some ⟨p.r.g, 0, none⟩)) ?_ (hy := Or.inl ⟨by rfl, by intro w hSw; have hc := hSw.1.c0; go_simp⟩)
              simp only [Act.put, tqA, tqZ, tqS]
              refine wpAnyH_ready (rs := [6]) (by kernel_rfl) (by simp) (AllReadyH.cons (o := ⟨some 47, .call { callee := .value (.func 161), args := #[.tmp 46], argTypes := #[59] }, 3, "ref.go:143", #[⟨5, .data⟩], none⟩) rfl (fun KQ hK => ?_) AllReadyH.nil)
              go_simp
              refine (HNi.out _ E2.out.1).mono ?_
              rintro e w9 ⟨rfl, hb⟩
              have E3 := hid (And.intro (E2.out.1.on hb) (And.intro (E2.out.2.1.on hb) (below_on E2.out.2.2 hb)))
              clear hb E2
              go_wp2_with fail
              refine hK.out _ _ ⟨E3.out.1, E3.out.2.1⟩ (fun hHeld => ?_)
              clear hK KQ
              try simp only [Act.put, tqA, tqZ, tqS]
              refine tk 7 (some 48) (.bool false) ?_
              simp only [Act.put, tqA, tqZ, tqS]
              refine wpAnyH_done (by kernel_rfl) ?_ _
              go_wp2_with fail
              go_roundw
              case measure => have := HJ.out; simp [intOf] <;> omega
              case rel => exact ⟨j + 1, HJ.out, by simp, hid ⟨E3.out.2.2, fun q hq => by
                by_cases e : q = j
                · rw [e]; exact HAj.out
                · exact HQ.out.2 q (by omega)⟩⟩
            · have hpn' : ni ≤ (pn : Int) := by omega
              have HZf : Hid (z = false) := hid (by rw [HZ.out]; exact all_no HJ.out (by rw [HAB.out]; exact decide_eq_false hpn))
              clear hpn
              refine wp_region_held_drew (S := fun w => RDB w p d ∧ Cel w g7 204 [.bool false, .int .i64 (pn : Int), .bool wr4, .bool ex4]) (by kernel_rfl) ⟨E2.out.1, E2.out.2.1⟩ (fun hHeld => ?_)
              generalize World.drew _ = x3 at *
              refine tk 0 (some 41) (.pointer (some ⟨g7, 1, none⟩)) ?_
              simp only [Act.put, tqA, tqZ, tqS]
              refine tk 1 (some 42) (.int .i64 (pn : Int)) ?_ (hy := Or.inl ⟨by rfl, by intro w hSw; have hc := hSw.2.cell 1; go_simp⟩)
              simp only [Act.put, tqA, tqZ, tqS]
              refine tk 2 (some 43) (.pointer (some ⟨p.g, 0, none⟩)) ?_
              simp only [Act.put, tqA, tqZ, tqS]
              refine tk 3 (some 44) (.pointer (some ⟨p.g, 0, none⟩)) ?_
              simp only [Act.put, tqA, tqZ, tqS]
              refine tk 4 (some 45) (.pointer (some ⟨p.g, 0, none⟩)) ?_
              simp only [Act.put, tqA, tqZ, tqS]
              refine tk 5 (some 46) (.pointer (some ⟨p.r.g, 0, none⟩)) ?_ (hy := Or.inl ⟨by rfl, by intro w hSw; have hc := hSw.1.c0; go_simp⟩)
              simp only [Act.put, tqA, tqZ, tqS]
              refine wpAnyH_ready (rs := [6]) (by kernel_rfl) (by simp) (AllReadyH.cons (o := ⟨some 47, .call { callee := .value (.func 161), args := #[.tmp 46], argTypes := #[59] }, 3, "ref.go:143", #[⟨5, .data⟩], none⟩) rfl (fun KQ hK => ?_) AllReadyH.nil)
              go_simp
              refine (HNi.out _ E2.out.1).mono ?_
              rintro e w9 ⟨rfl, hb⟩
              have E3 := hid (And.intro (E2.out.1.on hb) (And.intro (E2.out.2.1.on hb) (below_on E2.out.2.2 hb)))
              clear hb E2
              go_wp2_with fail
              refine hK.out _ _ ⟨E3.out.1, E3.out.2.1⟩ (fun hHeld => ?_)
              clear hK KQ
              try simp only [Act.put, tqA, tqZ, tqS]
              refine tk 7 (some 48) (.bool true) ?_
              simp only [Act.put, tqA, tqZ, tqS]
              refine wpAnyH_done (by kernel_rfl) ?_ _
              go_wp2_with fail
              go_ret
              rw [HZf.out]
              exact ⟨rfl, E3.out.2.2⟩
          · rw [HSe.out] at HAB
            go_upto_region 10 with fail
            have E2 := hid (And.intro (E1.out.1.on (Below.refl _ _).drew) (And.intro (E1.out.2.1.on (Below.refl _ _).drew) (below_on E1.out.2.2 (Below.refl _ _).drew)))
            clear E1 x7
            cases hz : d.isOf pn 5 ow
            · rw [hz] at HIo HAB
              have HZf : Hid (z = false) := hid (by rw [HZ.out]; exact all_no HJ.out HAB.out)
              clear hz
              refine wp_region_held_drew (S := fun w => RDB w p d ∧ Cel w g7 204 [.bool true, .int .i64 (pn : Int), .bool wr4, .bool ex4]) (by kernel_rfl) ⟨E2.out.1, E2.out.2.1⟩ (fun hHeld => ?_)
              generalize World.drew _ = x3 at *
              refine tk 0 (some 28) (.pointer (some ⟨p.g, 0, none⟩)) ?_
              simp only [Act.put, tqA, tqZ, tqS]
              refine tk 1 (some 29) (.pointer (some ⟨g7, 1, none⟩)) ?_
              simp only [Act.put, tqA, tqZ, tqS]
              refine tk 2 (some 30) (.int .i64 (pn : Int)) ?_ (hy := Or.inl ⟨by rfl, by intro w hSw; have hc := hSw.2.cell 1; go_simp⟩)
              simp only [Act.put, tqA, tqZ, tqS]
              refine tk 3 (some 31) (.pointer (some ⟨p.g, 0, none⟩)) ?_
              simp only [Act.put, tqA, tqZ, tqS]
              refine tk 4 (some 32) (.pointer (some ⟨p.g, 0, none⟩)) ?_
              simp only [Act.put, tqA, tqZ, tqS]
              refine tk 5 (some 33) (.pointer (some ⟨p.g, 1, none⟩)) ?_
              simp only [Act.put, tqA, tqZ, tqS]
              refine tk 6 (some 34) (.slice (some ⟨p.ge, 0, none⟩) d.m.ns p.cap) ?_ (hy := Or.inl ⟨by rfl, by intro w hSw; have hc := hSw.1.c1; go_simp⟩)
              simp only [Act.put, tqA, tqZ, tqS]
              refine tk 7 (some 35) (.int .i64 (k : Int)) ?_
              simp only [Act.put, tqA, tqZ, tqS]
              refine tk 8 (some 36) (.pointer (some ⟨p.ge, k * 5, none⟩)) ?_
              simp only [Act.put, tqA, tqZ, tqS]
              refine tk 9 (some 37) (.pointer (some ⟨p.ge, k * 5 + 1, none⟩)) ?_
              simp only [Act.put, tqA, tqZ, tqS]
              refine tk 10 (some 38) (.int .i64 ow) ?_ (hy := Or.inl ⟨by rfl, by intro w hSw; have hc := HRw.out w hSw.1; go_simp⟩)
              simp only [Act.put, tqA, tqZ, tqS]
              refine wpAnyH_ready (rs := [11]) (by kernel_rfl) (by simp) (AllReadyH.cons (o := ⟨some 39, .call { callee := .value (.func 158), args := #[.tmp 28, .tmp 30, .const (.int .i64 5), .tmp 38], argTypes := #[32, 3, 3, 3] }, 4, "ref.go:140", #[⟨0, .data⟩, ⟨2, .data⟩, ⟨10, .data⟩], none⟩) rfl (fun KQ hK => ?_) AllReadyH.nil)
              go_simp
              refine (HIo.out _ E2.out.1).mono ?_
              rintro e wx ⟨rfl, hx⟩
              subst wx
              go_wp2_with fail
              refine hK.out _ _ ⟨E2.out.1, E2.out.2.1⟩ (fun hHeld => ?_)
              clear hK KQ
              try simp only [Act.put, tqA, tqZ, tqS]
              refine tk 12 (some 40) (.bool true) ?_
              simp only [Act.put, tqA, tqZ, tqS]
              refine wpAnyH_done (by kernel_rfl) ?_ _
              go_wp2_with fail
              go_ret
              rw [HZf.out]
              exact ⟨rfl, E2.out.2.2⟩
            · rw [hz] at HIo HAB
              have HAj := HAB
              clear hz
              refine wp_region_held_drew (S := fun w => RDB w p d ∧ Cel w g7 204 [.bool true, .int .i64 (pn : Int), .bool wr4, .bool ex4]) (by kernel_rfl) ⟨E2.out.1, E2.out.2.1⟩ (fun hHeld => ?_)
              generalize World.drew _ = x3 at *
              refine tk 0 (some 28) (.pointer (some ⟨p.g, 0, none⟩)) ?_
              simp only [Act.put, tqA, tqZ, tqS]
              refine tk 1 (some 29) (.pointer (some ⟨g7, 1, none⟩)) ?_
              simp only [Act.put, tqA, tqZ, tqS]
              refine tk 2 (some 30) (.int .i64 (pn : Int)) ?_ (hy := Or.inl ⟨by rfl, by intro w hSw; have hc := hSw.2.cell 1; go_simp⟩)
              simp only [Act.put, tqA, tqZ, tqS]
              refine tk 3 (some 31) (.pointer (some ⟨p.g, 0, none⟩)) ?_
              simp only [Act.put, tqA, tqZ, tqS]
              refine tk 4 (some 32) (.pointer (some ⟨p.g, 0, none⟩)) ?_
              simp only [Act.put, tqA, tqZ, tqS]
              refine tk 5 (some 33) (.pointer (some ⟨p.g, 1, none⟩)) ?_
              simp only [Act.put, tqA, tqZ, tqS]
              refine tk 6 (some 34) (.slice (some ⟨p.ge, 0, none⟩) d.m.ns p.cap) ?_ (hy := Or.inl ⟨by rfl, by intro w hSw; have hc := hSw.1.c1; go_simp⟩)
              simp only [Act.put, tqA, tqZ, tqS]
              refine tk 7 (some 35) (.int .i64 (k : Int)) ?_
              simp only [Act.put, tqA, tqZ, tqS]
              refine tk 8 (some 36) (.pointer (some ⟨p.ge, k * 5, none⟩)) ?_
              simp only [Act.put, tqA, tqZ, tqS]
              refine tk 9 (some 37) (.pointer (some ⟨p.ge, k * 5 + 1, none⟩)) ?_
              simp only [Act.put, tqA, tqZ, tqS]
              refine tk 10 (some 38) (.int .i64 ow) ?_ (hy := Or.inl ⟨by rfl, by intro w hSw; have hc := HRw.out w hSw.1; go_simp⟩)
              simp only [Act.put, tqA, tqZ, tqS]
              refine wpAnyH_ready (rs := [11]) (by kernel_rfl) (by simp) (AllReadyH.cons (o := ⟨some 39, .call { callee := .value (.func 158), args := #[.tmp 28, .tmp 30, .const (.int .i64 5), .tmp 38], argTypes := #[32, 3, 3, 3] }, 4, "ref.go:140", #[⟨0, .data⟩, ⟨2, .data⟩, ⟨10, .data⟩], none⟩) rfl (fun KQ hK => ?_) AllReadyH.nil)
              go_simp
              refine (HIo.out _ E2.out.1).mono ?_
              rintro e wx ⟨rfl, hx⟩
              subst wx
              go_wp2_with fail
              refine hK.out _ _ ⟨E2.out.1, E2.out.2.1⟩ (fun hHeld => ?_)
              clear hK KQ
              try simp only [Act.put, tqA, tqZ, tqS]
              refine tk 12 (some 40) (.bool false) ?_
              simp only [Act.put, tqA, tqZ, tqS]
              refine wpAnyH_done (by kernel_rfl) ?_ _
              go_wp2_with fail
              go_roundw
              case measure => have := HJ.out; simp [intOf] <;> omega
              case rel => exact ⟨j + 1, HJ.out, by simp, hid ⟨E2.out.2.2, fun q hq => by
                by_cases e : q = j
                · rw [e]; exact HAj.out
                · exact HQ.out.2 q (by omega)⟩⟩
        · have HZf : Hid (z = false) := hid (by rw [HZ.out]; exact all_no HJ.out (by rw [HAA.out]; simp [hE, hp92]))
          have hE1 : (psE u != 0) = true := by simpa using hE
          have HPz : Hid (∃ q : Mp, ∀ w, Calls Tryz.prog 160 #[.int .u32 u] w fun x W' => x = .returned (.tuple #[.agg #[.bool q.s, .int .i64 q.p, .bool q.wr, .bool q.ex], .int .i64 (psE u)]) ∧ Below w.heap.size w W') := hid ⟨ps u, HPj.out⟩
          obtain ⟨⟨sb, pn, wr4, ex4⟩, hq⟩ := HPz.out
          simp only at hq
          have HPj := hid hq
          clear hq HPz HAA HNj hE hp92 hu0
          generalize psE u = pe at *
          go_wp2_with (first | (go_at_call 156; refine (HWj.out _ (HV.out.on HQ.out.1)).mono ?_; rintro e w2 ⟨rfl, hb⟩; have B2 := hid (below_on HQ.out.1 hb); clear hb) | (go_at_call 160; refine (HPj.out _).mono ?_; rintro e w4 ⟨rfl, hb⟩; have B4 := hid (below_on B2.out hb); clear hb) | (refine wpList_store_st rfl 204 _ _ rfl w4.heap.size [.bool sb, .int .i64 pn, .bool wr4, .bool ex4] rfl rfl (Cel.new w4 204 [.bool false, .int .i64 0, .bool false, .bool false]) size204 rfl rfl ?_; intro w5 hc hb hs; have C5 := hid (And.intro hc (below_on B4.out ((below_one w4 _).trans (hb.below (by simp) (by simp))))); clear hc hb hs))
          go_ret
          rw [HZf.out]
          exact ⟨rfl, C5.out.2⟩
    · have hjn : j = 1024 := by omega
      subst hjn
      have HZt : Hid (z = true) := hid (by rw [HZ.out]; exact all_yes HQ.out.2)
      clear hlt hj
      go_wp2_with fail
      go_ret
      rw [HZt.out]
      exact ⟨rfl, HQ.out.1⟩
end Go.Proofs.YtildhjiddidghaaGreatDoor
