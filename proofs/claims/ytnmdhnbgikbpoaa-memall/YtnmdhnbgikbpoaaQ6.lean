/- The law's hold 58, kept 32. -/
import Derived.Test.YtnmdhnbgikbpoaaQ5
namespace Go.Proofs.Ytnmdhnbgikbpoaa
open Go.RowKit
/-- The two lists that Page answered. -/
structure PL (wr W : World) (r : Nat → Rf) (lv : List Value) (g : Nat) : Prop where
  cel : ∃ L : List Int, L.length = 1024 ∧ Cel wr g 32 (u32s L)
  loose : Loose wr W g r lv
theorem all_rep {n : Nat} {a : Int} : ∀ x ∈ List.replicate n a, x = a := fun _ hx => List.eq_of_mem_replicate hx
theorem filled_1024 (w : World) (g : Nat) (L : List Int) (a : Int) (h : Cel w g 32 (u32s L)) (hn : L.length = 1024) :
    Calls Try.prog 62 #[.slice (some ⟨g, 0, none⟩) 1024 1024, .int .u32 a] w fun x w' => x = .returned (.tuple #[]) ∧ ∃ R : List Int, R.length = 1024 ∧ (∀ x ∈ R, x = a) ∧ Cel w' g 32 (u32s R) ∧ ButL [g] w w' := by
  have F := filled_any w g L a 1024 h (by rw [hn]; decide)
  have e : (List.replicate L.length a).length = 1024 := by rw [List.length_replicate, hn]
  have e2 : ∀ x ∈ List.replicate L.length a, x = a := all_rep
  generalize List.replicate L.length a = R at *
  rw [hn] at F
  exact F.mono fun _ _ ⟨h1, h2, h3⟩ => ⟨h1, R, e, e2, h2, h3⟩
theorem all_rep3 {R : List Int} {k : Nat} {a : Int} (h : ∀ x ∈ R, x = a) : ∀ x ∈ R ++ List.replicate k a, x = a := fun x hx => by
  rw [List.mem_append] at hx
  exact hx.elim (h x) (all_rep x)
theorem lst_cel {w : World} {g c : Nat} {a : Int} {R : List Int} (h : Cel w g 32 (u32s R)) (ha : ∀ x ∈ R, x = a) (hn : R.length = 1024) : LstIs w (.slice (some ⟨g, 0, none⟩) 1024 c) a :=
  ⟨_, 1024, c, rfl, by decide, .inr ⟨g, rfl, h.tyAt, fun j hj => by rw [h.cell j, u32s, List.getElem?_map, List.getElem?_eq_getElem (by omega)]; simp only [Option.map_some]; rw [ha _ (List.getElem_mem _)]⟩⟩
theorem all_rep2 {n k : Nat} {a : Int} : ∀ x ∈ List.replicate n a ++ List.replicate k a, x = a := fun x hx => by
  rw [List.mem_append] at hx
  exact hx.elim (all_rep x) (all_rep x)
theorem Hl.ty {W w : World} {v : Value} {L : List Int} (h : Hl W w v L) {b : Nat} (hb : blkOf v = some b) : TyAt w b 32 := by
  rcases h.own.2 with ⟨hv, h0⟩ | ⟨g, cap, cur, hv, hB, hg, r⟩
  · rw [hv] at hb; cases hb
  · rw [hv] at hb
    simp only [blkOf, Option.some.injEq] at hb
    subst hb
    exact ⟨cur, _, hg⟩
theorem Bn.celG {W wr w' : World} {gb : Nat} {f : Nat → Fp} {r : Nat → Rf} {mf mr : Nat → MS} {vL : Value} {lv : List Value} (h : Bn W wr gb f r mf mr vL lv) (hgr : wr.grownBy w' vL.ownBlock) : Cel w' gb 68 (benC f r vL) := by
  refine (hgr.block gb h.cel.lt (fun e => ?_)).trans h.cel
  exact absurd (h.cel.tyAt.eq (h.hv.ty (ownBlock_blk h.hv e.symm))) (by decide)
theorem HG0 {W wr w' : World} {gb : Nat} {f : Nat → Fp} {r : Nat → Rf} {mf mr : Nat → MS} {vL : Value} {lv : List Value} (h : Bn W wr gb f r mf mr vL lv) (hgr : wr.grownBy w' vL.ownBlock) : w'.cell? ⟨gb, 8, none⟩ = some vL := (h.celG hgr).cell 8
theorem HG1 {W wr w' : World} {gb : Nat} {f : Nat → Fp} {r : Nat → Rf} {mf mr : Nat → MS} {vL : Value} {lv : List Value} (h : Bn W wr gb f r mf mr vL lv) (hgr : wr.grownBy w' vL.ownBlock) : w'.frozen? ⟨gb, 8, none⟩ = false := (h.celG hgr).free 8
set_option maxRecDepth 40000 in
set_option maxHeartbeats 4000000 in
theorem hold_nil {W wr : World} {gb : Nat} {f : Nat → Fp} {r : Nat → Rf} {m : Nat → MS} {vL : Value} {lv : List Value} (h : Bn W wr gb f r m m vL lv) (h4 : lv.length % 4 = 0) (hN : (lv.length + 4) * 24 ≤ 140737488355328) :
    Calls Try.prog 58 #[.pointer (some ⟨gb, 0, none⟩), .slice none 0 0, .slice none 0 0] wr fun x w' => x = .returned (.tuple #[]) ∧ ∃ vL' lv', Bn W w' gb f r m m vL' lv' ∧ lv'.length = lv.length + 4 := by
  obtain ⟨vo, vc, e⟩ := h.hv.form
  subst e
  have n1 : (lv.length : Int) ≤ 140737488355328 := by omega
  have y0 := h.cl
  have H := hid h
  have HM : Hid (((lv.length : Int) % 4294967296 + 77) % 4294967296 = mkk lv.length) := hid (mkk0 lv.length h4).symm
  have H4 := hid h4
  clear h h4
  go_enter Try.func58, Try.ntmps58
  go_wp2_with fail
  rw [HM.out]
  have HM1 := hid (mkk1 lv.length H4.out)
  have HM2 := hid (mkk2 lv.length H4.out)
  have HM3 := hid (mkk3 lv.length H4.out)
  generalize hmk : mkk lv.length = a at *
  have HMK := hid hmk
  clear hmk
  refine (filled_nil _ _).mono ?_
  rintro x w1 ⟨rfl, rfl⟩
  go_wp2_with fail
  refine (filled_nil _ _).mono ?_
  rintro x w1 ⟨rfl, rfl⟩
  go_wp2_with fail
  refine (grown_nil _ _).mono ?_
  rintro x w2 ⟨y1, rfl, hy1⟩
  have HY1 := hid hy1
  clear hy1
  go_wp2_with fail
  refine (grown_nil _ _).mono ?_
  rintro x w3 ⟨y2, rfl, hy2⟩
  have HY2 := hid hy2
  have HB3 : Hid (Bn W w3 gb f r m m (.slice vo lv.length vc) lv) := hid ((H.out.on HY1.out.below).on hy2.below)
  have y0 := HB3.out.cl
  clear hy2
  obtain ⟨o1, c1, e1, _⟩ := HY1.out.form
  obtain ⟨o2, c2, e2, _⟩ := HY2.out.form
  rw [List.length_replicate] at e1 e2
  subst e1 e2
  have HL1 : Hid (LstIs w3 (.slice o1 80 c1) a ∧ ∀ b, blkOf (.slice o1 80 c1) = some b → TyAt w3 b 32 ∧ ∀ i, i < 4 → b ∉ (r i).all) := hid ⟨lst_hl (HY1.out.on HY2.out.below) all_rep (by simp), fun b hb => ⟨(HY1.out.on HY2.out.below).ty hb, fun i hi hm => by have h1 := (H.out.rmem i hi).lt b hm; have h2 := HY1.out.blk hb; omega⟩⟩
  have HL2 : Hid (LstIs w3 (.slice o2 80 c2) ((a + 2) % 4294967296) ∧ ∀ b, blkOf (.slice o2 80 c2) = some b → TyAt w3 b 32 ∧ ∀ i, i < 4 → b ∉ (r i).all) := hid ⟨lst_hl HY2.out all_rep (by simp), fun b hb => ⟨HY2.out.ty hb, fun i hi hm => by have h1 := (H.out.rmem i hi).lt b hm; have h2 := HY2.out.blk hb; have h3 := HY1.out.below.size; omega⟩⟩
  have HBA := hid (HB3.out.on (below_one w3 (.cells #[.slice none 0 0, .slice o1 80 c1, .slice none 0 0, .slice o2 80 c2] 24)))
  have HBX := hid (below_one w3 (.cells #[.slice none 0 0, .slice o1 80 c1, .slice none 0 0, .slice o2 80 c2] 24))
  have HXS : Hid (∀ j, j < [Value.slice none 0 0, .slice o1 80 c1, .slice none 0 0, .slice o2 80 c2].length → LstIs (w3.alloc (.cells #[.slice none 0 0, .slice o1 80 c1, .slice none 0 0, .slice o2 80 c2] 24)) ([Value.slice none 0 0, .slice o1 80 c1, .slice none 0 0, .slice o2 80 c2].getD j nilV) (mkk (lv.length + j)) ∧ ∀ b, blkOf ([Value.slice none 0 0, .slice o1 80 c1, .slice none 0 0, .slice o2 80 c2].getD j nilV) = some b → TyAt (w3.alloc (.cells #[.slice none 0 0, .slice o1 80 c1, .slice none 0 0, .slice o2 80 c2] 24)) b 32 ∧ ∀ i, i < 4 → b ∉ (r i).all) := hid (by
    intro j hj
    have hk : ∀ (v : Value) (b : Int), (LstIs w3 v b ∧ ∀ x, blkOf v = some x → TyAt w3 x 32 ∧ ∀ i, i < 4 → x ∉ (r i).all) → (LstIs (w3.alloc (.cells #[.slice none 0 0, .slice o1 80 c1, .slice none 0 0, .slice o2 80 c2] 24)) v b ∧ ∀ x, blkOf v = some x → TyAt (w3.alloc (.cells #[.slice none 0 0, .slice o1 80 c1, .slice none 0 0, .slice o2 80 c2] 24)) x 32 ∧ ∀ i, i < 4 → x ∉ (r i).all) := fun v b hv => ⟨hv.1.but (G := []) (.of HBX.out) (by simp), fun x hx => ⟨(hv.2 x hx).1.but (G := []) (.of HBX.out) (by simp), (hv.2 x hx).2⟩⟩
    match j, hj with
    | 0, _ => exact hk _ _ ⟨lst_nil _ _, fun b hb => by cases hb⟩
    | 1, _ => show LstIs _ (.slice o1 80 c1) (mkk (lv.length + 1)) ∧ _; rw [HM1.out]; exact hk _ _ HL1.out
    | 2, _ => exact hk _ _ ⟨lst_nil _ _, fun b hb => by cases hb⟩
    | 3, _ => show LstIs _ (.slice o2 80 c2) (mkk (lv.length + 3)) ∧ _; rw [HM3.out]; exact hk _ _ HL2.out)
  clear HB3 HY1 HY2
  go_wp2_with (first | (at_builtin; refine wpList_append_v2 (W := W) rfl _ _ rfl (.slice vo lv.length vc) lv rfl HBA.out.hv ⟨w3.heap.size, 0, none⟩ 4 4 [.slice none 0 0, .slice o1 80 c1, .slice none 0 0, .slice o2 80 c2] rfl rfl (new_srcv _ [.slice none 0 0, .slice o1 80 c1, .slice none 0 0, .slice o2 80 c2]) (by intro u hu; simp only [List.mem_cons, List.not_mem_nil, or_false] at hu; rcases hu with rfl | rfl | rfl | rfl <;> rfl) hN ?_; intro v' w2' H2 hgr hw; have HG := hid (HBA.out.grow H2 hgr hw (HXS.out)); have y7 := HG0 HBA.out hgr; have y8 := HG1 HBA.out hgr; obtain ⟨ao2, cc2, rfl⟩ := H2.form; clear H2 hgr hw))
  go_end0
  exact ⟨rfl, _, _, (by simpa using HG.out : Bn W (w2'.setCell ⟨gb, 8, none⟩ (.slice ao2 (lv.length + 4) cc2)) gb f r m m (.slice ao2 (lv.length + 4) cc2) (lv ++ [.slice none 0 0, .slice o1 80 c1, .slice none 0 0, .slice o2 80 c2])), by simp⟩
set_option maxRecDepth 40000 in
set_option maxHeartbeats 4000000 in
theorem hold_blk {W wr : World} {gb : Nat} {f : Nat → Fp} {r : Nat → Rf} {m : Nat → MS} {vL : Value} {lv : List Value} (h : Bn W wr gb f r m m vL lv) (h4 : lv.length % 4 = 0) (hN : (lv.length + 4) * 24 ≤ 140737488355328) (g1 g2 : Nat) (p1 : PL wr W r lv g1) (p2 : PL wr W r lv g2) (hne : g1 ≠ g2) :
    Calls Try.prog 58 #[.pointer (some ⟨gb, 0, none⟩), .slice (some ⟨g1, 0, none⟩) 1024 1024, .slice (some ⟨g2, 0, none⟩) 1024 1024] wr fun x w' => x = .returned (.tuple #[]) ∧ ∃ vL' lv', Bn W w' gb f r m m vL' lv' ∧ lv'.length = lv.length + 4 := by
  obtain ⟨vo, vc, e⟩ := h.hv.form
  subst e
  have n1 : (lv.length : Int) ≤ 140737488355328 := by omega
  have y0 := h.cl
  have H := hid h
  have HM : Hid (((lv.length : Int) % 4294967296 + 77) % 4294967296 = mkk lv.length) := hid (mkk0 lv.length h4).symm
  have HMb : Hid (((lv.length : Int) + 77) % 4294967296 = mkk lv.length) := hid (by rw [mkk0 lv.length h4]; omega)
  have H4 := hid h4
  obtain ⟨L1, hL1, hc1⟩ := p1.cel
  obtain ⟨L2, hL2, hc2⟩ := p2.cel
  have Q1 := hid p1.loose
  have Q2 := hid p2.loose
  have HC1 := hid hc1
  have HC2 := hid hc2
  have HE1 := hid hL1
  have HE2 := hid hL2
  have HNE := hid hne
  clear h h4 p1 p2 hL1 hL2 hc1 hc2 hne
  go_enter Try.func58, Try.ntmps58
  go_wp2_with fail
  rw [HM.out, HMb.out]
  have HM1 := hid (mkk1 lv.length H4.out)
  have HM2 := hid (mkk2 lv.length H4.out)
  have HM3 := hid (mkk3 lv.length H4.out)
  generalize hmk : mkk lv.length = a at *
  have HMK := hid hmk
  clear hmk
  refine (filled_1024 wr g1 L1 a HC1.out HE1.out).mono ?_
  rintro x w1 ⟨rfl, R1, hr1, ha1, hd1, hb1⟩
  have D1 := hid hd1
  have RL1 := hid hr1
  have RA1 := hid ha1
  have HB1 := hid (H.out.other Q1.out hb1)
  have D2 := hid (HC2.out.but hb1 (by rw [List.mem_singleton]; exact fun e => HNE.out e.symm))
  have Q2' := hid (Q2.out.but hb1 (by rw [List.mem_singleton]; exact fun e => HNE.out e.symm))
  have FF2 := hid (filled_1024 w1 g2 L2 ((a + 2) % 4294967296) D2.out HE2.out)
  clear hd1 hb1 hr1 ha1
  go_wp2_with fail
  refine FF2.out.mono ?_
  rintro x w2 ⟨rfl, R2, hr2, ha2, hd2, hb2⟩
  have RL2 := hid hr2
  have RA2 := hid ha2
  have HB2 := hid (HB1.out.other Q2'.out hb2)
  have E2 := hid hd2
  have E1 := hid (D1.out.but hb2 (by rw [List.mem_singleton]; exact HNE.out))
  clear hd2 hb2 FF2 D1 D2 HB1 hr2 ha2
  go_wp2_with fail
  refine (grown_any w2 g1 R1 a E1.out RL1.out).mono ?_
  rintro x w3' ⟨y1, rfl, hy1⟩
  have HY1 := hid hy1
  have E2' := hid (E2.out.on hy1.below)
  clear hy1
  go_wp2_with fail
  refine (grown_any w3' g2 R2 ((a + 2) % 4294967296) E2'.out RL2.out).mono ?_
  rintro x w3 ⟨y2, rfl, hy2⟩
  have HY2 := hid hy2
  have HB3 : Hid (Bn W w3 gb f r m m (.slice vo lv.length vc) lv) := hid ((HB2.out.on HY1.out.below).on hy2.below)
  have y0 := HB3.out.cl
  have G1 := hid ((E1.out.on HY1.out.below).on hy2.below)
  have G2 := hid (E2'.out.on hy2.below)
  clear hy2
  obtain ⟨o1, c1, e1, _⟩ := HY1.out.form
  obtain ⟨o2, c2, e2, _⟩ := HY2.out.form
  rw [List.length_append, List.length_replicate, RL1.out] at e1
  rw [List.length_append, List.length_replicate, RL2.out] at e2
  have e1' : y1 = .slice o1 1104 c1 := e1
  have e2' : y2 = .slice o2 1104 c2 := e2
  subst e1' e2'
  have HL1 : Hid (LstIs w3 (.slice o1 1104 c1) a ∧ ∀ b, blkOf (.slice o1 1104 c1) = some b → TyAt w3 b 32 ∧ ∀ i, i < 4 → b ∉ (r i).all) := hid ⟨lst_hl (HY1.out.on HY2.out.below) (all_rep3 RA1.out) (by rw [List.length_append, List.length_replicate, RL1.out]; decide), fun b hb => ⟨(HY1.out.on HY2.out.below).ty hb, fun i hi hm => by have h1 := (HB2.out.rmem i hi).lt b hm; have h2 := HY1.out.blk hb; omega⟩⟩
  have HL2 : Hid (LstIs w3 (.slice o2 1104 c2) ((a + 2) % 4294967296) ∧ ∀ b, blkOf (.slice o2 1104 c2) = some b → TyAt w3 b 32 ∧ ∀ i, i < 4 → b ∉ (r i).all) := hid ⟨lst_hl HY2.out (all_rep3 RA2.out) (by rw [List.length_append, List.length_replicate, RL2.out]; decide), fun b hb => ⟨HY2.out.ty hb, fun i hi hm => by have h1 := (HB2.out.rmem i hi).lt b hm; have h2 := HY2.out.blk hb; have h3 := HY1.out.below.size; omega⟩⟩
  have HBA := hid (HB3.out.on (below_one w3 (.cells #[.slice (some ⟨g1, 0, none⟩) 1024 1024, .slice o1 1104 c1, .slice (some ⟨g2, 0, none⟩) 1024 1024, .slice o2 1104 c2] 24)))
  have HBX := hid (below_one w3 (.cells #[.slice (some ⟨g1, 0, none⟩) 1024 1024, .slice o1 1104 c1, .slice (some ⟨g2, 0, none⟩) 1024 1024, .slice o2 1104 c2] 24))
  have HXS : Hid (∀ j, j < [Value.slice (some ⟨g1, 0, none⟩) 1024 1024, .slice o1 1104 c1, .slice (some ⟨g2, 0, none⟩) 1024 1024, .slice o2 1104 c2].length → LstIs (w3.alloc (.cells #[.slice (some ⟨g1, 0, none⟩) 1024 1024, .slice o1 1104 c1, .slice (some ⟨g2, 0, none⟩) 1024 1024, .slice o2 1104 c2] 24)) ([Value.slice (some ⟨g1, 0, none⟩) 1024 1024, .slice o1 1104 c1, .slice (some ⟨g2, 0, none⟩) 1024 1024, .slice o2 1104 c2].getD j nilV) (mkk (lv.length + j)) ∧ ∀ b, blkOf ([Value.slice (some ⟨g1, 0, none⟩) 1024 1024, .slice o1 1104 c1, .slice (some ⟨g2, 0, none⟩) 1024 1024, .slice o2 1104 c2].getD j nilV) = some b → TyAt (w3.alloc (.cells #[.slice (some ⟨g1, 0, none⟩) 1024 1024, .slice o1 1104 c1, .slice (some ⟨g2, 0, none⟩) 1024 1024, .slice o2 1104 c2] 24)) b 32 ∧ ∀ i, i < 4 → b ∉ (r i).all) := hid (by
    intro j hj
    have hk : ∀ (v : Value) (b : Int), (LstIs w3 v b ∧ ∀ x, blkOf v = some x → TyAt w3 x 32 ∧ ∀ i, i < 4 → x ∉ (r i).all) → (LstIs (w3.alloc (.cells #[.slice (some ⟨g1, 0, none⟩) 1024 1024, .slice o1 1104 c1, .slice (some ⟨g2, 0, none⟩) 1024 1024, .slice o2 1104 c2] 24)) v b ∧ ∀ x, blkOf v = some x → TyAt (w3.alloc (.cells #[.slice (some ⟨g1, 0, none⟩) 1024 1024, .slice o1 1104 c1, .slice (some ⟨g2, 0, none⟩) 1024 1024, .slice o2 1104 c2] 24)) x 32 ∧ ∀ i, i < 4 → x ∉ (r i).all) := fun v b hv => ⟨hv.1.but (G := []) (.of HBX.out) (by simp), fun x hx => ⟨(hv.2 x hx).1.but (G := []) (.of HBX.out) (by simp), (hv.2 x hx).2⟩⟩
    match j, hj with
    | 0, _ => show LstIs _ (.slice (some ⟨g1, 0, none⟩) 1024 1024) (mkk (lv.length + 0)) ∧ _; rw [Nat.add_zero, HMK.out]; exact hk _ _ ⟨lst_cel G1.out RA1.out RL1.out, fun b hb => by simp only [blkOf, Option.some.injEq] at hb; subst hb; exact ⟨G1.out.tyAt, Q1.out.nr⟩⟩
    | 1, _ => show LstIs _ (.slice o1 1104 c1) (mkk (lv.length + 1)) ∧ _; rw [HM1.out]; exact hk _ _ HL1.out
    | 2, _ => show LstIs _ (.slice (some ⟨g2, 0, none⟩) 1024 1024) (mkk (lv.length + 2)) ∧ _; rw [HM2.out]; exact hk _ _ ⟨lst_cel G2.out RA2.out RL2.out, fun b hb => by simp only [blkOf, Option.some.injEq] at hb; subst hb; exact ⟨G2.out.tyAt, Q2.out.nr⟩⟩
    | 3, _ => show LstIs _ (.slice o2 1104 c2) (mkk (lv.length + 3)) ∧ _; rw [HM3.out]; exact hk _ _ HL2.out)
  clear HB3 HY1 HY2
  go_wp2_with (first | (at_builtin; refine wpList_append_v2 (W := W) rfl _ _ rfl (.slice vo lv.length vc) lv rfl HBA.out.hv ⟨w3.heap.size, 0, none⟩ 4 4 [.slice (some ⟨g1, 0, none⟩) 1024 1024, .slice o1 1104 c1, .slice (some ⟨g2, 0, none⟩) 1024 1024, .slice o2 1104 c2] rfl rfl (new_srcv _ [.slice (some ⟨g1, 0, none⟩) 1024 1024, .slice o1 1104 c1, .slice (some ⟨g2, 0, none⟩) 1024 1024, .slice o2 1104 c2]) (by intro u hu; simp only [List.mem_cons, List.not_mem_nil, or_false] at hu; rcases hu with rfl | rfl | rfl | rfl <;> rfl) hN ?_; intro v' w2' H2 hgr hw; have HG := hid (HBA.out.grow H2 hgr hw (HXS.out)); have y7 := HG0 HBA.out hgr; have y8 := HG1 HBA.out hgr; obtain ⟨ao2, cc2, rfl⟩ := H2.form; clear H2 hgr hw))
  go_end0
  exact ⟨rfl, _, _, (by simpa using HG.out : Bn W (w2'.setCell ⟨gb, 8, none⟩ (.slice ao2 (lv.length + 4) cc2)) gb f r m m (.slice ao2 (lv.length + 4) cc2) (lv ++ [.slice (some ⟨g1, 0, none⟩) 1024 1024, .slice o1 1104 c1, .slice (some ⟨g2, 0, none⟩) 1024 1024, .slice o2 1104 c2])), by simp⟩
end Go.Proofs.Ytnmdhnbgikbpoaa
