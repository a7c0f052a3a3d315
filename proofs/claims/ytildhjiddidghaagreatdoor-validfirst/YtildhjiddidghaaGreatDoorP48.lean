import Derived.Test.YtildhjiddidghaaGreatDoorP47
namespace Go.Proofs.YtildhjiddidghaaGreatDoor
open Go.RowKit
set_option maxHeartbeats 8000000
set_option maxRecDepth 100000
structure Aq where
  k : Int
  a : Int
  b : Int
  c : Int
  v : Int
  uo : Option Addr
  un : Nat
  uc : Nat
def Aq.cs (q : Aq) : List Value := [.int .i64 q.k, .int .i64 q.a, .int .i64 q.b, .int .i64 q.c, .int .u32 q.v, .slice q.uo q.un q.uc]
structure ActsAt (W : World) (ao : Option Addr) (n : Nat) (q : Nat → Aq) : Prop where
  at_ : 0 < n → ∃ g off, ao = some ⟨g, off, none⟩ ∧ g < W.heap.size ∧ ∀ j, j < n → W.rangeAt g (off + j * 6) (q j).cs
  v : ∀ j, j < n → 0 ≤ (q j).v ∧ (q j).v < 4294967296
theorem ActsAt.row {W w : World} {g off n : Nat} {q : Nat → Aq} (h : ActsAt W (some ⟨g, off, none⟩) n q) (hb : Below W.heap.size W w) {j : Nat} (hj : j < n) : w.rangeAt g (off + j * 6) (q j).cs := by
  obtain ⟨g', off', e, hg, hr⟩ := h.at_ (by omega)
  cases e
  intro i u hu
  have := hr j hj i u hu
  rw [← this]
  unfold World.cell?
  rw [hb.block g hg]
theorem under42 : Tryz.prog.underlying 42 = some (.struct (Tryz.prog.fieldsOf 42)) := by kernel_rfl
theorem size42 : (Tryz.prog.info? 42).map (·.size) = some 6 := by kernel_rfl
theorem first_l (W : World) (hT : H.Tab W) (hR : H.TabR W) (h2 : 2 < W.heap.size) (pg ins : Int) (ao : Option Addr) (n cp : Nat) (q : Nat → Aq) (hq : ActsAt W ao n q) (hn : (n : Int) ≤ 4611686018427387904) :
    Calls Tryz.prog 4 #[.int .i64 pg, .int .i64 ins, .slice ao n cp] W fun e W' => e = .returned (.bool true) ∧ Below W.heap.size W W' := by
  have HBg := hid (begun_l W pg ins)
  have HFr := hid (fun w => fresh_l w)
  have HAc := hid (fun w g p r d (h : SS W w g p r d d) (h0 : 0 < d.m.ns) (hu : d.m.U) (j : Nat) (hj : j < n) => act_any W w hT hR h2 g p r d h h0 hu (q j).k (q j).a (q j).b (q j).c (q j).v (hq.v j hj).1 (hq.v j hj).2 (q j).uo (q j).un (q j).uc)
  have HQ := hid hq
  have HZ := hid (And.intro (begun_ns pg ins) (And.intro (begun_Z pg ins).u (sz_rg pg)))
  clear hT hR h2 hq
  generalize DS.begun pg ins = d0 at *
  go_enter Tryz.func4, Tryz.ntmps4
  go_upto_region 4 with (first | (go_at_call 9; refine HBg.out.mono ?_; rintro e w1 ⟨g, p1, r1, rfl, hs1⟩; have S1 := hid hs1; clear hs1) | (go_at_call 10; refine (HFr.out _).mono ?_; rintro e w2 ⟨rfl, hb2⟩; have S2 := hid (S1.out.on hb2); clear hb2 S1))
  clear HBg HFr
  go_upto_region 5 with fail
  go_loopw [8] (fun i wr => ∃ (j : Nat) (p : Dp) (r : Rp) (d : DS), j ≤ n ∧ i = .int .i64 (j : Int) ∧ Hid (SS W wr g p r d d) ∧ Hid (d.m.U ∧ 0 < d.m.ns ∧ d.m.ns ≤ 8)) (fun i _ => n - (intOf i).toNat)
  case atStart => exact ⟨0, p1, r1, d0, Nat.zero_le _, rfl, S2, hid ⟨HZ.out.2.1, by have := HZ.out; omega, by have := HZ.out; omega⟩⟩
  case round =>
    obtain ⟨j, p, r, d, hj, rfl, HS, HU⟩ := hrel
    clear S2
    by_cases hlt : j < n
    · have q1 : (j : Int) < (n : Int) := by omega
      obtain ⟨ga, oa, rfl, hga, _⟩ := HQ.out.at_ (by omega)
      have HRow := hid (HQ.out.row HS.out.bl hlt)
      have HA := hid (HAc.out _ g p r d HS.out HU.out.2.1 HU.out.1 j hlt)
      have HJ := hid hlt
      clear hlt hj hga
      go_wp2_with (first | (refine H.wpList_load_mid rfl 42 _ rfl ga (oa + j * 6) rfl _ _ HRow.out under42 rfl (by rw [size42]; rfl) ?_) | (go_at_call 11; refine HA.out.mono ?_; rintro e w3 ⟨rfl, p', r', d', hs3, hst⟩; have S3 := hid hs3; have U3 : Hid (d'.m.U ∧ 0 < d'.m.ns ∧ d'.m.ns ≤ 8) := hid ⟨hst.u, by rw [hst.ns]; exact HU.out.2⟩; clear hs3 hst))
      go_roundw
      case measure => have := HJ.out; simp [intOf] <;> omega
      case rel => exact ⟨j + 1, p', r', d', HJ.out, by simp, S3, U3⟩
    · obtain rfl : j = n := by omega
      clear hlt hj HAc HQ HZ
      obtain ⟨C, Q, hfb, hF⟩ := fbs d HU.out.2.1
      have HF := hid hF
      have HBr := hid (fun w (hw : DB w p d) => broken_v w p d hw HU.out.1 HU.out.2.1)
      rw [hfb] at HBr
      simp only at HBr
      have HHo := hid (fun w (hw : DB w p d) (k : Int) => holds_v w p d hw HU.out.1 HU.out.2.1 k)
      have HCl := hid (fun w (hw : DB w p d) => dclone_any w p d hw)
      have HMt := hid (fun w (hw : DB w p d) => meter_any w p.f d.m hw.mem)
      have HPg := hid (fun w (hw : DB w p d) => pages_any w p d hw)
      have HPl := hid (fun w (h : SS W w g p r d d) (k : Int) (q : Nat) (hq : q < d.m.ns) => plain_l W w g p r d h k q hq)
      have HUn := hid (fun w (h : SS W w g p r d d) p2 (h2 : DB w p2 d) => untouched_l W w g p r d h p2 h2)
      have HNs : Hid (0 < d.m.ns ∧ d.m.ns ≤ 8) := hid HU.out.2
      have HPH : Hid (∀ k q : Nat, 1 ≤ k → k ≤ 12 → q < d.m.ns → d.pl (k : Int) q = false → d.holds (k : Int) = false) := hid (fun k q h1 h2 h3 h4 => pl_holds h1 h2 h3 h4)
      have c12 : (C : Int) ≤ 12 := by have := hF.c12; omega
      have qns : (Q : Int) < (d.m.ns : Int) := by have := hF.q; omega
      have ns8 : (d.m.ns : Int) ≤ 8 := by have := HNs.out; omega
      have ns1 : (1 : Int) ≤ (d.m.ns : Int) := by have := HNs.out; omega
      clear hfb hF HU
      simp only [ptr] at *
      generalize d.m.ns = N at *
      obtain ⟨x0, x1, x2⟩ := HS.out.c
      go_upto_region 10 with (go_at_call 12; refine (HCl.out _ HS.out.own).mono ?_; rintro e w5 ⟨p2, rfl, hnd⟩; have S5 := hid (HS.out.on hnd.below); have D5 := hid hnd.db; clear hnd HS)
      clear x0 x1 x2 HCl
      obtain ⟨x0, x1, x2⟩ := S5.out.c
      go_upto_region 11 with (go_at_call 13; refine (HMt.out _ S5.out.own).mono ?_; rintro e wz ⟨rfl, hw⟩; subst wz)
      go_upto_region 12 with (go_at_call 7; refine (HBr.out _ S5.out.own).mono ?_; rintro e w6 ⟨rfl, hb6⟩; have B6 := hid hb6; clear hb6)
      clear x0 x1 x2
      have HSS := hid (fun x (hb : Below w5.heap.size w5 x) => S5.out.on hb)
      have HDD := hid (fun x (hb : Below w5.heap.size w5 x) => D5.out.on hb)
      have HBW := hid (fun x (hb : Below w5.heap.size w5 x) => below_on S5.out.bl hb)
      clear S5 D5
      go_upto_region 13 with fail
      go_loopw [13] (fun i wr => ∃ (k : Nat), 1 ≤ k ∧ k ≤ 13 ∧ i = .int .i64 (k : Int) ∧ Hid (Below w5.heap.size w5 wr)) (fun i _ => 13 - (intOf i).toNat)
      case atStart => exact ⟨1, by omega, by omega, rfl, B6⟩
      case round =>
        obtain ⟨k, hk1, hk2, rfl, HB⟩ := hrel
        clear B6
        by_cases hlt : k < 13
        · have q1 : (k : Int) ≤ 12 := by omega
          have q0 : (1 : Int) ≤ (k : Int) := by omega
          have HK := hid (And.intro hk1 hlt)
          have HHk := hid (fun w (hw : DB w p d) => HHo.out w hw (k : Int))
          obtain ⟨HH, hHH⟩ : ∃ HH, d.holds (k : Int) = HH := ⟨_, rfl⟩
          rw [hHH] at HHk
          have HHe := hid hHH
          clear hHH hlt hk1 hk2
          obtain ⟨x0, x1, x2⟩ := (HSS.out _ HB.out).c
          go_upto_region 16 with (go_at_call 14; refine (HHk.out _ (HSS.out _ HB.out).own).mono ?_; rintro e w7 ⟨rfl, hb7⟩; have B7 := hid (below_on HB.out hb7); clear hb7)
          clear x0 x1 x2 HB
          go_cut [86] (fun v x => v = .bool false ∧ w7 = x)
          case first =>
            by_cases c0 : C = 0
            · have hh : HH = true := by rw [← HHe.out]; exact HF.out.pre k HK.out.1 (by have := HK.out; omega) (.inl c0)
              subst hh c0
              go_wp2_with fail
              go_meet
              exact ⟨rfl, rfl⟩
            · have b0 : ((C : Int) == 0) = false := by rw [beq_eq_false_iff_ne]; omega
              by_cases c1 : k < C
              · have hh : HH = true := by rw [← HHe.out]; exact HF.out.pre k HK.out.1 (by have := HK.out; omega) (.inr c1)
                subst hh
                have b1 : (k : Int) < (C : Int) := by omega
                clear c0 c1
                go_wp2_with fail
                go_meet
                exact ⟨rfl, rfl⟩
              · by_cases c2 : k = C
                · have hh : HH = false := by rw [← HHe.out, c2]; exact HF.out.at_ (by omega)
                  subst hh c2
                  clear c0 c1
                  go_wp2_with fail
                  go_meet
                  first | exact ⟨rfl, rfl⟩ | exact ⟨by simp, rfl⟩
                · have b1 : decide (k < C) = false := by simp; omega
                  have b2 : decide (k ≤ C) = false := by simp; omega
                  have b3 := hid (show (C : Int) < (k : Int) by omega)
                  clear c0 c1 c2
                  cases HH
                  · go_wp2_with fail
                    go_meet
                    first | exact ⟨rfl, rfl⟩ | exact ⟨by have := b3.out; simp <;> omega, rfl⟩
                  · go_wp2_with fail
                    go_meet
                    first | exact ⟨rfl, rfl⟩ | exact ⟨by have := b3.out; simp <;> omega, rfl⟩
          case rest =>
            obtain ⟨rfl, rfl⟩ := hcut
            obtain ⟨x0, x1, x2⟩ := (HSS.out _ B7.out).c
            have hw1 : IntKind.wrap .i64 ((N : Int) - 1) = (N : Int) - 1 := wr64 _ (by omega) (by omega)
            go_upto_region 20 with (go_at_call 15; refine (HPg.out _ (HSS.out _ B7.out).own).mono ?_; rintro e wz ⟨rfl, hw⟩; subst hw)
            clear x0 x1 x2
            go_loopw [15, 16] (fun al i wr => ∃ (B : Bool) (m : Nat), m ≤ N ∧ al = .bool B ∧ i = .int .i64 ((m : Int) - 1) ∧ Hid (B = false → HH = false) ∧ Hid (Below w5.heap.size w5 wr)) (fun _ i _ => (intOf i + 1).toNat)
            case atStart => exact ⟨true, N, Nat.le_refl _, rfl, rfl, hid (fun h => by cases h), B7⟩
            case round =>
              obtain ⟨B, m, hm, rfl, rfl, HBH, HB8⟩ := hrel
              clear B7
              by_cases hm0 : 0 < m
              · obtain ⟨m, rfl⟩ : ∃ m', m = m' + 1 := ⟨m - 1, by omega⟩
                have HM := hid (show m < N by omega)
                have e1 : ((m + 1 : Nat) : Int) - 1 = (m : Int) := by omega
                have m1 : (m : Int) < (N : Int) := by omega
                have m0 : (0 : Int) ≤ (m : Int) := by omega
                have hw2 : IntKind.wrap .i64 ((m : Int) - 1) = (m : Int) - 1 := wr64 _ (by omega) (by omega)
                rw [e1]
                have HPk := hid (HPl.out _ (HSS.out _ HB8.out) (k : Int) m HM.out)
                obtain ⟨PL, hPL⟩ : ∃ PL, d.pl (k : Int) m = PL := ⟨_, rfl⟩
                rw [hPL] at HPk
                have HPL := hid hPL
                clear hPL hm hm0 e1
                cases PL
                · have HHf : Hid (HH = false) := hid (by rw [← HHe.out]; exact HPH.out k m HK.out.1 (by have := HK.out; omega) HM.out HPL.out)
                  by_cases ck : k = C
                  · have hQ := HF.out.least (by have := HK.out; omega) m (by rw [← ck]; exact HPL.out)
                    have b1 : decide (m < Q) = false := by simp; omega
                    subst ck
                    clear hQ
                    go_wp2_with (go_at_call 16; refine HPk.out.mono ?_; rintro e w8 ⟨rfl, hb8⟩; have B9 := hid (below_on HB8.out hb8); clear hb8)
                    go_roundw
                    case measure => simp [intOf] <;> omega
                    case rel => exact ⟨false, m, by have := HM.out; omega, rfl, rfl, hid (fun _ => HHf.out), B9⟩
                  · have b1 : ((k : Int) == (C : Int)) = false := by rw [beq_eq_false_iff_ne]; omega
                    have b2 : (k == C) = false := by simpa using ck
                    clear ck
                    go_wp2_with (go_at_call 16; refine HPk.out.mono ?_; rintro e w8 ⟨rfl, hb8⟩; have B9 := hid (below_on HB8.out hb8); clear hb8)
                    go_roundw
                    case measure => simp [intOf] <;> omega
                    case rel => exact ⟨false, m, by have := HM.out; omega, rfl, rfl, hid (fun _ => HHf.out), B9⟩
                · go_wp2_with (go_at_call 16; refine HPk.out.mono ?_; rintro e w8 ⟨rfl, hb8⟩; have B9 := hid (below_on HB8.out hb8); clear hb8)
                  go_roundw
                  case measure => simp [intOf] <;> omega
                  case rel => exact ⟨B, m, by have := HM.out; omega, rfl, rfl, HBH, B9⟩
              · obtain rfl : m = 0 := by omega
                clear hm0 hm
                cases B
                · have hh := HBH.out rfl
                  subst hh
                  go_wp2_with fail
                  go_roundw
                  case measure => have := HK.out; simp [intOf] <;> omega
                  case rel => exact ⟨k + 1, by omega, by have := HK.out; omega, by simp, HB8⟩
                · go_wp2_with fail
                  go_roundw
                  case measure => have := HK.out; simp [intOf] <;> omega
                  case rel => exact ⟨k + 1, by omega, by have := HK.out; omega, by simp, HB8⟩
        · obtain rfl : k = 13 := by omega
          clear hlt hk1 hk2
          go_upto_region 28 with fail
          obtain ⟨x0, x1, x2⟩ := (HSS.out _ HB.out).c
          go_cut [141] (fun v x => v = .bool false ∧ wr = x)
          case first =>
            have d1 : decide (N ≤ Q) = false := by simp; omega
            by_cases c0 : C = 0
            · have hz := HF.out.z c0
              subst c0 hz
              go_wp2_with (go_at_call 15; refine (HPg.out _ (HSS.out _ HB.out).own).mono ?_; rintro e wz ⟨rfl, hw⟩; subst hw)
              go_meet
              first | exact ⟨rfl, rfl⟩ | exact ⟨by simp <;> omega, rfl⟩
            · have b0 : ((C : Int) == 0) = false := by rw [beq_eq_false_iff_ne]; omega
              have b1 : decide (12 < C) = false := by simp; omega
              clear c0
              go_wp2_with (go_at_call 15; refine (HPg.out _ (HSS.out _ HB.out).own).mono ?_; rintro e wz ⟨rfl, hw⟩; subst hw)
              go_meet
              first | exact ⟨rfl, rfl⟩ | exact ⟨by simp <;> omega, rfl⟩
          case rest =>
            obtain ⟨rfl, rfl⟩ := hcut
            go_upto_region 30 with fail
            go_cut [157] (fun v x => v = .bool false ∧ Hid (Below w5.heap.size w5 x))
            case first =>
              by_cases c0 : C = 0
              · subst c0
                go_wp2_with fail
                go_meet
                exact ⟨rfl, HB⟩
              · have HPc := hid (HPl.out _ (HSS.out _ HB.out) (C : Int) Q (by omega))
                have b0 : (0 : Int) < (C : Int) := by omega
                by_cases c4 : C ≤ 4
                · have hb := HF.out.bad (by omega)
                  rw [hb] at HPc
                  have b1 : (C : Int) ≤ 4 := by omega
                  clear c0 c4
                  go_wp2_with (go_at_call 16; refine HPc.out.mono ?_; rintro e w8 ⟨rfl, hb8⟩; have B9 := hid (below_on HB.out hb8); clear hb8)
                  go_meet
                  exact ⟨rfl, B9⟩
                · have b1 : decide ((C : Int) ≤ 4) = false := by simp; omega
                  by_cases c5 : C = 12
                  · have hb := HF.out.bad (by omega)
                    rw [hb] at HPc
                    subst c5
                    clear c0 c4 b1
                    go_wp2_with (go_at_call 16; refine HPc.out.mono ?_; rintro e w8 ⟨rfl, hb8⟩; have B9 := hid (below_on HB.out hb8); clear hb8)
                    go_meet
                    exact ⟨rfl, B9⟩
                  · have b2 : ((C : Int) == 12) = false := by rw [beq_eq_false_iff_ne]; omega
                    have b3 : (C == 12) = false := by simpa using c5
                    clear c0 c4 c5
                    go_wp2_with fail
                    go_meet
                    first | exact ⟨rfl, HB⟩ | exact ⟨by simp <;> omega, HB⟩
            case rest =>
              obtain ⟨rfl, HB9⟩ := hcut
              clear HB x0 x1 x2
              obtain ⟨x0, x1, x2⟩ := (HSS.out _ HB9.out).c
              go_upto_region 33 with (go_at_call 7; refine (HBr.out _ (HSS.out _ HB9.out).own).mono ?_; rintro e wx ⟨rfl, hbx⟩; have BX := hid (below_on HB9.out hbx); clear hbx)
              clear x0 x1 x2
              obtain ⟨x0, x1, x2⟩ := (HSS.out _ BX.out).c
              go_wp2_with (first | (go_at_call 13; refine (HMt.out _ (HSS.out _ BX.out).own).mono ?_; rintro e wz ⟨rfl, hw⟩; subst wz) | (go_at_call 17; refine (HUn.out _ (HSS.out _ BX.out) p2 (HDD.out _ BX.out)).mono ?_; rintro e wy ⟨rfl, hby⟩; have BY := hid (below_on BX.out hby); clear hby))
              go_ret
              first | exact ⟨rfl, HBW.out _ BY.out⟩ | exact ⟨by simp, HBW.out _ BY.out⟩
end Go.Proofs.YtildhjiddidghaaGreatDoor
