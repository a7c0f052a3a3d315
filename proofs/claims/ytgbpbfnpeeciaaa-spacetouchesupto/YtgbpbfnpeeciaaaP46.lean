import Derived.Test.YtgbpbfnpeeciaaaP45
import Derived.Deep.DeepCutAuto
import Derived.Deep.MidRow
namespace Go.Proofs.Ytgbpbfnpeeciaaa
open Go.RowKit
set_option maxRecDepth 100000
set_option maxHeartbeats 8000000
structure TC (W w : World) (p : Dp) (d : DS) (v6 : Value) (H : List Hd) (pc : Dp) (dc : DS) : Prop where
  ts : TS W w p d v6 H
  cl : DB w pc dc
theorem TC.on {W w w' : World} {p pc : Dp} {d dc : DS} {v6 : Value} {H : List Hd} (h : TC W w p d v6 H pc dc) (hb : Below w.heap.size w w') : TC W w' p d v6 H pc dc := ⟨h.ts.on hb, h.cl.on hb⟩
theorem TS.clone {W w w1 w2 : World} {p pc : Dp} {d d' : DS} {v6 : Value} {H : List Hd} (h : TS W w p d v6 H) (hc : NewDB w w1 pc d) (hd : DB w2 p d') (hi : TI d') (hb : ButL p.f.w w1 w2) : TC W w2 p d' v6 H pc d := by
  have h1 := h.on hc.below
  refine ⟨h1.step hd hi hb, hc.db.frame hb (fun k hk hm => ?_)⟩
  have := hc.new k hk
  have := h.db.lt k (by unfold Dp.all; simp [Fp.w_all hm])
  omega
theorem Eff.part2 {d d' : DS} {e q o : Int} (h : Eff d d' e q o) : ∃ Q O : Nat, Q < 12 ∧ O < 1024 ∧ (e = 0 → (Q : Int) = q ∧ (O : Int) = o ∧ Q < 8) ∧ ∀ k j, k < 12 → j < 1024 → (wk d.m k j = wk d'.m k j ↔ ¬ (decide (e = 0) = true ∧ k = Q ∧ j = O)) := by
  by_cases he : e = 0
  · obtain ⟨⟨q0, q1, o0, o1⟩, _⟩ := h.one he
    exact ⟨q.toNat, o.toNat, by omega, by omega, fun _ => ⟨by omega, by omega, by omega⟩, h.part⟩
  · refine ⟨0, 0, by decide, by decide, fun hh => absurd hh he, fun k j hk hj => ?_⟩
    have := h.part k j hk hj
    simp only [he, decide_false] at this ⊢
    simpa using this
theorem md_where {d : DS} (h : TI d) (x : Mv) (v0 : 0 ≤ x.va) (t : Int) (he : mdE d x t = 0) : (t = 2 ∧ mdQ d x t = 1 ∧ mdO x t = x.va / 4194304) ∨ ((t = 0 ∨ t = 1) ∧ mdO x t = x.va / 4096 % 1024) := by
  obtain ⟨a1, _, b1, _, c1, _⟩ := h.bnd x.va
  have hz := (h.fnd v0).2.2.2.2
  have hs : d.fndE 0 x.va = 0 → spJ x.va = x.va / 4096 % 1024 := fun hf => by
    have := (hz hf).2
    unfold spE at this
    split at this
    · rename_i hv
      unfold spJ
      rw [if_pos hv]
    · exact absurd this (by decide)
  unfold mdE at he
  unfold mdQ mdO
  by_cases h0 : t = 0
  · subst h0
    rw [if_pos rfl] at he
    refine .inr ⟨.inl rfl, ?_⟩
    rw [if_neg (by decide)]
    apply hs
    unfold DS.putE at he
    by_cases hf : d.fndE 0 x.va = 0
    · exact hf
    · rw [if_neg hf] at he; exact he
  · rw [if_neg h0] at he
    by_cases h1 : t = 1
    · subst h1
      rw [if_pos rfl] at he
      refine .inr ⟨.inr rfl, ?_⟩
      rw [if_neg (by decide)]
      apply hs
      unfold DS.cutE at he
      by_cases hf : d.fndE 0 x.va = 0
      · exact hf
      · rw [if_neg hf] at he; exact he
    · rw [if_neg h1] at he
      by_cases h2 : t = 2
      · exact .inl ⟨h2, by rw [if_pos h2], by rw [if_pos h2]⟩
      · rw [if_neg h2] at he
        by_cases h3 : t = 3
        · rw [if_pos h3] at he; omega
        · rw [if_neg h3] at he
          by_cases h4 : t = 4
          · rw [if_pos h4] at he; omega
          · rw [if_neg h4] at he; omega
theorem and_low10 (v : Int) (h0 : 0 ≤ v) (h1 : v < 4294967296) : bits .and .u32 v 1023 = v % 1024 := by
  rw [u32_and _ _ h0 h1 (by decide) (by decide)]
  obtain ⟨x, rfl⟩ := Int.eq_ofNat_of_zero_le h0
  have : ((x : Int).toNat &&& Int.toNat 1023) = x % 1024 := by
    rw [Int.toNat_natCast]
    exact Nat.and_two_pow_sub_one_eq_mod x 10
  rw [this]
  omega
theorem touches_l (W : World) (ao : Option Addr) (n c : Nat) (q : Nat → Mv) (hM : MvAt W ao n q) (hn : n ≤ 1048576) (bo : Option Addr) (m c' : Nat) (hm : m ≤ 1048576) (hT : ∀ k, k < m → ∃ g off y, bo = some ⟨g, off, none⟩ ∧ g < W.heap.size ∧ W.cell? ⟨g, off + k, none⟩ = some (.int .i64 y) ∧ ∃ r, 0 ≤ r ∧ r < 65536 ∧ bits .and .i64 y 65535 = r) :
    Calls Try.prog 6 #[.slice ao n c, .slice bo m c'] W fun e W' => e = .returned (.bool true) ∧ Below W.heap.size W W' := by
  have HM := hid hM
  have HT := hid hT
  have n1 : (n : Int) ≤ 1048576 := by omega
  have n2 : (m : Int) ≤ 1048576 := by omega
  clear hM hT
  go_enter Try.func6, Try.ntmps6
  go_upto_region 2 with (go_at_call 10; refine (built_l _).mono ?_; rintro y w0 ⟨p, rfl, hp⟩; have S0 : Hid (TS W w0 p dB6 (.slice none 0 0) []) := hid ⟨hp.below, hp.db, dB6_inv.ti, hp.new, World.ownsRow_nil _ _ _ _, fun _ h => by cases h⟩; clear hp)
  simp only [ptr]
  go_wp2_with fail
  go_loopw [6, 7] (fun v6 i wr => ∃ (k : Nat) (u6 : Value) (d : DS) (H : List Hd), k ≤ n ∧ k ≤ m ∧ i = .int .i64 (k : Int) ∧ v6 = u6 ∧ H.length = 2 * k ∧ (∀ h ∈ H, h.n ≤ 262144) ∧ Hid (TS W wr p d u6 H)) (fun _ i _ => n - (intOf i).toNat)
  case atStart => exact ⟨0, _, _, [], Nat.zero_le _, Nat.zero_le _, rfl, rfl, rfl, (fun _ h => by cases h), S0⟩
  case round =>
    clear S0
    obtain ⟨k, u6, d, H, hkn, hkm, rfl, rfl, hHl, hHn, HS⟩ := hrel
    by_cases hlt : k < n
    · have q1 : (k : Int) < (n : Int) := by omega
      by_cases hlm : k < m
      · have q2 : (k : Int) < (m : Int) := by omega
        obtain ⟨g, off, rfl, hg, hrg⟩ := HM.out.at_ (by omega)
        obtain ⟨gt, toff, y, rfl, hgt, hct, r, r0, r1, hra⟩ := HT.out k hlm
        have hv := HM.out.v k hlt
        have hx := hrg k hlt
        generalize q k = x at *
        have HR := hid (fun w (hb : Below W.heap.size W w) => rangeAt_on hx hg hb)
        have HC0 := hid (fun w (hb : Below W.heap.size W w) => (hb.cell (p := ⟨gt, toff + k, none⟩) hgt).trans hct)
        have HX1 := hid (fun w (hb : Below W.heap.size W w) => (rangeAt_on hx hg hb) 1 (.int .u32 x.va) rfl)
        clear hrg hct hx HM HT
        have c0 := HC0.out _ HS.out.below
        have HE := hid (HS.out.ti.md x hv.1 (r % 6))
        have HCl := hid (fun w (h : DB w p d) => dclone_any w p d h)
        have HMe := hid (fun w (p : Dp) (d : DS) (h : DB w p d) => memory_any w p d h)
        have HMt := hid (fun w (p : Dp) (d : DS) (h : DB w p d) => meter_any w p.f d.m h.mem)
        have HMd := hid (fun w (h : DB w p d) => made_any w p d h HS.out.ti.mf.U x hv.1 hv.2 r r0 (HS.out.ti.bnd x.va))
        have HTI := hid HS.out.ti
        generalize hE : mdE d x (r % 6) = e at *
        generalize hD : mdD d x (r % 6) = d1 at *
        obtain ⟨kk, k0, k4, hkk⟩ := HE.out.c
        have hkk2 : IntKind.wrap .i64 (d1.m.c - d.m.c) = kk := by rw [← hkk, IntKind.wrap_i64]; unfold wrap64; rfl
        have HBig := hid (fun j (hj : j ∈ p.f.w) => HS.out.db.lt j (by unfold Dp.all; simp [Fp.w_all hj]))
        simp only [ptr] at *
        go_upto_region 11 with (first | (go_at_call 23; refine (HCl.out _ HS.out.db).mono ?_; rintro y w1 ⟨pc, rfl, hc⟩; have HC := hid hc; have HS1 := hid (HS.out.on hc.below); clear hc) | (go_at_call 21; refine (HMe.out _ p d HS1.out.db).mono ?_; rintro y w2 ⟨rfl, rfl⟩) | (go_at_call 24; refine (HMt.out _ p d HS1.out.db).mono ?_; rintro y w2 ⟨rfl, rfl⟩))
        have HRm := hid (HR.out _ HS1.out.below)
        unfold Mv.cs at HRm
        clear HCl HS c0 HC0
        go_upto_region 12 with (first | (refine wpList_load_mid rfl 42 _ rfl g (off + k * 6) rfl _ _ HRm.out Try.underlying42 rfl (by rw [size42]; rfl) ?_) | (go_at_call 25; refine (HMd.out _ HS1.out.db).mono ?_; rintro y w3 ⟨rfl, hd, hb⟩; have HK := hid (TC.mk (HS1.out.step hd HE.out.ti hb) (HC.out.db.frame hb (fun j hj hm => by have := HC.out.new j hj; have := HBig.out j hm; omega))); clear hd hb))
        clear HRm HMd HS1 HC
        go_upto_region 13 with (first | (go_at_call 21; refine (HMe.out _ p d1 HK.out.ts.db).mono ?_; rintro y w4 ⟨rfl, rfl⟩) | (go_at_call 24; refine (HMt.out _ p d1 HK.out.ts.db).mono ?_; rintro y w4 ⟨rfl, rfl⟩))
        obtain ⟨Q0, O0, hQ, hO, hQO, hpart⟩ := HE.out.part2
        have HPt := hid (fun w (h : TC W w p d1 u6 H pc d) => part_any w pc.f p.f d.m d1.m h.cl.mem h.ts.db.mem HTI.out.mf.ns HTI.out.mf.len (decide (e = 0)) Q0 O0 hQ hO hpart)
        have HLk := hid (fun w (h : TC W w p d1 u6 H pc d) => likewise_yes w pc p d d1 h.cl h.ts.db (HE.out.ws HTI.out).1 (HE.out.ws HTI.out).2)
        have HPg := hid (fun w (h : TC W w p d1 u6 H pc d) => (by have := pages_any w pc d h.cl; rw [HTI.out.mf.ns] at this; exact this : Calls Try.prog 28 #[ptr pc.g] w fun x W' => x = .returned (.int .i64 ((8 : Nat) : Int)) ∧ w = W'))
        have HMc := hid (fun w (h : TC W w p d1 u6 H pc d) => memory_any w pc d h.cl)
        have HMp := hid (fun w (h : TC W w p d1 u6 H pc d) => memory_any w p d1 h.ts.db)
        have hWq : e = 0 → (r % 6 = 2 ∧ (Q0 : Int) = 1 ∧ (O0 : Int) = x.va / 4194304) ∨ ((r % 6 = 0 ∨ r % 6 = 1) ∧ (O0 : Int) = x.va / 4096 % 1024) := fun he => by
          have h2 := md_where HTI.out x hv.1 (r % 6) (hE.trans he)
          rw [← (hQO he).1, ← (hQO he).2.1] at h2
          exact h2
        have hWr : e = 0 → (Q0 : Int) < 8 := fun he => by have := (hQO he).2.2; omega
        obtain ⟨N, hN⟩ : ∃ N, pI (decide (e = 0)) 1 0 = N := ⟨_, rfl⟩
        obtain ⟨P, hP⟩ : ∃ P, pI (decide (e = 0)) (Q0 : Int) (-1) = P := ⟨_, rfl⟩
        obtain ⟨O, hOo⟩ : ∃ O, pI (decide (e = 0)) (O0 : Int) (-1) = O := ⟨_, rfl⟩
        have HN : Hid ((e = 0 → N = 1 ∧ P < 8 ∧ ((r % 6 = 2 ∧ P = 1 ∧ O = x.va / 4194304) ∨ ((r % 6 = 0 ∨ r % 6 = 1) ∧ O = x.va / 4096 % 1024))) ∧ (e ≠ 0 → N = 0 ∧ P = -1 ∧ O = -1)) := hid ⟨fun he => by rw [← hN, ← hP, ← hOo, decide_eq_true he]; exact ⟨rfl, hWr he, hWq he⟩, fun he => by rw [← hN, ← hP, ← hOo, decide_eq_false he]; exact ⟨rfl, rfl, rfl⟩⟩
        rw [hN, hP, hOo] at HPt
        clear hN hP hOo hQO hpart hQ hO hE hD HMe HMt hWq hWr
        simp only [ptr] at HPt HLk HPg HMc HMp
        have T0 : Hid True := hid trivial
        go_upto_region 14 with (first | (go_at_call 21; revert T0; intro T0; refine (HMc.out _ HK.out).mono ?_; rintro y w5 ⟨rfl, rfl⟩; clear T0; have T1 : Hid True := hid trivial) | (go_at_call 21; revert T1; intro T1; refine (HMp.out _ HK.out).mono ?_; rintro y w5 ⟨rfl, rfl⟩; clear T1) | (go_at_call 26; refine (HPt.out _ HK.out).mono ?_; rintro y w6 ⟨rfl, hb6⟩; have HK6 := hid (HK.out.on hb6); clear hb6 HK))
        clear HPt HMc HMp
        go_cut [103] (fun v w => v = .bool false ∧ Hid (TC W w p d1 u6 H pc d))
        case first =>
          as_aux_lemma =>
            have kd1 : decide (4 < kk) = false := decide_eq_false (by omega)
            have kd2 : decide (kk < 0) = false := decide_eq_false (by omega)
            by_cases he : e = 0
            · obtain ⟨rfl, _, _⟩ := HN.out.1 he
              have e0 : (e == 0) = true := by simpa using he
              have e1 : (e != 0) = false := by simpa using he
              clear he HN
              go_wp2_with (go_at_call 27; refine (HLk.out _ HK6.out).mono ?_; rintro y w7 ⟨rfl, hb7⟩; have HK7 := hid (HK6.out.on hb7); clear hb7)
              go_meet
              exact ⟨rfl, HK7⟩
            · obtain ⟨rfl, rfl, rfl⟩ := HN.out.2 he
              have e0 : (e == 0) = false := by simpa using he
              have e1 : (e != 0) = true := by simpa using he
              clear he HN
              go_wp2_with (go_at_call 27; refine (HLk.out _ HK6.out).mono ?_; rintro y w7 ⟨rfl, hb7⟩; have HK7 := hid (HK6.out.on hb7); clear hb7)
              go_meet
              exact ⟨rfl, HK7⟩
        case rest =>
          as_aux_lemma =>
            obtain ⟨rfl, HK8⟩ := hcut
            clear HK6 HLk
            have et : r.tmod 6 = r % 6 := Int.tmod_eq_emod_of_nonneg r0
            have cx := HX1.out _ HK8.out.ts.below
            have va1 := and_low10 (x.va / 4096) (by omega) (by omega)
            go_upto_region 16 with fail
            go_cut [152] (fun v w => v = .bool false ∧ Hid (TC W w p d1 u6 H pc d))
            case first =>
              as_aux_lemma =>
                by_cases he : e = 0
                · obtain ⟨rfl, hq9, hW⟩ := HN.out.1 he
                  have hqd : decide (8 ≤ P) = false := decide_eq_false (by omega)
                  rcases hW with ⟨h6, rfl, rfl⟩ | ⟨h6, rfl⟩
                  · rw [h6] at et
                    clear HN he
                    go_wp2_with (go_at_call 28; refine (HPg.out _ HK8.out).mono ?_; rintro y w9 ⟨rfl, rfl⟩)
                    go_meet
                    exact ⟨rfl, HK8⟩
                  · clear HN he
                    rcases h6 with h6 | h6
                    · rw [h6] at et
                      go_wp2_with (go_at_call 28; refine (HPg.out _ HK8.out).mono ?_; rintro y w9 ⟨rfl, rfl⟩)
                      go_meet
                      exact ⟨rfl, HK8⟩
                    · rw [h6] at et
                      go_wp2_with (go_at_call 28; refine (HPg.out _ HK8.out).mono ?_; rintro y w9 ⟨rfl, rfl⟩)
                      go_meet
                      exact ⟨rfl, HK8⟩
                · obtain ⟨rfl, rfl, rfl⟩ := HN.out.2 he
                  clear HN he
                  go_wp2_with (go_at_call 28; refine (HPg.out _ HK8.out).mono ?_; rintro y w9 ⟨rfl, rfl⟩)
                  go_meet
                  exact ⟨rfl, HK8⟩
            case rest =>
              obtain ⟨rfl, HK9⟩ := hcut
              clear HK8
              go_upto_if 152 with fail
              go_cut [4] from 302 to 302 (fun _ w => Hid (TC W w p d1 u6 H pc d))
              case first =>
                go_wp2_with fail
                go_meet
                exact HK9
              case rest =>
                refine (‹∀ (a : Act) (w : World), Code.wp Try.prog _ _ a w → _› _ _ (partA W _ p d1 u6 _ _ H k (by omega) (by omega) hHn hcut.out.ts _ _ _ _ _ _ _ _ _ _ _ _ _ _ _ _ _ _ _ _ _ _ _ _ _ _ _ _ _ _ _ _ _ _ _ _ _ _ _ _ _ _ _ _ _ _ _ _ _ _ _ _ _ _ _ _ _ _ _ _ _ _ _ _ _ _ _ _ _ _ _ _ _ _ _ _ _ _ _ _ _ _ _ _ _ _ _ _ _ _ _ _ _ _ _ _ _ _ _ _ _ _ _ _ _ _ _ _ _ _ _ _ _ _ _ _ _ _ _ _ _ _ _ _ _ _ _ _ _ _ _ _ _ _ _ _ _ _ _ _ _ _ _ _ _ _ _ _ _ _ _ _ _ _ _ _ _ _ _ _ _ _ _ _ _ _ _ _ _ _ _ _ _ _ _ _ _ _ _ _ _ _ _ _ _ _ _ _ _ _ _ _ _ _ _ _ _ _ _ _ _ _ _ _ _ _ _ _ _ _ _ _ _ _ _ _ _ _ _ _ _ _ _ _ _ _ _ _ _ _ _ _ _ _ _ _ _ _ _ _ _ _ _ _ _ _ _ _ _ _ _ _ _ _ _ _ _ _ _ _ _ _ _ _ _ _ _ _ _ _ _ _ _ _ _ _ _ _ _ _ _ _ _ _ _ _ _ _ _ _ _ _ _ _ _ _ _ _ _ (fun _ _ t _ _ h => by cases t <;> exact h) (fun w' d' v' H' _ _ _ _ _ _ _ _ _ _ _ _ _ _ _ _ _ _ _ _ _ _ _ _ _ _ _ _ _ _ _ _ _ _ _ _ _ _ _ _ _ _ _ _ _ _ _ _ _ _ _ _ _ _ _ _ _ _ _ _ _ _ _ _ _ _ _ _ _ _ _ _ _ _ _ _ _ _ _ _ _ _ _ _ _ _ _ _ _ _ _ _ _ _ _ _ _ _ _ _ _ _ _ _ _ _ _ _ _ _ _ _ _ _ _ _ _ _ _ _ _ _ _ _ _ _ _ _ _ _ _ _ _ _ _ _ _ _ _ _ _ _ _ _ _ _ _ _ _ _ _ _ _ _ _ _ _ _ _ _ _ hT hl ha => ?_)))
                have HT9 := hid hT
                clear hT
                simp only [Exit.inBlock, Exit.then]
                go_wp2_with fail
                go_roundw
                case measure => simp [intOf] <;> omega
                case rel => exact ⟨k + 1, v', d', H', by omega, by omega, by simp, rfl, by rw [hl, hHl]; omega, ha, HT9⟩
      · have q2 : (m : Int) ≤ (k : Int) := by omega
        go_wp2_with fail
        go_ret
        exact ⟨rfl, HS.out.below⟩
    · have q1 : (n : Int) ≤ (k : Int) := by omega
      go_wp2_with fail
      go_ret
      exact ⟨rfl, HS.out.below⟩
end Go.Proofs.Ytgbpbfnpeeciaaa
