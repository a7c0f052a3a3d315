/- PagedbBack 3. -/
import Derived.Test.YtajkhkaidjjioaaPc
namespace Go.Proofs.Ytajkhkaidjjioaa
open Go.RowKit
set_option maxHeartbeats 4000000
set_option maxRecDepth 100000
theorem Hl.cel {W w : World} {v : Value} {L : List Int} (h : Hl W w v L) (hn : 0 < L.length) : ∃ gk cap cs, v = .slice (some ⟨gk, 0, none⟩) L.length cap ∧ Cel w gk 27 cs ∧ W.heap.size ≤ gk ∧ ∀ (j : Nat) (u : Value), (u32s L)[j]? = some u → cs[j]? = some u := by
  rcases h.own.2 with ⟨hv, h0⟩ | ⟨g, cap, cur, hv, hB, hg, r⟩
  · omega
  · have hc : Cel w g 27 cur.toList := by unfold Cel; rw [hg]
    refine ⟨g, cap, cur.toList, hv, hc, hB, fun j u hu => ?_⟩
    have := h.own.cells (g := g) (by rw [hv]; rfl) j u hu
    rw [Addr.add_mid, Nat.zero_add, hc.cell] at this
    exact this
theorem WL.cel {w : World} {g n : Nat} {cs : List Value} {L : List Int} (h : Cel w g 27 cs) (hp : ∀ (j : Nat) (u : Value), (u32s L)[j]? = some u → cs[j]? = some u) (hl : L.length = n) (hr : ∀ x ∈ L, 0 ≤ x ∧ x < 4294967296) : WL w (some ⟨g, 0, none⟩) n L :=
  ⟨hl, hr, fun _ => ⟨g, 0, rfl, fun j v hv => by rw [Nat.zero_add, h.cell]; exact hp j v hv, h.lt⟩⟩
theorem DS.ws_rg {d : DS} (h : d.Ok) : ∀ x ∈ d.ws, 0 ≤ x ∧ x < 4294967296 := ws_range h.b0 h.b1 d.E
/-- A memory that was cloned, and the database that is loaded over it. -/
theorem loaded_new {x x' x2 : World} {f : Fp} {m : MS} {g gw : Nat} {d : DS} (h : NewMem x x' f m) (hd : DB x2 ⟨g, gw, f⟩ d) (hg : x'.heap.size ≤ g) (hw : x'.heap.size ≤ gw) (hb : Below x'.heap.size x' x2) : NewDB x x2 ⟨g, gw, f⟩ d :=
  ⟨hd, below_on h.below hb, fun k hk => by
    have := h.below.size
    simp only [Dp.all, List.mem_cons] at hk
    rcases hk with rfl | rfl | hk
    · exact Nat.le_trans this hg
    · exact Nat.le_trans this hw
    · exact h.new k hk⟩
/-- Load, of words that a database told, over a memory like its own. -/
theorem load_told (W : World) (f : Fp) (d : DS) (hm : Mem W f d.m) (hk : d.Ok) (ao : Option Addr) (c : Nat) (h : WL W ao (1 + 2 * d.m.ns) d.ws) :
    Calls Try.prog 11 #[ptr f.gm, .slice ao (1 + 2 * d.m.ns) c] W fun e W' => ∃ g gw, e = .returned (.tuple #[ptr g, .int .i64 0]) ∧ DB W' ⟨g, gw, f⟩ d ∧ W.heap.size ≤ g ∧ W.heap.size ≤ gw ∧ Below W.heap.size W W' := by
  obtain ⟨h1, h2⟩ := load_back hk
  refine (load_any W f d.m hm hk.n64 ao _ c d.ws h).mono ?_
  rintro e w' (⟨h3, _⟩ | ⟨_, g, gw, h4, h5, h6, h7, h8⟩)
  · rw [h1] at h3; cases h3
  · rw [h2] at h5; exact ⟨g, gw, h4, h5, h6, h7, h8⟩
theorem back_any (W : World) (ao bo : Option Addr) (n m c c' : Nat) (q r : Nat → Oq) (hq : OpsAt W ao n q) (hr : OpsAt W bo m r) :
    Calls Try.prog 3 #[.slice ao n c, .slice bo m c'] W fun e W' => e = .returned (.bool true) ∧ Below W.heap.size W W' := by
  have HQ := hid hq
  have HR := hid hr
  have HB := hid (fun W => begun_any W)
  have HC := hid (fun w p d (hw : DB w p d) o => call_any w p d hw o)
  have HW := hid (fun w p d (hw : DB w p d) => words_any w p d hw)
  have HCl := hid (fun w p d (hw : DB w p d) => dclone_any w p d hw)
  have HMC := hid (fun w f m (hw : Mem w f m) => clone_any w f m hw)
  have HLd := hid (fun w f d (hw : Mem w f d.m) (hk : d.Ok) ao c (h : WL w ao (1 + 2 * d.m.ns) d.ws) => load_told w f d hw hk ao c h)
  have HMy := hid (fun w p d (hw : DB w p d) => memory_any w p d hw)
  have HSm : Hid (∀ w f f' m, Mem w f m → Mem w f' m → Calls Try.prog 14 #[ptr f.gm, ptr f'.gm] w fun x w' => x = .returned (.bool true) ∧ Below w.heap.size w w') := hid (fun w f f' m h h' => by have := same_any w f m h f' m h'; rwa [MS.same_self] at this)
  have HSw : Hid (∀ w ao bo n c c' L, WL w ao n L → WL w bo n L → n ≤ 1000000 → Calls Try.prog 15 #[.slice ao n c, .slice bo n c'] w fun x w' => x = .returned (.bool true) ∧ Below w.heap.size w w') := hid (fun w ao bo n c c' L h h' hn => by have := sameWords_any w ao bo n n c c' L L h h' hn; rwa [show decide (L = L) = true from decide_eq_true rfl] at this)
  have HFr := hid (fun w p d (hw : DB w p d) => free_any w p d hw)
  have HBi := hid (fun w p d (hw : DB w p d) => births_any w p d hw)
  clear hq hr
  simp only [ptr, Oq.val] at *
  go_enter Try.func3, Try.ntmps3
  go_upto_region 4 with (go_at_call 7; refine (HB.out _).mono ?_; rintro e w1 ⟨p, P, c1, rfl, hn, hl⟩; have HM := hid (MD.start hn); have HL := hid hl; clear hn hl)
  clear HB
  generalize (⟨⟨8, P, c1⟩, 1, e8⟩ : DS) = d0 at *
  go_wp2_with fail
  go_loopw [7] (fun i wr => ∃ j : Nat, j ≤ min n 40 ∧ i = .int .i64 (j : Int) ∧ Hid (MD W wr [(p, DS.play d0 q j)] [])) (fun i _ => min n 40 - (intOf i).toNat)
  case atStart => exact ⟨0, Nat.zero_le _, rfl, HM⟩
  case round =>
    obtain ⟨j, hj, rfl, HD⟩ := hrel
    clear HM
    by_cases hlt : j < min n 40
    · have q1 : (j : Int) < (n : Int) := by omega
      have q2 : (j : Int) < 40 := by omega
      have qn : j < n := by omega
      obtain ⟨g, off, rfl, hg, _⟩ := HQ.out.at_ (by omega)
      have HRow := hid ((HQ.out.on HD.out.below).row qn)
      have HJ : Hid (j < min n 40) := hid hlt
      have c0 : wr.cell? ⟨g, off + j * 8, none⟩ = some (.int .i64 (q j).k) := HRow.out 0 _ rfl
      clear hlt hj
      by_cases hk : (q j).ch = true
      · have HP : Hid (DS.play d0 q (j + 1) = (DS.play d0 q j).call (q j)) := hid (by rw [DS.play, if_pos hk])
        obtain ⟨k1, k2⟩ := of_decide_eq_true hk
        clear hk
        go_wp2_with (first | (refine wpList_load_mid rfl 29 _ rfl g (off + j * 8) rfl _ _ HRow.out under29 rfl (by rw [size29]; rfl) ?_) | (go_at_call 8; refine (HC.out _ p _ (HD.out.db 0 _ _ rfl) (q j)).mono ?_; rintro e w2 ⟨rfl, hd, hb⟩; have HD2 := hid (HD.out.step 0 rfl hd hb); clear hd hb))
        simp only [List.set_cons_zero] at HD2
        rw [← HP.out] at HD2
        go_roundw
        case measure => have := HJ.out; simp [intOf] <;> omega
        case rel => exact ⟨j + 1, by have := HJ.out; omega, by simp, HD2⟩
      · have HP : Hid (DS.play d0 q (j + 1) = DS.play d0 q j) := hid (by rw [DS.play, if_neg hk])
        have hk' : (q j).k < 1 ∨ (1 ≤ (q j).k ∧ 6 < (q j).k) := by
          have : ¬ (1 ≤ (q j).k ∧ (q j).k ≤ 6) := fun h => hk (decide_eq_true h)
          omega
        clear hk
        rw [← HP.out] at HD
        rcases hk' with hk | ⟨hk0, hk⟩
        all_goals go_wp2_with fail
        all_goals go_roundw
        case measure => have := HJ.out; simp [intOf] <;> omega
        case rel => exact ⟨j + 1, by have := HJ.out; omega, by simp, HD⟩
        case measure => have := HJ.out; simp [intOf] <;> omega
        case rel => exact ⟨j + 1, by have := HJ.out; omega, by simp, HD⟩
    · have hjn : (n : Int) ≤ (j : Int) ∨ ((j : Int) < (n : Int) ∧ (40 : Int) ≤ (j : Int)) := by omega
      generalize DS.play d0 q j = d at *
      clear hlt hj HQ
      rcases hjn with hjn | ⟨hjn, hjm⟩
      · skip
        have N0 : Hid (1 + 2 * d.m.ns ≤ 1000000 ∧ 0 < d.ws.length ∧ d.ws.length = 1 + 2 * d.m.ns ∧ d.Ok) := hid (by have hk := (HD.out.db 0 _ _ rfl).ok; have h1 := hk.n64; have h2 := d.ws_len hk; exact ⟨by omega, by omega, h2, hk⟩)
        go_upto_region 11 with (go_at_call 9; refine (HW.out _ p _ (HD.out.db 0 _ _ rfl)).mono ?_; rintro e w2 ⟨gw, rfl, hc, hg, hb⟩; have HD2 := hid (HD.out.list hg hc hb); clear hc hg hb HD)
        go_upto_region 12 with (refine wpList_append_w (W := w2) rfl _ _ rfl (.slice none 0 0) [] rfl (Hl.start w2) ⟨gw, 0, none⟩ (1 + 2 * d.m.ns) (1 + 2 * d.m.ns) d.ws rfl N0.out.2.2.1 (HD2.out.get 0 rfl).src (by have := N0.out.1; simp; omega) ?_; intro v3 w3 hl hgr; rw [List.nil_append] at hl; obtain ⟨gk, ck, kc, rfl, hkc, hkg, hkp⟩ := hl.cel N0.out.2.1; have HD3 := hid (HD2.out.list hkg hkc hl.below); have HKp := hid hkp; clear hl hgr hkc hkg hkp HD2)
        rw [N0.out.2.2.1]
        generalize hNN : 1 + 2 * d.m.ns = N at *
        have HNN := hid hNN
        clear hNN
        have HKe : Hid (∀ x Ds L, MD W x Ds ((gk, 27, kc) :: L) → WL x (some ⟨gk, 0, none⟩) N d.ws) := hid (fun x Ds L h => WL.cel (h.get 0 rfl) HKp.out N0.out.2.2.1 (DS.ws_rg N0.out.2.2.2))
        have HWe : Hid (∀ x (g : Nat) (d2 : DS), d2.Ok → 1 + 2 * d2.m.ns = N → Cel x g 27 (u32s d2.ws) → WL x (some ⟨g, 0, none⟩) N d2.ws) := hid (fun x g d2 hk hn hc => WL.cel hc (fun _ _ h => h) (by rw [d2.ws_len hk, hn]) (DS.ws_rg hk))
        go_upto_region 13 with (go_at_call 10; refine (HCl.out _ p _ (HD3.out.db 0 _ _ rfl)).mono ?_; rintro e w4 ⟨pc, rfl, hn⟩; have HD4 := hid (HD3.out.push hn); clear hn HD3)
        clear HCl
        simp only [List.cons_append, List.nil_append] at HD4
        have HLd2 := hid (fun w f (hw : Mem w f d.m) ao c h => HLd.out w f d hw N0.out.2.2.2 ao c h)
        rw [HNN.out] at HLd2
        go_upto_region 14 with (first | (go_at_call 12; refine (HMC.out _ p.f _ (HD4.out.db 0 _ _ rfl).mem).mono ?_; rintro e w5 ⟨f5, rfl, hn⟩; have HN5 := hid hn; have HD5 := hid (HD4.out.on hn.below); clear hn) | (go_at_call 11; refine (HLd2.out _ f5 HN5.out.mem (some ⟨gw, 0, none⟩) N (HWe.out _ gw d N0.out.2.2.2 HNN.out (HD5.out.get 1 rfl))).mono ?_; rintro e w6 ⟨gl, gx, rfl, hd, h1, h2, hb⟩; have HD6 := hid (HD4.out.push (loaded_new HN5.out hd h1 h2 hb)); clear hd h1 h2 hb))
        simp only [List.cons_append, List.nil_append] at HD6
        clear HD4 HD5 HN5 HMC
        obtain ⟨pl, hpl⟩ : ∃ pl : Dp, pl = ⟨gl, gx, f5⟩ := ⟨_, rfl⟩
        obtain rfl : pl.g = gl := by rw [hpl]
        rw [← hpl] at HD6
        clear hpl
        have HD6 : Hid (MD W w6 [(p, d), (pc, d), (pl, d)] [(gk, 27, kc)]) := hid ⟨HD6.out.db, HD6.out.new, HD6.out.apart, HD6.out.below, fun r hr => HD6.out.bag r (by simp only [List.mem_singleton] at hr; simp [hr]), fun r hr => HD6.out.bnew r (by simp only [List.mem_singleton] at hr; simp [hr]), fun i p d hi r hr => HD6.out.off i p d hi r (by simp only [List.mem_singleton] at hr; simp [hr])⟩
        have hpe := ptr_eq_other (HD6.out.db 1 _ _ rfl).mem.cel (HD6.out.db 0 _ _ rfl).mem.cel (fun e => HD6.out.apart 1 0 _ _ _ _ rfl rfl (by decide) pc.f.gm (by simp [Dp.all, Fp.all]) (by rw [e]; simp [Dp.all, Fp.all]))
        have T0 : Hid True := hid trivial
        go_upto_region 16 with (first | (go_at_call 13; revert T0; intro T0; refine (HMy.out _ pc _ (HD6.out.db 1 _ _ rfl)).mono ?_; rintro e w7 ⟨rfl, hw⟩; subst hw; clear T0 ; have T1 : Hid True := hid trivial) | (go_at_call 13; revert T1; intro T1; refine (HMy.out _ pc _ (HD6.out.db 1 _ _ rfl)).mono ?_; rintro e w7 ⟨rfl, hw⟩; subst hw; clear T1 ; have T2 : Hid True := hid trivial) | (go_at_call 14; revert T2; intro T2; refine (HSm.out _ pc.f p.f _ (HD6.out.db 1 _ _ rfl).mem (HD6.out.db 0 _ _ rfl).mem).mono ?_; rintro e w7 ⟨rfl, hb⟩; have HD7 := hid (HD6.out.on hb); clear hb; clear T2 HD6 hpe; have T3 : Hid True := hid trivial) | (go_at_call 9; revert T3; intro T3; refine (HW.out _ pc _ (HD7.out.db 1 _ _ rfl)).mono ?_; rintro e w8 ⟨g8, rfl, hc, hg, hb⟩; have HD8 := hid (HD7.out.on hb); rw [HNN.out]; have HW8 := hid (HWe.out _ _ _ N0.out.2.2.2 HNN.out hc); clear hc hg hb; clear T3 HD7; have T4 : Hid True := hid trivial) | (go_at_call 15; revert T4; intro T4; refine (HSw.out _ _ _ _ _ _ _ HW8.out (HKe.out _ _ _ HD8.out) N0.out.1).mono ?_; rintro e w9 ⟨rfl, hb⟩; have HD9 := hid (HD8.out.on hb); clear hb; clear T4 HD8 HW8; have T5 : Hid True := hid trivial) | (go_at_call 9; revert T5; intro T5; refine (HW.out _ pl _ (HD9.out.db 2 _ _ rfl)).mono ?_; rintro e w10 ⟨g10, rfl, hc, hg, hb⟩; have HDA := hid (HD9.out.on hb); rw [HNN.out]; have HWA := hid (HWe.out _ _ _ N0.out.2.2.2 HNN.out hc); clear hc hg hb; clear T5 HD9; have T6 : Hid True := hid trivial) | (go_at_call 15; revert T6; intro T6; refine (HSw.out _ _ _ _ _ _ _ HWA.out (HKe.out _ _ _ HDA.out) N0.out.1).mono ?_; rintro e w11 ⟨rfl, hb⟩; have HDB := hid (HDA.out.on hb); clear hb; clear T6 HDA HWA; have T7 : Hid True := hid trivial))
        clear T7
        go_wp2_with fail
        go_loopw [13] (fun i wr => ∃ (j : Nat) (dc : DS), j ≤ min m 40 ∧ i = .int .i64 (j : Int) ∧ Hid (MD W wr [(p, d), (pc, dc), (pl, dc)] [(gk, 27, kc)])) (fun i _ => min m 40 - (intOf i).toNat)
        case atStart => exact ⟨0, d, Nat.zero_le _, rfl, HDB⟩
        case round =>
          obtain ⟨i, dc, hi, rfl, HE⟩ := hrel
          clear HDB
          by_cases hlt : i < min m 40
          · have q1 : (i : Int) < (m : Int) := by omega
            have q2 : (i : Int) < 40 := by omega
            have qn : i < m := by omega
            obtain ⟨g, off, rfl, hg, _⟩ := HR.out.at_ (by omega)
            have HRow := hid ((HR.out.on HE.out.below).row qn)
            have HJ : Hid (i < min m 40) := hid hlt
            clear hlt hi
            go_upto_region 20 with (first | (refine wpList_load_mid rfl 29 _ rfl g (off + i * 8) rfl _ _ HRow.out under29 rfl (by rw [size29]; rfl) ?_) | (refine wpList_store_st rfl 29 _ _ rfl wr.heap.size (r i).cs rfl rfl (Cel.new wr 29 [.int .i64 0, .int .i64 0, .int .i64 0, .int .i64 0, .int .i64 0, .bool false, .int .i64 0, .int .u32 0]) size29 rfl rfl ?_; intro w20 hc hb hs; have HF := hid (HE.out.add hc hb); clear hc hb hs))
            clear HRow
            generalize wr.heap.size = g14 at *
            have c0 := (HF.out.get 0 rfl).cell 0
            simp only [Oq.cs, List.getElem?_cons_zero] at c0
            have HE0 := hid HF.out.drop
            by_cases hk : (r i).ch = true
            · obtain ⟨k1, k2⟩ := of_decide_eq_true hk
              clear hk HE
              go_upto_region 21 with fail
              have S0 : Hid True := hid trivial
              go_upto_region 22 with (first | (revert S0; intro S0; refine wpList_load_mid rfl 29 _ rfl g14 0 rfl _ _ ((HF.out.get 0 rfl).range) under29 rfl (by rw [size29]; rfl) ?_; clear S0 ; have S1 : Hid True := hid trivial) | (go_at_call 8; revert S1; intro S1; refine (HC.out _ pc _ (HF.out.db 1 _ _ rfl) (r i)).mono ?_; rintro e w21 ⟨rfl, hd, hb⟩; have HF1 := hid (HF.out.step 1 rfl hd hb); clear hd hb; simp only [List.set_cons_zero, List.set_cons_succ] at HF1; clear S1 HF c0 HE0; have S2 : Hid True := hid trivial))
              go_upto_region 24 with (first | (go_at_call 9; revert S2; intro S2; refine (HW.out _ p _ (HF1.out.db 0 _ _ rfl)).mono ?_; rintro e w22 ⟨g22, rfl, hc, hg, hb⟩; have HF2 := hid (HF1.out.on hb); rw [HNN.out]; have HV2 := hid (HWe.out _ _ _ N0.out.2.2.2 HNN.out hc); clear hc hg hb; clear S2 HF1; have S3 : Hid True := hid trivial) | (go_at_call 15; revert S3; intro S3; refine (HSw.out _ _ _ _ _ _ _ HV2.out (HKe.out _ _ _ HF2.out.drop) N0.out.1).mono ?_; rintro e w23 ⟨rfl, hb⟩; have HF3 := hid (HF2.out.on hb); clear hb; clear S3 HF2 HV2; have S4 : Hid True := hid trivial))
              go_upto_region 25 with (first | (revert S4; intro S4; refine wpList_load_mid rfl 29 _ rfl g14 0 rfl _ _ ((HF3.out.get 0 rfl).range) under29 rfl (by rw [size29]; rfl) ?_; clear S4 ; have S5 : Hid True := hid trivial) | (go_at_call 8; revert S5; intro S5; refine (HC.out _ pl _ (HF3.out.db 2 _ _ rfl) (r i)).mono ?_; rintro e w24 ⟨rfl, hd, hb⟩; have HF4 := hid (HF3.out.step 2 rfl hd hb).drop; clear hd hb; simp only [List.set_cons_zero, List.set_cons_succ] at HF4; clear S5 HF3; have S6 : Hid True := hid trivial))
              have HO4 := hid (HF4.out.db 1 _ _ rfl).ok
              generalize dc.callE (r i) = ec at *
              generalize dc.call (r i) = dn at *
              obtain ⟨N2, hN2⟩ : ∃ N2, N2 = 1 + 2 * dn.m.ns := ⟨_, rfl⟩
              have HN2 := hid hN2
              have HL2 : Hid (N2 ≤ 1000000) := hid (by have := HO4.out.n64; omega)
              clear hN2
              have HWe2 : Hid (∀ x (g : Nat), Cel x g 27 (u32s dn.ws) → WL x (some ⟨g, 0, none⟩) N2 dn.ws) := hid (fun x g hc => WL.cel hc (fun _ _ h => h) (by rw [dn.ws_len HO4.out, HN2.out]) (DS.ws_rg HO4.out))
              go_wp2_with (first | (go_at_call 9; revert S6; intro S6; refine (HW.out _ pl _ (HF4.out.db 2 _ _ rfl)).mono ?_; rintro e w25 ⟨g25, rfl, hc, hg, hb⟩; have HF5 := hid (HF4.out.list hg hc hb); rw [← HN2.out]; clear hc hg hb; clear S6 HF4; have S7 : Hid True := hid trivial) | (go_at_call 9; revert S7; intro S7; refine (HW.out _ pc _ (HF5.out.db 1 _ _ rfl)).mono ?_; rintro e w26 ⟨g26, rfl, hc, hg, hb⟩; have HF6 := hid (HF5.out.on hb); rw [← HN2.out]; have HV6 := hid (HWe2.out _ _ hc); clear hc hg hb; clear S7 HF5; have S8 : Hid True := hid trivial) | (go_at_call 15; revert S8; intro S8; refine (HSw.out _ _ _ _ _ _ _ (HWe2.out _ _ (HF6.out.get 0 rfl)) HV6.out HL2.out).mono ?_; rintro e w27 ⟨rfl, hb⟩; have HF7 := hid (HF6.out.drop.on hb); clear hb; clear S8 HF6 HV6; have S9 : Hid True := hid trivial) | (go_at_call 13; revert S9; intro S9; refine (HMy.out _ pl _ (HF7.out.db 2 _ _ rfl)).mono ?_; rintro e w28 ⟨rfl, hw⟩; subst hw; clear S9 ; have S10 : Hid True := hid trivial) | (go_at_call 13; revert S10; intro S10; refine (HMy.out _ pc _ (HF7.out.db 1 _ _ rfl)).mono ?_; rintro e w28 ⟨rfl, hw⟩; subst hw; clear S10 ; have S11 : Hid True := hid trivial) | (go_at_call 14; revert S11; intro S11; refine (HSm.out _ pl.f pc.f _ (HF7.out.db 2 _ _ rfl).mem (HF7.out.db 1 _ _ rfl).mem).mono ?_; rintro e w28 ⟨rfl, hb⟩; have HF8 := hid (HF7.out.on hb); clear hb; clear S11 HF7; have S12 : Hid True := hid trivial) | (go_at_call 16; revert S12; intro S12; refine (HFr.out _ pl _ (HF8.out.db 2 _ _ rfl)).mono ?_; rintro e w29 ⟨rfl, hb⟩; have HF9 := hid (HF8.out.on hb); clear hb; clear S12 HF8; have S13 : Hid True := hid trivial) | (go_at_call 16; revert S13; intro S13; refine (HFr.out _ pc _ (HF9.out.db 1 _ _ rfl)).mono ?_; rintro e w30 ⟨rfl, hb⟩; have HFA := hid (HF9.out.on hb); clear hb; clear S13 HF9; have S14 : Hid True := hid trivial) | (go_at_call 17; revert S14; intro S14; refine (HBi.out _ pl _ (HFA.out.db 2 _ _ rfl)).mono ?_; rintro e w31 ⟨rfl, hw⟩; subst hw; clear S14 ; have S15 : Hid True := hid trivial) | (go_at_call 17; revert S15; intro S15; refine (HBi.out _ pc _ (HFA.out.db 1 _ _ rfl)).mono ?_; rintro e w31 ⟨rfl, hw⟩; subst hw; clear S15 ; have S16 : Hid True := hid trivial))
              go_roundw
              case measure => have := HJ.out; simp [intOf] <;> omega
              case rel => exact ⟨i + 1, dn, by have := HJ.out; omega, by simp, HFA⟩
            · have hk' : (r i).k < 1 ∨ (1 ≤ (r i).k ∧ 6 < (r i).k) := by
                have : ¬ (1 ≤ (r i).k ∧ (r i).k ≤ 6) := fun h => hk (decide_eq_true h)
                omega
              clear hk HE
              rcases hk' with hk | ⟨hk0, hk⟩
              all_goals go_wp2_with fail
              all_goals go_roundw
              case measure => have := HJ.out; simp [intOf] <;> omega
              case rel => exact ⟨i + 1, dc, by have := HJ.out; omega, by simp, HE0⟩
              case measure => have := HJ.out; simp [intOf] <;> omega
              case rel => exact ⟨i + 1, dc, by have := HJ.out; omega, by simp, HE0⟩
          · have him : (m : Int) ≤ (i : Int) ∨ ((i : Int) < (m : Int) ∧ (40 : Int) ≤ (i : Int)) := by omega
            clear hlt hi HR HSm HFr HBi HC
            have hpe := ptr_eq_self ⟨p.f.gm, 0, none⟩
            have U0 : Hid True := hid trivial
            rcases him with him | ⟨him, him2⟩
            all_goals go_wp2_with (first | (go_at_call 11; revert U0; intro U0; refine (HLd2.out _ p.f (HE.out.db 0 _ _ rfl).mem (some ⟨gk, 0, none⟩) _ (HKe.out _ _ _ HE.out)).mono ?_; rintro e w40 ⟨ga, gy, rfl, hd, h1, h2, hb⟩; have HG := hid (And.intro (HE.out.on hb) hd); clear hd h1 h2 hb; clear U0 HE; have U1 : Hid True := hid trivial) | (go_at_call 13; revert U1; intro U1; refine (HMy.out _ ⟨ga, gy, p.f⟩ _ HG.out.2).mono ?_; rintro e w41 ⟨rfl, hw⟩; subst hw; clear U1 ; have U2 : Hid True := hid trivial) | (go_at_call 9; revert U2; intro U2; refine (HW.out _ ⟨ga, gy, p.f⟩ _ HG.out.2).mono ?_; rintro e w42 ⟨g42, rfl, hc, hg, hb⟩; have HG2 := hid (HG.out.1.on hb); rw [HNN.out]; have HV := hid (HWe.out _ _ _ N0.out.2.2.2 HNN.out hc); clear hc hg hb; clear U2 HG; have U3 : Hid True := hid trivial) | (go_at_call 15; revert U3; intro U3; refine (HSw.out _ _ _ _ _ _ _ HV.out (HKe.out _ _ _ HG2.out) N0.out.1).mono ?_; rintro e w43 ⟨rfl, hb⟩; have HG3 := hid (HG2.out.on hb); clear hb; clear U3 HG2 HV; have U4 : Hid True := hid trivial) | (go_at_call 9; revert U4; intro U4; refine (HW.out _ p _ (HG3.out.db 0 _ _ rfl)).mono ?_; rintro e w44 ⟨g44, rfl, hc, hg, hb⟩; have HG4 := hid (HG3.out.on hb); rw [HNN.out]; have HV := hid (HWe.out _ _ _ N0.out.2.2.2 HNN.out hc); clear hc hg hb; clear U4 HG3; have U5 : Hid True := hid trivial) | (go_at_call 15; revert U5; intro U5; refine (HSw.out _ _ _ _ _ _ _ HV.out (HKe.out _ _ _ HG4.out) N0.out.1).mono ?_; rintro e w45 ⟨rfl, hb⟩; have HG5 := hid (HG4.out.on hb); clear hb; clear U5 HG4 HV; have U6 : Hid True := hid trivial))
            all_goals go_ret
            all_goals exact ⟨rfl, HG5.out.below⟩
      · skip
        have N0 : Hid (1 + 2 * d.m.ns ≤ 1000000 ∧ 0 < d.ws.length ∧ d.ws.length = 1 + 2 * d.m.ns ∧ d.Ok) := hid (by have hk := (HD.out.db 0 _ _ rfl).ok; have h1 := hk.n64; have h2 := d.ws_len hk; exact ⟨by omega, by omega, h2, hk⟩)
        go_upto_region 11 with (go_at_call 9; refine (HW.out _ p _ (HD.out.db 0 _ _ rfl)).mono ?_; rintro e w2 ⟨gw, rfl, hc, hg, hb⟩; have HD2 := hid (HD.out.list hg hc hb); clear hc hg hb HD)
        go_upto_region 12 with (refine wpList_append_w (W := w2) rfl _ _ rfl (.slice none 0 0) [] rfl (Hl.start w2) ⟨gw, 0, none⟩ (1 + 2 * d.m.ns) (1 + 2 * d.m.ns) d.ws rfl N0.out.2.2.1 (HD2.out.get 0 rfl).src (by have := N0.out.1; simp; omega) ?_; intro v3 w3 hl hgr; rw [List.nil_append] at hl; obtain ⟨gk, ck, kc, rfl, hkc, hkg, hkp⟩ := hl.cel N0.out.2.1; have HD3 := hid (HD2.out.list hkg hkc hl.below); have HKp := hid hkp; clear hl hgr hkc hkg hkp HD2)
        rw [N0.out.2.2.1]
        generalize hNN : 1 + 2 * d.m.ns = N at *
        have HNN := hid hNN
        clear hNN
        have HKe : Hid (∀ x Ds L, MD W x Ds ((gk, 27, kc) :: L) → WL x (some ⟨gk, 0, none⟩) N d.ws) := hid (fun x Ds L h => WL.cel (h.get 0 rfl) HKp.out N0.out.2.2.1 (DS.ws_rg N0.out.2.2.2))
        have HWe : Hid (∀ x (g : Nat) (d2 : DS), d2.Ok → 1 + 2 * d2.m.ns = N → Cel x g 27 (u32s d2.ws) → WL x (some ⟨g, 0, none⟩) N d2.ws) := hid (fun x g d2 hk hn hc => WL.cel hc (fun _ _ h => h) (by rw [d2.ws_len hk, hn]) (DS.ws_rg hk))
        go_upto_region 13 with (go_at_call 10; refine (HCl.out _ p _ (HD3.out.db 0 _ _ rfl)).mono ?_; rintro e w4 ⟨pc, rfl, hn⟩; have HD4 := hid (HD3.out.push hn); clear hn HD3)
        clear HCl
        simp only [List.cons_append, List.nil_append] at HD4
        have HLd2 := hid (fun w f (hw : Mem w f d.m) ao c h => HLd.out w f d hw N0.out.2.2.2 ao c h)
        rw [HNN.out] at HLd2
        go_upto_region 14 with (first | (go_at_call 12; refine (HMC.out _ p.f _ (HD4.out.db 0 _ _ rfl).mem).mono ?_; rintro e w5 ⟨f5, rfl, hn⟩; have HN5 := hid hn; have HD5 := hid (HD4.out.on hn.below); clear hn) | (go_at_call 11; refine (HLd2.out _ f5 HN5.out.mem (some ⟨gw, 0, none⟩) N (HWe.out _ gw d N0.out.2.2.2 HNN.out (HD5.out.get 1 rfl))).mono ?_; rintro e w6 ⟨gl, gx, rfl, hd, h1, h2, hb⟩; have HD6 := hid (HD4.out.push (loaded_new HN5.out hd h1 h2 hb)); clear hd h1 h2 hb))
        simp only [List.cons_append, List.nil_append] at HD6
        clear HD4 HD5 HN5 HMC
        obtain ⟨pl, hpl⟩ : ∃ pl : Dp, pl = ⟨gl, gx, f5⟩ := ⟨_, rfl⟩
        obtain rfl : pl.g = gl := by rw [hpl]
        rw [← hpl] at HD6
        clear hpl
        have HD6 : Hid (MD W w6 [(p, d), (pc, d), (pl, d)] [(gk, 27, kc)]) := hid ⟨HD6.out.db, HD6.out.new, HD6.out.apart, HD6.out.below, fun r hr => HD6.out.bag r (by simp only [List.mem_singleton] at hr; simp [hr]), fun r hr => HD6.out.bnew r (by simp only [List.mem_singleton] at hr; simp [hr]), fun i p d hi r hr => HD6.out.off i p d hi r (by simp only [List.mem_singleton] at hr; simp [hr])⟩
        have hpe := ptr_eq_other (HD6.out.db 1 _ _ rfl).mem.cel (HD6.out.db 0 _ _ rfl).mem.cel (fun e => HD6.out.apart 1 0 _ _ _ _ rfl rfl (by decide) pc.f.gm (by simp [Dp.all, Fp.all]) (by rw [e]; simp [Dp.all, Fp.all]))
        have T0 : Hid True := hid trivial
        go_upto_region 16 with (first | (go_at_call 13; revert T0; intro T0; refine (HMy.out _ pc _ (HD6.out.db 1 _ _ rfl)).mono ?_; rintro e w7 ⟨rfl, hw⟩; subst hw; clear T0 ; have T1 : Hid True := hid trivial) | (go_at_call 13; revert T1; intro T1; refine (HMy.out _ pc _ (HD6.out.db 1 _ _ rfl)).mono ?_; rintro e w7 ⟨rfl, hw⟩; subst hw; clear T1 ; have T2 : Hid True := hid trivial) | (go_at_call 14; revert T2; intro T2; refine (HSm.out _ pc.f p.f _ (HD6.out.db 1 _ _ rfl).mem (HD6.out.db 0 _ _ rfl).mem).mono ?_; rintro e w7 ⟨rfl, hb⟩; have HD7 := hid (HD6.out.on hb); clear hb; clear T2 HD6 hpe; have T3 : Hid True := hid trivial) | (go_at_call 9; revert T3; intro T3; refine (HW.out _ pc _ (HD7.out.db 1 _ _ rfl)).mono ?_; rintro e w8 ⟨g8, rfl, hc, hg, hb⟩; have HD8 := hid (HD7.out.on hb); rw [HNN.out]; have HW8 := hid (HWe.out _ _ _ N0.out.2.2.2 HNN.out hc); clear hc hg hb; clear T3 HD7; have T4 : Hid True := hid trivial) | (go_at_call 15; revert T4; intro T4; refine (HSw.out _ _ _ _ _ _ _ HW8.out (HKe.out _ _ _ HD8.out) N0.out.1).mono ?_; rintro e w9 ⟨rfl, hb⟩; have HD9 := hid (HD8.out.on hb); clear hb; clear T4 HD8 HW8; have T5 : Hid True := hid trivial) | (go_at_call 9; revert T5; intro T5; refine (HW.out _ pl _ (HD9.out.db 2 _ _ rfl)).mono ?_; rintro e w10 ⟨g10, rfl, hc, hg, hb⟩; have HDA := hid (HD9.out.on hb); rw [HNN.out]; have HWA := hid (HWe.out _ _ _ N0.out.2.2.2 HNN.out hc); clear hc hg hb; clear T5 HD9; have T6 : Hid True := hid trivial) | (go_at_call 15; revert T6; intro T6; refine (HSw.out _ _ _ _ _ _ _ HWA.out (HKe.out _ _ _ HDA.out) N0.out.1).mono ?_; rintro e w11 ⟨rfl, hb⟩; have HDB := hid (HDA.out.on hb); clear hb; clear T6 HDA HWA; have T7 : Hid True := hid trivial))
        clear T7
        go_wp2_with fail
        go_loopw [13] (fun i wr => ∃ (j : Nat) (dc : DS), j ≤ min m 40 ∧ i = .int .i64 (j : Int) ∧ Hid (MD W wr [(p, d), (pc, dc), (pl, dc)] [(gk, 27, kc)])) (fun i _ => min m 40 - (intOf i).toNat)
        case atStart => exact ⟨0, d, Nat.zero_le _, rfl, HDB⟩
        case round =>
          obtain ⟨i, dc, hi, rfl, HE⟩ := hrel
          clear HDB
          by_cases hlt : i < min m 40
          · have q1 : (i : Int) < (m : Int) := by omega
            have q2 : (i : Int) < 40 := by omega
            have qn : i < m := by omega
            obtain ⟨g, off, rfl, hg, _⟩ := HR.out.at_ (by omega)
            have HRow := hid ((HR.out.on HE.out.below).row qn)
            have HJ : Hid (i < min m 40) := hid hlt
            clear hlt hi
            go_upto_region 20 with (first | (refine wpList_load_mid rfl 29 _ rfl g (off + i * 8) rfl _ _ HRow.out under29 rfl (by rw [size29]; rfl) ?_) | (refine wpList_store_st rfl 29 _ _ rfl wr.heap.size (r i).cs rfl rfl (Cel.new wr 29 [.int .i64 0, .int .i64 0, .int .i64 0, .int .i64 0, .int .i64 0, .bool false, .int .i64 0, .int .u32 0]) size29 rfl rfl ?_; intro w20 hc hb hs; have HF := hid (HE.out.add hc hb); clear hc hb hs))
            clear HRow
            generalize wr.heap.size = g14 at *
            have c0 := (HF.out.get 0 rfl).cell 0
            simp only [Oq.cs, List.getElem?_cons_zero] at c0
            have HE0 := hid HF.out.drop
            by_cases hk : (r i).ch = true
            · obtain ⟨k1, k2⟩ := of_decide_eq_true hk
              clear hk HE
              go_upto_region 21 with fail
              have S0 : Hid True := hid trivial
              go_upto_region 22 with (first | (revert S0; intro S0; refine wpList_load_mid rfl 29 _ rfl g14 0 rfl _ _ ((HF.out.get 0 rfl).range) under29 rfl (by rw [size29]; rfl) ?_; clear S0 ; have S1 : Hid True := hid trivial) | (go_at_call 8; revert S1; intro S1; refine (HC.out _ pc _ (HF.out.db 1 _ _ rfl) (r i)).mono ?_; rintro e w21 ⟨rfl, hd, hb⟩; have HF1 := hid (HF.out.step 1 rfl hd hb); clear hd hb; simp only [List.set_cons_zero, List.set_cons_succ] at HF1; clear S1 HF c0 HE0; have S2 : Hid True := hid trivial))
              go_upto_region 24 with (first | (go_at_call 9; revert S2; intro S2; refine (HW.out _ p _ (HF1.out.db 0 _ _ rfl)).mono ?_; rintro e w22 ⟨g22, rfl, hc, hg, hb⟩; have HF2 := hid (HF1.out.on hb); rw [HNN.out]; have HV2 := hid (HWe.out _ _ _ N0.out.2.2.2 HNN.out hc); clear hc hg hb; clear S2 HF1; have S3 : Hid True := hid trivial) | (go_at_call 15; revert S3; intro S3; refine (HSw.out _ _ _ _ _ _ _ HV2.out (HKe.out _ _ _ HF2.out.drop) N0.out.1).mono ?_; rintro e w23 ⟨rfl, hb⟩; have HF3 := hid (HF2.out.on hb); clear hb; clear S3 HF2 HV2; have S4 : Hid True := hid trivial))
              go_upto_region 25 with (first | (revert S4; intro S4; refine wpList_load_mid rfl 29 _ rfl g14 0 rfl _ _ ((HF3.out.get 0 rfl).range) under29 rfl (by rw [size29]; rfl) ?_; clear S4 ; have S5 : Hid True := hid trivial) | (go_at_call 8; revert S5; intro S5; refine (HC.out _ pl _ (HF3.out.db 2 _ _ rfl) (r i)).mono ?_; rintro e w24 ⟨rfl, hd, hb⟩; have HF4 := hid (HF3.out.step 2 rfl hd hb).drop; clear hd hb; simp only [List.set_cons_zero, List.set_cons_succ] at HF4; clear S5 HF3; have S6 : Hid True := hid trivial))
              have HO4 := hid (HF4.out.db 1 _ _ rfl).ok
              generalize dc.callE (r i) = ec at *
              generalize dc.call (r i) = dn at *
              obtain ⟨N2, hN2⟩ : ∃ N2, N2 = 1 + 2 * dn.m.ns := ⟨_, rfl⟩
              have HN2 := hid hN2
              have HL2 : Hid (N2 ≤ 1000000) := hid (by have := HO4.out.n64; omega)
              clear hN2
              have HWe2 : Hid (∀ x (g : Nat), Cel x g 27 (u32s dn.ws) → WL x (some ⟨g, 0, none⟩) N2 dn.ws) := hid (fun x g hc => WL.cel hc (fun _ _ h => h) (by rw [dn.ws_len HO4.out, HN2.out]) (DS.ws_rg HO4.out))
              go_wp2_with (first | (go_at_call 9; revert S6; intro S6; refine (HW.out _ pl _ (HF4.out.db 2 _ _ rfl)).mono ?_; rintro e w25 ⟨g25, rfl, hc, hg, hb⟩; have HF5 := hid (HF4.out.list hg hc hb); rw [← HN2.out]; clear hc hg hb; clear S6 HF4; have S7 : Hid True := hid trivial) | (go_at_call 9; revert S7; intro S7; refine (HW.out _ pc _ (HF5.out.db 1 _ _ rfl)).mono ?_; rintro e w26 ⟨g26, rfl, hc, hg, hb⟩; have HF6 := hid (HF5.out.on hb); rw [← HN2.out]; have HV6 := hid (HWe2.out _ _ hc); clear hc hg hb; clear S7 HF5; have S8 : Hid True := hid trivial) | (go_at_call 15; revert S8; intro S8; refine (HSw.out _ _ _ _ _ _ _ (HWe2.out _ _ (HF6.out.get 0 rfl)) HV6.out HL2.out).mono ?_; rintro e w27 ⟨rfl, hb⟩; have HF7 := hid (HF6.out.drop.on hb); clear hb; clear S8 HF6 HV6; have S9 : Hid True := hid trivial) | (go_at_call 13; revert S9; intro S9; refine (HMy.out _ pl _ (HF7.out.db 2 _ _ rfl)).mono ?_; rintro e w28 ⟨rfl, hw⟩; subst hw; clear S9 ; have S10 : Hid True := hid trivial) | (go_at_call 13; revert S10; intro S10; refine (HMy.out _ pc _ (HF7.out.db 1 _ _ rfl)).mono ?_; rintro e w28 ⟨rfl, hw⟩; subst hw; clear S10 ; have S11 : Hid True := hid trivial) | (go_at_call 14; revert S11; intro S11; refine (HSm.out _ pl.f pc.f _ (HF7.out.db 2 _ _ rfl).mem (HF7.out.db 1 _ _ rfl).mem).mono ?_; rintro e w28 ⟨rfl, hb⟩; have HF8 := hid (HF7.out.on hb); clear hb; clear S11 HF7; have S12 : Hid True := hid trivial) | (go_at_call 16; revert S12; intro S12; refine (HFr.out _ pl _ (HF8.out.db 2 _ _ rfl)).mono ?_; rintro e w29 ⟨rfl, hb⟩; have HF9 := hid (HF8.out.on hb); clear hb; clear S12 HF8; have S13 : Hid True := hid trivial) | (go_at_call 16; revert S13; intro S13; refine (HFr.out _ pc _ (HF9.out.db 1 _ _ rfl)).mono ?_; rintro e w30 ⟨rfl, hb⟩; have HFA := hid (HF9.out.on hb); clear hb; clear S13 HF9; have S14 : Hid True := hid trivial) | (go_at_call 17; revert S14; intro S14; refine (HBi.out _ pl _ (HFA.out.db 2 _ _ rfl)).mono ?_; rintro e w31 ⟨rfl, hw⟩; subst hw; clear S14 ; have S15 : Hid True := hid trivial) | (go_at_call 17; revert S15; intro S15; refine (HBi.out _ pc _ (HFA.out.db 1 _ _ rfl)).mono ?_; rintro e w31 ⟨rfl, hw⟩; subst hw; clear S15 ; have S16 : Hid True := hid trivial))
              go_roundw
              case measure => have := HJ.out; simp [intOf] <;> omega
              case rel => exact ⟨i + 1, dn, by have := HJ.out; omega, by simp, HFA⟩
            · have hk' : (r i).k < 1 ∨ (1 ≤ (r i).k ∧ 6 < (r i).k) := by
                have : ¬ (1 ≤ (r i).k ∧ (r i).k ≤ 6) := fun h => hk (decide_eq_true h)
                omega
              clear hk HE
              rcases hk' with hk | ⟨hk0, hk⟩
              all_goals go_wp2_with fail
              all_goals go_roundw
              case measure => have := HJ.out; simp [intOf] <;> omega
              case rel => exact ⟨i + 1, dc, by have := HJ.out; omega, by simp, HE0⟩
              case measure => have := HJ.out; simp [intOf] <;> omega
              case rel => exact ⟨i + 1, dc, by have := HJ.out; omega, by simp, HE0⟩
          · have him : (m : Int) ≤ (i : Int) ∨ ((i : Int) < (m : Int) ∧ (40 : Int) ≤ (i : Int)) := by omega
            clear hlt hi HR HSm HFr HBi HC
            have hpe := ptr_eq_self ⟨p.f.gm, 0, none⟩
            have U0 : Hid True := hid trivial
            rcases him with him | ⟨him, him2⟩
            all_goals go_wp2_with (first | (go_at_call 11; revert U0; intro U0; refine (HLd2.out _ p.f (HE.out.db 0 _ _ rfl).mem (some ⟨gk, 0, none⟩) _ (HKe.out _ _ _ HE.out)).mono ?_; rintro e w40 ⟨ga, gy, rfl, hd, h1, h2, hb⟩; have HG := hid (And.intro (HE.out.on hb) hd); clear hd h1 h2 hb; clear U0 HE; have U1 : Hid True := hid trivial) | (go_at_call 13; revert U1; intro U1; refine (HMy.out _ ⟨ga, gy, p.f⟩ _ HG.out.2).mono ?_; rintro e w41 ⟨rfl, hw⟩; subst hw; clear U1 ; have U2 : Hid True := hid trivial) | (go_at_call 9; revert U2; intro U2; refine (HW.out _ ⟨ga, gy, p.f⟩ _ HG.out.2).mono ?_; rintro e w42 ⟨g42, rfl, hc, hg, hb⟩; have HG2 := hid (HG.out.1.on hb); rw [HNN.out]; have HV := hid (HWe.out _ _ _ N0.out.2.2.2 HNN.out hc); clear hc hg hb; clear U2 HG; have U3 : Hid True := hid trivial) | (go_at_call 15; revert U3; intro U3; refine (HSw.out _ _ _ _ _ _ _ HV.out (HKe.out _ _ _ HG2.out) N0.out.1).mono ?_; rintro e w43 ⟨rfl, hb⟩; have HG3 := hid (HG2.out.on hb); clear hb; clear U3 HG2 HV; have U4 : Hid True := hid trivial) | (go_at_call 9; revert U4; intro U4; refine (HW.out _ p _ (HG3.out.db 0 _ _ rfl)).mono ?_; rintro e w44 ⟨g44, rfl, hc, hg, hb⟩; have HG4 := hid (HG3.out.on hb); rw [HNN.out]; have HV := hid (HWe.out _ _ _ N0.out.2.2.2 HNN.out hc); clear hc hg hb; clear U4 HG3; have U5 : Hid True := hid trivial) | (go_at_call 15; revert U5; intro U5; refine (HSw.out _ _ _ _ _ _ _ HV.out (HKe.out _ _ _ HG4.out) N0.out.1).mono ?_; rintro e w45 ⟨rfl, hb⟩; have HG5 := hid (HG4.out.on hb); clear hb; clear U5 HG4 HV; have U6 : Hid True := hid trivial))
            all_goals go_ret
            all_goals exact ⟨rfl, HG5.out.below⟩
end Go.Proofs.Ytajkhkaidjjioaa
