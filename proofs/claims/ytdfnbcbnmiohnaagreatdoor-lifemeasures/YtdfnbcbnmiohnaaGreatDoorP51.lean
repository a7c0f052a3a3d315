import Derived.Test.YtdfnbcbnmiohnaaGreatDoorP49
import Derived.Test.YtdfnbcbnmiohnaaGreatDoorP50
import Derived.Test.YtdfnbcbnmiohnaaGreatDoorP19
namespace Go.Proofs.YtdfnbcbnmiohnaaGreatDoor
open Go.RowKit
set_option maxRecDepth 100000
set_option maxHeartbeats 8000000
attribute [-simp] Tryz.isAgg44 Tryz.sizeOf44 Tryz.zeroValue44 Tryz.isAgg55 Tryz.sizeOf55 Tryz.zeroValue55
theorem own_ow {W w0 w : World} {x : Value} {L : List Int} {k a : Int} (h : OwnW w0 w x L) (hb : W.heap.size ≤ w0.heap.size) : ∃ ao c, x = .slice ao L.length c ∧ Q.OW W w ⟨⟨k, a, L⟩, ao, c⟩ ∧ (∀ g, (Value.slice ao L.length c).ownBlock = some g → w0.heap.size ≤ g) := by
  rcases h.2 with ⟨e, hn⟩ | ⟨g, cap, cur, e, h1, h2, h3⟩
  · have : L = [] := List.length_eq_zero_iff.1 hn
    subst this
    exact ⟨none, 0, e, ⟨rfl, .inl ⟨rfl, rfl⟩⟩, fun g hg => by cases hg⟩
  · exact ⟨some ⟨g, 0, none⟩, cap, e, ⟨by simp, .inr ⟨g, cap, cur, rfl, by omega, h2, h3⟩⟩, fun g' hg => by injection hg with hg; have hg' : g = g' := hg; omega⟩
theorem HO_lt {W w : World} {v : Value} {l : List Q.Ov} (h : Q.HO W w v l) : ∀ y ∈ l, ∀ g, (Value.slice y.p y.o.ws.length y.c).ownBlock = some g → g < w.heap.size := fun y hy g hg => by
  obtain ⟨_, cur, e⟩ := Q.own_blk (h.ws y hy) hg
  exact (Array.getElem?_eq_some_iff.1 e).1
theorem LQ.set {W w : World} {p : Dp} {lv : Value} {l : List Q.Ov} {d : DS} (h : LQ W w p lv l d) {gc : Nat} {cs : List Value} (hc : Cel w gc 48 cs) (hg : W.heap.size ≤ gc) (hoff : ∀ k ∈ p.all, k < gc) (j : Nat) (u : Value) : LQ W (w.setCell ⟨gc, j, none⟩ u) p lv l d := by
  have hB : ButL [gc] w (w.setCell ⟨gc, j, none⟩ u) := .setCell w gc j u (by simp)
  refine ⟨⟨h.o.db.frame hB (fun k hk hm => by rw [List.mem_singleton] at hm; have := hoff k hk; omega), h.o.bl.trans (hB.below (by simpa using hg) h.o.bl.size), h.o.own⟩, h.lm, h.ho.butG hB (by simpa using hg) (fun k hk t cur e => ?_), h.ok, h.len⟩
  rw [List.mem_singleton] at hk
  subst hk
  have hc2 : Cel w k t cur.toList := by unfold Cel; simpa using e
  rw [hc2.ty hc]
  decide
theorem LQ.more {W w' : World} {p : Dp} {v' : Value} {l : List Q.Ov} {d : DS} {t v : Int} {ao : Option Addr} {c : Nat} (lm : LM d (Q.enc (l.map Q.Ov.o))) (ok : ∀ x ∈ l.map Q.Ov.o, x.Ok) (len : (Q.enc (l.map Q.Ov.o)).length ≤ 1026 * l.length) (hO : OD W w' p (d.ext 1 (stepO t v))) (hH : Q.HO W w' v' (l ++ [⟨stepO t v, ao, c⟩])) (hW : H.Wds (stepO t v).wds ∧ (stepO t v).wds.length ≤ 1026) (hl : l.length < 6) : LQ W w' p v' (l ++ [⟨stepO t v, ao, c⟩]) (d.ext 1 (stepO t v)) := by
  have e : (l ++ [(⟨stepO t v, ao, c⟩ : Q.Ov)]).map Q.Ov.o = l.map Q.Ov.o ++ [stepO t v] := by simp
  have e2 : Q.enc ((l ++ [(⟨stepO t v, ao, c⟩ : Q.Ov)]).map Q.Ov.o) = Q.enc (l.map Q.Ov.o) ++ (stepO t v).wds := by rw [e, Q.enc_snoc]
  refine ⟨hO, ?_, hH, ?_, ?_⟩
  · rw [e2]; exact lm.ext _ hW.1 (by have := hW.2; omega)
  · rw [e]
    intro x hx
    rw [List.mem_append, List.mem_singleton] at hx
    rcases hx with hx | rfl
    · exact ok x hx
    · exact stepO_ok t v
  · rw [e2, List.length_append, List.length_append]
    have := hW.2
    simp only [List.length_cons, List.length_nil]
    omega
theorem measures_l (W : World) (ao : Option Addr) (n cp : Nat) (q : Nat → Oq) (hq : OpsAt W ao n q) (hn : (n : Int) ≤ 4611686018427387904) (stop : Bool) (hT : H.Tab W) (hs : 1 < W.heap.size) :
    Calls Tryz.prog 4 #[.slice ao n cp, .bool stop] W fun x W' => x = .returned (.bool true) ∧ Below W.heap.size W W' := by
  have HN := hid (fun w => new_any w 4 1 (by decide) (by decide) (by decide) (by decide))
  have HD : Hid (∀ w f, NewMem W w f (MS.new 4 1) → Calls Tryz.prog 14 #[ptr f.gm] w fun e w' => ∃ g gw, e = .returned (ptr g) ∧ OD W w' ⟨g, gw, f⟩ q0) := hid (fun w f h => newO' W w f (MS.new 4 1) h (by decide))
  have HK := hid (fun w (hb : Below W.heap.size W w) => known_any w (hT.below hb hs) (by have := hb.size; omega))
  have HTs := hid (fun w p (h : OD W w p q0) => ((takeSpace_any w p q0 h.db 1 3).mono (fun e w' hh => (by obtain ⟨he, hd, hb⟩ := hh; rw [q1_c] at he; exact ⟨he, h.step hd hb⟩ : e = .returned (.int .i64 0) ∧ OD W w' p q1))))
  have HSt := hid (fun w => Q.start_any w)
  have HLa := hid (fun w p (h : OD W w p q1) => ((lay_l w p q1 h.db 1 (by decide) (by decide) (H.saveOf []) (H.saveOf_length _)).mono (fun e w' hh => (⟨hh.1, h.stepf hh.2.1 hh.2.2⟩ : e = .returned (.tuple #[]) ∧ OD W w' p q2))))
  have HLm := hid (fun w p (h : OD W w p q0) => lm_start h)
  have HEx := hid (fun w p d (h : OD W w p d) (hU : d.m.U) (o : Oq) => extend_l w p d h.db hU (h.gl hT hs) o.k 1 o.b o.t o.f o.v (by decide) (by decide))
  have HOp := hid (fun w (o : Oq) => operation_any w o.k 1 o.b o.t o.f o.v)
  have HQ := hid hq
  have HT := hid hT
  have HS := hid hs
  clear hT hs hq
  generalize q0 = Q0 at *
  generalize q1 = Q1 at *
  generalize q2 = Q2 at *
  generalize H.saveOf [] = S0 at *
  simp only [ptr, H.Ag] at *
  go_enter Tryz.func4, Tryz.ntmps4
  go_upto_region 5 with (first | (go_at_call 13; refine (HN.out _).mono ?_; rintro e w1 ⟨f, rfl, hn⟩; have N1 := hid hn; clear hn HN) | (go_at_call 14; refine (HD.out _ _ N1.out).mono ?_; rintro e w2 ⟨g, gw, rfl, hO⟩; have O2 := hid hO; have L2 := hid (HLm.out _ _ hO); clear hO N1 HD HLm))
  go_upto_region 7 with (first | (go_at_call 12; refine (HK.out _ O2.out.bl).mono ?_; rintro e w3 ⟨rfl, hb⟩; have O3 := hid (O2.out.on hb); clear hb HK) | (go_at_call 15; refine (HTs.out _ ⟨g, gw, f⟩ O3.out).mono ?_; rintro e w4 ⟨rfl, hO⟩; have O4 := hid hO; clear hO HTs))
  clear O2 O3
  go_upto_region 8 with (first | (go_at_call 17; refine (HSt.out _).mono ?_; rintro e w5 ⟨rfl, hb⟩; have O5 := hid (O4.out.on hb); clear hb HSt) | (go_at_call 16; refine (HLa.out _ ⟨g, gw, f⟩ O5.out).mono ?_; rintro e w6 ⟨rfl, hO⟩; have O6 := hid hO; clear hO HLa))
  clear O4 O5
  go_upto_region 10 with fail
  go_loopw [8, 9] (fun lv i wr => ∃ (j : Nat) (l : List Q.Ov) (d : DS), j ≤ n ∧ j ≤ 6 ∧ i = .int .i64 (j : Int) ∧ l.length = j ∧ Hid (LQ W wr ⟨g, gw, f⟩ lv l d)) (fun _ i _ => n - (intOf i).toNat)
  case atStart => exact ⟨0, [], Q2, Nat.zero_le _, Nat.zero_le _, rfl, rfl, hid ⟨O6.out, L2.out, (Q.HO.start W).on O6.out.bl, by simp, by simp [Q.enc]⟩⟩
  case round =>
    obtain ⟨j, l, d, hjn, hj6, rfl, hl, HI⟩ := hrel
    clear O6 L2
    by_cases hlt : j < n ∧ j < 6
    · obtain ⟨hlt, hlt6⟩ := hlt
      have q1 : (j : Int) < (n : Int) := by omega
      have q6 : (j : Int) < 6 := by omega
      have q2 : (j : Int) ≤ 4611686018427387904 := by omega
      obtain ⟨go, off, rfl, hgl, hr⟩ := HQ.out.at_ (by omega)
      have HR := hid (rangeAt_on (hr j hlt) hgl HI.out.o.bl)
      have HV := hid (HQ.out.v j hlt)
      have HKk : Hid (j < n ∧ j < 6 ∧ l.length = j) := hid ⟨hlt, hlt6, hl⟩
      clear hlt hlt6 hgl hr hjn hj6 HQ hl
      generalize q j = oo at *
      have HE := hid (fun w (h : OD W w ⟨g, gw, f⟩ d) => HEx.out w ⟨g, gw, f⟩ d h HI.out.lm.U oo)
      have HP := hid (fun w => HOp.out w oo)
      have HW := hid (stepO_wds oo.t oo.v HV.out.v0 HV.out.v1)
      clear HEx HOp
      obtain ⟨ok, oa, ob, ot, of, ov⟩ := oo
      simp only [opV, opC, Oq.cs] at *
      go_upto_region 13 with (first | (refine wpList_load_mid rfl 48 _ rfl go (off + j * 6) rfl _ _ HR.out under48 rfl (by rw [size48]; rfl) ?_))
      have C0 := hid (Cel.new wr 48 [.int .i64 ok, .int .u32 oa, .int .u32 ob, .int .i64 ot, .int .i64 of, .int .u32 ov])
      have I0 := hid (HI.out.on (below_one wr (.cells #[.int .i64 ok, .int .u32 oa, .int .u32 ob, .int .i64 ot, .int .i64 of, .int .u32 ov] 48)))
      have HOff := hid HI.out.o.db.lt
      have HWo := hid HI.out.o.bl.size
      clear HI HR
      generalize wr.alloc _ = w7 at *
      generalize wr.heap.size = gc at *
      have c1 := C0.out.cell 1
      have f1 := C0.out.free 1
      simp only [List.getElem?_cons_zero, List.getElem?_cons_succ] at c1
      go_upto_region 14 with fail
      have C1 := hid (C0.out.setCell 1 (.int .u32 1))
      have I1 := hid (I0.out.set C0.out HWo.out HOff.out 1 (.int .u32 1))
      clear C0 I0 c1 f1
      simp only [List.set_cons_zero, List.set_cons_succ] at C1
      generalize World.setCell _ _ _ = w8 at *
      go_upto_region 15 with (first | (refine wpList_load_mid rfl 48 _ rfl gc 0 rfl _ _ C1.out.range under48 rfl (by rw [size48]; rfl) ?_) | (go_at_call 18; refine (HE.out _ I1.out.o).mono ?_; rintro e w9 ⟨rfl, hd, hb⟩; have X9 := hid (I1.out.ext hd hb); have C9 := hid (C1.out.but hb (fun hm => by have := HOff.out gc (Dp.w_all (Dp.fw_w _ _ hm)); omega)); clear hd hb))
      have HLM := hid (And.intro I1.out.lm (And.intro I1.out.ok I1.out.len))
      clear I1 C1 HE
      have HLt := hid (HO_lt X9.out.2)
      have hcap : (l.length + 1) * 40 ≤ 140737488355328 := by have := HKk.out; omega
      go_wp2_with (first | (refine wpList_load_mid rfl 48 _ rfl gc 0 rfl _ _ C9.out.range under48 rfl (by rw [size48]; rfl) ?_) | (go_at_call 19; refine (HP.out _).mono ?_; rintro e wa ⟨xv, rfl, hO, hb⟩; obtain ⟨ya, yc, rfl, hY, hYb⟩ := own_ow (W := W) (k := wi ot 1 4) (a := ov) hO X9.out.1.bl.size; have Xa := hid (And.intro (X9.out.1.on hb) (X9.out.2.on hb)); have Ya := hid (And.intro hY hYb); clear hb hO hY hYb C9) | (at_builtin; refine Q.wpList_append_o2 (W := W) rfl _ _ rfl u8 l rfl (Xa.out.2.on (below_one _ _)) wa.heap.size ⟨⟨wi ot 1 4, ov, opW (wi ot 1 4) ov⟩, ya, yc⟩ rfl (Cel.new wa 53 [.int .i64 (wi ot 1 4), .int .u32 ov, .slice ya (opW (wi ot 1 4) ov).length yc]) (H.ownsRow_below Ya.out.1 (below_one _ _)) (fun z hz gz hg1 hg2 => by have h1 := HLt.out z hz gz hg1; have h2 := Ya.out.2 gz hg2; omega) hcap ?_; intro v' wb hH hgr; have Xb := hid (And.intro (OD.grown (Xa.out.1.on (below_one _ _)) (Xa.out.2.on (below_one _ _)).own hgr) hH); clear hH hgr))
      go_roundw
      case measure => have := HKk.out; simp [intOf] <;> omega
      case rel => exact ⟨j + 1, _, _, by have := HKk.out; omega, by have := HKk.out; omega, by simp, by simp; exact HKk.out.2.2, hid (LQ.more (t := ot) (v := ov) (ao := ya) (c := yc) HLM.out.1 HLM.out.2.1 HLM.out.2.2 Xb.out.1 Xb.out.2 HW.out (by have := HKk.out; omega))⟩
    · clear HQ HEx HOp
      have hcond : (n : Int) ≤ (j : Int) ∨ ((j : Int) < (n : Int) ∧ (6 : Int) ≤ (j : Int)) := by omega
      have hL6 : (Q.enc (l.map Q.Ov.o)).length ≤ 6156 := by have := HI.out.len; omega
      have HMs : Hid (∀ w, LQ W w ⟨g, gw, f⟩ u8 l d → ∃ la lc, u8 = .slice la l.length lc ∧ Calls Tryz.prog 20 #[.slice la l.length lc] w fun e W' => e = .returned (.tuple #[.agg (u32s (H.sumW (Q.enc (l.map Q.Ov.o)))).toArray, .int .i64 0]) ∧ Below w.heap.size w W') := hid (fun w hI => by
        obtain ⟨la, lc, h1, h2⟩ := hI.ho.ol
        exact ⟨la, lc, h1, Q.measure_ok w (HT.out.below hI.o.bl HS.out) (by have := hI.o.bl.size; have := HS.out; omega) la l.length lc l rfl (by first | exact h2 | exact h2.1 | exact h2.2) (by omega) hI.ok (by omega)⟩)
      have HLm := hid (And.intro HI.out.lm (show (Q.enc (l.map Q.Ov.o)).length ≤ 36028797018963968 by omega))
      obtain ⟨la, lc, hlv, hM⟩ := HMs.out _ HI.out
      subst hlv
      have HM := hid hM
      have O0 := hid HI.out.o
      have HCl := hid (fun w (h : OD W w ⟨g, gw, f⟩ d) => clone_any w f d.m h.db.mem)
      have hFl : (H.sumW (Q.enc (l.map Q.Ov.o))).length = 8 := H.sumW_length _
      obtain ⟨Y, hY⟩ : ∃ Y : List Int, Y = List.replicate 8 0 := ⟨_, rfl⟩
      have hYl : Y.length = 8 := by rw [hY]; simp
      have hy : ∀ w, (zeroValue 55).run Tryz.prog w = .ok (.agg (Y.map (Value.int .u32)).toArray) w := fun w => by rw [Tryz.zeroValue55, hY]; rfl
      clear hY hM HMs HI hL6 hlt hjn hj6 hl
      generalize Q.enc (l.map Q.Ov.o) = EL at *
      generalize hFL : H.sumW EL = FL at *
      have HFL := hid hFL
      clear hFL
      simp only [ptr] at *
      rcases hcond with h1 | ⟨h1, h2⟩
      all_goals
        go_upto_region 18 with (first | (go_at_call 20; refine HM.out.mono ?_; rintro e x1 ⟨rfl, hb⟩; have O1 := hid (O0.out.on hb); clear hb O0) | (refine wpList_store_st rfl 55 _ _ rfl x1.heap.size (u32s FL) rfl rfl (Cel.new x1 55 (u32s Y)) (by rw [u32s, List.length_map, hFl]; exact size55) (by simp [u32s, hYl, hFl]) (List.all_eq_true.2 (fun v hv => by simp only [u32s, List.mem_map] at hv; obtain ⟨x, _, rfl⟩ := hv; rfl)) ?_; intro x2 hc hb hs; have R2 := hid (RO.box O1.out hc hb); clear hc hb hs O1) | (go_at_call 21; refine (HCl.out _ R2.out.o).mono ?_; rintro e x3 ⟨f', rfl, hn⟩; have T3 := hid (TW.of R2.out hn); clear hn R2))
        generalize x1.heap.size = gb at *
        cases stop with
        | true =>
          have H1 := hid (fun w h => tStop W w ⟨g, gw, f⟩ d [(gb, 55, u32s FL)] f' d.m h 1 HLm.out.1.ns HLm.out.1.E)
          have H2 := hid (fun w h => tFinal4 W w HT.out HS.out ⟨g, gw, f⟩ (d.stD 1) [(gb, 55, u32s FL)] f' d.m h (e4_stU HLm.out.1.ns HLm.out.1.E HLm.out.1.U) 3 (by rw [(e4_stop HLm.out.1.ns HLm.out.1.E).1]; exact HLm.out.1.ns) (e4_stop HLm.out.1.ns HLm.out.1.E).2 (by decide))
          have H3 : Hid (∀ w e, DS.Sim (d.stD 1) e → TW W w ⟨g, gw, f⟩ e [(gb, 55, u32s FL)] f' d.m → Calls Tryz.prog 24 #[ptr f.gm, ptr f'.gm] w fun x w' => x = .returned (.bool true) ∧ Below W.heap.size W w') := hid (fun w e hS h => (same_any w f e.m h.r.o.db.mem f' d.m h.c).mono (fun x w' hh => ⟨by rw [hh.1, ← (e4_stop HLm.out.1.ns HLm.out.1.E).1, hS.symm.same], below_on h.r.o.bl hh.2⟩))
          simp only [ptr] at *
          go_wp2_with (first | (go_at_call 22; refine (H1.out _ T3.out).mono ?_; rintro e x4 ⟨rfl, hT4⟩; have T4 := hid hT4; clear hT4 T3) | (go_at_call 23; refine (H2.out _ T4.out).mono ?_; rintro e x5 ⟨e5, rfl, hS, hT5⟩; have T5 := hid hT5; have S5 := hid hS; clear hT5 hS T4) | (go_at_call 24; refine (H3.out _ _ S5.out T5.out).mono ?_; rintro e x6 ⟨rfl, hB⟩; have BZ := hid hB; clear hB))
          go_returns
          exact ⟨rfl, BZ.out⟩
        | false =>
          have H1 := hid (fun w h => tFinal0 W w HT.out HS.out ⟨g, gw, f⟩ d [(gb, 55, u32s FL)] f' d.m h EL HLm.out.1 HLm.out.2)
          have H2 : Hid (∀ w e, DS.Sim (d.fiD 1) e → TW W w ⟨g, gw, f⟩ e [(gb, 55, u32s FL)] f' d.m → Calls Tryz.prog 23 #[ptr g, .int .u32 1] w fun x w' => ∃ e', x = .returned (.int .u32 4) ∧ DS.Sim (d.fiD 1) e' ∧ TW W w' ⟨g, gw, f⟩ e' [(gb, 55, u32s FL)] f' d.m) := hid (fun w e hS h => (tFinal4 W w HT.out HS.out ⟨g, gw, f⟩ e _ f' d.m h (hS.U (HLm.out.1.fiU HLm.out.2)) 2 (hS.ns.trans (HLm.out.1.fid HLm.out.2).2.2) (hS.E.trans (HLm.out.1.fid HLm.out.2).1) (by decide)).mono (fun x w' hh => by obtain ⟨e', a1, a2, a3⟩ := hh; exact ⟨e', a1, hS.trans a2, a3⟩))
          have H3 : Hid (∀ w e, DS.Sim (d.fiD 1) e → TW W w ⟨g, gw, f⟩ e [(gb, 55, u32s FL)] f' d.m → Calls Tryz.prog 22 #[ptr g, .int .u32 1] w fun x w' => x = .returned (.int .u32 0) ∧ TW W w' ⟨g, gw, f⟩ (e.stD 1) [(gb, 55, u32s FL)] f' d.m) := hid (fun w e hS h => tStop W w ⟨g, gw, f⟩ e _ f' d.m h 2 (hS.ns.trans (HLm.out.1.fid HLm.out.2).2.2) (hS.E.trans (HLm.out.1.fid HLm.out.2).1))
          have H4 : Hid (∀ w e, DS.Sim (d.fiD 1) e → TW W w ⟨g, gw, f⟩ (e.stD 1) [(gb, 55, u32s FL)] f' d.m → Calls Tryz.prog 23 #[ptr g, .int .u32 1] w fun x w' => ∃ e', x = .returned (.int .u32 4) ∧ (∀ o, e'.m.word true 1 o = if 3 ≤ o ∧ o < 11 then FL.getD (o - 3).toNat 0 else if 11 ≤ o ∧ o < 37 then 0 else d.m.word true 1 o) ∧ TW W w' ⟨g, gw, f⟩ e' [(gb, 55, u32s FL)] f' d.m) := hid (fun w e hS h => by
            have hn := hS.ns.trans (HLm.out.1.fid HLm.out.2).2.2
            have hE := hS.E.trans (HLm.out.1.fid HLm.out.2).1
            obtain ⟨s1, s2⟩ := e4_stop hn hE
            refine (tFinal4 W w HT.out HS.out ⟨g, gw, f⟩ (e.stD 1) _ f' d.m h (e4_stU hn hE (hS.U (HLm.out.1.fiU HLm.out.2))) 3 (by rw [s1]; exact hn) s2 (by decide)).mono (fun x w' hh => ?_)
            obtain ⟨e', a1, a2, a3⟩ := hh
            refine ⟨e', a1, fun o => ?_, a3⟩
            rw [a2.word, s1, ← HFL.out]
            exact HLm.out.1.word HLm.out.2 hS o)
          simp only [ptr] at *
          go_upto_region 23 with (first | (revert H1; intro H1; go_at_call 23; refine (H1.out _ T3.out).mono ?_; rintro e x4 ⟨e4, rfl, hS, hT4⟩; have T4 := hid hT4; have S4 := hid hS; clear hT4 hS T3 H1) | (revert H2; intro H2; go_at_call 23; refine (H2.out _ _ S4.out T4.out).mono ?_; rintro e x5 ⟨e5, rfl, hS, hT5⟩; have T5 := hid hT5; have S5 := hid hS; clear hT5 hS T4 S4 H2) | (go_at_call 22; refine (H3.out _ _ S5.out T5.out).mono ?_; rintro e x6 ⟨rfl, hT6⟩; have T6 := hid hT6; clear hT6 T5 H3) | (go_at_call 23; refine (H4.out _ _ S5.out T6.out).mono ?_; rintro e x7 ⟨e7, rfl, hw, hT7⟩; have T7 := hid hT7; have W7 := hid hw; clear hT7 hw T6 S5 H4))
          go_upto_region 24 with fail
          have HFr := hid (fun w => lframe_any w 1 (by decide) (by decide))
          have HPm := hid (fun w (h : TW W w ⟨g, gw, f⟩ e7 [(gb, 55, u32s FL)] f' d.m) (off : Int) => peek_any w f e7.m h.r.o.db.mem true 1 off)
          have HPw := hid (fun w (h : TW W w ⟨g, gw, f⟩ e7 [(gb, 55, u32s FL)] f' d.m) (off : Int) => peek_any w f' d.m h.c true 1 off)
          simp only [ptr, fr] at HFr HPm HPw
          go_loopw [13] (fun i wr2 => ∃ k : Nat, k ≤ 1024 ∧ i = .int .i64 (k : Int) ∧ Hid (TW W wr2 ⟨g, gw, f⟩ e7 [(gb, 55, u32s FL)] f' d.m)) (fun i _ => 1024 - (intOf i).toNat)
          case atStart => exact ⟨0, Nat.zero_le _, rfl, T7⟩
          case round =>
            obtain ⟨k, hk, rfl, U0⟩ := hrel
            clear T7
            by_cases hlt : k < 1024
            · have z1 : (k : Int) < 1024 := by omega
              have kz2 : IntKind.wrap .i64 ((k : Int) + 1) = (k : Int) + 1 := by rw [IntKind.wrap_i64]; omega
              have HK := hid hlt
              have hw := W7.out (k : Int)
              clear hlt hk W7
              by_cases a1 : (3 : Int) ≤ (k : Int) ∧ (k : Int) < 11
              · rw [if_pos a1] at hw
                obtain ⟨a2, a3⟩ := a1
                rw [show ((k : Int) - 3).toNat = k - 3 by omega] at hw
                have HW := hid hw
                clear hw
                go_upto_region 27 with (first | (go_at_call 26; refine (HFr.out _).mono ?_; rintro e y1 ⟨rfl, hb⟩; have U1 := hid (U0.out.on hb); clear hb U0) | (go_at_call 25; refine (HPw.out _ U1.out _).mono ?_; rintro e y2 ⟨rfl, hb⟩; have U2 := hid (U1.out.on hb); clear hb U1))
                have kz3 : IntKind.wrap .i64 ((k : Int) - 3) = (k : Int) - 3 := by rw [IntKind.wrap_i64]; omega
                have b1 : 0 ≤ (k : Int) - 3 := by omega
                have b2 : (k : Int) - 3 < 8 := by omega
                have cc := u32s_at (U2.out.r.get 0 rfl) (k - 3) (by omega)
                go_upto_region 31 with fail
                go_wp2_with (first | (go_at_call 26; refine (HFr.out _).mono ?_; rintro e y3 ⟨rfl, hb⟩; have U3 := hid (U2.out.on hb); clear hb U2) | (go_at_call 25; refine (HPm.out _ U3.out _).mono ?_; rintro e y4 ⟨rfl, hb⟩; have U4 := hid (U3.out.on hb); clear hb U3; rw [HW.out]))
                go_roundw
                case measure => have := HK.out; simp [intOf] <;> omega
                case rel => exact ⟨k + 1, HK.out, by simp, U4⟩
              · rw [if_neg a1] at hw
                by_cases a2 : (11 : Int) ≤ (k : Int) ∧ (k : Int) < 37
                · rw [if_pos a2] at hw
                  obtain ⟨a3, a4⟩ := a2
                  have a5 : (3 : Int) ≤ (k : Int) := by omega
                  have HW := hid hw
                  clear hw a1
                  go_upto_region 27 with (first | (go_at_call 26; refine (HFr.out _).mono ?_; rintro e y1 ⟨rfl, hb⟩; have U1 := hid (U0.out.on hb); clear hb U0) | (go_at_call 25; refine (HPw.out _ U1.out _).mono ?_; rintro e y2 ⟨rfl, hb⟩; have U2 := hid (U1.out.on hb); clear hb U1))
                  go_upto_region 31 with fail
                  go_wp2_with (first | (go_at_call 26; refine (HFr.out _).mono ?_; rintro e y3 ⟨rfl, hb⟩; have U3 := hid (U2.out.on hb); clear hb U2) | (go_at_call 25; refine (HPm.out _ U3.out _).mono ?_; rintro e y4 ⟨rfl, hb⟩; have U4 := hid (U3.out.on hb); clear hb U3; rw [HW.out]))
                  go_roundw
                  case measure => have := HK.out; simp [intOf] <;> omega
                  case rel => exact ⟨k + 1, HK.out, by simp, U4⟩
                · rw [if_neg a2] at hw
                  have HW := hid hw
                  clear hw
                  have a6 : (k : Int) < 3 ∨ (37 : Int) ≤ (k : Int) := by omega
                  clear a1 a2
                  rcases a6 with a6 | a6
                  · have a7 : (k : Int) < 11 := by omega
                    go_upto_region 27 with (first | (go_at_call 26; refine (HFr.out _).mono ?_; rintro e y1 ⟨rfl, hb⟩; have U1 := hid (U0.out.on hb); clear hb U0) | (go_at_call 25; refine (HPw.out _ U1.out _).mono ?_; rintro e y2 ⟨rfl, hb⟩; have U2 := hid (U1.out.on hb); clear hb U1))
                    go_upto_region 31 with fail
                    go_wp2_with (first | (go_at_call 26; refine (HFr.out _).mono ?_; rintro e y3 ⟨rfl, hb⟩; have U3 := hid (U2.out.on hb); clear hb U2) | (go_at_call 25; refine (HPm.out _ U3.out _).mono ?_; rintro e y4 ⟨rfl, hb⟩; have U4 := hid (U3.out.on hb); clear hb U3; rw [HW.out]))
                    go_roundw
                    case measure => have := HK.out; simp [intOf] <;> omega
                    case rel => exact ⟨k + 1, HK.out, by simp, U4⟩
                  · have a7 : (11 : Int) ≤ (k : Int) := by omega
                    have a8 : (3 : Int) ≤ (k : Int) := by omega
                    go_upto_region 27 with (first | (go_at_call 26; refine (HFr.out _).mono ?_; rintro e y1 ⟨rfl, hb⟩; have U1 := hid (U0.out.on hb); clear hb U0) | (go_at_call 25; refine (HPw.out _ U1.out _).mono ?_; rintro e y2 ⟨rfl, hb⟩; have U2 := hid (U1.out.on hb); clear hb U1))
                    go_upto_region 31 with fail
                    go_wp2_with (first | (go_at_call 26; refine (HFr.out _).mono ?_; rintro e y3 ⟨rfl, hb⟩; have U3 := hid (U2.out.on hb); clear hb U2) | (go_at_call 25; refine (HPm.out _ U3.out _).mono ?_; rintro e y4 ⟨rfl, hb⟩; have U4 := hid (U3.out.on hb); clear hb U3; rw [HW.out]))
                    go_roundw
                    case measure => have := HK.out; simp [intOf] <;> omega
                    case rel => exact ⟨k + 1, HK.out, by simp, U4⟩
            · obtain rfl : k = 1024 := by omega
              clear hlt hk
              rw [show ((1024 : Nat) : Int) = 1024 from rfl]
              have hw0 : e7.m.word true 1 0 = 3 := (W7.out 0).trans ((if_neg (by decide)).trans ((if_neg (by decide)).trans HLm.out.1.w0))
              have hw1 : e7.m.word true 1 1 = 0 := (W7.out 1).trans ((if_neg (by decide)).trans ((if_neg (by decide)).trans HLm.out.1.w1))
              have HP0 := hid (fun w h => HPm.out w h 0)
              have HP1 := hid (fun w h => HPm.out w h 1)
              rw [hw0] at HP0
              rw [hw1] at HP1
              have HF1 := HFr
              clear hw0 hw1 HPm HPw W7
              go_wp2_with (first | (revert HF1; intro HF1; go_at_call 26; refine (HF1.out _).mono ?_; rintro e y1 ⟨rfl, hb⟩; have U1 := hid (U0.out.on hb); clear hb HF1 U0) | (revert HP0; intro HP0; go_at_call 25; refine (HP0.out _ U1.out).mono ?_; rintro e y2 ⟨rfl, hb⟩; have U2 := hid (U1.out.on hb); clear hb HP0 U1) | (go_at_call 26; refine (HFr.out _).mono ?_; rintro e y3 ⟨rfl, hb⟩; have U3 := hid (U2.out.on hb); clear hb U2 HFr) | (go_at_call 25; refine (HP1.out _ U3.out).mono ?_; rintro e y4 ⟨rfl, hb⟩; have U4 := hid (U3.out.on hb); clear hb HP1 U3))
              go_returns
              exact ⟨rfl, U4.out.r.o.bl⟩
end Go.Proofs.YtdfnbcbnmiohnaaGreatDoor
