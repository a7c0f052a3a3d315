import Derived.Test.YtdfnbcbnmiohnaaGreatDoorP44
import Derived.Test.YtdfnbcbnmiohnaaGreatDoorP01
import Derived.Test.YtdfnbcbnmiohnaaGreatDoorP42
import Derived.Test.YtdfnbcbnmiohnaaGreatDoorP45
namespace Go.Proofs.YtdfnbcbnmiohnaaGreatDoor
open Go.RowKit
set_option maxHeartbeats 8000000
set_option maxRecDepth 100000
structure NP (W w : World) (p : Dp) (r : Rp) (d e : DS) : Prop where
  own : DB w p d
  doc : RDB w r e
  bl : Below W.heap.size W w
  pn : ∀ k ∈ p.all, W.heap.size ≤ k
  rn : ∀ k ∈ r.all, W.heap.size ≤ k
  ap : ∀ k ∈ p.all, k ∉ r.all
  sim : DS.Sim d e
theorem NP.on {W w w' : World} {p : Dp} {r : Rp} {d e : DS} (h : NP W w p r d e) (hb : Below w.heap.size w w') : NP W w' p r d e := ⟨h.own.on hb, h.doc.on hb, below_on h.bl hb, h.pn, h.rn, h.ap, h.sim⟩
theorem NP.tp {W w w' : World} {p : Dp} {r q : Rp} {d e d' e' : DS} {L : List (Nat × TypeId × List Value)} (h : NP W w p r d e) (k : TP w w' p r q d' e' L) (hs : DS.Sim d' e') : NP W w' p q d' e' := by
  have h1 := h.bl.size
  refine ⟨k.own, k.doc, h.bl.trans (k.but.below (B := W.heap.size) (fun x hx => ?_) h1), h.pn, fun x hx => ?_, k.ap, hs⟩
  · rcases List.mem_append.1 hx with hx | hx
    · exact h.pn x hx
    · exact h.rn x hx
  · rcases k.sub x hx with hx | hx
    · exact h.rn x hx
    · omega
theorem NP.gl {W w : World} {p : Dp} {r : Rp} {d e : DS} (h : NP W w p r d e) (hT : H.Tab W) (hs : 1 < W.heap.size) : Gl w p :=
  ⟨hT.below (h.bl.mono (show 2 ≤ W.heap.size by omega)) (by decide), by have := h.bl.size; omega, fun k hk => by have := h.pn k hk; omega⟩
theorem NP.gr {W w : World} {p : Dp} {r : Rp} {d e : DS} (h : NP W w p r d e) (hR : H.TabR W) (hs : 1 < W.heap.size) : ∀ u, ButL r.all w u → H.TabR u ∧ 1 < u.heap.size := fun u hb => by
  have hb2 := h.bl.trans (hb.below (B := W.heap.size) h.rn h.bl.size)
  exact ⟨Q.tabR_below hR hb2 hs, by have := hb2.size; omega⟩
structure St (W w : World) (p : Dp) (r q : Rp) : Prop where
  but : ButL (p.all ++ r.all) W w
  sub : ∀ k ∈ q.all, k ∈ r.all ∨ W.heap.size ≤ k
  g : q.g = r.g
theorem tch_0 {k : Int} (h : k = 5 ∨ k = 7) : wrap64 0 = tch k := by rcases h with rfl | rfl <;> simp [wrap64, tch]
theorem tch_6 : wrap64 ((60 : Nat) : Int) = tch 6 := by simp [wrap64, tch]
theorem tch_8 : tch 8 = 1024 := by simp [tch]
theorem tp_begin {W : World} {p : Dp} {r : Rp} {d e : DS} (h : DB W p d) (h' : RDB W r e) (ha : ∀ k ∈ p.all, k ∉ r.all) (k a b t f v : Int) : TP W ((W.alloc (.cells [ptr p.g, ptr r.g].toArray 77)).alloc (.cells (opC k a b t f v).toArray 48)) p r r d e [(W.heap.size + 1, 48, opC k a b t f v), (W.heap.size, 77, [ptr p.g, ptr r.g])] := by
  have := ((TP.start h h' ha).box 77 [ptr p.g, ptr r.g]).box 48 (opC k a b t f v)
  simp only [World.size_alloc] at this
  exact this
theorem srC_rg (d : DS) (w q : Int) : 0 ≤ d.srC w q ∧ d.srC w q < 64 := by
  unfold DS.srC
  rcases saE_cases d w with h | h | h
  · rw [h]
    split
    · exact ⟨by decide, by decide⟩
    · split
      · exact ⟨by decide, by decide⟩
      · split
        · split <;> exact ⟨by decide, by decide⟩
        · exact ⟨by decide, by decide⟩
  · rw [h, if_pos (by decide)]; exact ⟨by decide, by decide⟩
  · rw [h, if_pos (by decide)]; exact ⟨by decide, by decide⟩
theorem saE_rg (d : DS) (w : Int) : 0 ≤ d.saE w ∧ d.saE w < 64 := by
  rcases saE_cases d w with h | h | h <;> rw [h] <;> exact ⟨by decide, by decide⟩
theorem fiC_rg (d : DS) (w : Int) : 0 ≤ d.fiC w ∧ d.fiC w < 64 := by
  unfold DS.fiC
  rcases saE_cases d w with h | h | h
  · rw [h]
    simp only [ne_eq, not_true_eq_false, if_false]
    split
    · split <;> exact ⟨by decide, by decide⟩
    · exact ⟨by decide, by decide⟩
  · rw [h, if_pos (by decide)]; exact ⟨by decide, by decide⟩
  · rw [h, if_pos (by decide)]; exact ⟨by decide, by decide⟩
theorem rmC_rg (d : DS) (q : Int) : 0 ≤ d.rmC q ∧ d.rmC q < 64 := by
  unfold DS.rmC
  split
  · exact rmT_lt d _
  · exact ⟨by decide, by decide⟩
theorem call_5 (W0 W : World) (p : Dp) (r : Rp) (d e : DS) (N : Nat) (hN : N ≤ 8) (h : NP W0 W p r d e) (hi : LI N d) (hT : H.Tab W0) (hR : H.TabR W0) (h2 : 1 < W0.heap.size) (k a b t f v : Int) (a0 : 0 ≤ a) (a1 : a < 4294967296) (b0 : 0 ≤ b) (b1 : b < 4294967296) (hk : k = 5) :
    Calls Tryz.prog 38 #[.agg #[ptr p.g, ptr r.g], opV k a b t f v] W fun x W' => ∃ c q d' e', x = .returned (.tuple #[.int .u32 c, .int .i64 c]) ∧ (0 ≤ c ∧ c < 64) ∧ St W W' p r q ∧ NP W0 W' p q d' e' ∧ LI N d' ∧ (c = 0 → wrap64 (d'.m.c - d.m.c) = tch k) := by
  have T0 := hid (tp_begin h.own h.doc h.ap k a b t f v)
  have HNP := hid (fun w' q d' e' L (kk : TP W w' p r q d' e' L) (hs : DS.Sim d' e') => h.tp kk hs)
  have HGq := hid (fun w' q d' e' L (kk : TP W w' p r q d' e' L) => St.mk kk.but kk.sub kk.g)
  have HR := hid (fun u (hw : RDB u r e) => rspare_any u r e hw a b a0 a1 b0 b1 (fun hs _ => (hi.sim h.sim).more hN hs))
  have HA := hid (fun u (hw : DB u p d) => spare_any u p d hw a b a0 a1 b0 b1)
  rw [h.sim.srC] at HR
  have HS := hid (h.sim.srD a b)
  have HL := hid (hi.spare a b h.own.ok)
  have HM := hid (srD_c d a b)
  have HC := hid (srC_rg d a b)
  have _u := And.intro hN (And.intro hT (And.intro hR (And.intro h2 (And.intro b0 (And.intro b1 (And.intro a0 a1))))))
  clear _u
  clear h hi hT hR h2 a0 a1 b0 b1 hN
  subst hk
  simp only [opV, opC, ptr] at *
  go_enter Tryz.func38, Tryz.ntmps38
  go_upto_region 1 with fail
  generalize World.alloc _ _ = X at *
  generalize W.heap.size = g2 at *
  generalize g2 + 1 = g3 at *
  obtain ⟨x0, x1⟩ := T0.out.pair 1 rfl
  have y0 := (T0.out.get 0 rfl).cell 0
  have y1 := (T0.out.get 0 rfl).cell 1
  have y2 := (T0.out.get 0 rfl).cell 2
  simp only [xzD, xzE] at y0 y1 y2
  go_upto_region 4 with (go_at_call 76; refine (HR.out _ T0.out.doc).mono ?_; rintro e1 w1 ⟨rfl, hg⟩; have T1 := hid (T0.out.stepR hg); clear hg T0 x0 x1 y0 y1 y2)
  obtain ⟨x0, x1⟩ := T1.out.pair 1 rfl
  have y1 := (T1.out.get 0 rfl).cell 1
  have y2 := (T1.out.get 0 rfl).cell 2
  simp only [xzD, xzE] at y1 y2
  go_wp2_with (go_at_call 44; refine (HA.out _ T1.out.own).mono ?_; rintro e2 w2 ⟨rfl, hd, hb⟩; have T2 := hid (T1.out.stepA hd hb); clear hd hb T1 x0 x1 y1 y2)
  go_returns
  exact ⟨_, _, _, _, rfl, HC.out, HGq.out _ _ _ _ _ T2.out, HNP.out _ _ _ _ _ T2.out HS.out, HL.out, fun _ => by rw [HM.out, Int.sub_self]; exact tch_0 (.inl rfl)⟩
theorem call_7 (W0 W : World) (p : Dp) (r : Rp) (d e : DS) (N : Nat) (hN : N ≤ 8) (h : NP W0 W p r d e) (hi : LI N d) (hT : H.Tab W0) (hR : H.TabR W0) (h2 : 1 < W0.heap.size) (k a b t f v : Int) (a0 : 0 ≤ a) (a1 : a < 4294967296) (b0 : 0 ≤ b) (b1 : b < 4294967296) (hk : k = 7) :
    Calls Tryz.prog 38 #[.agg #[ptr p.g, ptr r.g], opV k a b t f v] W fun x W' => ∃ c q d' e', x = .returned (.tuple #[.int .u32 c, .int .i64 c]) ∧ (0 ≤ c ∧ c < 64) ∧ St W W' p r q ∧ NP W0 W' p q d' e' ∧ LI N d' ∧ (c = 0 → wrap64 (d'.m.c - d.m.c) = tch k) := by
  have T0 := hid (tp_begin h.own h.doc h.ap k a b t f v)
  have HNP := hid (fun w' q d' e' L (kk : TP W w' p r q d' e' L) (hs : DS.Sim d' e') => h.tp kk hs)
  have HGq := hid (fun w' q d' e' L (kk : TP W w' p r q d' e' L) => St.mk kk.but kk.sub kk.g)
  have HR := hid (fun u (hw : RDB u r e) => rstop_any u r e hw a a0 a1)
  have HA := hid (fun u (hw : DB u p d) => stop_any u p d hw a a0 a1)
  rw [h.sim.saE] at HR
  have HS := hid (h.sim.stD a)
  have HL := hid (hi.stop a h.own.ok)
  have HM := hid (stD_c d a)
  have HC := hid (saE_rg d a)
  have _u := And.intro hN (And.intro hT (And.intro hR (And.intro h2 (And.intro b0 (And.intro b1 (And.intro a0 a1))))))
  clear _u
  clear h hi hT hR h2 a0 a1 b0 b1 hN
  subst hk
  simp only [opV, opC, ptr] at *
  go_enter Tryz.func38, Tryz.ntmps38
  go_upto_region 1 with fail
  generalize World.alloc _ _ = X at *
  generalize W.heap.size = g2 at *
  generalize g2 + 1 = g3 at *
  obtain ⟨x0, x1⟩ := T0.out.pair 1 rfl
  have y0 := (T0.out.get 0 rfl).cell 0
  have y1 := (T0.out.get 0 rfl).cell 1
  have y2 := (T0.out.get 0 rfl).cell 2
  simp only [xzD, xzE] at y0 y1 y2
  go_upto_region 10 with (go_at_call 78; refine (HR.out _ T0.out.doc).mono ?_; rintro e1 w1 ⟨rfl, hg⟩; have T1 := hid (T0.out.stepR hg); clear hg T0 x0 x1 y0 y1 y2)
  obtain ⟨x0, x1⟩ := T1.out.pair 1 rfl
  have y1 := (T1.out.get 0 rfl).cell 1
  have y2 := (T1.out.get 0 rfl).cell 2
  simp only [xzD, xzE] at y1 y2
  go_wp2_with (go_at_call 22; refine (HA.out _ T1.out.own).mono ?_; rintro e2 w2 ⟨rfl, hd, hb⟩; have T2 := hid (T1.out.stepA hd hb); clear hd hb T1 x0 x1 y1 y2)
  go_returns
  exact ⟨_, _, _, _, rfl, HC.out, HGq.out _ _ _ _ _ T2.out, HNP.out _ _ _ _ _ T2.out HS.out, HL.out, fun _ => by rw [HM.out, Int.sub_self]; exact tch_0 (.inr rfl)⟩
theorem call_8 (W0 W : World) (p : Dp) (r : Rp) (d e : DS) (N : Nat) (hN : N ≤ 8) (h : NP W0 W p r d e) (hi : LI N d) (hT : H.Tab W0) (hR : H.TabR W0) (h2 : 1 < W0.heap.size) (k a b t f v : Int) (a0 : 0 ≤ a) (a1 : a < 4294967296) (b0 : 0 ≤ b) (b1 : b < 4294967296) (hk : k = 8) :
    Calls Tryz.prog 38 #[.agg #[ptr p.g, ptr r.g], opV k a b t f v] W fun x W' => ∃ c q d' e', x = .returned (.tuple #[.int .u32 c, .int .i64 c]) ∧ (0 ≤ c ∧ c < 64) ∧ St W W' p r q ∧ NP W0 W' p q d' e' ∧ LI N d' ∧ (c = 0 → wrap64 (d'.m.c - d.m.c) = tch k) := by
  have T0 := hid (tp_begin h.own h.doc h.ap k a b t f v)
  have HNP := hid (fun w' q d' e' L (kk : TP W w' p r q d' e' L) (hs : DS.Sim d' e') => h.tp kk hs)
  have HGq := hid (fun w' q d' e' L (kk : TP W w' p r q d' e' L) => St.mk kk.but kk.sub kk.g)
  have hsE : (e.ent a).t = 1 → (e.ent a).o = a := fun t1 => (hi.sim h.sim).own t1
  have HR := hid (fun u (hw : RDB u r e) => rremove_any u r e hw a a0 a1 hsE)
  have HA := hid (fun u (hw : DB u p d) => remove_any u p d hw a a0)
  rw [h.sim.rmC] at HR
  have HS := hid (h.sim.rmD a)
  have HL := hid (hi.rem a h.own.ok)
  have HM : Hid (d.rmC a = 0 → wrap64 ((d.rmD a).m.c - d.m.c) = tch k) := hid (fun hc => by rw [hk, tch_8]; exact rmD_c a0 hc)
  have HC := hid (rmC_rg d a)
  have _u := And.intro hN (And.intro hT (And.intro hR (And.intro h2 (And.intro b0 (And.intro b1 (And.intro a0 a1))))))
  clear _u
  clear h hi hT hR h2 a0 a1 b0 b1 hN
  have k5 : (k == 5) = false := by rw [beq_eq_false_iff_ne]; omega
  have k6 : (k == 6) = false := by rw [beq_eq_false_iff_ne]; omega
  have k7 : (k == 7) = false := by rw [beq_eq_false_iff_ne]; omega
  clear hk
  simp only [opV, opC, ptr] at *
  go_enter Tryz.func38, Tryz.ntmps38
  go_upto_region 1 with fail
  generalize World.alloc _ _ = X at *
  generalize W.heap.size = g2 at *
  generalize g2 + 1 = g3 at *
  obtain ⟨x0, x1⟩ := T0.out.pair 1 rfl
  have y0 := (T0.out.get 0 rfl).cell 0
  have y1 := (T0.out.get 0 rfl).cell 1
  have y2 := (T0.out.get 0 rfl).cell 2
  simp only [xzD, xzE] at y0 y1 y2
  go_upto_region 12 with (go_at_call 79; refine (HR.out _ T0.out.doc).mono ?_; rintro e1 w1 ⟨rfl, r1, hg⟩; have T1 := hid (T0.out.stepR hg); clear hg T0 x0 x1 y0 y1 y2)
  obtain ⟨x0, x1⟩ := T1.out.pair 1 rfl
  have y1 := (T1.out.get 0 rfl).cell 1
  have y2 := (T1.out.get 0 rfl).cell 2
  simp only [xzD, xzE] at y1 y2
  go_wp2_with (go_at_call 29; refine (HA.out _ T1.out.own).mono ?_; rintro e2 w2 ⟨rfl, hd, hb⟩; have T2 := hid (T1.out.stepA hd hb); clear hd hb T1 x0 x1 y1 y2)
  go_returns
  exact ⟨_, _, _, _, rfl, HC.out, HGq.out _ _ _ _ _ T2.out, HNP.out _ _ _ _ _ T2.out HS.out, HL.out, HM.out⟩
theorem call_6 (W0 W : World) (p : Dp) (r : Rp) (d e : DS) (N : Nat) (hN : N ≤ 8) (h : NP W0 W p r d e) (hi : LI N d) (hT : H.Tab W0) (hR : H.TabR W0) (h2 : 1 < W0.heap.size) (k a b t f v : Int) (a0 : 0 ≤ a) (a1 : a < 4294967296) (b0 : 0 ≤ b) (b1 : b < 4294967296) (hk : k = 6) :
    Calls Tryz.prog 38 #[.agg #[ptr p.g, ptr r.g], opV k a b t f v] W fun x W' => ∃ c q d' e', x = .returned (.tuple #[.int .u32 c, .int .i64 c]) ∧ (0 ≤ c ∧ c < 64) ∧ St W W' p r q ∧ NP W0 W' p q d' e' ∧ LI N d' ∧ (c = 0 → wrap64 (d'.m.c - d.m.c) = tch k) := by
  have T0 := hid (tp_begin h.own h.doc h.ap k a b t f v)
  have HNP := hid (fun w' q d' e' L (kk : TP W w' p r q d' e' L) (hs : DS.Sim d' e') => h.tp kk hs)
  have HGq := hid (fun w' q d' e' L (kk : TP W w' p r q d' e' L) => St.mk kk.but kk.sub kk.g)
  have hU := hi.U
  have HR := hid (fun u (hw : RDB u r e) (hb : ButL r.all W u) => rfinal_any u r e hw ((hi.sim h.sim).U) (fun x hx => h.gr hR h2 x (hb.trans hx)) a a0 a1)
  have HA := hid (fun u (hw : DB u p d) (hg : Gl u p) => final_m u p d hw hU hg a a0 a1)
  rw [h.sim.fiC] at HR
  have HS := hid (h.sim.fiD a)
  have HL := hid (hi.fin a h.own.ok)
  have HC := hid (fiC_rg d a)
  have HGW := hid (fun w' q d' e' L (kk : TP W w' p r q d' e' L) => (show Gl w' p from by
    have hbb := h.bl.trans (kk.but.below (B := W0.heap.size) (fun x hx => by
      rcases List.mem_append.1 hx with hx | hx
      · exact h.pn x hx
      · exact h.rn x hx) h.bl.size)
    exact ⟨hT.below (hbb.mono (show 2 ≤ W0.heap.size by omega)) (by decide), by have := hbb.size; omega, fun k hk => by have := h.pn k hk; omega⟩))
  have HB0 : Hid (ButL r.all W ((W.alloc (.cells [ptr p.g, ptr r.g].toArray 77)).alloc (.cells (opC k a b t f v).toArray 48))) := hid (.of (below_on (below_one _ _) (below_one _ _)))
  have _u := And.intro hN (And.intro hT (And.intro hR (And.intro h2 (And.intro b0 (And.intro b1 (And.intro a0 a1))))))
  clear _u
  clear h hi hT hR h2 a0 a1 b0 b1 hN
  subst hk
  simp only [opV, opC, ptr] at *
  go_enter Tryz.func38, Tryz.ntmps38
  go_upto_region 1 with fail
  generalize World.alloc _ _ = X at *
  generalize W.heap.size = g2 at *
  generalize g2 + 1 = g3 at *
  obtain ⟨x0, x1⟩ := T0.out.pair 1 rfl
  have y0 := (T0.out.get 0 rfl).cell 0
  have y1 := (T0.out.get 0 rfl).cell 1
  have y2 := (T0.out.get 0 rfl).cell 2
  simp only [xzD, xzE] at y0 y1 y2
  go_upto_region 7 with (go_at_call 77; refine (HR.out _ T0.out.doc (HB0.out)).mono ?_; rintro e1 w1 ⟨r1, ee, rfl, hsr, hg⟩; have HSR := hid hsr; have T1 := hid (T0.out.stepR hg); clear hg hsr T0 x0 x1 y0 y1 y2)
  obtain ⟨x0, x1⟩ := T1.out.pair 1 rfl
  have y1 := (T1.out.get 0 rfl).cell 1
  have y2 := (T1.out.get 0 rfl).cell 2
  simp only [xzD, xzE] at y1 y2
  go_wp2_with (go_at_call 23; refine (HA.out _ T1.out.own (HGW.out _ _ _ _ _ T1.out)).mono ?_; rintro e2 w2 ⟨dd, rfl, hsd, hcc, hd, hb⟩; have HSD := hid hsd; have HCC := hid hcc; have T2 := hid (T1.out.stepA hd hb); clear hd hb hsd hcc T1 x0 x1 y1 y2)
  go_returns
  have hs2 := HSD.out.symm.trans (HS.out.trans HSR.out)
  exact ⟨_, _, _, _, rfl, HC.out, HGq.out _ _ _ _ _ T2.out, HNP.out _ _ _ _ _ T2.out hs2, HL.out.sim HSD.out, fun hc => by rw [HCC.out hc, tk_eq]; exact tch_6⟩
end Go.Proofs.YtdfnbcbnmiohnaaGreatDoor
namespace Go.Proofs.YtdfnbcbnmiohnaaGreatDoor
open Go.RowKit
set_option maxHeartbeats 8000000
set_option maxRecDepth 100000
attribute [-simp] Tryz.isAgg44 Tryz.sizeOf44 Tryz.zeroValue44
theorem TP.boxput {W w w' : World} {p : Dp} {r q : Rp} {d e : DS} {L : List (Nat × TypeId × List Value)} {t : TypeId} {cs es : List Value} (h : TP W w p r q d e L) (hc : Cel w' w.heap.size t es) (hb : ButL [w.heap.size] (w.alloc (.cells cs.toArray t)) w') : TP W w' p r q d e ((w.heap.size, t, es) :: L) :=
  (h.box t cs).put (fun x hx => by have := (h.bag x hx).lt; omega) hc hb
theorem TP.memR {W w w' : World} {p : Dp} {r q : Rp} {d e : DS} {r' : Rf} {m' : MS} {L : List (Nat × TypeId × List Value)} (h : TP W w p r q d e L) (hs : RSt w w' q.r r' m') (hn : m'.ns = e.m.ns) : TP W w' p r { q with r := r' } d { e with m := m' } L :=
  h.stepR ((RG.start h.doc).mem hs hn)
theorem TP.memA {W w w' : World} {p : Dp} {r q : Rp} {d e : DS} {m' : MS} {L : List (Nat × TypeId × List Value)} (h : TP W w p r q d e L) (hm : Mem w' p.f m') (hb : ButL p.f.w w w') (hn : m'.ns = d.m.ns) : TP W w' p r q { d with m := m' } e L :=
  h.stepA (h.own.memory hm hb hn) (hb.mono p.fw_w)
theorem TP.stepF {W w w' : World} {p : Dp} {r q : Rp} {d d' e : DS} {L : List (Nat × TypeId × List Value)} (h : TP W w p r q d e L) (hd : DB w' p d') (hb : ButL p.f.w w w') : TP W w' p r q d' e L := h.stepA hd (hb.mono p.fw_w)
theorem NP.glw {W W' w : World} {p : Dp} {r q : Rp} {d e d' e' : DS} {L : List (Nat × TypeId × List Value)} (h : NP W' W p r d e) (k : TP W w p r q d' e' L) (hT : H.Tab W') (h2 : 1 < W'.heap.size) : Gl w p := by
  have hbb := h.bl.trans (k.but.below (B := W'.heap.size) (fun x hx => by
    rcases List.mem_append.1 hx with hx | hx
    · exact h.pn x hx
    · exact h.rn x hx) h.bl.size)
  exact ⟨hT.below (hbb.mono (show 2 ≤ W'.heap.size by omega)) (by decide), by have := hbb.size; omega, fun k hk => by have := h.pn k hk; omega⟩
theorem NP.grw {W W' w : World} {p : Dp} {r q : Rp} {d e d' e' : DS} {L : List (Nat × TypeId × List Value)} (h : NP W' W p r d e) (k : TP W w p r q d' e' L) (hR : H.TabR W') (h2 : 1 < W'.heap.size) : ∀ u, ButL q.all w u → H.TabR u ∧ 1 < u.heap.size := fun u hb => by
  have h0 := h.bl.size
  have hbb := h.bl.trans (k.but.below (B := W'.heap.size) (fun x hx => by
    rcases List.mem_append.1 hx with hx | hx
    · exact h.pn x hx
    · exact h.rn x hx) h0)
  have hb2 := hbb.trans (hb.below (B := W'.heap.size) (fun x hx => by
    rcases k.sub x hx with hx | hx
    · exact h.rn x hx
    · omega) hbb.size)
  exact ⟨Q.tabR_below hR hb2 h2, by have := hb2.size; omega⟩
theorem sets_0 (W0 W : World) (p : Dp) (r : Rp) (d e : DS) (N : Nat) (h : NP W0 W p r d e) (hi : LI N d) (hT : H.Tab W0) (hR : H.TabR W0) (h2 : 1 < W0.heap.size) (k a b t f v : Int) (a0 : 0 ≤ a) (a1 : a < 4294967296) (b0 : 0 ≤ b) (b1 : b < 4294967296) (v0 : 0 ≤ v) (v1 : v < 4294967296) (hk : k ≠ 1 ∧ k ≠ 2 ∧ k ≠ 3 ∧ k ≠ 4) :
    Calls Tryz.prog 41 #[.agg #[ptr p.g, ptr r.g], opV k a b t f v] W fun x W' => ∃ q d' e', x = .returned (.bool true) ∧ St W W' p r q ∧ NP W0 W' p q d' e' ∧ LI N d' := by
  have T0 := hid (tp_begin h.own h.doc h.ap k a b t f v)
  have HNP := hid (fun w' q d' e' L (kk : TP W w' p r q d' e' L) (hs : DS.Sim d' e') => h.tp kk hs)
  have HGq := hid (fun w' q d' e' L (kk : TP W w' p r q d' e' L) => St.mk kk.but kk.sub kk.g)
  have ka : IntKind.wrap .i64 a = a := by rw [IntKind.wrap_i64]; omega
  have ka2 : wrap64 a = a := by unfold wrap64; omega
  have kb : IntKind.wrap .i64 b = b := by rw [IntKind.wrap_i64]; omega
  have kb2 : wrap64 b = b := by unfold wrap64; omega
  have _u := And.intro hT (And.intro hR (And.intro h2 (And.intro b0 (And.intro b1 (And.intro a0 (And.intro a1 (And.intro v0 (And.intro v1 hi))))))))
  clear _u
  have HS := hid h.sim
  have HL := hid hi
  clear h hi hT hR h2 a0 a1 b0 b1 v0 v1
  obtain ⟨n1, n2, n3, n4⟩ := hk
  have k1 : (k == 1) = false := by rw [beq_eq_false_iff_ne]; omega
  have k2 : (k == 2) = false := by rw [beq_eq_false_iff_ne]; omega
  have k3 : (k == 3) = false := by rw [beq_eq_false_iff_ne]; omega
  have k4 : (k == 4) = false := by rw [beq_eq_false_iff_ne]; omega
  clear n1 n2 n3 n4
  simp only [opV, opC, ptr] at *
  go_enter Tryz.func41, Tryz.ntmps41
  go_upto_region 1 with fail
  generalize World.alloc _ _ = X at *
  generalize W.heap.size = g2 at *
  generalize g2 + 1 = g3 at *
  obtain ⟨x0, x1⟩ := T0.out.pair 1 rfl
  have y0 := (T0.out.get 0 rfl).cell 0
  have y1 := (T0.out.get 0 rfl).cell 1
  have y2 := (T0.out.get 0 rfl).cell 2
  have y3 := (T0.out.get 0 rfl).cell 3
  have y4 := (T0.out.get 0 rfl).cell 4
  have y5 := (T0.out.get 0 rfl).cell 5
  simp only [xzD, xzE] at y0 y1 y2 y3 y4 y5
  go_wp2_with fail
  go_ret
  exact ⟨_, _, _, rfl, HGq.out _ _ _ _ _ T0.out, HNP.out _ _ _ _ _ T0.out HS.out, HL.out⟩
theorem sets_2 (W0 W : World) (p : Dp) (r : Rp) (d e : DS) (N : Nat) (h : NP W0 W p r d e) (hi : LI N d) (hT : H.Tab W0) (hR : H.TabR W0) (h2 : 1 < W0.heap.size) (k a b t f v : Int) (a0 : 0 ≤ a) (a1 : a < 4294967296) (b0 : 0 ≤ b) (b1 : b < 4294967296) (v0 : 0 ≤ v) (v1 : v < 4294967296) (hk : k = 2) :
    Calls Tryz.prog 41 #[.agg #[ptr p.g, ptr r.g], opV k a b t f v] W fun x W' => ∃ q d' e', x = .returned (.bool true) ∧ St W W' p r q ∧ NP W0 W' p q d' e' ∧ LI N d' := by
  have T0 := hid (tp_begin h.own h.doc h.ap k a b t f v)
  have HNP := hid (fun w' q d' e' L (kk : TP W w' p r q d' e' L) (hs : DS.Sim d' e') => h.tp kk hs)
  have HGq := hid (fun w' q d' e' L (kk : TP W w' p r q d' e' L) => St.mk kk.but kk.sub kk.g)
  have ka : IntKind.wrap .i64 a = a := by rw [IntKind.wrap_i64]; omega
  have ka2 : wrap64 a = a := by unfold wrap64; omega
  have kb : IntKind.wrap .i64 b = b := by rw [IntKind.wrap_i64]; omega
  have kb2 : wrap64 b = b := by unfold wrap64; omega
  have _u := And.intro hT (And.intro hR (And.intro h2 (And.intro b0 (And.intro b1 (And.intro a0 (And.intro a1 (And.intro v0 (And.intro v1 hi))))))))
  clear _u
  have HR := hid (fun u (hw : RDB u r e) => rtake_any u r e hw a t b)
  have HA := hid (fun u (hw : DB u p d) => take_any u p d hw a t b)
  rw [h.sim.takeE] at HR
  have HS := hid (h.sim.take a t b)
  have HL := hid (hi.take a t b h.own.ok)
  clear h hi hT hR h2 a0 a1 b0 b1 v0 v1
  subst hk
  simp only [opV, opC, ptr] at *
  go_enter Tryz.func41, Tryz.ntmps41
  go_upto_region 1 with fail
  generalize World.alloc _ _ = X at *
  generalize W.heap.size = g2 at *
  generalize g2 + 1 = g3 at *
  obtain ⟨x0, x1⟩ := T0.out.pair 1 rfl
  have y0 := (T0.out.get 0 rfl).cell 0
  have y1 := (T0.out.get 0 rfl).cell 1
  have y2 := (T0.out.get 0 rfl).cell 2
  have y3 := (T0.out.get 0 rfl).cell 3
  have y4 := (T0.out.get 0 rfl).cell 4
  have y5 := (T0.out.get 0 rfl).cell 5
  simp only [xzD, xzE] at y0 y1 y2 y3 y4 y5
  go_upto_region 16 with (go_at_call 85; refine (HR.out _ T0.out.doc).mono ?_; rintro e1 w1 ⟨rfl, hg⟩; have T1 := hid (T0.out.stepR hg); clear hg T0 x0 x1 y0 y1 y2 y3 y4 y5)
  obtain ⟨x0, x1⟩ := T1.out.pair 1 rfl
  have y0 := (T1.out.get 0 rfl).cell 0
  have y1 := (T1.out.get 0 rfl).cell 1
  have y2 := (T1.out.get 0 rfl).cell 2
  have y3 := (T1.out.get 0 rfl).cell 3
  have y4 := (T1.out.get 0 rfl).cell 4
  have y5 := (T1.out.get 0 rfl).cell 5
  simp only [xzD, xzE] at y0 y1 y2 y3 y4 y5
  go_wp2_with (go_at_call 43; refine (HA.out _ T1.out.own).mono ?_; rintro e2 w2 ⟨rfl, hd, hb⟩; have T2 := hid (T1.out.stepA hd hb); clear hd hb T1 x0 x1 y0 y1 y2 y3 y4 y5)
  go_ret
  exact ⟨_, _, _, rfl, HGq.out _ _ _ _ _ T2.out, HNP.out _ _ _ _ _ T2.out HS.out, HL.out⟩
theorem sets_3 (W0 W : World) (p : Dp) (r : Rp) (d e : DS) (N : Nat) (h : NP W0 W p r d e) (hi : LI N d) (hT : H.Tab W0) (hR : H.TabR W0) (h2 : 1 < W0.heap.size) (k a b t f v : Int) (a0 : 0 ≤ a) (a1 : a < 4294967296) (b0 : 0 ≤ b) (b1 : b < 4294967296) (v0 : 0 ≤ v) (v1 : v < 4294967296) (hk : k = 3) :
    Calls Tryz.prog 41 #[.agg #[ptr p.g, ptr r.g], opV k a b t f v] W fun x W' => ∃ q d' e', x = .returned (.bool true) ∧ St W W' p r q ∧ NP W0 W' p q d' e' ∧ LI N d' := by
  have T0 := hid (tp_begin h.own h.doc h.ap k a b t f v)
  have HNP := hid (fun w' q d' e' L (kk : TP W w' p r q d' e' L) (hs : DS.Sim d' e') => h.tp kk hs)
  have HGq := hid (fun w' q d' e' L (kk : TP W w' p r q d' e' L) => St.mk kk.but kk.sub kk.g)
  have ka : IntKind.wrap .i64 a = a := by rw [IntKind.wrap_i64]; omega
  have ka2 : wrap64 a = a := by unfold wrap64; omega
  have kb : IntKind.wrap .i64 b = b := by rw [IntKind.wrap_i64]; omega
  have kb2 : wrap64 b = b := by unfold wrap64; omega
  have _u := And.intro hT (And.intro hR (And.intro h2 (And.intro b0 (And.intro b1 (And.intro a0 (And.intro a1 (And.intro v0 (And.intro v1 hi))))))))
  clear _u
  have hU := hi.U
  have HA := hid (fun u (hw : DB u p d) (hg : Gl u p) => extend_l u p d hw hU hg k a b t f v a0 a1)
  have HR := hid (fun u (hw : RDB u r e) (hb : ∀ x, ButL r.all u x → H.TabR x ∧ 1 < x.heap.size) => rext_any u r e hw ((hi.sim h.sim).U) hb k a b t f v a0 a1)
  have HGL := hid (fun w q d' e' L (kk : TP W w p r q d' e' L) => h.glw kk hT h2)
  have HGR := hid (fun w q d' e' L (kk : TP W w p r q d' e' L) => h.grw kk hR h2)
  have HS := hid (h.sim.ext a (stepO t v))
  have HL := hid (hi.ext a t v v0 v1)
  generalize d.ext a (stepO t v) = d1 at *
  generalize e.ext a (stepO t v) = e1 at *
  clear h hi hT hR h2 a0 a1 b0 b1 v0 v1
  subst hk
  simp only [opV, opC, ptr] at *
  go_enter Tryz.func41, Tryz.ntmps41
  go_upto_region 1 with fail
  generalize World.alloc _ _ = X at *
  generalize W.heap.size = g2 at *
  generalize g2 + 1 = g3 at *
  obtain ⟨x0, x1⟩ := T0.out.pair 1 rfl
  have y0 := (T0.out.get 0 rfl).cell 0
  have y1 := (T0.out.get 0 rfl).cell 1
  have y2 := (T0.out.get 0 rfl).cell 2
  have y3 := (T0.out.get 0 rfl).cell 3
  have y4 := (T0.out.get 0 rfl).cell 4
  have y5 := (T0.out.get 0 rfl).cell 5
  simp only [xzD, xzE] at y0 y1 y2 y3 y4 y5
  go_upto_region 19 with (first | (refine wpList_load_mid rfl 48 _ rfl g3 0 rfl _ _ (T0.out.get 0 rfl).range under48 rfl (by rw [size48]; rfl) ?_) | (go_at_call 18; refine (HA.out _ T0.out.own (HGL.out _ _ _ _ _ T0.out)).mono ?_; rintro e2 w1 ⟨rfl, hd, hb⟩; have T1 := hid (T0.out.stepF hd hb); clear hd hb T0 x0 x1 y0 y1 y2 y3 y4 y5))
  obtain ⟨x0, x1⟩ := T1.out.pair 1 rfl
  have y0 := (T1.out.get 0 rfl).cell 0
  have y1 := (T1.out.get 0 rfl).cell 1
  have y2 := (T1.out.get 0 rfl).cell 2
  have y3 := (T1.out.get 0 rfl).cell 3
  have y4 := (T1.out.get 0 rfl).cell 4
  have y5 := (T1.out.get 0 rfl).cell 5
  simp only [xzD, xzE] at y0 y1 y2 y3 y4 y5
  go_wp2_with (first | (refine wpList_load_mid rfl 48 _ rfl g3 0 rfl _ _ (T1.out.get 0 rfl).range under48 rfl (by rw [size48]; rfl) ?_) | (go_at_call 86; refine (HR.out _ T1.out.doc (HGR.out _ _ _ _ _ T1.out)).mono ?_; rintro e3 w2 ⟨r2, rfl, hg⟩; have T2 := hid (T1.out.stepR hg); clear hg T1 x0 x1 y0 y1 y2 y3 y4 y5))
  go_ret
  exact ⟨_, _, _, rfl, HGq.out _ _ _ _ _ T2.out, HNP.out _ _ _ _ _ T2.out HS.out, HL.out⟩
theorem sets_4 (W0 W : World) (p : Dp) (r : Rp) (d e : DS) (N : Nat) (h : NP W0 W p r d e) (hi : LI N d) (hT : H.Tab W0) (hR : H.TabR W0) (h2 : 1 < W0.heap.size) (k a b t f v : Int) (a0 : 0 ≤ a) (a1 : a < 4294967296) (b0 : 0 ≤ b) (b1 : b < 4294967296) (v0 : 0 ≤ v) (v1 : v < 4294967296) (hk : k = 4) :
    Calls Tryz.prog 41 #[.agg #[ptr p.g, ptr r.g], opV k a b t f v] W fun x W' => ∃ q d' e', x = .returned (.bool true) ∧ St W W' p r q ∧ NP W0 W' p q d' e' ∧ LI N d' := by
  have T0 := hid (tp_begin h.own h.doc h.ap k a b t f v)
  have HNP := hid (fun w' q d' e' L (kk : TP W w' p r q d' e' L) (hs : DS.Sim d' e') => h.tp kk hs)
  have HGq := hid (fun w' q d' e' L (kk : TP W w' p r q d' e' L) => St.mk kk.but kk.sub kk.g)
  have ka : IntKind.wrap .i64 a = a := by rw [IntKind.wrap_i64]; omega
  have ka2 : wrap64 a = a := by unfold wrap64; omega
  have kb : IntKind.wrap .i64 b = b := by rw [IntKind.wrap_i64]; omega
  have kb2 : wrap64 b = b := by unfold wrap64; omega
  have _u := And.intro hT (And.intro hR (And.intro h2 (And.intro b0 (And.intro b1 (And.intro a0 (And.intro a1 (And.intro v0 (And.intro v1 hi))))))))
  clear _u
  have HMm := hid (fun u d' (hw : DB u p d') => memory_any u p d' hw)
  have HFr := hid (fun u => lframe_any u a a0 a1)
  have HWa := hid (fun u (hw : DB u p d) => write_any u p.f d.m hw.mem true a f v)
  have HNs := hid (MS.write_ns d.m true a f v)
  have HNe := hid (MS.write_ns e.m true a f v)
  have HWd := hid (fun u (hw : RDB u r e) => rwrite_any u r.r e.m hw.mem true a f v)
  have HS := hid (h.sim.write true a f v)
  have HL := hid (hi.write a f v v0 v1)
  have HC0 := hid (fun (u : World) (q : Rp) (e : DS) (hw : RDB u q e) => hw.c0)
  generalize hm1 : d.m.write true a f v = m1 at *
  generalize hm2 : e.m.write true a f v = m2 at *
  clear hm1 hm2
  clear h hi hT hR h2 a0 a1 b0 b1 v0 v1
  subst hk
  simp only [opV, opC, ptr, fr] at *
  go_enter Tryz.func41, Tryz.ntmps41
  go_upto_region 1 with fail
  generalize World.alloc _ _ = X at *
  generalize W.heap.size = g2 at *
  generalize g2 + 1 = g3 at *
  obtain ⟨x0, x1⟩ := T0.out.pair 1 rfl
  have y0 := (T0.out.get 0 rfl).cell 0
  have y1 := (T0.out.get 0 rfl).cell 1
  have y2 := (T0.out.get 0 rfl).cell 2
  have y3 := (T0.out.get 0 rfl).cell 3
  have y4 := (T0.out.get 0 rfl).cell 4
  have y5 := (T0.out.get 0 rfl).cell 5
  simp only [xzD, xzE] at y0 y1 y2 y3 y4 y5
  go_upto_region 21 with fail
  clear x0 x1 y0 y1 y2 y3 y4 y5
  have T1 := hid (T0.out.on (Below.refl _ _).drew)
  clear T0
  refine wp_region_held_drew (S := fun w => (Cel w g2 77 [.pointer (some ⟨p.g, 0, none⟩), .pointer (some ⟨r.g, 0, none⟩)] ∧ Cel w g3 48 [.int .i64 4, .int .u32 a, .int .u32 b, .int .i64 t, .int .i64 f, .int .u32 v]) ∧ w.cell? ⟨r.g, 0, none⟩ = some (.pointer (some ⟨r.r.g, 0, none⟩)) ∧ True) (by kernel_rfl) ⟨⟨T1.out.get 1 rfl, T1.out.get 0 rfl⟩, HC0.out _ _ _ T1.out.doc, trivial⟩ (fun hHeld => ?_)
  generalize World.drew _ = w3 at *
  refine tk 0 _ (.pointer (some ⟨g2, 0, none⟩)) ?_
  simp only [Act.put, xzA]
  refine tk 1 _ (.pointer (some ⟨p.g, 0, none⟩)) ?_ (hy := Or.inl ⟨by rfl, by intro w hSw; have t1 := hSw.1.1.cell 0; simp only [xzD] at t1; go_simp⟩)
  simp only [Act.put, xzA]
  refine tk 3 _ (.pointer (some ⟨g3, 1, none⟩)) ?_
  simp only [Act.put, xzA]
  refine tk 4 _ (.int .u32 a) ?_ (hy := Or.inl ⟨by rfl, by intro w hSw; have t1 := hSw.1.2.cell 1; simp only [xzD, xzE] at t1; go_simp⟩)
  simp only [Act.put, xzA]
  refine tk 6 _ (.pointer (some ⟨g3, 4, none⟩)) ?_
  simp only [Act.put, xzA]
  refine tk 7 _ (.int .i64 f) ?_ (hy := Or.inl ⟨by rfl, by intro w hSw; have t1 := hSw.1.2.cell 4; simp only [xzD, xzE] at t1; go_simp⟩)
  simp only [Act.put, xzA]
  refine tk 8 _ (.pointer (some ⟨g3, 5, none⟩)) ?_
  simp only [Act.put, xzA]
  refine tk 9 _ (.int .u32 v) ?_ (hy := Or.inl ⟨by rfl, by intro w hSw; have t1 := hSw.1.2.cell 5; simp only [xzD, xzE] at t1; go_simp⟩)
  simp only [Act.put, xzA]
  refine wpAnyH_ready (rs := [2]) (by kernel_rfl) (by simp) (AllReadyH.cons rfl (fun KQ hK => ?_) AllReadyH.nil)
  go_simp
  refine (HMm.out _ _ T1.out.own).mono ?_
  rintro e2 wx ⟨rfl, hw⟩
  subst hw
  go_wp2_with fail
  refine hK.out _ _ ⟨⟨T1.out.get 1 rfl, T1.out.get 0 rfl⟩, HC0.out _ _ _ T1.out.doc, trivial⟩ (fun hHeld => ?_)
  clear hK KQ
  try simp only [Act.put, xzA]
  refine wpAnyH_ready (rs := [5]) (by kernel_rfl) (by simp) (AllReadyH.cons rfl (fun KQ hK => ?_) AllReadyH.nil)
  go_simp
  refine (HFr.out _).mono ?_
  rintro e2 xF1 ⟨rfl, hb⟩
  have F1 := hid (T1.out.on hb)
  clear hb T1
  go_wp2_with fail
  refine hK.out _ _ ⟨⟨F1.out.get 1 rfl, F1.out.get 0 rfl⟩, HC0.out _ _ _ F1.out.doc, trivial⟩ (fun hHeld => ?_)
  clear hK KQ
  try simp only [Act.put, xzA]
  refine wpAnyH_ready (rs := [10]) (by kernel_rfl) (by simp) (AllReadyH.cons rfl (fun KQ hK => ?_) AllReadyH.nil)
  go_simp
  refine (HWa.out _ F1.out.own).mono ?_
  rintro e2 w7 ⟨rfl, hm, hb⟩
  have T2 := hid (F1.out.memA hm hb HNs.out)
  clear hm hb F1
  go_wp2_with fail
  refine hK.out _ _ ⟨⟨T2.out.get 1 rfl, T2.out.get 0 rfl⟩, HC0.out _ _ _ T2.out.doc, trivial⟩ (fun hHeld => ?_)
  clear hK KQ
  try simp only [Act.put, xzA]
  refine wpAnyH_done (by kernel_rfl) ?_ _
  go_upto_region 22 with fail
  have T3 := hid (T2.out.on (Below.refl _ _).drew)
  clear T2
  refine wp_region_held_drew (S := fun w => (Cel w g2 77 [.pointer (some ⟨p.g, 0, none⟩), .pointer (some ⟨r.g, 0, none⟩)] ∧ Cel w g3 48 [.int .i64 4, .int .u32 a, .int .u32 b, .int .i64 t, .int .i64 f, .int .u32 v]) ∧ w.cell? ⟨r.g, 0, none⟩ = some (.pointer (some ⟨r.r.g, 0, none⟩)) ∧ True) (by kernel_rfl) ⟨⟨T3.out.get 1 rfl, T3.out.get 0 rfl⟩, HC0.out _ _ _ T3.out.doc, trivial⟩ (fun hHeld => ?_)
  generalize World.drew _ = w5 at *
  refine tk 0 _ (.pointer (some ⟨g2, 1, none⟩)) ?_
  simp only [Act.put, xzA]
  refine tk 1 _ (.pointer (some ⟨r.g, 0, none⟩)) ?_ (hy := Or.inl ⟨by rfl, by intro w hSw; have t1 := hSw.1.1.cell 1; simp only [xzD, xzE] at t1; go_simp⟩)
  simp only [Act.put, xzA]
  refine tk 2 _ (.pointer (some ⟨r.g, 0, none⟩)) ?_
  simp only [Act.put, xzA]
  refine tk 3 _ (.pointer (some ⟨r.g, 0, none⟩)) ?_
  simp only [Act.put, xzA]
  refine tk 4 _ (.pointer (some ⟨r.r.g, 0, none⟩)) ?_ (hy := Or.inl ⟨by rfl, by intro w hSw; have t1 := hSw.2.1; go_simp⟩)
  simp only [Act.put, xzA]
  refine tk 5 _ (.pointer (some ⟨g3, 1, none⟩)) ?_
  simp only [Act.put, xzA]
  refine tk 6 _ (.int .u32 a) ?_ (hy := Or.inl ⟨by rfl, by intro w hSw; have t1 := hSw.1.2.cell 1; simp only [xzD, xzE] at t1; go_simp⟩)
  simp only [Act.put, xzA]
  refine tk 7 _ (.int .i64 a) ?_
  simp only [Act.put, xzA]
  refine tk 8 _ (.agg #[.bool true, .int .i64 a]) ?_
  simp only [Act.put, xzA]
  refine tk 9 _ (.pointer (some ⟨g3, 4, none⟩)) ?_
  simp only [Act.put, xzA]
  refine tk 10 _ (.int .i64 f) ?_ (hy := Or.inl ⟨by rfl, by intro w hSw; have t1 := hSw.1.2.cell 4; simp only [xzD, xzE] at t1; go_simp⟩)
  simp only [Act.put, xzA]
  refine tk 11 _ (.pointer (some ⟨g3, 5, none⟩)) ?_
  simp only [Act.put, xzA]
  refine tk 12 _ (.int .u32 v) ?_ (hy := Or.inl ⟨by rfl, by intro w hSw; have t1 := hSw.1.2.cell 5; simp only [xzD, xzE] at t1; go_simp⟩)
  simp only [Act.put, xzA]
  refine wpAnyH_ready (rs := [13]) (by kernel_rfl) (by simp) (AllReadyH.cons rfl (fun KQ hK => ?_) AllReadyH.nil)
  go_simp
  refine (HWd.out _ T3.out.doc).mono ?_
  rintro e2 w8 ⟨rfl, r2, hs⟩
  have HGr := hid hs.g
  have T4 := hid (T3.out.memR hs HNe.out)
  clear hs T3
  go_wp2_with fail
  refine hK.out _ _ ⟨⟨T4.out.get 1 rfl, T4.out.get 0 rfl⟩, by have := HC0.out _ _ _ T4.out.doc; simp only [HGr.out] at this; exact this, trivial⟩ (fun hHeld => ?_)
  clear hK KQ
  try simp only [Act.put, xzA]
  refine wpAnyH_done (by kernel_rfl) ?_ _
  go_wp2_with fail
  go_ret
  exact ⟨_, _, _, rfl, HGq.out _ _ _ _ _ T4.out, HNP.out _ _ _ _ _ T4.out HS.out, HL.out⟩
theorem sets_1 (W0 W : World) (p : Dp) (r : Rp) (d e : DS) (N : Nat) (h : NP W0 W p r d e) (hi : LI N d) (hT : H.Tab W0) (hR : H.TabR W0) (h2 : 1 < W0.heap.size) (k a b t f v : Int) (a0 : 0 ≤ a) (a1 : a < 4294967296) (b0 : 0 ≤ b) (b1 : b < 4294967296) (v0 : 0 ≤ v) (v1 : v < 4294967296) (hk : k = 1) :
    Calls Tryz.prog 41 #[.agg #[ptr p.g, ptr r.g], opV k a b t f v] W fun x W' => ∃ q d' e', x = .returned (.bool true) ∧ St W W' p r q ∧ NP W0 W' p q d' e' ∧ LI N d' := by
  have T0 := hid (tp_begin h.own h.doc h.ap k a b t f v)
  have HNP := hid (fun w' q d' e' L (kk : TP W w' p r q d' e' L) (hs : DS.Sim d' e') => h.tp kk hs)
  have HGq := hid (fun w' q d' e' L (kk : TP W w' p r q d' e' L) => St.mk kk.but kk.sub kk.g)
  have ka : IntKind.wrap .i64 a = a := by rw [IntKind.wrap_i64]; omega
  have ka2 : wrap64 a = a := by unfold wrap64; omega
  have kb : IntKind.wrap .i64 b = b := by rw [IntKind.wrap_i64]; omega
  have kb2 : wrap64 b = b := by unfold wrap64; omega
  have _u := And.intro hT (And.intro hR (And.intro h2 (And.intro b0 (And.intro b1 (And.intro a0 (And.intro a1 (And.intro v0 (And.intro v1 hi))))))))
  clear _u
  have HR := hid (fun u (hw : RDB u r e) => rtakeSpace_any u r e hw a b)
  have HA := hid (fun u (hw : DB u p d) => takeSpace_any u p d hw a b)
  rw [h.sim.bearE] at HR
  obtain ⟨Z, hZ⟩ : ∃ Z : List Int, Z = List.replicate 26 0 := ⟨_, rfl⟩
  have hZl : Z.length = 26 := by rw [hZ]; simp
  have hz : ∀ w, (zeroValue 44).run Tryz.prog w = .ok (.agg (Z.map (Value.int .u32)).toArray) w := fun w => by rw [Tryz.zeroValue44, hZ]; rfl
  clear hZ
  have HSt := hid (fun w => Q.start_any w)
  have HRst := hid (fun w => Q.rstart_any w)
  have hSl : (H.saveOf []).length = 26 := H.saveOf_length _
  have HLa := hid (fun u (hw : DB u p (d.takeSpace a b)) => lay_l u p (d.takeSpace a b) hw a a0 a1 (H.saveOf []) hSl)
  have HWd := hid (fun u (q : Rp) e (hw : RDB u q e) (off v : Int) => rwrite_any u q.r e.m hw.mem true a off v)
  have HC0 := hid (fun (u : World) (q : Rp) (e : DS) (hw : RDB u q e) => hw.c0)
  have HS1 := hid ((h.sim.takeSpace a b).dig a (H.saveOf []) 26)
  have HS0 := hid h.sim
  have HL0 := hid hi
  have HL1 : Hid (d.bearE a b = 0 → LI N ((d.takeSpace a b).dig a (H.saveOf []) 26)) := hid (fun hz => (hi.born a b h.own.ok hz b0 b1).dig a _ (H.wds_saveOf wds_nil' (by simp)) 26)
  have HNo : Hid (d.bearE a b ≠ 0 → d.takeSpace a b = d ∧ e.takeSpace a b = e) := hid (fun hz => ⟨by unfold DS.takeSpace; rw [if_neg hz], by unfold DS.takeSpace; rw [h.sim.bearE, if_neg hz]⟩)
  generalize H.saveOf [] = S0 at *
  generalize d.takeSpace a b = d1 at *
  generalize e.takeSpace a b = e1 at *
  generalize d.bearE a b = ff at *
  clear h hi hT hR h2 a0 a1 b0 b1 v0 v1
  subst hk
  simp only [opV, opC, ptr, fr, H.Ag] at *
  go_enter Tryz.func41, Tryz.ntmps41
  go_upto_region 1 with fail
  generalize World.alloc _ _ = X at *
  generalize W.heap.size = g2 at *
  generalize g2 + 1 = g3 at *
  obtain ⟨x0, x1⟩ := T0.out.pair 1 rfl
  have y0 := (T0.out.get 0 rfl).cell 0
  have y1 := (T0.out.get 0 rfl).cell 1
  have y2 := (T0.out.get 0 rfl).cell 2
  have y3 := (T0.out.get 0 rfl).cell 3
  have y4 := (T0.out.get 0 rfl).cell 4
  have y5 := (T0.out.get 0 rfl).cell 5
  simp only [xzD, xzE] at y0 y1 y2 y3 y4 y5
  go_upto_region 4 with (go_at_call 82; refine (HR.out _ T0.out.doc).mono ?_; rintro e9 w1 ⟨rfl, r1, hg⟩; have T1 := hid (T0.out.stepR hg); clear hg T0 x0 x1 y0 y1 y2 y3 y4 y5)
  obtain ⟨x0, x1⟩ := T1.out.pair 1 rfl
  have y0 := (T1.out.get 0 rfl).cell 0
  have y1 := (T1.out.get 0 rfl).cell 1
  have y2 := (T1.out.get 0 rfl).cell 2
  have y3 := (T1.out.get 0 rfl).cell 3
  have y4 := (T1.out.get 0 rfl).cell 4
  have y5 := (T1.out.get 0 rfl).cell 5
  simp only [xzD, xzE] at y0 y1 y2 y3 y4 y5
  go_upto_region 5 with (go_at_call 15; refine (HA.out _ T1.out.own).mono ?_; rintro e9 w2 ⟨rfl, hd, hb⟩; have T2 := hid (T1.out.stepA hd hb); clear hd hb T1 x0 x1 y0 y1 y2 y3 y4 y5)
  by_cases hf : ff = 0
  rotate_left
  · have hf' : (ff == 0) = false := by rw [beq_eq_false_iff_ne]; exact hf
    obtain ⟨h1, h2⟩ := HNo.out hf
    have HD1 := hid h1
    have HE1 := hid h2
    clear hf h1 h2
    go_wp2_with fail
    go_ret
    refine ⟨_, _, _, rfl, HGq.out _ _ _ _ _ T2.out, HNP.out _ _ _ _ _ T2.out ?_, ?_⟩
    · rw [HD1.out, HE1.out]; exact HS0.out
    · rw [HD1.out]; exact HL0.out
  · have HL := hid (HL1.out hf)
    subst hf
    clear HL1 HNo
    go_upto_region 8 with fail
    have T3 := hid (T2.out.on (Below.refl _ _).drew)
    clear T2
    refine wp_region_held_drew (S := fun w => (Cel w g2 77 [.pointer (some ⟨p.g, 0, none⟩), .pointer (some ⟨r.g, 0, none⟩)] ∧ Cel w g3 48 [.int .i64 1, .int .u32 a, .int .u32 b, .int .i64 t, .int .i64 f, .int .u32 v]) ∧ True) (by kernel_rfl) ⟨⟨T3.out.get 1 rfl, T3.out.get 0 rfl⟩, trivial⟩ (fun hHeld => ?_)
    generalize World.drew _ = w3 at *
    refine tk 0 _ (.pointer (some ⟨g2, 0, none⟩)) ?_
    simp only [Act.put, xzA]
    refine tk 1 _ (.pointer (some ⟨p.g, 0, none⟩)) ?_ (hy := Or.inl ⟨by rfl, by intro w hSw; have t1 := hSw.1.1.cell 0; simp only [xzD] at t1; go_simp⟩)
    simp only [Act.put, xzA]
    refine tk 2 _ (.pointer (some ⟨g3, 1, none⟩)) ?_
    simp only [Act.put, xzA]
    refine tk 3 _ (.int .u32 a) ?_ (hy := Or.inl ⟨by rfl, by intro w hSw; have t1 := hSw.1.2.cell 1; simp only [xzD, xzE] at t1; go_simp⟩)
    simp only [Act.put, xzA]
    refine wpAnyH_ready (rs := [4]) (by kernel_rfl) (by simp) (AllReadyH.cons rfl (fun KQ hK => ?_) AllReadyH.nil)
    go_simp
    refine (HSt.out _).mono ?_
    rintro e2 w4 ⟨rfl, hb⟩
    have T4 := hid (T3.out.on hb)
    clear hb T3
    go_wp2_with fail
    refine hK.out _ _ ⟨⟨T4.out.get 1 rfl, T4.out.get 0 rfl⟩, trivial⟩ (fun hHeld => ?_)
    clear hK KQ
    try simp only [Act.put, xzA]
    refine wpAnyH_ready (rs := [5]) (by kernel_rfl) (by simp) (AllReadyH.cons rfl (fun KQ hK => ?_) AllReadyH.nil)
    go_simp
    refine (HLa.out _ T4.out.own).mono ?_
    rintro e2 w5 ⟨rfl, hd, hb⟩
    have T5 := hid (T4.out.stepF hd hb)
    clear hd hb T4
    go_wp2_with fail
    refine hK.out _ _ ⟨⟨T5.out.get 1 rfl, T5.out.get 0 rfl⟩, trivial⟩ (fun hHeld => ?_)
    clear hK KQ
    try simp only [Act.put, xzA]
    refine wpAnyH_done (by kernel_rfl) ?_ _
    go_upto_region 10 with (first | (go_at_call 83; refine (HRst.out _).mono ?_; rintro e9 w6 ⟨rfl, hb⟩; have T6 := hid (T5.out.on hb); clear hb T5) | (refine wpList_store_st rfl 44 _ _ rfl w6.heap.size (u32s S0) rfl rfl (Cel.new w6 44 (u32s Z)) (by rw [u32s, List.length_map, hSl]; exact size44) (by simp [u32s, hZl, hSl]) (u32sA S0) ?_; intro w7 hc hb hs; have T7 := hid (T6.out.boxput hc hb); clear hc hb hs T6))
    generalize w6.heap.size = g7 at *
    go_upto_region 11 with fail
    go_loopw [8] (fun i wr => ∃ j : Nat, j ≤ 26 ∧ i = .int .i64 (j : Int) ∧ Hid (∃ r', TP W wr p r ⟨r.g, r.ge, r.cap, r'⟩ (d1.dig a S0 26) (e1.dig a S0 j) [(g7, 44, u32s S0), (g3, 48, [.int .i64 1, .int .u32 a, .int .u32 b, .int .i64 t, .int .i64 f, .int .u32 v]), (g2, 77, [.pointer (some ⟨p.g, 0, none⟩), .pointer (some ⟨r.g, 0, none⟩)])])) (fun i _ => 26 - (intOf i).toNat)
    case atStart => exact ⟨0, Nat.zero_le _, rfl, hid ⟨r1, T7.out⟩⟩
    case round =>
      clear T7
      obtain ⟨j, hj, rfl, HQ⟩ := hrel
      obtain ⟨qr, hr⟩ := HQ.out
      have E0 := hid hr
      clear HQ hr
      by_cases hlt : j < 26
      · have q1 : (j : Int) < 26 := by omega
        have kw : IntKind.wrap .i64 (11 + (j : Int)) = 11 + (j : Int) := by rw [IntKind.wrap_i64]; omega
        have HJ := hid hlt
        have HFw : Hid (∀ u, Cel u g7 44 (u32s S0) → u.cell? ⟨g7, j, none⟩ = some (.int .u32 (S0.getD j 0))) := hid (fun u hu => u32s_at hu j (by rw [hSl]; exact HJ.out))
        obtain ⟨fw, hfw⟩ : ∃ fw, S0.getD j 0 = fw := ⟨_, rfl⟩
        rw [hfw] at HFw
        have HFE := hid hfw
        clear hlt hj hfw
        generalize hdd : e1.dig a S0 j = ee at *
        have HDD := hid hdd
        clear hdd
        go_upto_region 13 with fail
        have E1 := hid (E0.out.on (Below.refl _ _).drew)
        clear E0
        refine wp_region_held_drew (S := fun w => (Cel w g2 77 [.pointer (some ⟨p.g, 0, none⟩), .pointer (some ⟨r.g, 0, none⟩)] ∧ Cel w g3 48 [.int .i64 1, .int .u32 a, .int .u32 b, .int .i64 t, .int .i64 f, .int .u32 v]) ∧ w.cell? ⟨r.g, 0, none⟩ = some (.pointer (some ⟨qr.g, 0, none⟩)) ∧ w.cell? ⟨g7, j, none⟩ = some (.int .u32 fw)) (by kernel_rfl) ⟨⟨E1.out.get 2 rfl, E1.out.get 1 rfl⟩, HC0.out _ _ _ E1.out.doc, HFw.out _ (E1.out.get 0 rfl)⟩ (fun hHeld => ?_)
        generalize World.drew _ = w3 at *
        refine tk 0 _ (.pointer (some ⟨g2, 1, none⟩)) ?_
        simp only [Act.put, xzA]
        refine tk 1 _ (.pointer (some ⟨r.g, 0, none⟩)) ?_ (hy := Or.inl ⟨by rfl, by intro w hSw; have t1 := hSw.1.1.cell 1; simp only [xzD, xzE] at t1; go_simp⟩)
        simp only [Act.put, xzA]
        refine tk 2 _ (.pointer (some ⟨r.g, 0, none⟩)) ?_
        simp only [Act.put, xzA]
        refine tk 3 _ (.pointer (some ⟨r.g, 0, none⟩)) ?_
        simp only [Act.put, xzA]
        refine tk 4 _ (.pointer (some ⟨qr.g, 0, none⟩)) ?_ (hy := Or.inl ⟨by rfl, by intro w hSw; have t1 := hSw.2.1; go_simp⟩)
        simp only [Act.put, xzA]
        refine tk 5 _ (.pointer (some ⟨g3, 1, none⟩)) ?_
        simp only [Act.put, xzA]
        refine tk 6 _ (.int .u32 a) ?_ (hy := Or.inl ⟨by rfl, by intro w hSw; have t1 := hSw.1.2.cell 1; simp only [xzD, xzE] at t1; go_simp⟩)
        simp only [Act.put, xzA]
        refine tk 7 _ (.int .i64 a) ?_
        simp only [Act.put, xzA]
        refine tk 8 _ (.agg #[.bool true, .int .i64 a]) ?_
        simp only [Act.put, xzA]
        refine tk 9 _ (.int .i64 (j : Int)) ?_
        simp only [Act.put, xzA]
        refine tk 10 _ (.int .i64 (11 + (j : Int))) ?_
        simp only [Act.put, xzA]
        refine tk 11 _ (.int .i64 (j : Int)) ?_
        simp only [Act.put, xzA]
        refine tk 12 _ (.pointer (some ⟨g7, j, none⟩)) ?_
        simp only [Act.put, xzA]
        refine tk 13 _ (.int .u32 fw) ?_ (hy := Or.inl ⟨by rfl, by intro w hSw; have t1 := hSw.2.2; go_simp⟩)
        simp only [Act.put, xzA]
        refine wpAnyH_ready (rs := [14]) (by kernel_rfl) (by simp) (AllReadyH.cons rfl (fun KQ hK => ?_) AllReadyH.nil)
        go_simp
        refine (HWd.out _ _ _ E1.out.doc _ _).mono ?_
        rintro e2 w8 ⟨rfl, r2, hs⟩
        have HGr := hid hs.g
        have E2 := hid (E1.out.memR hs (MS.write_ns ..))
        clear hs E1
        go_wp2_with fail
        refine hK.out _ _ ⟨⟨E2.out.get 2 rfl, E2.out.get 1 rfl⟩, by have := HC0.out _ _ _ E2.out.doc; simp only [HGr.out] at this; exact this, HFw.out _ (E2.out.get 0 rfl)⟩ (fun hHeld => ?_)
        clear hK KQ
        try simp only [Act.put, xzA]
        refine wpAnyH_done (by kernel_rfl) ?_ _
        go_wp2_with fail
        go_roundw
        case measure => have := HJ.out; simp [intOf]; omega
        case rel => exact ⟨j + 1, HJ.out, by simp, hid ⟨r2, by show TP W _ p r _ _ ((e1.dig a S0 j).wr a (11 + (j : Int)) (S0.getD j 0)) _; rw [HFE.out, HDD.out]; exact E2.out⟩⟩
      · have hj' : j = 26 := by omega
        subst hj'
        clear hlt hj
        go_wp2_with fail
        go_ret
        exact ⟨_, _, _, rfl, HGq.out _ _ _ _ _ E0.out, HNP.out _ _ _ _ _ E0.out HS1.out, HL.out⟩
theorem sets_any (W0 W : World) (p : Dp) (r : Rp) (d e : DS) (N : Nat) (h : NP W0 W p r d e) (hi : LI N d) (hT : H.Tab W0) (hR : H.TabR W0) (h2 : 1 < W0.heap.size) (k a b t f v : Int) (a0 : 0 ≤ a) (a1 : a < 4294967296) (b0 : 0 ≤ b) (b1 : b < 4294967296) (v0 : 0 ≤ v) (v1 : v < 4294967296) :
    Calls Tryz.prog 41 #[.agg #[ptr p.g, ptr r.g], opV k a b t f v] W fun x W' => ∃ q d' e', x = .returned (.bool true) ∧ St W W' p r q ∧ NP W0 W' p q d' e' ∧ LI N d' := by
  by_cases h1 : k = 1
  · exact sets_1 W0 W p r d e N h hi hT hR h2 k a b t f v a0 a1 b0 b1 v0 v1 h1
  by_cases h3 : k = 2
  · exact sets_2 W0 W p r d e N h hi hT hR h2 k a b t f v a0 a1 b0 b1 v0 v1 h3
  by_cases h4 : k = 3
  · exact sets_3 W0 W p r d e N h hi hT hR h2 k a b t f v a0 a1 b0 b1 v0 v1 h4
  by_cases h5 : k = 4
  · exact sets_4 W0 W p r d e N h hi hT hR h2 k a b t f v a0 a1 b0 b1 v0 v1 h5
  exact sets_0 W0 W p r d e N h hi hT hR h2 k a b t f v a0 a1 b0 b1 v0 v1 ⟨h1, h3, h4, h5⟩
end Go.Proofs.YtdfnbcbnmiohnaaGreatDoor
