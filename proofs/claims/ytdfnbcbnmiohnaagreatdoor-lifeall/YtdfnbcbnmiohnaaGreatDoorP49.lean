import Derived.Test.YtdfnbcbnmiohnaaGreatDoorP48
import Derived.Test.YtdfnbcbnmiohnaaGreatDoorP01
namespace Go.Proofs.YtdfnbcbnmiohnaaGreatDoor
open Go.RowKit
set_option maxHeartbeats 8000000
set_option maxRecDepth 100000
attribute [-simp] Tryz.isAgg44 Tryz.sizeOf44 Tryz.zeroValue44
theorem TP.boxput {W w w' : World} {p : Dp} {r q : Rp} {d e : DS} {L : List (Nat × TypeId × List Value)} {t : TypeId} {cs es : List Value} (h : TP W w p r q d e L) (hc : Cel w' w.heap.size t es) (hb : ButL [w.heap.size] (w.alloc (.cells cs.toArray t)) w') : TP W w' p r q d e ((w.heap.size, t, es) :: L) :=
  (h.box t cs).put (fun x hx => by have := (h.bag x hx).lt; omega) hc hb
theorem TP.memR {W w w' : World} {p : Dp} {r q : Rp} {d e : DS} {r' : Rf} {m' : MS} {L : List (Nat × TypeId × List Value)} (h : TP W w p r q d e L) (hs : RSt w w' q.r r' m') (hn : m'.ns = e.m.ns) : TP W w' p r { q with r := r' } d { e with m := m' } L :=
  h.stepR ((RG.start h.doc).mem hs hn)
theorem TP.memA {W w w' : World} {p : Dp} {r q : Rp} {d e : DS} {m' : MS} {L : List (Nat × TypeId × List Value)} (h : TP W w p r q d e L) (hm : Mem w' p.f m') (hb : ButL p.f.w w w') (hn : m'.ns = d.m.ns) : TP W w' p r q { d with m := m' } e L :=
  h.stepA (h.own.memory hm hb hn) (hb.mono p.fw_w)
theorem TP.stepF {W w w' : World} {p : Dp} {r q : Rp} {d d' e : DS} {L : List (Nat × TypeId × List Value)} (h : TP W w p r q d e L) (hd : DB w' p d') (hb : ButL p.f.w w w') : TP W w' p r q d' e L := h.stepA hd (hb.mono p.fw_w)
theorem NP.glw {W W' w : World} {p : Dp} {r q : Rp} {d e d' e' : DS} {L : List (Nat × TypeId × List Value)} (h : NP W' W p r d e) (k : TP W w p r q d' e' L) (hT : H.Tab W') (h2 : 1 < W'.heap.size) : Gl w p := by
  have hbb := h.bl.trans (k.but.below (B := W'.heap.size) (fun x hx => by
    rcases List.mem_append.1 hx with hx | hx
    · exact h.pn x hx
    · exact h.rn x hx) h.bl.size)
  exact ⟨hT.below (hbb.mono (show 2 ≤ W'.heap.size by omega)) (by decide), by have := hbb.size; omega, fun k hk => by have := h.pn k hk; omega⟩
theorem NP.grw {W W' w : World} {p : Dp} {r q : Rp} {d e d' e' : DS} {L : List (Nat × TypeId × List Value)} (h : NP W' W p r d e) (k : TP W w p r q d' e' L) (hR : H.TabR W') (h2 : 1 < W'.heap.size) : ∀ u, ButL q.all w u → H.TabR u ∧ 1 < u.heap.size := fun u hb => by
  have h0 := h.bl.size
  have hbb := h.bl.trans (k.but.below (B := W'.heap.size) (fun x hx => by
    rcases List.mem_append.1 hx with hx | hx
    · exact h.pn x hx
    · exact h.rn x hx) h0)
  have hb2 := hbb.trans (hb.below (B := W'.heap.size) (fun x hx => by
    rcases k.sub x hx with hx | hx
    · exact h.rn x hx
    · omega) hbb.size)
  exact ⟨Q.tabR_below hR hb2 h2, by have := hb2.size; omega⟩
theorem sets_0 (W0 W : World) (p : Dp) (r : Rp) (d e : DS) (N : Nat) (h : NP W0 W p r d e) (hi : LI N d) (hT : H.Tab W0) (hR : H.TabR W0) (h2 : 1 < W0.heap.size) (k a b t f v : Int) (a0 : 0 ≤ a) (a1 : a < 4294967296) (b0 : 0 ≤ b) (b1 : b < 4294967296) (v0 : 0 ≤ v) (v1 : v < 4294967296) (hk : k ≠ 1 ∧ k ≠ 2 ∧ k ≠ 3 ∧ k ≠ 4) :
    Calls Tryz.prog 41 #[.agg #[ptr p.g, ptr r.g], opV k a b t f v] W fun x W' => ∃ q d' e', x = .returned (.bool true) ∧ St W W' p r q ∧ NP W0 W' p q d' e' ∧ LI N d' := by
  have T0 := hid (tp_begin h.own h.doc h.ap k a b t f v)
  have HNP := hid (fun w' q d' e' L (kk : TP W w' p r q d' e' L) (hs : DS.Sim d' e') => h.tp kk hs)
  have HGq := hid (fun w' q d' e' L (kk : TP W w' p r q d' e' L) => St.mk kk.but kk.sub kk.g)
  have ka : IntKind.wrap .i64 a = a := by rw [IntKind.wrap_i64]; omega
  have ka2 : wrap64 a = a := by unfold wrap64; omega
  have kb : IntKind.wrap .i64 b = b := by rw [IntKind.wrap_i64]; omega
  have kb2 : wrap64 b = b := by unfold wrap64; omega
  have _u := And.intro hT (And.intro hR (And.intro h2 (And.intro b0 (And.intro b1 (And.intro a0 (And.intro a1 (And.intro v0 (And.intro v1 hi))))))))
  clear _u
  have HS := hid h.sim
  have HL := hid hi
  clear h hi hT hR h2 a0 a1 b0 b1 v0 v1
  obtain ⟨n1, n2, n3, n4⟩ := hk
  have k1 : (k == 1) = false := by rw [beq_eq_false_iff_ne]; omega
  have k2 : (k == 2) = false := by rw [beq_eq_false_iff_ne]; omega
  have k3 : (k == 3) = false := by rw [beq_eq_false_iff_ne]; omega
  have k4 : (k == 4) = false := by rw [beq_eq_false_iff_ne]; omega
  clear n1 n2 n3 n4
  simp only [opV, opC, ptr] at *
  go_enter Tryz.func41, Tryz.ntmps41
  go_upto_region 1 with fail
  generalize World.alloc _ _ = X at *
  generalize W.heap.size = g2 at *
  generalize g2 + 1 = g3 at *
  obtain ⟨x0, x1⟩ := T0.out.pair 1 rfl
  have y0 := (T0.out.get 0 rfl).cell 0
  have y1 := (T0.out.get 0 rfl).cell 1
  have y2 := (T0.out.get 0 rfl).cell 2
  have y3 := (T0.out.get 0 rfl).cell 3
  have y4 := (T0.out.get 0 rfl).cell 4
  have y5 := (T0.out.get 0 rfl).cell 5
  simp only [tqG, tqH] at y0 y1 y2 y3 y4 y5
  go_wp2_with fail
  go_ret
  exact ⟨_, _, _, rfl, HGq.out _ _ _ _ _ T0.out, HNP.out _ _ _ _ _ T0.out HS.out, HL.out⟩
theorem sets_2 (W0 W : World) (p : Dp) (r : Rp) (d e : DS) (N : Nat) (h : NP W0 W p r d e) (hi : LI N d) (hT : H.Tab W0) (hR : H.TabR W0) (h2 : 1 < W0.heap.size) (k a b t f v : Int) (a0 : 0 ≤ a) (a1 : a < 4294967296) (b0 : 0 ≤ b) (b1 : b < 4294967296) (v0 : 0 ≤ v) (v1 : v < 4294967296) (hk : k = 2) :
    Calls Tryz.prog 41 #[.agg #[ptr p.g, ptr r.g], opV k a b t f v] W fun x W' => ∃ q d' e', x = .returned (.bool true) ∧ St W W' p r q ∧ NP W0 W' p q d' e' ∧ LI N d' := by
  have T0 := hid (tp_begin h.own h.doc h.ap k a b t f v)
  have HNP := hid (fun w' q d' e' L (kk : TP W w' p r q d' e' L) (hs : DS.Sim d' e') => h.tp kk hs)
  have HGq := hid (fun w' q d' e' L (kk : TP W w' p r q d' e' L) => St.mk kk.but kk.sub kk.g)
  have ka : IntKind.wrap .i64 a = a := by rw [IntKind.wrap_i64]; omega
  have ka2 : wrap64 a = a := by unfold wrap64; omega
  have kb : IntKind.wrap .i64 b = b := by rw [IntKind.wrap_i64]; omega
  have kb2 : wrap64 b = b := by unfold wrap64; omega
  have _u := And.intro hT (And.intro hR (And.intro h2 (And.intro b0 (And.intro b1 (And.intro a0 (And.intro a1 (And.intro v0 (And.intro v1 hi))))))))
  clear _u
  have HR := hid (fun u (hw : RDB u r e) => rtake_any u r e hw a t b)
  have HA := hid (fun u (hw : DB u p d) => take_any u p d hw a t b)
  rw [h.sim.takeE] at HR
  have HS := hid (h.sim.take a t b)
  have HL := hid (hi.take a t b h.own.ok)
  clear h hi hT hR h2 a0 a1 b0 b1 v0 v1
  subst hk
  simp only [opV, opC, ptr] at *
  go_enter Tryz.func41, Tryz.ntmps41
  go_upto_region 1 with fail
  generalize World.alloc _ _ = X at *
  generalize W.heap.size = g2 at *
  generalize g2 + 1 = g3 at *
  obtain ⟨x0, x1⟩ := T0.out.pair 1 rfl
  have y0 := (T0.out.get 0 rfl).cell 0
  have y1 := (T0.out.get 0 rfl).cell 1
  have y2 := (T0.out.get 0 rfl).cell 2
  have y3 := (T0.out.get 0 rfl).cell 3
  have y4 := (T0.out.get 0 rfl).cell 4
  have y5 := (T0.out.get 0 rfl).cell 5
  simp only [tqG, tqH] at y0 y1 y2 y3 y4 y5
  go_upto_region 16 with (go_at_call 85; refine (HR.out _ T0.out.doc).mono ?_; rintro e1 w1 ⟨rfl, hg⟩; have T1 := hid (T0.out.stepR hg); clear hg T0 x0 x1 y0 y1 y2 y3 y4 y5)
  obtain ⟨x0, x1⟩ := T1.out.pair 1 rfl
  have y0 := (T1.out.get 0 rfl).cell 0
  have y1 := (T1.out.get 0 rfl).cell 1
  have y2 := (T1.out.get 0 rfl).cell 2
  have y3 := (T1.out.get 0 rfl).cell 3
  have y4 := (T1.out.get 0 rfl).cell 4
  have y5 := (T1.out.get 0 rfl).cell 5
  simp only [tqG, tqH] at y0 y1 y2 y3 y4 y5
  go_wp2_with (go_at_call 43; refine (HA.out _ T1.out.own).mono ?_; rintro e2 w2 ⟨rfl, hd, hb⟩; have T2 := hid (T1.out.stepA hd hb); clear hd hb T1 x0 x1 y0 y1 y2 y3 y4 y5)
  go_ret
  exact ⟨_, _, _, rfl, HGq.out _ _ _ _ _ T2.out, HNP.out _ _ _ _ _ T2.out HS.out, HL.out⟩
theorem sets_3 (W0 W : World) (p : Dp) (r : Rp) (d e : DS) (N : Nat) (h : NP W0 W p r d e) (hi : LI N d) (hT : H.Tab W0) (hR : H.TabR W0) (h2 : 1 < W0.heap.size) (k a b t f v : Int) (a0 : 0 ≤ a) (a1 : a < 4294967296) (b0 : 0 ≤ b) (b1 : b < 4294967296) (v0 : 0 ≤ v) (v1 : v < 4294967296) (hk : k = 3) :
    Calls Tryz.prog 41 #[.agg #[ptr p.g, ptr r.g], opV k a b t f v] W fun x W' => ∃ q d' e', x = .returned (.bool true) ∧ St W W' p r q ∧ NP W0 W' p q d' e' ∧ LI N d' := by
  have T0 := hid (tp_begin h.own h.doc h.ap k a b t f v)
  have HNP := hid (fun w' q d' e' L (kk : TP W w' p r q d' e' L) (hs : DS.Sim d' e') => h.tp kk hs)
  have HGq := hid (fun w' q d' e' L (kk : TP W w' p r q d' e' L) => St.mk kk.but kk.sub kk.g)
  have ka : IntKind.wrap .i64 a = a := by rw [IntKind.wrap_i64]; omega
  have ka2 : wrap64 a = a := by unfold wrap64; omega
  have kb : IntKind.wrap .i64 b = b := by rw [IntKind.wrap_i64]; omega
  have kb2 : wrap64 b = b := by unfold wrap64; omega
  have _u := And.intro hT (And.intro hR (And.intro h2 (And.intro b0 (And.intro b1 (And.intro a0 (And.intro a1 (And.intro v0 (And.intro v1 hi))))))))
  clear _u
  have hU := hi.U
  have HA := hid (fun u (hw : DB u p d) (hg : Gl u p) => extend_l u p d hw hU hg k a b t f v a0 a1)
  have HR := hid (fun u (hw : RDB u r e) (hb : ∀ x, ButL r.all u x → H.TabR x ∧ 1 < x.heap.size) => rext_any u r e hw ((hi.sim h.sim).U) hb k a b t f v a0 a1)
  have HGL := hid (fun w q d' e' L (kk : TP W w p r q d' e' L) => h.glw kk hT h2)
  have HGR := hid (fun w q d' e' L (kk : TP W w p r q d' e' L) => h.grw kk hR h2)
  have HS := hid (h.sim.ext a (stepO t v))
  have HL := hid (hi.ext a t v v0 v1)
  generalize d.ext a (stepO t v) = d1 at *
  generalize e.ext a (stepO t v) = e1 at *
  clear h hi hT hR h2 a0 a1 b0 b1 v0 v1
  subst hk
  simp only [opV, opC, ptr] at *
  go_enter Tryz.func41, Tryz.ntmps41
  go_upto_region 1 with fail
  generalize World.alloc _ _ = X at *
  generalize W.heap.size = g2 at *
  generalize g2 + 1 = g3 at *
  obtain ⟨x0, x1⟩ := T0.out.pair 1 rfl
  have y0 := (T0.out.get 0 rfl).cell 0
  have y1 := (T0.out.get 0 rfl).cell 1
  have y2 := (T0.out.get 0 rfl).cell 2
  have y3 := (T0.out.get 0 rfl).cell 3
  have y4 := (T0.out.get 0 rfl).cell 4
  have y5 := (T0.out.get 0 rfl).cell 5
  simp only [tqG, tqH] at y0 y1 y2 y3 y4 y5
  go_upto_region 19 with (first | (refine wpList_load_mid rfl 48 _ rfl g3 0 rfl _ _ (T0.out.get 0 rfl).range under48 rfl (by rw [size48]; rfl) ?_) | (go_at_call 18; refine (HA.out _ T0.out.own (HGL.out _ _ _ _ _ T0.out)).mono ?_; rintro e2 w1 ⟨rfl, hd, hb⟩; have T1 := hid (T0.out.stepF hd hb); clear hd hb T0 x0 x1 y0 y1 y2 y3 y4 y5))
  obtain ⟨x0, x1⟩ := T1.out.pair 1 rfl
  have y0 := (T1.out.get 0 rfl).cell 0
  have y1 := (T1.out.get 0 rfl).cell 1
  have y2 := (T1.out.get 0 rfl).cell 2
  have y3 := (T1.out.get 0 rfl).cell 3
  have y4 := (T1.out.get 0 rfl).cell 4
  have y5 := (T1.out.get 0 rfl).cell 5
  simp only [tqG, tqH] at y0 y1 y2 y3 y4 y5
  go_wp2_with (first | (refine wpList_load_mid rfl 48 _ rfl g3 0 rfl _ _ (T1.out.get 0 rfl).range under48 rfl (by rw [size48]; rfl) ?_) | (go_at_call 86; refine (HR.out _ T1.out.doc (HGR.out _ _ _ _ _ T1.out)).mono ?_; rintro e3 w2 ⟨r2, rfl, hg⟩; have T2 := hid (T1.out.stepR hg); clear hg T1 x0 x1 y0 y1 y2 y3 y4 y5))
  go_ret
  exact ⟨_, _, _, rfl, HGq.out _ _ _ _ _ T2.out, HNP.out _ _ _ _ _ T2.out HS.out, HL.out⟩
theorem sets_4 (W0 W : World) (p : Dp) (r : Rp) (d e : DS) (N : Nat) (h : NP W0 W p r d e) (hi : LI N d) (hT : H.Tab W0) (hR : H.TabR W0) (h2 : 1 < W0.heap.size) (k a b t f v : Int) (a0 : 0 ≤ a) (a1 : a < 4294967296) (b0 : 0 ≤ b) (b1 : b < 4294967296) (v0 : 0 ≤ v) (v1 : v < 4294967296) (hk : k = 4) :
    Calls Tryz.prog 41 #[.agg #[ptr p.g, ptr r.g], opV k a b t f v] W fun x W' => ∃ q d' e', x = .returned (.bool true) ∧ St W W' p r q ∧ NP W0 W' p q d' e' ∧ LI N d' := by
  have T0 := hid (tp_begin h.own h.doc h.ap k a b t f v)
  have HNP := hid (fun w' q d' e' L (kk : TP W w' p r q d' e' L) (hs : DS.Sim d' e') => h.tp kk hs)
  have HGq := hid (fun w' q d' e' L (kk : TP W w' p r q d' e' L) => St.mk kk.but kk.sub kk.g)
  have ka : IntKind.wrap .i64 a = a := by rw [IntKind.wrap_i64]; omega
  have ka2 : wrap64 a = a := by unfold wrap64; omega
  have kb : IntKind.wrap .i64 b = b := by rw [IntKind.wrap_i64]; omega
  have kb2 : wrap64 b = b := by unfold wrap64; omega
  have _u := And.intro hT (And.intro hR (And.intro h2 (And.intro b0 (And.intro b1 (And.intro a0 (And.intro a1 (And.intro v0 (And.intro v1 hi))))))))
  clear _u
  have HMm := hid (fun u d' (hw : DB u p d') => memory_any u p d' hw)
  have HFr := hid (fun u => lframe_any u a a0 a1)
  have HWa := hid (fun u (hw : DB u p d) => write_any u p.f d.m hw.mem true a f v)
  have HNs := hid (MS.write_ns d.m true a f v)
  have HNe := hid (MS.write_ns e.m true a f v)
  have HWd := hid (fun u (hw : RDB u r e) => rwrite_any u r.r e.m hw.mem true a f v)
  have HS := hid (h.sim.write true a f v)
  have HL := hid (hi.write a f v v0 v1)
  have HC0 := hid (fun (u : World) (q : Rp) (e : DS) (hw : RDB u q e) => hw.c0)
  generalize hm1 : d.m.write true a f v = m1 at *
  generalize hm2 : e.m.write true a f v = m2 at *
  clear hm1 hm2
  clear h hi hT hR h2 a0 a1 b0 b1 v0 v1
  subst hk
  simp only [opV, opC, ptr, fr] at *
  go_enter Tryz.func41, Tryz.ntmps41
  go_upto_region 1 with fail
  generalize World.alloc _ _ = X at *
  generalize W.heap.size = g2 at *
  generalize g2 + 1 = g3 at *
  obtain ⟨x0, x1⟩ := T0.out.pair 1 rfl
  have y0 := (T0.out.get 0 rfl).cell 0
  have y1 := (T0.out.get 0 rfl).cell 1
  have y2 := (T0.out.get 0 rfl).cell 2
  have y3 := (T0.out.get 0 rfl).cell 3
  have y4 := (T0.out.get 0 rfl).cell 4
  have y5 := (T0.out.get 0 rfl).cell 5
  simp only [tqG, tqH] at y0 y1 y2 y3 y4 y5
  go_upto_region 21 with fail
  clear x0 x1 y0 y1 y2 y3 y4 y5
  have T1 := hid (T0.out.on (Below.refl _ _).drew)
  clear T0
  refine wp_region_held_drew (S := fun w => (Cel w g2 77 [.pointer (some ⟨p.g, 0, none⟩), .pointer (some ⟨r.g, 0, none⟩)] ∧ Cel w g3 48 [.int .i64 4, .int .u32 a, .int .u32 b, .int .i64 t, .int .i64 f, .int .u32 v]) ∧ w.cell? ⟨r.g, 0, none⟩ = some (.pointer (some ⟨r.r.g, 0, none⟩)) ∧ True) (by kernel_rfl) ⟨⟨T1.out.get 1 rfl, T1.out.get 0 rfl⟩, HC0.out _ _ _ T1.out.doc, trivial⟩ (fun hHeld => ?_)
  generalize World.drew _ = w3 at *
  refine tk 0 (some 101) (.pointer (some ⟨g2, 0, none⟩)) ?_
  simp only [Act.put, tqA, tqZ, tqS]
  refine tk 1 (some 102) (.pointer (some ⟨p.g, 0, none⟩)) ?_ (hy := Or.inl ⟨by rfl, by intro w hSw; have t1 := hSw.1.1.cell 0; simp only [tqG] at t1; go_simp⟩)
  simp only [Act.put, tqA, tqZ, tqS]
  refine tk 3 (some 104) (.pointer (some ⟨g3, 1, none⟩)) ?_
  simp only [Act.put, tqA, tqZ, tqS]
  refine tk 4 (some 105) (.int .u32 a) ?_ (hy := Or.inl ⟨by rfl, by intro w hSw; have t1 := hSw.1.2.cell 1; simp only [tqG, tqH] at t1; go_simp⟩)
  simp only [Act.put, tqA, tqZ, tqS]
  refine tk 6 (some 107) (.pointer (some ⟨g3, 4, none⟩)) ?_
  simp only [Act.put, tqA, tqZ, tqS]
  refine tk 7 (some 108) (.int .i64 f) ?_ (hy := Or.inl ⟨by rfl, by intro w hSw; have t1 := hSw.1.2.cell 4; simp only [tqG, tqH] at t1; go_simp⟩)
  simp only [Act.put, tqA, tqZ, tqS]
  refine tk 8 (some 109) (.pointer (some ⟨g3, 5, none⟩)) ?_
  simp only [Act.put, tqA, tqZ, tqS]
  refine tk 9 (some 110) (.int .u32 v) ?_ (hy := Or.inl ⟨by rfl, by intro w hSw; have t1 := hSw.1.2.cell 5; simp only [tqG, tqH] at t1; go_simp⟩)
  simp only [Act.put, tqA, tqZ, tqS]
  refine wpAnyH_ready (rs := [2]) (by kernel_rfl) (by simp) (AllReadyH.cons rfl (fun KQ hK => ?_) AllReadyH.nil)
  go_simp
  refine (HMm.out _ _ T1.out.own).mono ?_
  rintro e2 wx ⟨rfl, hw⟩
  subst hw
  go_wp2_with fail
  refine hK.out _ _ ⟨⟨T1.out.get 1 rfl, T1.out.get 0 rfl⟩, HC0.out _ _ _ T1.out.doc, trivial⟩ (fun hHeld => ?_)
  clear hK KQ
  try simp only [Act.put, tqA, tqZ, tqS]
  refine wpAnyH_ready (rs := [5]) (by kernel_rfl) (by simp) (AllReadyH.cons rfl (fun KQ hK => ?_) AllReadyH.nil)
  go_simp
  refine (HFr.out _).mono ?_
  rintro e2 xF1 ⟨rfl, hb⟩
  have F1 := hid (T1.out.on hb)
  clear hb T1
  go_wp2_with fail
  refine hK.out _ _ ⟨⟨F1.out.get 1 rfl, F1.out.get 0 rfl⟩, HC0.out _ _ _ F1.out.doc, trivial⟩ (fun hHeld => ?_)
  clear hK KQ
  try simp only [Act.put, tqA, tqZ, tqS]
  refine wpAnyH_ready (rs := [10]) (by kernel_rfl) (by simp) (AllReadyH.cons rfl (fun KQ hK => ?_) AllReadyH.nil)
  go_simp
  refine (HWa.out _ F1.out.own).mono ?_
  rintro e2 w7 ⟨rfl, hm, hb⟩
  have T2 := hid (F1.out.memA hm hb HNs.out)
  clear hm hb F1
  go_wp2_with fail
  refine hK.out _ _ ⟨⟨T2.out.get 1 rfl, T2.out.get 0 rfl⟩, HC0.out _ _ _ T2.out.doc, trivial⟩ (fun hHeld => ?_)
  clear hK KQ
  try simp only [Act.put, tqA, tqZ, tqS]
  refine wpAnyH_done (by kernel_rfl) ?_ _
  go_upto_region 22 with fail
  have T3 := hid (T2.out.on (Below.refl _ _).drew)
  clear T2
  refine wp_region_held_drew (S := fun w => (Cel w g2 77 [.pointer (some ⟨p.g, 0, none⟩), .pointer (some ⟨r.g, 0, none⟩)] ∧ Cel w g3 48 [.int .i64 4, .int .u32 a, .int .u32 b, .int .i64 t, .int .i64 f, .int .u32 v]) ∧ w.cell? ⟨r.g, 0, none⟩ = some (.pointer (some ⟨r.r.g, 0, none⟩)) ∧ True) (by kernel_rfl) ⟨⟨T3.out.get 1 rfl, T3.out.get 0 rfl⟩, HC0.out _ _ _ T3.out.doc, trivial⟩ (fun hHeld => ?_)
  generalize World.drew _ = w5 at *
  refine tk 0 (some 112) (.pointer (some ⟨g2, 1, none⟩)) ?_
  simp only [Act.put, tqA, tqZ, tqS]
  refine tk 1 (some 113) (.pointer (some ⟨r.g, 0, none⟩)) ?_ (hy := Or.inl ⟨by rfl, by intro w hSw; have t1 := hSw.1.1.cell 1; simp only [tqG, tqH] at t1; go_simp⟩)
  simp only [Act.put, tqA, tqZ, tqS]
  refine tk 2 (some 114) (.pointer (some ⟨r.g, 0, none⟩)) ?_
  simp only [Act.put, tqA, tqZ, tqS]
  refine tk 3 (some 115) (.pointer (some ⟨r.g, 0, none⟩)) ?_
  simp only [Act.put, tqA, tqZ, tqS]
  refine tk 4 (some 116) (.pointer (some ⟨r.r.g, 0, none⟩)) ?_ (hy := Or.inl ⟨by rfl, by intro w hSw; have t1 := hSw.2.1; go_simp⟩)
  simp only [Act.put, tqA, tqZ, tqS]
  refine tk 5 (some 117) (.pointer (some ⟨g3, 1, none⟩)) ?_
  simp only [Act.put, tqA, tqZ, tqS]
  refine tk 6 (some 118) (.int .u32 a) ?_ (hy := Or.inl ⟨by rfl, by intro w hSw; have t1 := hSw.1.2.cell 1; simp only [tqG, tqH] at t1; go_simp⟩)
  simp only [Act.put, tqA, tqZ, tqS]
  refine tk 7 (some 119) (.int .i64 a) ?_
  simp only [Act.put, tqA, tqZ, tqS]
  refine tk 8 (some 120) (.agg #[.bool true, .int .i64 a]) ?_
  simp only [Act.put, tqA, tqZ, tqS]
  refine tk 9 (some 121) (.pointer (some ⟨g3, 4, none⟩)) ?_
  simp only [Act.put, tqA, tqZ, tqS]
  refine tk 10 (some 122) (.int .i64 f) ?_ (hy := Or.inl ⟨by rfl, by intro w hSw; have t1 := hSw.1.2.cell 4; simp only [tqG, tqH] at t1; go_simp⟩)
  simp only [Act.put, tqA, tqZ, tqS]
  refine tk 11 (some 123) (.pointer (some ⟨g3, 5, none⟩)) ?_
  simp only [Act.put, tqA, tqZ, tqS]
  refine tk 12 (some 124) (.int .u32 v) ?_ (hy := Or.inl ⟨by rfl, by intro w hSw; have t1 := hSw.1.2.cell 5; simp only [tqG, tqH] at t1; go_simp⟩)
  simp only [Act.put, tqA, tqZ, tqS]
  refine wpAnyH_ready (rs := [13]) (by kernel_rfl) (by simp) (AllReadyH.cons rfl (fun KQ hK => ?_) AllReadyH.nil)
  go_simp
  refine (HWd.out _ T3.out.doc).mono ?_
  rintro e2 w8 ⟨rfl, r2, hs⟩
  have HGr := hid hs.g
  have T4 := hid (T3.out.memR hs HNe.out)
  clear hs T3
  go_wp2_with fail
  refine hK.out _ _ ⟨⟨T4.out.get 1 rfl, T4.out.get 0 rfl⟩, by have := HC0.out _ _ _ T4.out.doc; simp only [HGr.out] at this; exact this, trivial⟩ (fun hHeld => ?_)
  clear hK KQ
  try simp only [Act.put, tqA, tqZ, tqS]
  refine wpAnyH_done (by kernel_rfl) ?_ _
  go_wp2_with fail
  go_ret
  exact ⟨_, _, _, rfl, HGq.out _ _ _ _ _ T4.out, HNP.out _ _ _ _ _ T4.out HS.out, HL.out⟩
theorem sets_1 (W0 W : World) (p : Dp) (r : Rp) (d e : DS) (N : Nat) (h : NP W0 W p r d e) (hi : LI N d) (hT : H.Tab W0) (hR : H.TabR W0) (h2 : 1 < W0.heap.size) (k a b t f v : Int) (a0 : 0 ≤ a) (a1 : a < 4294967296) (b0 : 0 ≤ b) (b1 : b < 4294967296) (v0 : 0 ≤ v) (v1 : v < 4294967296) (hk : k = 1) :
    Calls Tryz.prog 41 #[.agg #[ptr p.g, ptr r.g], opV k a b t f v] W fun x W' => ∃ q d' e', x = .returned (.bool true) ∧ St W W' p r q ∧ NP W0 W' p q d' e' ∧ LI N d' := by
  have T0 := hid (tp_begin h.own h.doc h.ap k a b t f v)
  have HNP := hid (fun w' q d' e' L (kk : TP W w' p r q d' e' L) (hs : DS.Sim d' e') => h.tp kk hs)
  have HGq := hid (fun w' q d' e' L (kk : TP W w' p r q d' e' L) => St.mk kk.but kk.sub kk.g)
  have ka : IntKind.wrap .i64 a = a := by rw [IntKind.wrap_i64]; omega
  have ka2 : wrap64 a = a := by unfold wrap64; omega
  have kb : IntKind.wrap .i64 b = b := by rw [IntKind.wrap_i64]; omega
  have kb2 : wrap64 b = b := by unfold wrap64; omega
  have _u := And.intro hT (And.intro hR (And.intro h2 (And.intro b0 (And.intro b1 (And.intro a0 (And.intro a1 (And.intro v0 (And.intro v1 hi))))))))
  clear _u
  have HR := hid (fun u (hw : RDB u r e) => rtakeSpace_any u r e hw a b)
  have HA := hid (fun u (hw : DB u p d) => takeSpace_any u p d hw a b)
  rw [h.sim.bearE] at HR
  obtain ⟨Z, hZ⟩ : ∃ Z : List Int, Z = List.replicate 26 0 := ⟨_, rfl⟩
  have hZl : Z.length = 26 := by rw [hZ]; simp
  have hz : ∀ w, (zeroValue 44).run Tryz.prog w = .ok (.agg (Z.map (Value.int .u32)).toArray) w := fun w => by rw [Tryz.zeroValue44, hZ]; rfl
  clear hZ
  have HSt := hid (fun w => Q.start_any w)
  have HRst := hid (fun w => Q.rstart_any w)
  have hSl : (H.saveOf []).length = 26 := H.saveOf_length _
  have HLa := hid (fun u (hw : DB u p (d.takeSpace a b)) => lay_l u p (d.takeSpace a b) hw a a0 a1 (H.saveOf []) hSl)
  have HWd := hid (fun u (q : Rp) e (hw : RDB u q e) (off v : Int) => rwrite_any u q.r e.m hw.mem true a off v)
  have HC0 := hid (fun (u : World) (q : Rp) (e : DS) (hw : RDB u q e) => hw.c0)
  have HS1 := hid ((h.sim.takeSpace a b).dig a (H.saveOf []) 26)
  have HS0 := hid h.sim
  have HL0 := hid hi
  have HL1 : Hid (d.bearE a b = 0 → LI N ((d.takeSpace a b).dig a (H.saveOf []) 26)) := hid (fun hz => (hi.born a b h.own.ok hz b0 b1).dig a _ (H.wds_saveOf wds_nil' (by simp)) 26)
  have HNo : Hid (d.bearE a b ≠ 0 → d.takeSpace a b = d ∧ e.takeSpace a b = e) := hid (fun hz => ⟨by unfold DS.takeSpace; rw [if_neg hz], by unfold DS.takeSpace; rw [h.sim.bearE, if_neg hz]⟩)
  generalize H.saveOf [] = S0 at *
  generalize d.takeSpace a b = d1 at *
  generalize e.takeSpace a b = e1 at *
  generalize d.bearE a b = ff at *
  clear h hi hT hR h2 a0 a1 b0 b1 v0 v1
  subst hk
  simp only [opV, opC, ptr, fr, H.Ag] at *
  go_enter Tryz.func41, Tryz.ntmps41
  go_upto_region 1 with fail
  generalize World.alloc _ _ = X at *
  generalize W.heap.size = g2 at *
  generalize g2 + 1 = g3 at *
  obtain ⟨x0, x1⟩ := T0.out.pair 1 rfl
  have y0 := (T0.out.get 0 rfl).cell 0
  have y1 := (T0.out.get 0 rfl).cell 1
  have y2 := (T0.out.get 0 rfl).cell 2
  have y3 := (T0.out.get 0 rfl).cell 3
  have y4 := (T0.out.get 0 rfl).cell 4
  have y5 := (T0.out.get 0 rfl).cell 5
  simp only [tqG, tqH] at y0 y1 y2 y3 y4 y5
  go_upto_region 4 with (go_at_call 82; refine (HR.out _ T0.out.doc).mono ?_; rintro e9 w1 ⟨rfl, r1, hg⟩; have T1 := hid (T0.out.stepR hg); clear hg T0 x0 x1 y0 y1 y2 y3 y4 y5)
  obtain ⟨x0, x1⟩ := T1.out.pair 1 rfl
  have y0 := (T1.out.get 0 rfl).cell 0
  have y1 := (T1.out.get 0 rfl).cell 1
  have y2 := (T1.out.get 0 rfl).cell 2
  have y3 := (T1.out.get 0 rfl).cell 3
  have y4 := (T1.out.get 0 rfl).cell 4
  have y5 := (T1.out.get 0 rfl).cell 5
  simp only [tqG, tqH] at y0 y1 y2 y3 y4 y5
  go_upto_region 5 with (go_at_call 15; refine (HA.out _ T1.out.own).mono ?_; rintro e9 w2 ⟨rfl, hd, hb⟩; have T2 := hid (T1.out.stepA hd hb); clear hd hb T1 x0 x1 y0 y1 y2 y3 y4 y5)
  by_cases hf : ff = 0
  rotate_left
  · have hf' : (ff == 0) = false := by rw [beq_eq_false_iff_ne]; exact hf
    obtain ⟨h1, h2⟩ := HNo.out hf
    have HD1 := hid h1
    have HE1 := hid h2
    clear hf h1 h2
    go_wp2_with fail
    go_ret
    refine ⟨_, _, _, rfl, HGq.out _ _ _ _ _ T2.out, HNP.out _ _ _ _ _ T2.out ?_, ?_⟩
    · rw [HD1.out, HE1.out]; exact HS0.out
    · rw [HD1.out]; exact HL0.out
  · have HL := hid (HL1.out hf)
    subst hf
    clear HL1 HNo
    go_upto_region 8 with fail
    have T3 := hid (T2.out.on (Below.refl _ _).drew)
    clear T2
    refine wp_region_held_drew (S := fun w => (Cel w g2 77 [.pointer (some ⟨p.g, 0, none⟩), .pointer (some ⟨r.g, 0, none⟩)] ∧ Cel w g3 48 [.int .i64 1, .int .u32 a, .int .u32 b, .int .i64 t, .int .i64 f, .int .u32 v]) ∧ True) (by kernel_rfl) ⟨⟨T3.out.get 1 rfl, T3.out.get 0 rfl⟩, trivial⟩ (fun hHeld => ?_)
    generalize World.drew _ = w3 at *
    refine tk 0 (some 37) (.pointer (some ⟨g2, 0, none⟩)) ?_
    simp only [Act.put, tqA, tqZ, tqS]
    refine tk 1 (some 38) (.pointer (some ⟨p.g, 0, none⟩)) ?_ (hy := Or.inl ⟨by rfl, by intro w hSw; have t1 := hSw.1.1.cell 0; simp only [tqG] at t1; go_simp⟩)
    simp only [Act.put, tqA, tqZ, tqS]
    refine tk 2 (some 39) (.pointer (some ⟨g3, 1, none⟩)) ?_
    simp only [Act.put, tqA, tqZ, tqS]
    refine tk 3 (some 40) (.int .u32 a) ?_ (hy := Or.inl ⟨by rfl, by intro w hSw; have t1 := hSw.1.2.cell 1; simp only [tqG, tqH] at t1; go_simp⟩)
    simp only [Act.put, tqA, tqZ, tqS]
    refine wpAnyH_ready (rs := [4]) (by kernel_rfl) (by simp) (AllReadyH.cons rfl (fun KQ hK => ?_) AllReadyH.nil)
    go_simp
    refine (HSt.out _).mono ?_
    rintro e2 w4 ⟨rfl, hb⟩
    have T4 := hid (T3.out.on hb)
    clear hb T3
    go_wp2_with fail
    refine hK.out _ _ ⟨⟨T4.out.get 1 rfl, T4.out.get 0 rfl⟩, trivial⟩ (fun hHeld => ?_)
    clear hK KQ
    try simp only [Act.put, tqA, tqZ, tqS]
    refine wpAnyH_ready (rs := [5]) (by kernel_rfl) (by simp) (AllReadyH.cons rfl (fun KQ hK => ?_) AllReadyH.nil)
    go_simp
    refine (HLa.out _ T4.out.own).mono ?_
    rintro e2 w5 ⟨rfl, hd, hb⟩
    have T5 := hid (T4.out.stepF hd hb)
    clear hd hb T4
    go_wp2_with fail
    refine hK.out _ _ ⟨⟨T5.out.get 1 rfl, T5.out.get 0 rfl⟩, trivial⟩ (fun hHeld => ?_)
    clear hK KQ
    try simp only [Act.put, tqA, tqZ, tqS]
    refine wpAnyH_done (by kernel_rfl) ?_ _
    go_upto_region 10 with (first | (go_at_call 83; refine (HRst.out _).mono ?_; rintro e9 w6 ⟨rfl, hb⟩; have T6 := hid (T5.out.on hb); clear hb T5) | (refine wpList_store_st rfl 44 _ _ rfl w6.heap.size (u32s S0) rfl rfl (Cel.new w6 44 (u32s Z)) (by rw [u32s, List.length_map, hSl]; exact size44) (by simp [u32s, hZl, hSl]) (u32sA S0) ?_; intro w7 hc hb hs; have T7 := hid (T6.out.boxput hc hb); clear hc hb hs T6))
    generalize w6.heap.size = g7 at *
    go_upto_region 11 with fail
    go_loopw [8] (fun i wr => ∃ j : Nat, j ≤ 26 ∧ i = .int .i64 (j : Int) ∧ Hid (∃ r', TP W wr p r ⟨r.g, r.ge, r.cap, r'⟩ (d1.dig a S0 26) (e1.dig a S0 j) [(g7, 44, u32s S0), (g3, 48, [.int .i64 1, .int .u32 a, .int .u32 b, .int .i64 t, .int .i64 f, .int .u32 v]), (g2, 77, [.pointer (some ⟨p.g, 0, none⟩), .pointer (some ⟨r.g, 0, none⟩)])])) (fun i _ => 26 - (intOf i).toNat)
    case atStart => exact ⟨0, Nat.zero_le _, rfl, hid ⟨r1, T7.out⟩⟩
    case round =>
      clear T7
      obtain ⟨j, hj, rfl, HQ⟩ := hrel
      obtain ⟨qr, hr⟩ := HQ.out
      have E0 := hid hr
      clear HQ hr
      by_cases hlt : j < 26
      · have q1 : (j : Int) < 26 := by omega
        have kw : IntKind.wrap .i64 (11 + (j : Int)) = 11 + (j : Int) := by rw [IntKind.wrap_i64]; omega
        have HJ := hid hlt
        have HFw : Hid (∀ u, Cel u g7 44 (u32s S0) → u.cell? ⟨g7, j, none⟩ = some (.int .u32 (S0.getD j 0))) := hid (fun u hu => u32s_at hu j (by rw [hSl]; exact HJ.out))
        obtain ⟨fw, hfw⟩ : ∃ fw, S0.getD j 0 = fw := ⟨_, rfl⟩
        rw [hfw] at HFw
        have HFE := hid hfw
        clear hlt hj hfw
        generalize hdd : e1.dig a S0 j = ee at *
        have HDD := hid hdd
        clear hdd
        go_upto_region 13 with fail
        have E1 := hid (E0.out.on (Below.refl _ _).drew)
        clear E0
        refine wp_region_held_drew (S := fun w => (Cel w g2 77 [.pointer (some ⟨p.g, 0, none⟩), .pointer (some ⟨r.g, 0, none⟩)] ∧ Cel w g3 48 [.int .i64 1, .int .u32 a, .int .u32 b, .int .i64 t, .int .i64 f, .int .u32 v]) ∧ w.cell? ⟨r.g, 0, none⟩ = some (.pointer (some ⟨qr.g, 0, none⟩)) ∧ w.cell? ⟨g7, j, none⟩ = some (.int .u32 fw)) (by kernel_rfl) ⟨⟨E1.out.get 2 rfl, E1.out.get 1 rfl⟩, HC0.out _ _ _ E1.out.doc, HFw.out _ (E1.out.get 0 rfl)⟩ (fun hHeld => ?_)
        generalize World.drew _ = w3 at *
        refine tk 0 (some 48) (.pointer (some ⟨g2, 1, none⟩)) ?_
        simp only [Act.put, tqA, tqZ, tqS]
        refine tk 1 (some 49) (.pointer (some ⟨r.g, 0, none⟩)) ?_ (hy := Or.inl ⟨by rfl, by intro w hSw; have t1 := hSw.1.1.cell 1; simp only [tqG, tqH] at t1; go_simp⟩)
        simp only [Act.put, tqA, tqZ, tqS]
        refine tk 2 (some 50) (.pointer (some ⟨r.g, 0, none⟩)) ?_
        simp only [Act.put, tqA, tqZ, tqS]
        refine tk 3 (some 51) (.pointer (some ⟨r.g, 0, none⟩)) ?_
        simp only [Act.put, tqA, tqZ, tqS]
        refine tk 4 (some 52) (.pointer (some ⟨qr.g, 0, none⟩)) ?_ (hy := Or.inl ⟨by rfl, by intro w hSw; have t1 := hSw.2.1; go_simp⟩)
        simp only [Act.put, tqA, tqZ, tqS]
        refine tk 5 (some 53) (.pointer (some ⟨g3, 1, none⟩)) ?_
        simp only [Act.put, tqA, tqZ, tqS]
        refine tk 6 (some 54) (.int .u32 a) ?_ (hy := Or.inl ⟨by rfl, by intro w hSw; have t1 := hSw.1.2.cell 1; simp only [tqG, tqH] at t1; go_simp⟩)
        simp only [Act.put, tqA, tqZ, tqS]
        refine tk 7 (some 55) (.int .i64 a) ?_
        simp only [Act.put, tqA, tqZ, tqS]
        refine tk 8 (some 56) (.agg #[.bool true, .int .i64 a]) ?_
        simp only [Act.put, tqA, tqZ, tqS]
        refine tk 9 (some 57) (.int .i64 (j : Int)) ?_
        simp only [Act.put, tqA, tqZ, tqS]
        refine tk 10 (some 58) (.int .i64 (11 + (j : Int))) ?_
        simp only [Act.put, tqA, tqZ, tqS]
        refine tk 11 (some 59) (.int .i64 (j : Int)) ?_
        simp only [Act.put, tqA, tqZ, tqS]
        refine tk 12 (some 60) (.pointer (some ⟨g7, j, none⟩)) ?_
        simp only [Act.put, tqA, tqZ, tqS]
        refine tk 13 (some 61) (.int .u32 fw) ?_ (hy := Or.inl ⟨by rfl, by intro w hSw; have t1 := hSw.2.2; go_simp⟩)
        simp only [Act.put, tqA, tqZ, tqS]
        refine wpAnyH_ready (rs := [14]) (by kernel_rfl) (by simp) (AllReadyH.cons rfl (fun KQ hK => ?_) AllReadyH.nil)
        go_simp
        refine (HWd.out _ _ _ E1.out.doc _ _).mono ?_
        rintro e2 w8 ⟨rfl, r2, hs⟩
        have HGr := hid hs.g
        have E2 := hid (E1.out.memR hs (MS.write_ns ..))
        clear hs E1
        go_wp2_with fail
        refine hK.out _ _ ⟨⟨E2.out.get 2 rfl, E2.out.get 1 rfl⟩, by have := HC0.out _ _ _ E2.out.doc; simp only [HGr.out] at this; exact this, HFw.out _ (E2.out.get 0 rfl)⟩ (fun hHeld => ?_)
        clear hK KQ
        try simp only [Act.put, tqA, tqZ, tqS]
        refine wpAnyH_done (by kernel_rfl) ?_ _
        go_wp2_with fail
        go_roundw
        case measure => have := HJ.out; simp [intOf]; omega
        case rel => exact ⟨j + 1, HJ.out, by simp, hid ⟨r2, by show TP W _ p r _ _ ((e1.dig a S0 j).wr a (11 + (j : Int)) (S0.getD j 0)) _; rw [HFE.out, HDD.out]; exact E2.out⟩⟩
      · have hj' : j = 26 := by omega
        subst hj'
        clear hlt hj
        go_wp2_with fail
        go_ret
        exact ⟨_, _, _, rfl, HGq.out _ _ _ _ _ E0.out, HNP.out _ _ _ _ _ E0.out HS1.out, HL.out⟩
theorem sets_any (W0 W : World) (p : Dp) (r : Rp) (d e : DS) (N : Nat) (h : NP W0 W p r d e) (hi : LI N d) (hT : H.Tab W0) (hR : H.TabR W0) (h2 : 1 < W0.heap.size) (k a b t f v : Int) (a0 : 0 ≤ a) (a1 : a < 4294967296) (b0 : 0 ≤ b) (b1 : b < 4294967296) (v0 : 0 ≤ v) (v1 : v < 4294967296) :
    Calls Tryz.prog 41 #[.agg #[ptr p.g, ptr r.g], opV k a b t f v] W fun x W' => ∃ q d' e', x = .returned (.bool true) ∧ St W W' p r q ∧ NP W0 W' p q d' e' ∧ LI N d' := by
  by_cases h1 : k = 1
  · exact sets_1 W0 W p r d e N h hi hT hR h2 k a b t f v a0 a1 b0 b1 v0 v1 h1
  by_cases h3 : k = 2
  · exact sets_2 W0 W p r d e N h hi hT hR h2 k a b t f v a0 a1 b0 b1 v0 v1 h3
  by_cases h4 : k = 3
  · exact sets_3 W0 W p r d e N h hi hT hR h2 k a b t f v a0 a1 b0 b1 v0 v1 h4
  by_cases h5 : k = 4
  · exact sets_4 W0 W p r d e N h hi hT hR h2 k a b t f v a0 a1 b0 b1 v0 v1 h5
  exact sets_0 W0 W p r d e N h hi hT hR h2 k a b t f v a0 a1 b0 b1 v0 v1 ⟨h1, h3, h4, h5⟩
end Go.Proofs.YtdfnbcbnmiohnaaGreatDoor
