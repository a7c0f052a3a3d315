import Derived.Test.YtdfnbcbnmiohnaaGreatDoorP32
import Derived.Test.YtdfnbcbnmiohnaaGreatDoorP29
import Derived.Test.YtdfnbcbnmiohnaaGreatDoorP01
import Derived.Test.YtdfnbcbnmiohnaaGreatDoorP40
import Derived.Test.YtdfnbcbnmiohnaaGreatDoorP21
namespace Go.Proofs.YtdfnbcbnmiohnaaGreatDoor
open Go.RowKit
set_option maxRecDepth 40000
set_option maxHeartbeats 4000000
theorem rhas_any (w : World) (r : Rf) (m : MS) (h : RMem w r m) (s : Bool) (p : Int) :
    Calls Tryz.prog 144 #[ptr r.g, fr s p] w fun x w' => x = .returned (.bool (m.at s p).isSome) ∧ Below w.heap.size w w' := by
  have hX := h.on (below_one w (.cells #[.bool s, .int .i64 p] 152))
  have hB := hid (below_one w (.cells #[.bool s, .int .i64 p] 152))
  have HF := hid (rplace_any _ r m hX s p)
  clear h hX
  generalize hr : m.at s p = o at *
  clear hr
  cases o with
  | none =>
    simp only [fr, ptr, pl, Option.isSome] at *
    go_enter Tryz.func144, Tryz.ntmps144
    go_wp2_with fail
    refine HF.out.mono ?_
    rintro x w1 ⟨rfl, hb1⟩
    have HB1 := hid (below_on hB.out hb1)
    clear hb1
    go_wp2_with fail
    go_ret
    exact ⟨rfl, HB1.out⟩
  | some k =>
    simp only [fr, ptr, pl, Option.isSome] at *
    go_enter Tryz.func144, Tryz.ntmps144
    go_wp2_with fail
    refine HF.out.mono ?_
    rintro x w1 ⟨rfl, hb1⟩
    have HB1 := hid (below_on hB.out hb1)
    clear hb1
    go_wp2_with fail
    go_ret
    exact ⟨ret_bool (by simp), HB1.out⟩
theorem rread_any (w : World) (r : Rf) (m : MS) (h : RMem w r m) (s : Bool) (p off : Int) :
    Calls Tryz.prog 125 #[ptr r.g, fr s p, .int .i64 off] w fun x w' => x = .returned (.tuple #[.int .u32 (m.word s p off), .int .i64 (m.err s p off)]) ∧ RSt w w' r r (m.read s p off) := by
  have hX := h.on (below_one w (.cells #[.bool s, .int .i64 p] 152))
  have hB := hid (below_one w (.cells #[.bool s, .int .i64 p] 152))
  have C4 := hid (Cel.new w 152 [.bool s, .int .i64 p])
  have HF := hid (rhas_any _ r m hX s p)
  have HNE : Hid (w.heap.size ∉ r.all) := hid (fun hm => by have := h.lt _ hm; omega)
  have H := hid hX
  clear h hX
  by_cases ho : (m.at s p).isSome = true ∧ In off
  · obtain ⟨ho1, ho2⟩ := ho
    have HE : Hid (m.err s p off = 0) := hid (by unfold MS.err; obtain ⟨k, hk⟩ := Option.isSome_iff_exists.1 ho1; rw [hk]; simp only [if_pos ho2])
    have HRD : Hid (m.read s p off = m.tick 1) := hid (by unfold MS.read; obtain ⟨k, hk⟩ := Option.isSome_iff_exists.1 ho1; rw [hk]; simp only [if_pos ho2])
    have HW : Hid ((m.tick 1).word s p off = m.word s p off) := hid rfl
    rw [ho1] at HF
    rw [HE.out, HRD.out]
    clear ho1
    obtain ⟨o0, o1⟩ := ho2
    simp only [fr, ptr] at *
    go_enter Tryz.func125, Tryz.ntmps125
    go_wp2_with fail
    refine HF.out.mono ?_
    rintro x w1 ⟨rfl, hb1⟩
    have HB1 := hid (below_on hB.out hb1)
    have HM := hid (H.out.on hb1)
    have C5 := hid (C4.out.on hb1)
    clear hb1
    have c2 : w1.cell? ⟨r.g, 2, none⟩ = some (.int .i64 m.c) := HM.out.cel.cell 2
    have f2 := HM.out.cel.free 2
    have HT := hid (HM.out.tick 1)
    have HBT : Hid (ButL r.all w (w1.setCell ⟨r.g, 2, none⟩ (.int .i64 (wrap64 (m.c + 1))))) := hid ((ButL.of HB1.out).trans (.setCell _ _ _ _ (by simp [Rf.all])))
    have C6 := hid (C5.out.but (ButL.setCell (G := [r.g]) w1 r.g 2 (.int .i64 (wrap64 (m.c + 1))) (by simp)) (by rw [List.mem_singleton]; intro e; exact HNE.out (by simp [Rf.all, e])))
    have y0 : (w1.setCell ⟨r.g, 2, none⟩ (.int .i64 (wrap64 (m.c + 1)))).cell? ⟨w.heap.size, 0, none⟩ = some (.bool s) := C6.out.cell 0
    have y1 : (w1.setCell ⟨r.g, 2, none⟩ (.int .i64 (wrap64 (m.c + 1)))).cell? ⟨w.heap.size, 1, none⟩ = some (.int .i64 p) := C6.out.cell 1
    go_wp2_with fail
    refine (rpeek_any _ r (m.tick 1) HT.out s p off).mono ?_
    rintro x w3 ⟨rfl, hb3⟩
    have HB3 := hid hb3
    clear hb3
    rw [HW.out]
    go_wp2_with fail
    go_ret2
    exact ⟨rfl, .same (HT.out.on HB3.out) (HBT.out.on HB3.out)⟩
  · have HRD : Hid (m.read s p off = m) := hid (by
      unfold MS.read
      cases hq : m.at s p with
      | none => rfl
      | some k => rw [hq] at ho; exact if_neg (fun hi => ho ⟨rfl, hi⟩))
    have HWD : Hid (m.word s p off = 0) := hid (by
      unfold MS.word
      cases hq : m.at s p with
      | none => rfl
      | some k => rw [hq] at ho; exact if_neg (fun hi => ho ⟨rfl, hi⟩))
    rw [HRD.out, HWD.out]
    unfold MS.err
    generalize m.at s p = o at *
    cases o with
    | none =>
      simp only [fr, ptr, Option.isSome] at *
      go_enter Tryz.func125, Tryz.ntmps125
      go_wp2_with fail
      refine HF.out.mono ?_
      rintro x w1 ⟨rfl, hb1⟩
      have HB1 := hid (below_on hB.out hb1)
      have HM := hid (H.out.on hb1)
      clear hb1
      go_wp2_with fail
      go_ret2
      exact ⟨rfl, .same HM.out (.of HB1.out)⟩
    | some k =>
      have hn : ¬ In off := fun hi => ho ⟨rfl, hi⟩
      have ho' : off < 0 ∨ (0 ≤ off ∧ 1024 ≤ off) := by unfold In at hn; omega
      simp only [fr, ptr, Option.isSome, if_neg hn] at *
      clear ho hn
      go_enter Tryz.func125, Tryz.ntmps125
      go_wp2_with fail
      refine HF.out.mono ?_
      rintro x w1 ⟨rfl, hb1⟩
      have HB1 := hid (below_on hB.out hb1)
      have HM := hid (H.out.on hb1)
      clear hb1
      rcases ho' with ho | ⟨ho, ho2⟩
      all_goals go_wp2_with fail
      all_goals go_ret2
      all_goals exact ⟨rfl, .same HM.out (.of HB1.out)⟩
end Go.Proofs.YtdfnbcbnmiohnaaGreatDoor
namespace Go.Proofs.YtdfnbcbnmiohnaaGreatDoor
open Go.RowKit
set_option maxRecDepth 100000
set_option maxHeartbeats 4000000
theorem u32s_at {w : World} {g : Nat} {t : TypeId} {L : List Int} (h : Cel w g t (u32s L)) (j : Nat) (hj : j < L.length) : w.cell? ⟨g, j, none⟩ = some (.int .u32 (L.getD j 0)) := by
  rw [h.cell, u32s, List.getElem?_map, List.getD_eq_getElem?_getD, List.getElem?_eq_getElem hj]
  rfl
theorem lay_l (W : World) (p : Dp) (d : DS) (h : DB W p d) (s : Int) (s0 : 0 ≤ s) (s1 : s < 4294967296) (L : List Int) (hL : L.length = 26) :
    Calls Tryz.prog 16 #[ptr p.g, .int .u32 s, .agg (u32s L).toArray] W fun e W' => e = .returned (.tuple #[]) ∧ DB W' p (d.dig s L 26) ∧ ButL p.f.w W W' := by
  have D0 := hid ((DG.startw h).new 44 (u32s L))
  have HMm := hid (fun w d' (hw : DB w p d') => memory_any w p d' hw)
  have HFr := hid (fun w => lframe_any w s s0 s1)
  have HWr := hid (fun w d' (hw : DB w p d') (off v : Int) => (write_any w p.f d'.m hw.mem true s off v))
  have HL := hid hL
  clear h hL s0 s1
  simp only [ptr, fr] at *
  go_enter Tryz.func16, Tryz.ntmps16
  go_upto_region 1 with fail
  generalize World.alloc _ _ = X at *
  generalize W.heap.size = g5 at *
  go_upto_region 2 with fail
  go_loopw [6] (fun i wr => ∃ j : Nat, j ≤ 26 ∧ i = .int .i64 (j : Int) ∧ Hid (DG W wr p (d.dig s L j) p.f.w [(g5, 44, u32s L)])) (fun i _ => 26 - (intOf i).toNat)
  case atStart => exact ⟨0, Nat.zero_le _, rfl, hid D0.out⟩
  case round =>
    obtain ⟨j, hj, rfl, HQ⟩ := hrel
    clear D0
    by_cases hlt : j < 26
    · have q1 : (j : Int) < 26 := by omega
      have kw : IntKind.wrap .i64 (11 + (j : Int)) = 11 + (j : Int) := by rw [IntKind.wrap_i64]; omega
      have kw2 : IntKind.wrap .i64 ((j : Int) + 1) = (j : Int) + 1 := by rw [IntKind.wrap_i64]; omega
      have HJ := hid hlt
      have HD1 : Hid (d.dig s L (j + 1) = (d.dig s L j).wr s (11 + (j : Int)) (L.getD j 0)) := hid rfl
      have HCJ := hid (fun w (hc : Cel w g5 44 (u32s L)) => u32s_at hc j (by have := HL.out; omega))
      clear hlt hj
      generalize hdn : d.dig s L (j + 1) = dn at *
      have HDN := hid hdn
      clear hdn
      generalize d.dig s L j = dj at *
      generalize L.getD j 0 = v at *
      go_upto_region 4 with fail
      have E1 := hid (HQ.out.on (Below.refl _ _).drew)
      clear HQ
      refine wp_region_held_drew (S := fun w => Cel w g5 44 (u32s L)) (by kernel_rfl) (E1.out.get 0 rfl) (fun hHeld => ?_)
      generalize World.drew _ = w3 at *
      refine tk 0 (some 11) (.pointer (some ⟨p.g, 0, none⟩)) ?_
      simp only [Act.put, tqA, tqZ, tqS]
      refine tk 2 (some 13) (.int .u32 s) ?_
      simp only [Act.put, tqA, tqZ, tqS]
      refine tk 4 (some 15) (.int .i64 (j : Int)) ?_
      simp only [Act.put, tqA, tqZ, tqS]
      refine tk 5 (some 16) (.int .i64 (11 + (j : Int))) ?_
      simp only [Act.put, tqA, tqZ, tqS]
      refine tk 6 (some 17) (.int .i64 (j : Int)) ?_
      simp only [Act.put, tqA, tqZ, tqS]
      refine tk 7 (some 18) (.pointer (some ⟨g5, j, none⟩)) ?_
      simp only [Act.put, tqA, tqZ, tqS]
      refine tk 8 (some 19) (.int .u32 v) ?_ (hy := Or.inl ⟨by rfl, by intro w hSw; have hc := HCJ.out w hSw; go_simp⟩)
      simp only [Act.put, tqA, tqZ, tqS]
      refine wpAnyH_ready (rs := [1]) (by kernel_rfl) (by simp) (AllReadyH.cons rfl (fun KQ hK => ?_) AllReadyH.nil)
      go_simp
      refine (HMm.out _ _ E1.out.db).mono ?_
      rintro e w4 ⟨rfl, rfl⟩
      go_wp2_with fail
      refine hK.out _ _ (E1.out.get 0 rfl) (fun hHeld => ?_)
      clear hK KQ
      try simp only [Act.put, tqA, tqZ, tqS]
      refine wpAnyH_ready (rs := [3]) (by kernel_rfl) (by simp) (AllReadyH.cons rfl (fun KQ hK => ?_) AllReadyH.nil)
      go_simp
      refine (HFr.out _).mono ?_
      rintro e w4 ⟨rfl, hb⟩
      have E2 := hid (E1.out.on hb)
      clear hb E1
      go_wp2_with fail
      refine hK.out _ _ (E2.out.get 0 rfl) (fun hHeld => ?_)
      clear hK KQ
      try simp only [Act.put, tqA, tqZ, tqS]
      refine wpAnyH_ready (rs := [9]) (by kernel_rfl) (by simp) (AllReadyH.cons rfl (fun KQ hK => ?_) AllReadyH.nil)
      go_simp
      refine (HWr.out _ _ E2.out.db _ _).mono ?_
      rintro e w5 ⟨rfl, hm, hb⟩
      have E3 : Hid (DG W w5 p dn p.f.w [(g5, 44, u32s L)]) := hid (by rw [HD1.out]; exact E2.out.mem hm hb (MS.write_ns ..))
      clear hm hb E2
      go_wp2_with fail
      refine hK.out _ _ (E3.out.get 0 rfl) (fun hHeld => ?_)
      clear hK KQ
      try simp only [Act.put, tqA, tqZ, tqS]
      refine wpAnyH_done (by kernel_rfl) ?_ _
      go_wp2_with fail
      go_roundw
      case measure => have := HJ.out; simp [intOf] <;> omega
      case rel => exact ⟨j + 1, HJ.out, by simp, hid (by rw [HDN.out]; exact E3.out)⟩
    · obtain rfl : j = 26 := by omega
      clear hlt hj
      go_wp2_with fail
      go_returns
      exact ⟨rfl, HQ.out.db, HQ.out.but⟩
def wi (x lo n : Int) : Int := lo + x % n
theorem within_any (W : World) (x lo hi : Int) (l0 : 0 ≤ lo) (hl : lo ≤ hi) (h1 : hi < 1000) :
    Calls Tryz.prog 11 #[.int .i64 x, .int .i64 lo, .int .i64 hi] W fun e W' => e = .returned (.int .i64 (wi x lo (hi - lo + 1))) ∧ W = W' := by
  unfold wi
  have n1 : 1 ≤ hi - lo + 1 := by omega
  have kw : IntKind.wrap .i64 (hi - lo) = hi - lo := by rw [IntKind.wrap_i64]; omega
  have kw1 : IntKind.wrap .i64 (hi - lo + 1) = hi - lo + 1 := by rw [IntKind.wrap_i64]; omega
  have hx1 : x % (hi - lo + 1) = if x.tmod (hi - lo + 1) < 0 then x.tmod (hi - lo + 1) + (hi - lo + 1) else x.tmod (hi - lo + 1) := by
    rw [Int.tmod_eq_emod]
    have e1 := Int.emod_nonneg x (show hi - lo + 1 ≠ 0 by omega)
    have e2 := Int.emod_lt_of_pos x (show 0 < hi - lo + 1 by omega)
    have e3 : ((hi - lo + 1).natAbs : Int) = hi - lo + 1 := by omega
    split <;> split <;> omega
  have hr0 : -(hi - lo + 1) < x.tmod (hi - lo + 1) ∧ x.tmod (hi - lo + 1) < hi - lo + 1 := by
    have e1 := Int.emod_nonneg x (show hi - lo + 1 ≠ 0 by omega)
    have e2 := Int.emod_lt_of_pos x (show 0 < hi - lo + 1 by omega)
    rw [hx1] at e1 e2
    split at e1 <;> split at e2 <;> (have := Int.lt_tmod_of_pos x (show 0 < hi - lo + 1 by omega); have := Int.tmod_lt_of_pos x (show 0 < hi - lo + 1 by omega); omega)
  rw [hx1]
  have hn0 : (hi - lo + 1 == 0) = false := by simp; omega
  have kr : IntKind.wrap .i64 (x.tmod (hi - lo + 1)) = x.tmod (hi - lo + 1) := by rw [IntKind.wrap_i64]; omega
  have ka : IntKind.wrap .i64 (x.tmod (hi - lo + 1) + hi) = x.tmod (hi - lo + 1) + hi := by rw [IntKind.wrap_i64]; omega
  have kb : IntKind.wrap .i64 (x.tmod (hi - lo + 1) + hi - lo) = x.tmod (hi - lo + 1) + hi - lo := by rw [IntKind.wrap_i64]; omega
  have kc : IntKind.wrap .i64 (x.tmod (hi - lo + 1) + hi - lo + 1) = x.tmod (hi - lo + 1) + hi - lo + 1 := by rw [IntKind.wrap_i64]; omega
  have kd : IntKind.wrap .i64 (lo + (x.tmod (hi - lo + 1) + hi - lo + 1)) = lo + (x.tmod (hi - lo + 1) + hi - lo + 1) := by rw [IntKind.wrap_i64]; omega
  have ke : IntKind.wrap .i64 (lo + x.tmod (hi - lo + 1)) = lo + x.tmod (hi - lo + 1) := by rw [IntKind.wrap_i64]; omega
  clear hx1
  by_cases hr : x.tmod (hi - lo + 1) < 0
  · rw [if_pos hr, show lo + (x.tmod (hi - lo + 1) + (hi - lo + 1)) = lo + (x.tmod (hi - lo + 1) + hi - lo + 1) by omega]
    go_enter Tryz.func11, Tryz.ntmps11
    go_wp2_with fail
    go_ret
    exact ⟨rfl, rfl⟩
  · rw [if_neg hr]
    have hr' : 0 ≤ x.tmod (hi - lo + 1) := by omega
    go_enter Tryz.func11, Tryz.ntmps11
    go_wp2_with fail
    go_ret
    exact ⟨rfl, rfl⟩
end Go.Proofs.YtdfnbcbnmiohnaaGreatDoor
namespace Go.Proofs.YtdfnbcbnmiohnaaGreatDoor
open Go.RowKit
set_option maxHeartbeats 8000000
set_option maxRecDepth 100000
attribute [-simp] Tryz.isAgg44 Tryz.sizeOf44 Tryz.zeroValue44 Tryz.isAgg55 Tryz.sizeOf55 Tryz.zeroValue55
structure RX (W w : World) (p q : Rp) (d : DS) (L : List (Nat × TypeId × List Value)) : Prop where
  rg : RG W w p q d
  bag : ∀ x ∈ L, Cel w x.1 x.2.1 x.2.2
  bnew : ∀ x ∈ L, W.heap.size ≤ x.1
  boff : ∀ x ∈ L, x.1 ∉ q.all
theorem RX.start {W : World} {p : Rp} {d : DS} (h : RDB W p d) : RX W W p p d [] := ⟨.start h, by simp, by simp, by simp⟩
theorem RX.db {W w : World} {p q : Rp} {d : DS} {L : List (Nat × TypeId × List Value)} (h : RX W w p q d L) : RDB w q d := h.rg.db
theorem RX.on {W w w' : World} {p q : Rp} {d : DS} {L : List (Nat × TypeId × List Value)} (h : RX W w p q d L) (hb : Below w.heap.size w w') : RX W w' p q d L := ⟨h.rg.on hb, fun x hx => (h.bag x hx).on hb, h.bnew, h.boff⟩
theorem RX.box {W w : World} {p q : Rp} {d : DS} {L : List (Nat × TypeId × List Value)} (h : RX W w p q d L) (t : TypeId) (cs : List Value) : RX W (w.alloc (.cells cs.toArray t)) p q d ((w.heap.size, t, cs) :: L) := by
  have h1 := h.on (below_one w (.cells cs.toArray t))
  refine ⟨h1.rg, fun x hx => ?_, fun x hx => ?_, fun x hx hm => ?_⟩
  · rcases List.mem_cons.1 hx with rfl | hx
    · exact Cel.new w t cs
    · exact h1.bag x hx
  · rcases List.mem_cons.1 hx with rfl | hx
    · exact h.rg.but.size
    · exact h.bnew x hx
  · rcases List.mem_cons.1 hx with rfl | hx
    · have := h.db.lt _ hm; simp at this
    · exact h.boff x hx hm
theorem RX.get {W w : World} {p q : Rp} {d : DS} {L : List (Nat × TypeId × List Value)} (h : RX W w p q d L) (k : Nat) {g : Nat} {t : TypeId} {cs : List Value} (hk : L[k]? = some (g, t, cs)) : Cel w g t cs := h.bag _ (List.mem_of_getElem? hk)
theorem RX.put {W w w' : World} {p q : Rp} {d : DS} {g : Nat} {t : TypeId} {cs es : List Value} {L : List (Nat × TypeId × List Value)} (h : RX W w p q d ((g, t, cs) :: L)) (hn : ∀ x ∈ L, x.1 ≠ g) (hc : Cel w' g t es) (hb : ButL [g] w w') : RX W w' p q d ((g, t, es) :: L) := by
  have h1 := h.bnew _ (List.mem_cons_self ..)
  have h2 := h.boff _ (List.mem_cons_self ..)
  refine ⟨⟨h.db.frame hb (fun k hk hm => ?_), h.rg.but.trans_sub hb (fun k hk => .inr ?_), h.rg.g, h.rg.sub⟩, fun x hx => ?_, fun x hx => ?_, fun x hx => ?_⟩
  · rw [List.mem_singleton] at hm; subst hm; exact h2 hk
  · rw [List.mem_singleton] at hk; subst hk; exact h1
  · rcases List.mem_cons.1 hx with rfl | hx
    · exact hc
    · exact (h.bag x (List.mem_cons_of_mem _ hx)).but hb (by rw [List.mem_singleton]; exact hn x hx)
  · rcases List.mem_cons.1 hx with rfl | hx
    · exact h1
    · exact h.bnew x (List.mem_cons_of_mem _ hx)
  · rcases List.mem_cons.1 hx with rfl | hx
    · exact h2
    · exact h.boff x (List.mem_cons_of_mem _ hx)
theorem RX.step {W w w' : World} {p q q' : Rp} {d e : DS} {L : List (Nat × TypeId × List Value)} (h : RX W w p q d L) (hR : RG w w' q q' e) : RX W w' p q' e L := by
  have hs := h.rg.but.size
  refine ⟨⟨hR.db, h.rg.but.trans_sub hR.but (fun k hk => h.rg.sub k hk), hR.g.trans h.rg.g, fun k hk => ?_⟩, fun x hx => (h.bag x hx).but hR.but (h.boff x hx), h.bnew, fun x hx hm => ?_⟩
  · rcases hR.sub k hk with hk | hk
    · exact h.rg.sub k hk
    · exact .inr (Nat.le_trans hs hk)
  · rcases hR.sub _ hm with hm | hm
    · exact h.boff x hx hm
    · have := (h.bag x hx).lt; omega
theorem RX.memR {W w w' : World} {p q : Rp} {d : DS} {r' : Rf} {m' : MS} {L : List (Nat × TypeId × List Value)} (h : RX W w p q d L) (hs : RSt w w' q.r r' m') (hn : m'.ns = d.m.ns) : RX W w' p { q with r := r' } { d with m := m' } L :=
  h.step ((RG.start h.db).mem hs hn)
theorem RX.box_put {W w w' : World} {p q : Rp} {d : DS} {L : List (Nat × TypeId × List Value)} {t : TypeId} {cs es : List Value} (h : RX W w p q d L) (hc : Cel w' w.heap.size t es) (hb : ButL [w.heap.size] (w.alloc (.cells cs.toArray t)) w') : RX W w' p q d ((w.heap.size, t, es) :: L) :=
  (h.box t cs).put (fun x hx => by have := (h.bag x hx).lt; omega) hc hb
theorem set_set {L : List Int} {i j : Nat} {u v : Int} (h : i ≠ j) : (L.set i u).set j v = (L.set j v).set i u := List.set_comm _ _ h
theorem wr_swap (d : DS) (s a b u v : Int) (ha : In a) (hb : In b) (h : a ≠ b) : DS.Sim ((d.wr s a u).wr s b v) ((d.wr s b v).wr s a u) := by
  have hab : a.toNat ≠ b.toNat := by obtain ⟨h1, _⟩ := ha; obtain ⟨h2, _⟩ := hb; omega
  refine ⟨rfl, rfl, ?_, ?_⟩
  · simp only [DS.wr, MS.write_ns]
  · simp only [DS.wr]
    unfold MS.write
    have hat : ∀ (m : MS) (P : List (List Int)) (c : Int), P.length = m.P.length → MS.at { m with P := P, c := c } true s = m.at true s := fun m P c hP => by unfold MS.at; simp only [hP]
    cases hk : d.m.at true s with
    | none => simp only [hk]
    | some k =>
      simp only [if_pos ha, if_pos hb]
      rw [show MS.at { MS.tick d.m 1 with P := d.m.P.set k ((d.m.p k).set a.toNat u) } true s = some k from (hat d.m _ _ (by simp)).trans hk,
        show MS.at { MS.tick d.m 1 with P := d.m.P.set k ((d.m.p k).set b.toNat v) } true s = some k from (hat d.m _ _ (by simp)).trans hk]
      simp only [MS.p]
      rcases Nat.lt_or_ge k d.m.P.length with hl | hl
      · simp only [List.getD_eq_getElem?_getD, List.getElem?_set_self hl, Option.getD_some, List.set_set]
        rw [set_set hab]
      · simp only [List.set_eq_of_length_le hl]
theorem dig_wr (d : DS) (s b v : Int) (hb : In b) (L : List Int) : ∀ j, j ≤ 26 → (∀ i : Nat, i < j → (11 + (i : Int)) ≠ b) → DS.Sim ((d.dig s L j).wr s b v) ((d.wr s b v).dig s L j)
  | 0, _, _ => .refl _
  | j + 1, hj, hn => by
    have h1 := dig_wr d s b v hb L j (by omega) (fun i hi => hn i (by omega))
    show DS.Sim (((d.dig s L j).wr s (11 + (j : Int)) (L.getD j 0)).wr s b v) (((d.wr s b v).dig s L j).wr s (11 + (j : Int)) (L.getD j 0))
    exact (wr_swap _ s _ _ _ _ ⟨by omega, by omega⟩ hb (hn j (by omega))).trans (h1.wr _ _ _)
theorem dig_lay8 (d : DS) (s : Int) (L M : List Int) : ∀ j, j ≤ 8 → DS.Sim ((d.dig s M 26).lay8 s L j) ((d.lay8 s L j).dig s M 26)
  | 0, _ => .refl _
  | j + 1, hj => by
    have h1 := dig_lay8 d s L M j (by omega)
    show DS.Sim (((d.dig s M 26).lay8 s L j).wr s (3 + (j : Int)) (L.getD j 0)) (((d.lay8 s L j).wr s (3 + (j : Int)) (L.getD j 0)).dig s M 26)
    exact (h1.wr s (3 + (j : Int)) (L.getD j 0)).trans (dig_wr _ s _ _ ⟨by omega, by omega⟩ M 26 (Nat.le_refl _) (fun i hi => by omega))
theorem zz_get (j : Nat) : zz.getD j 0 = 0 := by
  unfold zz
  rw [List.getD_eq_getElem?_getD, List.getElem?_replicate]
  split <;> rfl
theorem DS.Sim.fnE {d e : DS} (h : DS.Sim d e) (s : Int) : e.fnE s = d.fnE s := by unfold DS.fnE; rw [h.st]
theorem rfinish_fn (W : World) (d : DS) (s : Int) (hU : d.m.U) (hT : H.TabR W) (h2 : 1 < W.heap.size) :
    Calls Tryz.prog 124 #[H.Ag (d.st s)] W fun e W' => e = .returned (.tuple #[.agg (u32s (d.fnL s)).toArray, .int .i64 (d.fnE s)]) ∧ Below W.heap.size W W' := by
  by_cases hk : H.LoadOk (d.st s)
  · have e1 : d.fnL s = Q.fiS (d.st s) := by unfold DS.fnL; rw [if_pos hk]
    have e2 : d.fnE s = 0 := by unfold DS.fnE; rw [if_pos hk]
    rw [e1, e2]
    exact Q.rfinish_gen W hT h2 (d.st s) (d.st_length s) (DS.st_wds hU s) hk
  · have e1 : d.fnL s = List.replicate 8 0 := by unfold DS.fnL; rw [if_neg hk]
    have e2 : d.fnE s = 20 := by unfold DS.fnE; rw [if_neg hk]
    rw [e1, e2]
    exact Q.rfinish_no W (d.st s) (d.st_length s) (DS.st_wds hU s) hk
theorem rfinal_any (W : World) (p : Rp) (d : DS) (h : RDB W p d) (hU : d.m.U) (hG : ∀ u, ButL p.all W u → H.TabR u ∧ 1 < u.heap.size) (sp : Int) (w0 : 0 ≤ sp) (w1 : sp < 4294967296) :
    Calls Tryz.prog 77 #[ptr p.g, .int .u32 sp] W fun e W' => ∃ r' d', e = .returned (.int .i64 (d.fiC sp)) ∧ DS.Sim (d.fiD sp) d' ∧ RG W W' p ⟨p.g, p.ge, p.cap, r'⟩ d' := by
  have HX := hid (RX.start h)
  have HA := hid (rspace_any W p d h sp w0 w1)
  have hc := saE_cases d sp
  by_cases hC : d.saE sp = 0
  rotate_left
  · have e1 : d.fiC sp = d.saE sp := by unfold DS.fiC; rw [if_pos hC]
    have e2 : d.fiD sp = d := by unfold DS.fiD; rw [e1, if_neg hC]
    rw [e1, e2]
    have HS0 := hid (DS.Sim.refl d)
    have hC' : (d.saE sp != 0) = true := by simpa using hC
    generalize d.saE sp = C at *
    generalize d.sp1 sp = s1 at *
    generalize d.sp2 sp = s2 at *
    clear hC hc e1 e2 h hU hG w0 w1
    simp only [ptr] at *
    go_enter Tryz.func77, Tryz.ntmps77
    go_wp2_with (go_at_call 122; refine HA.out.mono ?_; rintro e1 w2 ⟨rfl, hb⟩; have X1 := hid (HX.out.on hb); clear hb)
    go_ret
    exact ⟨_, d, rfl, HS0.out, X1.out.rg⟩
  have hws : sp < (d.m.ns : Int) := (saE_yes hC).1
  have e3 : d.sp1 sp = sp := by unfold DS.sp1; rw [if_pos hC]
  have e4 : d.sp2 sp = (d.ent sp).s := by unfold DS.sp2; rw [if_pos hC]
  rw [hC, e3, e4] at HA
  have hS : d.fiC sp = if (d.ent sp).s = 1 then (if d.fnE sp = 0 then 0 else 4) else 4 := by unfold DS.fiC; rw [if_neg (by simp [hC])]
  clear hc e3 e4
  by_cases hs : (d.ent sp).s = 1
  rotate_left
  · have e1 : d.fiC sp = 4 := by rw [hS, if_neg hs]
    have e2 : d.fiD sp = d := by unfold DS.fiD; rw [e1]; rfl
    rw [e1, e2]
    have HS0 := hid (DS.Sim.refl d)
    have hs' : ((d.ent sp).s != 1) = true := by simpa using hs
    clear e1 e2 hS hC h hU hG w0 w1 hs hws
    generalize (d.ent sp).s = st at *
    simp only [ptr] at *
    go_enter Tryz.func77, Tryz.ntmps77
    go_wp2_with (go_at_call 122; refine HA.out.mono ?_; rintro e1 w2 ⟨rfl, hb⟩; have X1 := hid (HX.out.on hb); clear hb)
    go_ret
    exact ⟨_, d, rfl, HS0.out, X1.out.rg⟩
  rw [hs] at HA
  obtain ⟨Z, hZ⟩ : ∃ Z : List Int, Z = List.replicate 26 0 := ⟨_, rfl⟩
  have hZl : Z.length = 26 := by rw [hZ]; simp
  have hz : ∀ sp, (zeroValue 44).run Tryz.prog sp = .ok (.agg (Z.map (Value.int .u32)).toArray) sp := fun sp => by rw [Tryz.zeroValue44, hZ]; rfl
  clear hZ
  obtain ⟨Y, hY⟩ : ∃ Y : List Int, Y = List.replicate 8 0 := ⟨_, rfl⟩
  have hYl : Y.length = 8 := by rw [hY]; simp
  have hy : ∀ sp, (zeroValue 55).run Tryz.prog sp = .ok (.agg (Y.map (Value.int .u32)).toArray) sp := fun sp => by rw [Tryz.zeroValue55, hY]; rfl
  clear hY
  have HPk := hid (fun u (hw : RDB u p d) (off : Int) => rpeek_any u p.r d.m hw.mem true sp off)
  have HFi := hid (fun (u : World) (hu : ButL p.all W u) => rfinish_fn u d sp hU (hG u hu).1 (hG u hu).2)
  have HRd := hid (fun u (q : Rp) e (hw : RDB u q e) (off : Int) => rread_any u q.r e.m hw.mem true sp off)
  have HWr := hid (fun u (q : Rp) e (hw : RDB u q e) (off v : Int) => rwrite_any u q.r e.m hw.mem true sp off v)
  have HSs := hid (fun u (q : Rp) e (hw : RDB u q e) => rsetState_any u q e hw sp 2)
  have hL := d.st_length sp
  have HGt := hid (fun j hj => d.st_get sp j hj)
  have hFl := fnL_len d sp
  have HTw := hid (And.intro w0 hws)
  have HF0 : Hid (d.fnE sp = 0 → d.fiC sp = 0 ∧ d.fiD sp = (d.msr sp (d.fnL sp)).state sp 2) := hid (fun hf => by
    have e1 : d.fiC sp = 0 := by rw [hS, if_pos hs, if_pos hf]
    exact ⟨e1, by unfold DS.fiD; rw [e1]; rfl⟩)
  have HF4 : Hid (d.fnE sp ≠ 0 → d.fiC sp = 4 ∧ d.fiD sp = d) := hid (fun hf => by
    have e1 : d.fiC sp = 4 := by rw [hS, if_pos hs, if_neg hf]
    exact ⟨e1, by unfold DS.fiD; rw [e1]; rfl⟩)
  have HC0 := hid (fun (u : World) (q : Rp) (e : DS) (hw : RDB u q e) => hw.c0)
  clear h hU hG w0 w1 hC hws hS hs
  generalize d.fiC sp = C at *
  generalize d.fiD sp = DD at *
  generalize d.fnL sp = FL at *
  generalize d.fnE sp = FE at *
  generalize d.st sp = S at *
  simp only [ptr, fr, H.Ag] at *
  go_enter Tryz.func77, Tryz.ntmps77
  go_upto_region 7 with (go_at_call 122; refine HA.out.mono ?_; rintro e1 w2 ⟨rfl, hb⟩; have X1 := hid (HX.out.on hb); clear hb)
  have X2 := hid (X1.out.box 152 [.bool true, .int .i64 sp])
  clear X1 HX HA
  generalize World.alloc w2 _ = w3 at *
  generalize w2.heap.size = g8 at *
  go_upto_region 9 with fail
  have X3 : Hid (RX W (w3.alloc (Obj.cells (List.map (Value.int IntKind.u32) Z).toArray 44)) p p d [(w3.heap.size, 44, u32s Z), (g8, 152, [.bool true, .int .i64 sp])]) := hid (X2.out.box 44 (u32s Z))
  have HN : Hid (g8 < w3.heap.size) := hid (X2.out.get 0 rfl).lt
  clear X2
  generalize World.alloc w3 _ = w4 at *
  generalize w3.heap.size = g9 at *
  go_loopw [10] (fun i wr => ∃ j : Nat, j ≤ 26 ∧ i = .int .i64 (j : Int) ∧ Hid (RX W wr p p d [(g9, 44, u32s (mix S Z j)), (g8, 152, [.bool true, .int .i64 sp])])) (fun i _ => 26 - (intOf i).toNat)
  case atStart => exact ⟨0, Nat.zero_le _, rfl, hid (by rw [mix_zero]; exact X3.out)⟩
  case round =>
    clear X3
    obtain ⟨j, hj, rfl, HQ⟩ := hrel
    by_cases hlt : j < 26
    · have q1 : (j : Int) < 26 := by omega
      have kw : IntKind.wrap .i64 (11 + (j : Int)) = 11 + (j : Int) := by rw [IntKind.wrap_i64]; omega
      have kw2 : IntKind.wrap .i64 ((j : Int) + 1) = (j : Int) + 1 := by rw [IntKind.wrap_i64]; omega
      have HJ := hid hlt
      have HG1 := hid (HGt.out j hlt)
      clear hlt hj
      generalize hwd : d.m.word true sp (11 + (j : Int)) = wd at HG1
      have HWd := hid hwd
      clear hwd
      go_upto_region 11 with fail
      have E1 := hid (HQ.out.on (Below.refl _ _).drew)
      clear HQ
      refine wp_region_held_drew (S := fun w => Cel w g8 152 [.bool true, .int .i64 sp] ∧ w.cell? ⟨p.g, 0, none⟩ = some (.pointer (some ⟨p.r.g, 0, none⟩))) (by kernel_rfl) ⟨E1.out.get 1 rfl, HC0.out _ _ _ E1.out.db⟩ (fun hHeld => ?_)
      generalize World.drew _ = w3 at *
      refine tk 0 (some 34) (.int .i64 (j : Int)) ?_
      simp only [Act.put, tqA, tqZ, tqS]
      refine tk 1 (some 35) (.pointer (some ⟨p.g, 0, none⟩)) ?_
      simp only [Act.put, tqA, tqZ, tqS]
      refine tk 2 (some 36) (.pointer (some ⟨p.g, 0, none⟩)) ?_
      simp only [Act.put, tqA, tqZ, tqS]
      refine tk 3 (some 37) (.pointer (some ⟨p.g, 0, none⟩)) ?_
      simp only [Act.put, tqA, tqZ, tqS]
      refine tk 4 (some 38) (.pointer (some ⟨p.r.g, 0, none⟩)) ?_ (hy := Or.inl ⟨by rfl, by intro w hSw; have t1 := hSw.2; go_simp⟩)
      simp only [Act.put, tqA, tqZ, tqS]
      refine tk 5 (some 39) (.agg #[.bool true, .int .i64 sp]) ?_ (hy := Or.inl ⟨by rfl, by intro w hSw; have t1 := hSw.1.cell 0; have t2 := hSw.1.cell 1; simp only [tqG, tqH] at t1 t2; go_simp⟩)
      simp only [Act.put, tqA, tqZ, tqS]
      refine tk 6 (some 40) (.int .i64 (j : Int)) ?_
      simp only [Act.put, tqA, tqZ, tqS]
      refine tk 7 (some 41) (.int .i64 (11 + (j : Int))) ?_
      simp only [Act.put, tqA, tqZ, tqS]
      refine wpAnyH_ready (rs := [8]) (by kernel_rfl) (by simp) (AllReadyH.cons rfl (fun KQ hK => ?_) AllReadyH.nil)
      go_simp
      refine (HPk.out _ E1.out.db _).mono ?_
      rintro e w5 ⟨rfl, hb⟩
      have E3 := hid (E1.out.on hb)
      clear hb E1
      rw [HWd.out]
      go_wp2_with fail
      refine hK.out _ _ ⟨E3.out.get 1 rfl, HC0.out _ _ _ E3.out.db⟩ (fun hHeld => ?_)
      clear hK KQ
      try simp only [Act.put, tqA, tqZ, tqS]
      refine tk 9 (some 43) (.pointer (some ⟨g9, j, none⟩)) ?_
      simp only [Act.put, tqA, tqZ, tqS]
      refine wpAnyH_ready (rs := [10]) (by kernel_rfl) (by simp) (AllReadyH.cons rfl (fun KQ hK => ?_) AllReadyH.nil)
      (obtain ⟨y, z0⟩ := mix_cell (E3.out.get 0 rfl) (by have := HJ.out; omega) (by omega); have z1 := (E3.out.get 0 rfl).free j; go_simp)
      have E4 := hid (E3.out.put (fun q hq => by simp only [List.mem_cons, List.not_mem_nil, or_false] at hq; subst hq; have := HN.out; simp only; omega) ((E3.out.get 0 rfl).setCell j (.int .u32 wd)) (.setCell _ _ _ _ (by simp)))
      rw [mix_set S Z j wd (by have := HJ.out; omega) (by omega) HG1.out] at E4
      have E5 := hid E4.out
      clear E4 E3 z0 z1
      generalize World.setCell _ _ _ = w7 at *
      refine hK.out _ _ ⟨E5.out.get 1 rfl, HC0.out _ _ _ E5.out.db⟩ (fun hHeld => ?_)
      clear hK KQ
      try simp only [Act.put]
      refine wpAnyH_done (by kernel_rfl) ?_ _
      go_wp2_with fail
      go_roundw
      case measure => have := HJ.out; simp [intOf]; omega
      case rel => exact ⟨j + 1, HJ.out, by simp, hid E5.out⟩
    · have hj' : j = 26 := by omega
      subst hj'
      clear hlt hj HGt HPk
      rw [show ((26 : Nat) : Int) = 26 from rfl]
      have hmx : mix S Z 26 = S := by have := mix_all S Z (by omega); rw [hL] at this; exact this
      rw [hmx] at HQ
      clear hmx
      have HP := hid (HFi.out wr HQ.out.rg.but)
      go_upto_region 13 with (first | (refine wpList_load_mid rfl 44 _ rfl g9 0 rfl _ _ (HQ.out.get 0 rfl).range under44 rfl (by rw [size44]; simp [u32s, hL]) ?_) | (go_at_call 124; refine HP.out.mono ?_; rintro e w5 ⟨rfl, hb⟩; have F1 := hid (HQ.out.on hb); clear hb HP HFi) | (refine wpList_store_st rfl 55 _ _ rfl w5.heap.size (u32s FL) rfl rfl (Cel.new w5 55 (u32s Y)) (by rw [u32s, List.length_map, hFl]; exact size55) (by simp [u32s, hYl, hFl]) (List.all_eq_true.2 (fun v hv => by simp only [u32s, List.mem_map] at hv; obtain ⟨x, _, rfl⟩ := hv; rfl)) ?_; intro w6 hc hb hs; have F2 := hid (RX.box_put F1.out hc hb); have HN2 : Hid (g8 < w5.heap.size) := hid (F1.out.get 1 rfl).lt; clear hc hb hs F1))
      generalize w5.heap.size = g11 at *
      by_cases hf : FE = 0
      rotate_left
      · have hf' : (FE != 0) = true := by simpa using hf
        obtain ⟨h1, h2⟩ := HF4.out hf
        have HC1 := hid h1
        have HD1 := hid h2
        clear h1 h2 hf HWr HSs HF0 HF4
        have HS0 := hid (DS.Sim.refl d)
        go_upto_region 15 with fail
        go_loopw [13] (fun i wr => ∃ j : Nat, j ≤ 26 ∧ i = .int .i64 (j : Int) ∧ Hid (∃ e, DS.Sim d e ∧ RX W wr p p e [(g11, 55, u32s FL), (g9, 44, u32s S), (g8, 152, [.bool true, .int .i64 sp])])) (fun i _ => 26 - (intOf i).toNat)
        case atStart => exact ⟨0, Nat.zero_le _, rfl, hid ⟨d, HS0.out, F2.out⟩⟩
        case round =>
          clear F2
          obtain ⟨j, hj, rfl, HQ⟩ := hrel
          obtain ⟨e, hs, hr⟩ := HQ.out
          have S0 := hid hs
          have E0 := hid hr
          clear HQ hs hr
          by_cases hlt : j < 26
          · have q1 : (j : Int) < 26 := by omega
            have kw : IntKind.wrap .i64 (11 + (j : Int)) = 11 + (j : Int) := by rw [IntKind.wrap_i64]; omega
            have HJ := hid hlt
            clear hlt hj
            go_upto_region 17 with fail
            have E1 := hid (E0.out.on (Below.refl _ _).drew)
            clear E0
            refine wp_region_held_drew (S := fun w => (Cel w g8 152 [.bool true, .int .i64 sp] ∧ w.cell? ⟨p.g, 0, none⟩ = some (.pointer (some ⟨p.r.g, 0, none⟩))) ∧ True) (by kernel_rfl) ⟨⟨E1.out.get 2 rfl, HC0.out _ _ _ E1.out.db⟩, trivial⟩ (fun hHeld => ?_)
            generalize World.drew _ = w3 at *
            refine tk 0 (some 55) (.pointer (some ⟨p.g, 0, none⟩)) ?_
            simp only [Act.put, tqA, tqZ, tqS]
            refine tk 1 (some 56) (.pointer (some ⟨p.g, 0, none⟩)) ?_
            simp only [Act.put, tqA, tqZ, tqS]
            refine tk 2 (some 57) (.pointer (some ⟨p.g, 0, none⟩)) ?_
            simp only [Act.put, tqA, tqZ, tqS]
            refine tk 3 (some 58) (.pointer (some ⟨p.r.g, 0, none⟩)) ?_ (hy := Or.inl ⟨by rfl, by intro w hSw; have t1 := hSw.1.2; go_simp⟩)
            simp only [Act.put, tqA, tqZ, tqS]
            refine tk 4 (some 59) (.agg #[.bool true, .int .i64 sp]) ?_ (hy := Or.inl ⟨by rfl, by intro w hSw; have t1 := hSw.1.1.cell 0; have t2 := hSw.1.1.cell 1; simp only [tqG, tqH] at t1 t2; go_simp⟩)
            simp only [Act.put, tqA, tqZ, tqS]
            refine tk 5 (some 60) (.int .i64 (j : Int)) ?_
            simp only [Act.put, tqA, tqZ, tqS]
            refine tk 6 (some 61) (.int .i64 (11 + (j : Int))) ?_
            simp only [Act.put, tqA, tqZ, tqS]
            refine wpAnyH_ready (rs := [7]) (by kernel_rfl) (by simp) (AllReadyH.cons rfl (fun KQ hK => ?_) AllReadyH.nil)
            go_simp
            refine (HRd.out _ _ _ E1.out.db _).mono ?_
            rintro e1 w5 ⟨rfl, hs⟩
            have E2 := hid (E1.out.memR hs (MS.read_ns ..))
            clear hs E1
            go_wp2_with fail
            refine hK.out _ _ ⟨⟨E2.out.get 2 rfl, HC0.out _ _ _ E2.out.db⟩, trivial⟩ (fun hHeld => ?_)
            clear hK KQ
            try simp only [Act.put, tqA, tqZ, tqS]
            refine wpAnyH_done (by kernel_rfl) ?_ _
            go_wp2_with fail
            go_roundw
            case measure => have := HJ.out; simp [intOf]; omega
            case rel => exact ⟨j + 1, HJ.out, by simp, hid ⟨_, S0.out.trans (DS.Sim.read e true sp (11 + (j : Int))), E2.out⟩⟩
          · have hj' : j = 26 := by omega
            subst hj'
            go_wp2_with fail
            go_ret
            exact ⟨_, e, by rw [HC1.out]; rfl, by rw [HD1.out]; exact S0.out, E0.out.rg⟩
      · subst hf
        obtain ⟨h1, h2⟩ := HF0.out rfl
        have HC1 := hid h1
        have HD1 := hid h2
        clear h1 h2 HF0 HF4
        have S0 := hid (DS.Sim.refl d)
        go_upto_region 20 with fail
        go_loopw [14] (fun i wr => ∃ j : Nat, j ≤ 26 ∧ i = .int .i64 (j : Int) ∧ Hid (∃ r e, DS.Sim (d.dig sp zz j) e ∧ RX W wr p ⟨p.g, p.ge, p.cap, r⟩ e [(g11, 55, u32s FL), (g9, 44, u32s S), (g8, 152, [.bool true, .int .i64 sp])])) (fun i _ => 26 - (intOf i).toNat)
        case atStart => exact ⟨0, Nat.zero_le _, rfl, hid ⟨p.r, d, S0.out, F2.out⟩⟩
        case round =>
          clear F2 S0
          obtain ⟨j, hj, rfl, HQ⟩ := hrel
          obtain ⟨r, e, hs, hr⟩ := HQ.out
          have S0 := hid hs
          have E0 := hid hr
          clear HQ hs hr
          by_cases hlt : j < 26
          · have q1 : (j : Int) < 26 := by omega
            have kw : IntKind.wrap .i64 (11 + (j : Int)) = 11 + (j : Int) := by rw [IntKind.wrap_i64]; omega
            have HJ := hid hlt
            clear hlt hj
            go_upto_region 22 with fail
            have E1 := hid (E0.out.on (Below.refl _ _).drew)
            clear E0
            refine wp_region_held_drew (S := fun w => (Cel w g8 152 [.bool true, .int .i64 sp] ∧ w.cell? ⟨p.g, 0, none⟩ = some (.pointer (some ⟨r.g, 0, none⟩))) ∧ True) (by kernel_rfl) ⟨⟨E1.out.get 2 rfl, HC0.out _ _ _ E1.out.db⟩, trivial⟩ (fun hHeld => ?_)
            generalize World.drew _ = w3 at *
            refine tk 0 (some 67) (.pointer (some ⟨p.g, 0, none⟩)) ?_
            simp only [Act.put, tqA, tqZ, tqS]
            refine tk 1 (some 68) (.pointer (some ⟨p.g, 0, none⟩)) ?_
            simp only [Act.put, tqA, tqZ, tqS]
            refine tk 2 (some 69) (.pointer (some ⟨p.g, 0, none⟩)) ?_
            simp only [Act.put, tqA, tqZ, tqS]
            refine tk 3 (some 70) (.pointer (some ⟨r.g, 0, none⟩)) ?_ (hy := Or.inl ⟨by rfl, by intro w hSw; have t1 := hSw.1.2; go_simp⟩)
            simp only [Act.put, tqA, tqZ, tqS]
            refine tk 4 (some 71) (.agg #[.bool true, .int .i64 sp]) ?_ (hy := Or.inl ⟨by rfl, by intro w hSw; have t1 := hSw.1.1.cell 0; have t2 := hSw.1.1.cell 1; simp only [tqG, tqH] at t1 t2; go_simp⟩)
            simp only [Act.put, tqA, tqZ, tqS]
            refine tk 5 (some 72) (.int .i64 (j : Int)) ?_
            simp only [Act.put, tqA, tqZ, tqS]
            refine tk 6 (some 73) (.int .i64 (11 + (j : Int))) ?_
            simp only [Act.put, tqA, tqZ, tqS]
            refine wpAnyH_ready (rs := [7]) (by kernel_rfl) (by simp) (AllReadyH.cons rfl (fun KQ hK => ?_) AllReadyH.nil)
            go_simp
            refine (HRd.out _ _ _ E1.out.db _).mono ?_
            rintro e1 w5 ⟨rfl, hs⟩
            have E2 := hid (E1.out.memR hs (MS.read_ns ..))
            clear hs E1
            go_wp2_with fail
            refine hK.out _ _ ⟨⟨E2.out.get 2 rfl, HC0.out _ _ _ E2.out.db⟩, trivial⟩ (fun hHeld => ?_)
            clear hK KQ
            try simp only [Act.put, tqA, tqZ, tqS]
            refine wpAnyH_done (by kernel_rfl) ?_ _
            have S1 : Hid (DS.Sim (d.dig sp zz j) { e with m := e.m.read true sp (11 + (j : Int)) }) := hid (S0.out.trans (DS.Sim.read e true sp (11 + (j : Int))))
            have E3 : Hid (RX W w5 p ⟨p.g, p.ge, p.cap, r⟩ { e with m := e.m.read true sp (11 + (j : Int)) } [(g11, 55, u32s FL), (g9, 44, u32s S), (g8, 152, [.bool true, .int .i64 sp])]) := hid E2.out
            clear E2 S0
            generalize ({ e with m := e.m.read true sp (11 + (j : Int)) } : DS) = ea at *
            go_upto_region 23 with fail
            have E4 := hid (E3.out.on (Below.refl _ _).drew)
            clear E3
            refine wp_region_held_drew (S := fun w => (Cel w g8 152 [.bool true, .int .i64 sp] ∧ w.cell? ⟨p.g, 0, none⟩ = some (.pointer (some ⟨r.g, 0, none⟩))) ∧ True) (by kernel_rfl) ⟨⟨E4.out.get 2 rfl, HC0.out _ _ _ E4.out.db⟩, trivial⟩ (fun hHeld => ?_)
            generalize World.drew _ = w3 at *
            refine tk 0 (some 75) (.pointer (some ⟨p.g, 0, none⟩)) ?_
            simp only [Act.put, tqA, tqZ, tqS]
            refine tk 1 (some 76) (.pointer (some ⟨p.g, 0, none⟩)) ?_
            simp only [Act.put, tqA, tqZ, tqS]
            refine tk 2 (some 77) (.pointer (some ⟨p.g, 0, none⟩)) ?_
            simp only [Act.put, tqA, tqZ, tqS]
            refine tk 3 (some 78) (.pointer (some ⟨r.g, 0, none⟩)) ?_ (hy := Or.inl ⟨by rfl, by intro w hSw; have t1 := hSw.1.2; go_simp⟩)
            simp only [Act.put, tqA, tqZ, tqS]
            refine tk 4 (some 79) (.agg #[.bool true, .int .i64 sp]) ?_ (hy := Or.inl ⟨by rfl, by intro w hSw; have t1 := hSw.1.1.cell 0; have t2 := hSw.1.1.cell 1; simp only [tqG, tqH] at t1 t2; go_simp⟩)
            simp only [Act.put, tqA, tqZ, tqS]
            refine tk 5 (some 80) (.int .i64 (j : Int)) ?_
            simp only [Act.put, tqA, tqZ, tqS]
            refine tk 6 (some 81) (.int .i64 (11 + (j : Int))) ?_
            simp only [Act.put, tqA, tqZ, tqS]
            refine wpAnyH_ready (rs := [7]) (by kernel_rfl) (by simp) (AllReadyH.cons rfl (fun KQ hK => ?_) AllReadyH.nil)
            go_simp
            refine (HWr.out _ _ _ E4.out.db _ _).mono ?_
            rintro e1 w6 ⟨rfl, r2, hs⟩
            have HGr := hid hs.g
            have E5 := hid (E4.out.memR hs (MS.write_ns ..))
            clear hs E4
            go_wp2_with fail
            refine hK.out _ _ ⟨⟨E5.out.get 2 rfl, by have := HC0.out _ _ _ E5.out.db; simp only [HGr.out] at this; exact this⟩, trivial⟩ (fun hHeld => ?_)
            clear hK KQ
            try simp only [Act.put, tqA, tqZ, tqS]
            refine wpAnyH_done (by kernel_rfl) ?_ _
            have S2 := hid (S1.out.wr sp (11 + (j : Int)) 0)
            have HZ := hid (zz_get j)
            go_wp2_with fail
            go_roundw
            case measure => have := HJ.out; simp [intOf]; omega
            case rel => exact ⟨j + 1, HJ.out, by simp, hid ⟨r2, ea.wr sp (11 + (j : Int)) 0, by show DS.Sim ((d.dig sp zz j).wr sp (11 + (j : Int)) (zz.getD j 0)) _; rw [HZ.out]; exact S2.out, E5.out⟩⟩
          · have hj' : j = 26 := by omega
            subst hj'
            clear hlt hj
            rw [show ((26 : Nat) : Int) = 26 from rfl]
            go_upto_region 25 with fail
            go_loopw [15] (fun i wr => ∃ j : Nat, j ≤ 8 ∧ i = .int .i64 (j : Int) ∧ Hid (∃ r e, DS.Sim ((d.dig sp zz 26).lay8 sp FL j) e ∧ RX W wr p ⟨p.g, p.ge, p.cap, r⟩ e [(g11, 55, u32s FL), (g9, 44, u32s S), (g8, 152, [.bool true, .int .i64 sp])])) (fun i _ => 8 - (intOf i).toNat)
            case atStart => exact ⟨0, Nat.zero_le _, rfl, hid ⟨r, e, S0.out, E0.out⟩⟩
            case round =>
              clear E0 S0
              obtain ⟨j, hj, rfl, HQ⟩ := hrel
              obtain ⟨r, e, hs, hr⟩ := HQ.out
              have S0 := hid hs
              have E0 := hid hr
              clear HQ hs hr
              by_cases hlt : j < 8
              · have q1 : (j : Int) < 8 := by omega
                have kw : IntKind.wrap .i64 (3 + (j : Int)) = 3 + (j : Int) := by rw [IntKind.wrap_i64]; omega
                have HJ := hid hlt
                have HFw : Hid (∀ u, Cel u g11 55 (u32s FL) → u.cell? ⟨g11, j, none⟩ = some (.int .u32 (FL.getD j 0))) := hid (fun u hu => u32s_at hu j (by rw [hFl]; exact HJ.out))
                obtain ⟨fw, hfw⟩ : ∃ fw, FL.getD j 0 = fw := ⟨_, rfl⟩
                rw [hfw] at HFw
                have HFE := hid hfw
                clear hlt hj hfw
                go_upto_region 27 with fail
                have E1 := hid (E0.out.on (Below.refl _ _).drew)
                clear E0
                refine wp_region_held_drew (S := fun w => (Cel w g8 152 [.bool true, .int .i64 sp] ∧ w.cell? ⟨p.g, 0, none⟩ = some (.pointer (some ⟨r.g, 0, none⟩))) ∧ w.cell? ⟨g11, j, none⟩ = some (.int .u32 fw)) (by kernel_rfl) ⟨⟨E1.out.get 2 rfl, HC0.out _ _ _ E1.out.db⟩, HFw.out _ (E1.out.get 0 rfl)⟩ (fun hHeld => ?_)
                generalize World.drew _ = w3 at *
                refine tk 0 (some 87) (.pointer (some ⟨p.g, 0, none⟩)) ?_
                simp only [Act.put, tqA, tqZ, tqS]
                refine tk 1 (some 88) (.pointer (some ⟨p.g, 0, none⟩)) ?_
                simp only [Act.put, tqA, tqZ, tqS]
                refine tk 2 (some 89) (.pointer (some ⟨p.g, 0, none⟩)) ?_
                simp only [Act.put, tqA, tqZ, tqS]
                refine tk 3 (some 90) (.pointer (some ⟨r.g, 0, none⟩)) ?_ (hy := Or.inl ⟨by rfl, by intro w hSw; have t1 := hSw.1.2; go_simp⟩)
                simp only [Act.put, tqA, tqZ, tqS]
                refine tk 4 (some 91) (.agg #[.bool true, .int .i64 sp]) ?_ (hy := Or.inl ⟨by rfl, by intro w hSw; have t1 := hSw.1.1.cell 0; have t2 := hSw.1.1.cell 1; simp only [tqG, tqH] at t1 t2; go_simp⟩)
                simp only [Act.put, tqA, tqZ, tqS]
                refine tk 5 (some 92) (.int .i64 (j : Int)) ?_
                simp only [Act.put, tqA, tqZ, tqS]
                refine tk 6 (some 93) (.int .i64 (3 + (j : Int))) ?_
                simp only [Act.put, tqA, tqZ, tqS]
                refine tk 7 (some 94) (.int .i64 (j : Int)) ?_
                simp only [Act.put, tqA, tqZ, tqS]
                refine tk 8 (some 95) (.pointer (some ⟨g11, j, none⟩)) ?_
                simp only [Act.put, tqA, tqZ, tqS]
                refine tk 9 (some 96) (.int .u32 fw) ?_ (hy := Or.inl ⟨by rfl, by intro w hSw; have t1 := hSw.2; go_simp⟩)
                simp only [Act.put, tqA, tqZ, tqS]
                refine wpAnyH_ready (rs := [10]) (by kernel_rfl) (by simp) (AllReadyH.cons rfl (fun KQ hK => ?_) AllReadyH.nil)
                go_simp
                refine (HWr.out _ _ _ E1.out.db _ _).mono ?_
                rintro e1 w6 ⟨rfl, r2, hs⟩
                have HGr := hid hs.g
                have E2 := hid (E1.out.memR hs (MS.write_ns ..))
                clear hs E1
                go_wp2_with fail
                refine hK.out _ _ ⟨⟨E2.out.get 2 rfl, by have := HC0.out _ _ _ E2.out.db; simp only [HGr.out] at this; exact this⟩, HFw.out _ (E2.out.get 0 rfl)⟩ (fun hHeld => ?_)
                clear hK KQ
                try simp only [Act.put, tqA, tqZ, tqS]
                refine wpAnyH_done (by kernel_rfl) ?_ _
                have S2 := hid (S0.out.wr sp (3 + (j : Int)) fw)
                go_wp2_with fail
                go_roundw
                case measure => have := HJ.out; simp [intOf]; omega
                case rel => exact ⟨j + 1, HJ.out, by simp, hid ⟨r2, e.wr sp (3 + (j : Int)) fw, by show DS.Sim (((d.dig sp zz 26).lay8 sp FL j).wr sp (3 + (j : Int)) (FL.getD j 0)) _; rw [HFE.out]; exact S2.out, E2.out⟩⟩
              · have hj' : j = 8 := by omega
                subst hj'
                clear hlt hj
                rw [show ((8 : Nat) : Int) = 8 from rfl]
                have SZ := hid (((dig_lay8 d sp FL zz 8 (Nat.le_refl _)).symm.trans S0.out).state sp 2)
                have HSb := hid (HSs.out wr _ _ E0.out.db)
                clear S0
                go_wp2_with (go_at_call 126; refine HSb.out.mono ?_; rintro e1 w6 ⟨rfl, hg⟩; have EZ := hid (E0.out.step hg); clear hg)
                go_ret
                exact ⟨r, _, by rw [HC1.out]; rfl, by rw [HD1.out]; exact SZ.out, EZ.out.rg⟩
end Go.Proofs.YtdfnbcbnmiohnaaGreatDoor
