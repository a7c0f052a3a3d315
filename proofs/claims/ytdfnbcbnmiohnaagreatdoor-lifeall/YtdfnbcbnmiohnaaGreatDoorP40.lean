import Derived.Test.YtdfnbcbnmiohnaaGreatDoorP39
import Derived.Test.YtdfnbcbnmiohnaaGreatDoorP01
import Derived.Test.YtdfnbcbnmiohnaaGreatDoorP21
import Derived.Test.YtdfnbcbnmiohnaaGreatDoorP13
namespace Go.Proofs.YtdfnbcbnmiohnaaGreatDoor
open Go.RowKit
set_option maxRecDepth 100000
set_option maxHeartbeats 4000000
structure RO (W0 w : World) (p : Dp) (d : DS) (L : List (Nat × TypeId × List Value)) : Prop where
  o : OD W0 w p d
  bag : ∀ x ∈ L, Cel w x.1 x.2.1 x.2.2
  off : ∀ x ∈ L, x.1 ∉ p.all
theorem RO.start {W0 w : World} {p : Dp} {d : DS} (h : OD W0 w p d) : RO W0 w p d [] := ⟨h, by simp, by simp⟩
theorem RO.on {W0 w w' : World} {p : Dp} {d : DS} {L : List (Nat × TypeId × List Value)} (h : RO W0 w p d L) (hb : Below w.heap.size w w') : RO W0 w' p d L := ⟨h.o.on hb, fun x hx => (h.bag x hx).on hb, h.off⟩
theorem RO.get {W0 w : World} {p : Dp} {d : DS} {L : List (Nat × TypeId × List Value)} (h : RO W0 w p d L) (k : Nat) {g : Nat} {t : TypeId} {cs : List Value} (hk : L[k]? = some (g, t, cs)) : Cel w g t cs := h.bag _ (List.mem_of_getElem? hk)
theorem RO.new {W0 w : World} {p : Dp} {d : DS} {L : List (Nat × TypeId × List Value)} (h : RO W0 w p d L) (t : TypeId) (cs : List Value) : RO W0 (w.alloc (.cells cs.toArray t)) p d ((w.heap.size, t, cs) :: L) :=
  ⟨h.o.on (below_one w _), fun x hx => by
    rcases List.mem_cons.1 hx with rfl | hx
    · exact Cel.new w t cs
    · exact (h.bag x hx).on (below_one w _), fun x hx hm => by
    rcases List.mem_cons.1 hx with rfl | hx
    · exact absurd (h.o.db.lt _ hm) (Nat.lt_irrefl _)
    · exact h.off x hx hm⟩
theorem RO.step {W0 w w' : World} {p : Dp} {d d' : DS} {L : List (Nat × TypeId × List Value)} (h : RO W0 w p d L) (hd : DB w' p d') (hb : ButL p.w w w') : RO W0 w' p d' L :=
  ⟨h.o.step hd hb, fun x hx => (h.bag x hx).but hb (fun hm => h.off x hx (p.w_all' _ hm)), h.off⟩
theorem RO.box {W0 w w2 : World} {p : Dp} {d : DS} {u : TypeId} {ds es : List Value} (h : OD W0 w p d) (hc : Cel w2 w.heap.size u es) (hb : ButL [w.heap.size] (w.alloc (.cells ds.toArray u)) w2) : RO W0 w2 p d [(w.heap.size, u, es)] :=
  ⟨h.on ((below_one w _).trans (hb.below (by simp) (by simp))), fun x hx => by rw [List.mem_singleton] at hx; subst hx; exact hc, fun x hx hm => by rw [List.mem_singleton] at hx; subst hx; exact absurd (h.db.lt _ hm) (Nat.lt_irrefl _)⟩
theorem ent3 {d : DS} {x0 x1 x2 : En} (hn : d.m.ns = 3) (hE : d.E = [x0, x1, x2]) : d.ent 0 = x0 ∧ d.ent 1 = x1 ∧ d.ent 2 = x2 ∧ d.entE 0 = 0 ∧ d.entE 1 = 0 ∧ d.entE 2 = 0 ∧ d.there 0 = true ∧ d.there 1 = true ∧ d.there 2 = true := by
  unfold DS.entE DS.ent DS.there DS.at
  rw [hn, hE]
  exact ⟨rfl, rfl, rfl, rfl, rfl, rfl, rfl, rfl, rfl⟩
def k0 : DS := DS.fresh (MS.new 3 1)
def k1 : DS := k0.takeSpace 2 0
def k2 : DS := k1.stD 2
def k3 : DS := k2.rmD 0
def k4 : DS := k3.rmD 2
def enX (r s : Int) : En := ⟨1, 2, r, s, false⟩
theorem k0_f : k0.m.ns = 3 ∧ k0.E = [En.zero, En.zero, En.zero] := ⟨(MS.zall_ns _ _).trans rfl, rfl⟩
theorem k1_c : k0.bearE 2 0 = 0 := by
  obtain ⟨h1, h2, h3, h4, h5, h6, _⟩ := ent3 k0_f.1 k0_f.2
  unfold DS.bearE
  rw [h1, h3, h4, h6]
  rfl
theorem k1_f : k1.m.ns = 3 ∧ k1.E = [enF 2, En.zero, enX 1 1] := by
  unfold k1 DS.takeSpace
  rw [if_pos k1_c]
  refine ⟨?_, ?_⟩
  · unfold DS.space MS.born
    simp only [MS.write_ns]
    exact k0_f.1
  · show ((k0.E.set 0 (enF 2)).set 2 (enS 2)) = _
    rw [k0_f.2]
    rfl
theorem k1_r : k1.rmC 2 = 8 := by
  obtain ⟨_, _, h3, _⟩ := ent3 k1_f.1 k1_f.2
  unfold DS.rmC
  rw [k1_f.1, h3]
  rfl
theorem k1_rd : k1.rmD 2 = k1 := by unfold DS.rmD; rw [k1_r]; rfl
theorem k1_s : k1.saE 2 = 0 := by
  obtain ⟨_, _, h3, _⟩ := ent3 k1_f.1 k1_f.2
  unfold DS.saE
  rw [k1_f.1, h3]
  rfl
theorem k2_f : k2.m.ns = 3 ∧ k2.E = [enF 2, En.zero, enX 1 3] := by
  obtain ⟨_, _, h3, _, _, _, _, _, h9⟩ := ent3 k1_f.1 k1_f.2
  have hs : k1.stateE 2 3 = 0 := by
    unfold DS.stateE DS.typE
    rw [h3, h9]
    rfl
  unfold k2 DS.stD
  rw [if_pos k1_s]
  unfold DS.state
  rw [if_pos hs]
  unfold DS.stated
  rw [h3]
  refine ⟨k1_f.1, ?_⟩
  show k1.E.set 2 _ = _
  rw [k1_f.2]
  rfl
theorem k2_r : k2.rmC 0 = 0 := by
  obtain ⟨h1, _, h3, _⟩ := ent3 k2_f.1 k2_f.2
  have h3' : k2.ent (enF 2).o = enX 1 3 := h3
  unfold DS.rmC DS.rmT
  rw [k2_f.1, h1, h3']
  rfl
theorem k3_f : k3.m.ns = 3 ∧ k3.E = [En.zero, En.zero, enX 0 3] := by
  obtain ⟨h1, _, h3, h4, _⟩ := ent3 k2_f.1 k2_f.2
  have hg : k2.giveE 0 = 0 := by
    unfold DS.giveE
    rw [h1, h4]
    rfl
  unfold k3 DS.rmD
  rw [if_pos k2_r]
  unfold DS.give
  rw [if_pos hg]
  have hfE : (k2.freed 0).E = [En.zero, En.zero, enX 1 3] := by
    show k2.E.set 0 En.zero = _
    rw [k2_f.2]
    rfl
  have hfn : (k2.freed 0).m.ns = 3 := (MS.zero_ns _ _ _).trans k2_f.1
  have ha : (k2.freed 0).at 2 = enX 1 3 := by unfold DS.at; rw [hfE]; rfl
  unfold DS.given
  rw [h1]
  rw [if_pos (show (enF 2).t ≠ 1 ∧ 0 < ((k2.freed 0).at (enF 2).o.toNat).r from ⟨by decide, by show 0 < ((k2.freed 0).at 2).r; rw [ha]; decide⟩)]
  refine ⟨hfn, ?_⟩
  show (k2.freed 0).E.set 2 { (k2.freed 0).at 2 with r := ((k2.freed 0).at 2).r + (-1) } = _
  rw [hfE, ha]
  rfl
theorem k3_r : k3.rmC 2 = 0 := by
  obtain ⟨_, _, h3, _⟩ := ent3 k3_f.1 k3_f.2
  unfold DS.rmC
  rw [k3_f.1, h3]
  rfl
theorem k4_f : k4.m.ns = 3 ∧ k4.E = [En.zero, En.zero, En.zero] := by
  obtain ⟨_, _, h3, _, _, h6, _⟩ := ent3 k3_f.1 k3_f.2
  have hg : k3.giveE 2 = 0 := by
    unfold DS.giveE
    rw [h3, h6]
    rfl
  unfold k4 DS.rmD
  rw [if_pos k3_r]
  unfold DS.give
  rw [if_pos hg]
  unfold DS.given
  rw [h3, if_neg (fun h => h.1 rfl)]
  refine ⟨(MS.zero_ns _ _ _).trans k3_f.1, ?_⟩
  show k3.E.set 2 En.zero = _
  rw [k3_f.2]
  rfl
theorem k4_s : k4.fiC 1 = 3 ∧ k4.fiD 1 = k4 := by
  obtain ⟨_, h2, _⟩ := ent3 k4_f.1 k4_f.2
  have hs : k4.saE 1 = 3 := by
    unfold DS.saE
    rw [k4_f.1, h2]
    rfl
  have hc : k4.fiC 1 = 3 := by unfold DS.fiC; rw [hs]; rfl
  exact ⟨hc, by unfold DS.fiD; rw [hc]; rfl⟩
theorem k0_U : k0.m.U := zall_U (MS.U.new 3 1) _
theorem k0_ok : k0.Ok := zed_ok _ _ (by decide)
theorem k4_U : k4.m.U := by
  have h1 : k1.m.U := (fit_space k0_ok 2 0 (by decide) (by decide)).U k0_U
  have h2 : k2.m.U := by unfold k2 DS.stD; rw [if_pos k1_s]; exact (fit_state k1 2 3).U h1
  have h3 : k3.m.U := by unfold k3 DS.rmD; rw [if_pos k2_r]; exact (fit_give k2 0).U h2
  unfold k4 DS.rmD
  rw [if_pos k3_r]
  exact (fit_give k3 2).U h3
theorem kTake (W0 w : World) (p : Dp) (L : List (Nat × TypeId × List Value)) (h : RO W0 w p k0 L) : Calls Tryz.prog 15 #[ptr p.g, .int .i64 2, .int .i64 0] w fun e w' => e = .returned (.int .i64 0) ∧ RO W0 w' p k1 L :=
  (takeSpace_any w p k0 h.o.db 2 0).mono fun e w' ⟨he, hd, hb⟩ => ⟨by rw [k1_c] at he; exact he, h.step hd hb⟩
theorem kRm1 (W0 w : World) (p : Dp) (L : List (Nat × TypeId × List Value)) (h : RO W0 w p k1 L) : Calls Tryz.prog 29 #[ptr p.g, .int .u32 2] w fun e w' => e = .returned (.int .u32 8) ∧ RO W0 w' p k1 L :=
  (remove_any w p k1 h.o.db 2 (by decide)).mono fun e w' ⟨he, hd, hb⟩ => ⟨by rw [k1_r] at he; exact he, h.step (by rw [k1_rd] at hd; exact hd) hb⟩
theorem kSt (W0 w : World) (p : Dp) (L : List (Nat × TypeId × List Value)) (h : RO W0 w p k1 L) : Calls Tryz.prog 22 #[ptr p.g, .int .u32 2] w fun e w' => e = .returned (.int .u32 0) ∧ RO W0 w' p k2 L :=
  (stop_any w p k1 h.o.db 2 (by decide) (by decide)).mono fun e w' ⟨he, hd, hb⟩ => ⟨by rw [k1_s] at he; exact he, h.step hd hb⟩
theorem kRm2 (W0 w : World) (p : Dp) (L : List (Nat × TypeId × List Value)) (h : RO W0 w p k2 L) : Calls Tryz.prog 29 #[ptr p.g, .int .u32 0] w fun e w' => e = .returned (.int .u32 0) ∧ RO W0 w' p k3 L :=
  (remove_any w p k2 h.o.db 0 (by decide)).mono fun e w' ⟨he, hd, hb⟩ => ⟨by rw [k2_r] at he; exact he, h.step hd hb⟩
theorem kRm3 (W0 w : World) (p : Dp) (L : List (Nat × TypeId × List Value)) (h : RO W0 w p k3 L) : Calls Tryz.prog 29 #[ptr p.g, .int .u32 2] w fun e w' => e = .returned (.int .u32 0) ∧ RO W0 w' p k4 L :=
  (remove_any w p k3 h.o.db 2 (by decide)).mono fun e w' ⟨he, hd, hb⟩ => ⟨by rw [k3_r] at he; exact he, h.step hd hb⟩
theorem kFi (W0 w : World) (hT : H.Tab W0) (hs : 1 < W0.heap.size) (p : Dp) (L : List (Nat × TypeId × List Value)) (h : RO W0 w p k4 L) : Calls Tryz.prog 23 #[ptr p.g, .int .u32 1] w fun e w' => e = .returned (.int .u32 3) ∧ Below W0.heap.size W0 w' :=
  (final_any w p k4 h.o.db k4_U (h.o.gl hT hs) 1 (by decide) (by decide)).mono fun e w' ⟨d', he, _, hd, hb⟩ => ⟨by rw [k4_s.1] at he; exact he, (h.step hd hb).o.bl⟩
theorem kFr (W0 w : World) (p : Dp) (L : List (Nat × TypeId × List Value)) (h : RO W0 w p k4 L) : Calls Tryz.prog 32 #[ptr p.g] w fun e w' => e = .returned (.int .i64 3) ∧ RO W0 w' p k4 L :=
  (free_any w p k4 h.o.db).mono fun e w' ⟨he, hb⟩ => ⟨by rw [he]; congr 2, h.on hb⟩
theorem known_any (W : World) (hT : H.Tab W) (hs : 1 < W.heap.size) : Calls Tryz.prog 12 #[] W fun e W' => e = .returned (.bool true) ∧ Below W.heap.size W W' := by
  have HF := hid (fun w => fresh3_any w)
  have HFr : Hid (∀ w w' p d, Below W.heap.size W w → OD w w' p d → OD W w' p d) := hid (fun w w' p d hb h => ⟨h.db, below_on hb h.bl, fun k hk => Nat.le_trans hb.size (h.own k hk)⟩)
  have H1 := hid (fun w p L h => kTake W w p L h)
  have H2 := hid (fun w p L h => kRm1 W w p L h)
  have H3 := hid (fun w p L h => kSt W w p L h)
  have H4 := hid (fun w p L h => kRm2 W w p L h)
  have H5 := hid (fun w p L h => kRm3 W w p L h)
  have H6 := hid (fun w p L h => kFr W w p L h)
  have H7 := hid (fun w p L h => kFi W w hT hs p L h)
  clear hT hs
  change Hid (∀ w, Calls Tryz.prog 35 #[.int .i64 3] w fun e W' => ∃ (p : Dp) (r : Nat), e = .returned (.tuple #[.agg #[ptr p.g, ptr r], .bool true]) ∧ OD w W' p k0) at HF
  simp only [ptr] at *
  go_enter Tryz.func12, Tryz.ntmps12
  go_upto_region 2 with (first | (go_at_call 35; refine (HF.out _).mono ?_; rintro e w1 ⟨p, r, rfl, hO⟩; have O1 := hid (HFr.out _ _ _ _ (Below.refl _ _) hO); clear hO HF) | (refine wpList_store_st rfl 77 _ _ rfl w1.heap.size [.pointer (some ⟨p.g, 0, none⟩), .pointer (some ⟨r, 0, none⟩)] rfl rfl (Cel.new w1 77 [.pointer none, .pointer none]) size77 rfl rfl ?_; intro w2 hc hb hs; have R1 := hid (RO.box O1.out hc hb); clear hc hb hs O1))
  generalize w1.heap.size = gb at *
  have c1 := (R1.out.get 0 rfl).cell 0
  simp only [xzD] at c1
  go_upto_region 5 with (first | (go_at_call 15; refine (H1.out _ _ _ R1.out).mono ?_; rintro e u1 ⟨rfl, hR⟩; have R2 := hid hR; clear hR c1 H1))
  clear R1
  have c2 := (R2.out.get 0 rfl).cell 0
  simp only [xzD] at c2
  go_upto_region 6 with (first | (go_at_call 29; refine (H2.out _ _ _ R2.out).mono ?_; rintro e u2 ⟨rfl, hR⟩; have R3 := hid hR; clear hR c2 H2))
  clear R2
  have c3 := (R3.out.get 0 rfl).cell 0
  simp only [xzD] at c3
  go_upto_region 7 with (first | (go_at_call 22; refine (H3.out _ _ _ R3.out).mono ?_; rintro e u3 ⟨rfl, hR⟩; have R4 := hid hR; clear hR c3 H3))
  clear R3
  have c4 := (R4.out.get 0 rfl).cell 0
  simp only [xzD] at c4
  go_upto_region 8 with (first | (go_at_call 29; refine (H4.out _ _ _ R4.out).mono ?_; rintro e u4 ⟨rfl, hR⟩; have R5 := hid hR; clear hR c4 H4))
  clear R4
  have c5 := (R5.out.get 0 rfl).cell 0
  simp only [xzD] at c5
  go_upto_region 9 with (first | (go_at_call 29; refine (H5.out _ _ _ R5.out).mono ?_; rintro e u5 ⟨rfl, hR⟩; have R6 := hid hR; clear hR c5 H5))
  clear R5
  have c6 := (R6.out.get 0 rfl).cell 0
  simp only [xzD] at c6
  go_wp2_with (first | (go_at_call 32; refine (H6.out _ _ _ R6.out).mono ?_; rintro e u6 ⟨rfl, hR⟩; have R7 := hid hR; have c7 := (R7.out.get 0 rfl).cell 0; simp only [xzD] at c7; clear hR c6 H6) | (go_at_call 23; refine (H7.out _ _ _ R7.out).mono ?_; rintro e u7 ⟨rfl, hB⟩; have BZ := hid hB; clear hB))
  go_returns
  exact ⟨rfl, BZ.out⟩
end Go.Proofs.YtdfnbcbnmiohnaaGreatDoor
namespace Go.Proofs.YtdfnbcbnmiohnaaGreatDoor
open Go.RowKit
set_option maxRecDepth 100000
set_option maxHeartbeats 4000000
theorem lay8_whole {d : DS} (h : d.m.Whole) (s : Int) (L : List Int) : ∀ j, (d.lay8 s L j).m.Whole
  | 0 => h
  | j + 1 => (lay8_whole h s L j).write _ _ _ _
theorem lay8_at (d : DS) (s : Int) (L : List Int) (x : Bool) (q : Int) : ∀ j, (d.lay8 s L j).m.at x q = d.m.at x q
  | 0 => rfl
  | j + 1 => (MS.write_at _ _ _ _ _ _ _).trans (lay8_at d s L x q j)
theorem lay8_E (d : DS) (s : Int) (L : List Int) : ∀ j, (d.lay8 s L j).E = d.E ∧ (d.lay8 s L j).b = d.b ∧ (d.lay8 s L j).m.ns = d.m.ns
  | 0 => ⟨rfl, rfl, rfl⟩
  | j + 1 => ⟨(lay8_E d s L j).1, (lay8_E d s L j).2.1, (MS.write_ns _ _ _ _ _).trans (lay8_E d s L j).2.2⟩
theorem lay8_word {d : DS} (h : d.m.Whole) (s : Int) (L : List Int) (hs : d.there s = true) (o : Int) : ∀ j, j ≤ 8 → (d.lay8 s L j).m.word true s o = if 3 ≤ o ∧ o < 3 + (j : Int) then L.getD (o - 3).toNat 0 else d.m.word true s o
  | 0, _ => by rw [if_neg (by omega)]; rfl
  | j + 1, hj => by
    have hi := lay8_word h s L hs o j (by omega)
    obtain ⟨s0, s1, s2⟩ := there_lt hs
    have hat : (d.lay8 s L j).m.at true s = some s.toNat := by rw [lay8_at]; exact at_sec s0 (by omega)
    by_cases e : o = 3 + (j : Int)
    · subst e
      rw [if_pos (by omega)]
      show ((d.lay8 s L j).m.write true s (3 + (j : Int)) (L.getD j 0)).word true s (3 + (j : Int)) = _
      rw [MS.word_same (lay8_whole h s L j).ns0 (lay8_whole h s L j).full hat (by unfold In; omega)]
      congr 1
      omega
    · show ((d.lay8 s L j).m.write true s (3 + (j : Int)) (L.getD j 0)).word true s o = _
      rw [MS.write_word (lay8_whole h s L j).ns0 _ _ _ _ _ _ _ (fun x => e x.2.2.symm), hi]
      by_cases e2 : 3 ≤ o ∧ o < 3 + (j : Int)
      · rw [if_pos e2, if_pos (by omega)]
      · rw [if_neg e2, if_neg (by omega)]
theorem msr_word {d : DS} (h : d.m.Whole) (s : Int) (L : List Int) (hs : d.there s = true) (o : Int) : (d.msr s L).m.word true s o = if 3 ≤ o ∧ o < 11 then L.getD (o - 3).toNat 0 else if 11 ≤ o ∧ o < 37 then 0 else d.m.word true s o := by
  have hs8 : (d.lay8 s L 8).there s = true := by unfold DS.there at hs ⊢; rw [(lay8_E d s L 8).2.2]; exact hs
  unfold DS.msr
  rw [dig_word (lay8_whole h s L 8) s zz hs8 o 26 (Nat.le_refl _), lay8_word h s L hs o 8 (Nat.le_refl _)]
  by_cases e1 : 3 ≤ o ∧ o < 11
  · rw [if_pos e1, if_neg (by omega), if_pos (by omega)]
  · rw [if_neg e1]
    by_cases e2 : 11 ≤ o ∧ o < 37
    · rw [if_pos e2, if_pos (by omega)]
      exact zdig _
    · rw [if_neg e2, if_neg (by omega), if_neg (by omega)]
theorem msr_E (d : DS) (s : Int) (L : List Int) : (d.msr s L).E = d.E ∧ (d.msr s L).m.ns = d.m.ns :=
  ⟨(dig_E _ _ _ 26).1.trans (lay8_E d s L 8).1, (dig_E _ _ _ 26).2.2.trans (lay8_E d s L 8).2.2⟩
structure LM (d : DS) (L : List Int) : Prop where
  E : d.E = [En.zero, ⟨1, 1, 1, 1, false⟩, En.zero, ⟨3, 1, 0, 0, false⟩]
  ns : d.m.ns = 4
  U : d.m.U
  wh : d.m.Whole
  st : d.st 1 = H.saveOf L
  w0 : d.m.word true 1 0 = 3
  w1 : d.m.word true 1 1 = 0
theorem LM.there {d : DS} {L : List Int} (h : LM d L) : d.there 1 = true := by unfold DS.there; rw [h.ns]; decide
theorem LM.ent {d : DS} {L : List Int} (h : LM d L) : d.ent 1 = ⟨1, 1, 1, 1, false⟩ := by
  unfold DS.ent
  rw [if_pos h.there]
  unfold DS.at
  rw [h.E]
  rfl
theorem LM.ext {d : DS} {L : List Int} (h : LM d L) (o : Q.MOp) (ho : H.Wds o.wds) (hl : L.length + o.wds.length ≤ 36028797018963968) : LM (d.ext 1 o) (L ++ o.wds) := by
  have hk : H.LoadOk (d.st 1) := by rw [h.st]; exact Q.save_ok L (by omega)
  have e1 : d.exE 1 = 0 := by unfold DS.exE; rw [if_pos hk]
  have e2 : d.exL 1 o = H.saveOf (L ++ o.wds) := by unfold DS.exL; rw [if_pos hk, h.st, Q.exS_save L o.wds hl]
  have e3 : d.ext 1 o = d.dig 1 (H.saveOf (L ++ o.wds)) 26 := by unfold DS.ext; rw [if_pos e1, e2]
  have hw : H.Wds (H.saveOf (L ++ o.wds)) := by rw [← e2]; unfold DS.exL; rw [if_pos hk]; exact Q.exS_wds (DS.st_wds h.U 1) ho
  rw [e3]
  obtain ⟨d1, _, d3⟩ := dig_E d 1 (H.saveOf (L ++ o.wds)) 26
  refine ⟨d1.trans h.E, d3.trans h.ns, (fit_dig d 1 _ hw 26).U h.U, dig_whole h.wh _ _ 26, dig_st h.wh 1 _ h.there (H.saveOf_length _), ?_, ?_⟩
  · rw [dig_word h.wh 1 _ h.there 0 26 (Nat.le_refl _), if_neg (by decide)]; exact h.w0
  · rw [dig_word h.wh 1 _ h.there 1 26 (Nat.le_refl _), if_neg (by decide)]; exact h.w1
theorem LM.fi {d : DS} {L : List Int} (h : LM d L) (hl : L.length ≤ 36028797018963968) : d.fiC 1 = 0 ∧ d.fnL 1 = H.sumW L ∧ d.saE 1 = 0 := by
  have hk : H.LoadOk (d.st 1) := by rw [h.st]; exact Q.save_ok L hl
  have e1 : d.fnE 1 = 0 := by unfold DS.fnE; rw [if_pos hk]
  have e2 : d.fnL 1 = H.sumW L := by unfold DS.fnL; rw [if_pos hk, h.st, Q.fiS_save]
  have e3 : d.saE 1 = 0 := by unfold DS.saE; rw [h.ns, h.ent]; rfl
  refine ⟨?_, e2, e3⟩
  unfold DS.fiC
  rw [e3, h.ent, e1]
  rfl
end Go.Proofs.YtdfnbcbnmiohnaaGreatDoor
namespace Go.Proofs.YtdfnbcbnmiohnaaGreatDoor.Q
open Go.RowKit
open Go.Proofs.YtdfnbcbnmiohnaaGreatDoor.H
set_option maxHeartbeats 4000000
set_option maxRecDepth 100000
theorem HO.butG {W w w' : World} {v : Value} {l : List Ov} {G : List Nat} (h : HO W w v l) (hb : ButL G w w') (hG : ∀ k ∈ G, W.heap.size ≤ k) (hT : ∀ k ∈ G, ∀ t cur, w.heap[k]? = some (.cells cur t (0, 0)) → t ≠ 53 ∧ t ≠ 43) : HO W w' v l := by
  have key : ∀ {e s n : Nat} {x : Value} {L : List Value}, (e = 53 ∨ e = 43) → w.ownsRow W.heap.size e s x n L → w'.ownsRow W.heap.size e s x n L := fun he h => by
    refine ⟨h.1, h.2.imp id ?_⟩
    rintro ⟨g, cap, cur, e1, h1, h2, h3⟩
    refine ⟨g, cap, cur, e1, h1, (hb.block g (Array.getElem?_eq_some_iff.1 h2).1 (fun hm => ?_)).trans h2, h3⟩
    have := hT g hm _ _ h2
    rcases he with rfl | rfl
    · exact this.1 rfl
    · exact this.2 rfl
  exact ⟨key (.inl rfl) h.own, h.below.trans (hb.below hG h.below.size), fun x hx => key (.inr rfl) (h.ws x hx), h.apart⟩
end Go.Proofs.YtdfnbcbnmiohnaaGreatDoor.Q
namespace Go.Proofs.YtdfnbcbnmiohnaaGreatDoor
open Go.RowKit
set_option maxHeartbeats 8000000
set_option maxRecDepth 100000
theorem DB.types {w : World} {p : Dp} {d : DS} (h : DB w p d) : ∀ k ∈ p.all, ∀ cur, w.heap[k]? ≠ some (.cells cur 53 (0, 0)) := fun k hk cur e => by
  have hc : Cel w k 53 cur.toList := by unfold Cel; simpa using e
  simp only [Dp.all, List.mem_cons] at hk
  rcases hk with rfl | rfl | hk
  · exact absurd (hc.ty h.cel) (by decide)
  · exact absurd (hc.ty h.wds) (by decide)
  · rcases h.mem.ty_w k hk 53 _ hc with e | e | e <;> exact absurd e (by decide)
theorem OD.grown {W0 w w' : World} {p : Dp} {d : DS} {v : Value} {n : Nat} {L : List Value} (h : OD W0 w p d) (hO : w.ownsRow W0.heap.size 53 3 v n L) (hg : w.grownBy w' v.ownBlock) : OD W0 w' p d := by
  rcases hO.2 with ⟨ex, _⟩ | ⟨b, cap, cur, ex, hb, h2, _⟩
  · have hB : ButL [] w w' := ⟨hg.os, hg.tape, hg.output, hg.size, fun k hk _ => hg.block k hk (by rw [ex]; intro e; cases e)⟩
    exact ⟨h.db.frame hB (by simp), h.bl.trans (hB.below (by simp) h.bl.size), h.own⟩
  · have hB : ButL [b] w w' := ⟨hg.os, hg.tape, hg.output, hg.size, fun k hk hn => hg.block k hk (by rw [ex]; intro e; injection e with e; exact hn (by rw [show k = b from e]; simp))⟩
    exact ⟨h.db.frame hB (fun k hk hm => by rw [List.mem_singleton] at hm; subst hm; exact h.db.types k hk cur h2), h.bl.trans (hB.below (by simpa using hb) h.bl.size), h.own⟩
theorem HO_f {W w w' : World} {p : Dp} {d : DS} {v : Value} {l : List Q.Ov} (h : Q.HO W w v l) (ho : OD W w p d) (hb : ButL p.f.w w w') : Q.HO W w' v l :=
  h.butG hb (fun k hk => ho.own k (p.w_all' k (p.fw_w k hk))) (fun k hk t cur e => by
    have hc : Cel w k t cur.toList := by unfold Cel; simpa using e
    rcases ho.db.mem.ty_w k (Fp.w_all hk) t _ hc with rfl | rfl | rfl <;> decide)
structure Oq where
  k : Int
  a : Int
  b : Int
  t : Int
  f : Int
  v : Int
instance : Inhabited Oq := ⟨⟨0, 0, 0, 0, 0, 0⟩⟩
def Oq.cs (x : Oq) : List Value := opC x.k x.a x.b x.t x.f x.v
structure Oq.Ok (x : Oq) : Prop where
  a0 : 0 ≤ x.a
  a1 : x.a < 4294967296
  b0 : 0 ≤ x.b
  b1 : x.b < 4294967296
  v0 : 0 ≤ x.v
  v1 : x.v < 4294967296
structure OpsAt (W : World) (ao : Option Addr) (n : Nat) (q : Nat → Oq) : Prop where
  at_ : 0 < n → ∃ g off, ao = some ⟨g, off, none⟩ ∧ g < W.heap.size ∧ ∀ j, j < n → W.rangeAt g (off + j * 6) (q j).cs
  v : ∀ j, j < n → (q j).Ok
theorem stepO_wds (t v : Int) (v0 : 0 ≤ v) (v1 : v < 4294967296) : H.Wds (stepO t v).wds ∧ (stepO t v).wds.length ≤ 1026 := by
  have h4 : 0 ≤ t % 4 := Int.emod_nonneg t (by decide)
  have h5 : t % 4 < 4 := Int.emod_lt_of_pos t (by decide)
  constructor
  · show H.Wds (wi t 1 4 :: v :: opW (wi t 1 4) v)
    refine Q.wds_cons (by unfold wi; omega) (by unfold wi; omega) (Q.wds_cons v0 v1 (fun i => ?_))
    unfold opW
    split
    · rw [List.getD_eq_getElem?_getD, List.getElem?_replicate]
      split
      · exact ⟨v0, v1⟩
      · decide
    · simp
  · show (wi t 1 4 :: v :: opW (wi t 1 4) v).length ≤ 1026
    unfold opW
    split <;> simp
end Go.Proofs.YtdfnbcbnmiohnaaGreatDoor
