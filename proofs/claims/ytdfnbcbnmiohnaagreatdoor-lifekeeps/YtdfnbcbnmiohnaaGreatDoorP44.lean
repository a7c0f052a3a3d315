import Derived.Test.YtdfnbcbnmiohnaaGreatDoorP43
namespace Go.Proofs.YtdfnbcbnmiohnaaGreatDoor
open Go.RowKit
set_option maxRecDepth 100000
set_option maxHeartbeats 4000000
/-- A database and boxes beside it. -/
structure RO (W0 w : World) (p : Dp) (d : DS) (L : List (Nat × TypeId × List Value)) : Prop where
  o : OD W0 w p d
  bag : ∀ x ∈ L, Cel w x.1 x.2.1 x.2.2
  off : ∀ x ∈ L, x.1 ∉ p.all
theorem RO.start {W0 w : World} {p : Dp} {d : DS} (h : OD W0 w p d) : RO W0 w p d [] := ⟨h, by simp, by simp⟩
theorem RO.on {W0 w w' : World} {p : Dp} {d : DS} {L : List (Nat × TypeId × List Value)} (h : RO W0 w p d L) (hb : Below w.heap.size w w') : RO W0 w' p d L := ⟨h.o.on hb, fun x hx => (h.bag x hx).on hb, h.off⟩
theorem RO.get {W0 w : World} {p : Dp} {d : DS} {L : List (Nat × TypeId × List Value)} (h : RO W0 w p d L) (k : Nat) {g : Nat} {t : TypeId} {cs : List Value} (hk : L[k]? = some (g, t, cs)) : Cel w g t cs := h.bag _ (List.mem_of_getElem? hk)
theorem RO.new {W0 w : World} {p : Dp} {d : DS} {L : List (Nat × TypeId × List Value)} (h : RO W0 w p d L) (t : TypeId) (cs : List Value) : RO W0 (w.alloc (.cells cs.toArray t)) p d ((w.heap.size, t, cs) :: L) :=
  ⟨h.o.on (below_one w _), fun x hx => by
    rcases List.mem_cons.1 hx with rfl | hx
    · exact Cel.new w t cs
    · exact (h.bag x hx).on (below_one w _), fun x hx hm => by
    rcases List.mem_cons.1 hx with rfl | hx
    · exact absurd (h.o.db.lt _ hm) (Nat.lt_irrefl _)
    · exact h.off x hx hm⟩
theorem RO.step {W0 w w' : World} {p : Dp} {d d' : DS} {L : List (Nat × TypeId × List Value)} (h : RO W0 w p d L) (hd : DB w' p d') (hb : ButL p.w w w') : RO W0 w' p d' L :=
  ⟨h.o.step hd hb, fun x hx => (h.bag x hx).but hb (fun hm => h.off x hx (p.w_all' _ hm)), h.off⟩
theorem RO.box {W0 w w2 : World} {p : Dp} {d : DS} {u : TypeId} {ds es : List Value} (h : OD W0 w p d) (hc : Cel w2 w.heap.size u es) (hb : ButL [w.heap.size] (w.alloc (.cells ds.toArray u)) w2) : RO W0 w2 p d [(w.heap.size, u, es)] :=
  ⟨h.on ((below_one w _).trans (hb.below (by simp) (by simp))), fun x hx => by rw [List.mem_singleton] at hx; subst hx; exact hc, fun x hx hm => by rw [List.mem_singleton] at hx; subst hx; exact absurd (h.db.lt _ hm) (Nat.lt_irrefl _)⟩
theorem ent3 {d : DS} {x0 x1 x2 : En} (hn : d.m.ns = 3) (hE : d.E = [x0, x1, x2]) : d.ent 0 = x0 ∧ d.ent 1 = x1 ∧ d.ent 2 = x2 ∧ d.entE 0 = 0 ∧ d.entE 1 = 0 ∧ d.entE 2 = 0 ∧ d.there 0 = true ∧ d.there 1 = true ∧ d.there 2 = true := by
  unfold DS.entE DS.ent DS.there DS.at
  rw [hn, hE]
  exact ⟨rfl, rfl, rfl, rfl, rfl, rfl, rfl, rfl, rfl⟩
def k0 : DS := DS.fresh (MS.new 3 1)
def k1 : DS := k0.takeSpace 2 0
def k2 : DS := k1.stD 2
def k3 : DS := k2.rmD 0
def k4 : DS := k3.rmD 2
def enX (r s : Int) : En := ⟨1, 2, r, s, false⟩
theorem k0_f : k0.m.ns = 3 ∧ k0.E = [En.zero, En.zero, En.zero] := ⟨(MS.zall_ns _ _).trans rfl, rfl⟩
theorem k1_c : k0.bearE 2 0 = 0 := by
  obtain ⟨h1, h2, h3, h4, h5, h6, _⟩ := ent3 k0_f.1 k0_f.2
  unfold DS.bearE
  rw [h1, h3, h4, h6]
  rfl
theorem k1_f : k1.m.ns = 3 ∧ k1.E = [enF 2, En.zero, enX 1 1] := by
  unfold k1 DS.takeSpace
  rw [if_pos k1_c]
  refine ⟨?_, ?_⟩
  · unfold DS.space MS.born
    simp only [MS.write_ns]
    exact k0_f.1
  · show ((k0.E.set 0 (enF 2)).set 2 (enS 2)) = _
    rw [k0_f.2]
    rfl
theorem k1_r : k1.rmC 2 = 8 := by
  obtain ⟨_, _, h3, _⟩ := ent3 k1_f.1 k1_f.2
  unfold DS.rmC
  rw [k1_f.1, h3]
  rfl
theorem k1_rd : k1.rmD 2 = k1 := by unfold DS.rmD; rw [k1_r]; rfl
theorem k1_s : k1.saE 2 = 0 := by
  obtain ⟨_, _, h3, _⟩ := ent3 k1_f.1 k1_f.2
  unfold DS.saE
  rw [k1_f.1, h3]
  rfl
theorem k2_f : k2.m.ns = 3 ∧ k2.E = [enF 2, En.zero, enX 1 3] := by
  obtain ⟨_, _, h3, _, _, _, _, _, h9⟩ := ent3 k1_f.1 k1_f.2
  have hs : k1.stateE 2 3 = 0 := by
    unfold DS.stateE DS.typE
    rw [h3, h9]
    rfl
  unfold k2 DS.stD
  rw [if_pos k1_s]
  unfold DS.state
  rw [if_pos hs]
  unfold DS.stated
  rw [h3]
  refine ⟨k1_f.1, ?_⟩
  show k1.E.set 2 _ = _
  rw [k1_f.2]
  rfl
theorem k2_r : k2.rmC 0 = 0 := by
  obtain ⟨h1, _, h3, _⟩ := ent3 k2_f.1 k2_f.2
  have h3' : k2.ent (enF 2).o = enX 1 3 := h3
  unfold DS.rmC DS.rmT
  rw [k2_f.1, h1, h3']
  rfl
theorem k3_f : k3.m.ns = 3 ∧ k3.E = [En.zero, En.zero, enX 0 3] := by
  obtain ⟨h1, _, h3, h4, _⟩ := ent3 k2_f.1 k2_f.2
  have hg : k2.giveE 0 = 0 := by
    unfold DS.giveE
    rw [h1, h4]
    rfl
  unfold k3 DS.rmD
  rw [if_pos k2_r]
  unfold DS.give
  rw [if_pos hg]
  have hfE : (k2.freed 0).E = [En.zero, En.zero, enX 1 3] := by
    show k2.E.set 0 En.zero = _
    rw [k2_f.2]
    rfl
  have hfn : (k2.freed 0).m.ns = 3 := (MS.zero_ns _ _ _).trans k2_f.1
  have ha : (k2.freed 0).at 2 = enX 1 3 := by unfold DS.at; rw [hfE]; rfl
  unfold DS.given
  rw [h1]
  rw [if_pos (show (enF 2).t ≠ 1 ∧ 0 < ((k2.freed 0).at (enF 2).o.toNat).r from ⟨by decide, by show 0 < ((k2.freed 0).at 2).r; rw [ha]; decide⟩)]
  refine ⟨hfn, ?_⟩
  show (k2.freed 0).E.set 2 { (k2.freed 0).at 2 with r := ((k2.freed 0).at 2).r + (-1) } = _
  rw [hfE, ha]
  rfl
theorem k3_r : k3.rmC 2 = 0 := by
  obtain ⟨_, _, h3, _⟩ := ent3 k3_f.1 k3_f.2
  unfold DS.rmC
  rw [k3_f.1, h3]
  rfl
theorem k4_f : k4.m.ns = 3 ∧ k4.E = [En.zero, En.zero, En.zero] := by
  obtain ⟨_, _, h3, _, _, h6, _⟩ := ent3 k3_f.1 k3_f.2
  have hg : k3.giveE 2 = 0 := by
    unfold DS.giveE
    rw [h3, h6]
    rfl
  unfold k4 DS.rmD
  rw [if_pos k3_r]
  unfold DS.give
  rw [if_pos hg]
  unfold DS.given
  rw [h3, if_neg (fun h => h.1 rfl)]
  refine ⟨(MS.zero_ns _ _ _).trans k3_f.1, ?_⟩
  show k3.E.set 2 En.zero = _
  rw [k3_f.2]
  rfl
theorem k4_s : k4.fiC 1 = 3 ∧ k4.fiD 1 = k4 := by
  obtain ⟨_, h2, _⟩ := ent3 k4_f.1 k4_f.2
  have hs : k4.saE 1 = 3 := by
    unfold DS.saE
    rw [k4_f.1, h2]
    rfl
  have hc : k4.fiC 1 = 3 := by unfold DS.fiC; rw [hs]; rfl
  exact ⟨hc, by unfold DS.fiD; rw [hc]; rfl⟩
theorem k0_U : k0.m.U := zall_U (MS.U.new 3 1) _
theorem k0_ok : k0.Ok := zed_ok _ _ (by decide)
theorem k4_U : k4.m.U := by
  have h1 : k1.m.U := (fit_space k0_ok 2 0 (by decide) (by decide)).U k0_U
  have h2 : k2.m.U := by unfold k2 DS.stD; rw [if_pos k1_s]; exact (fit_state k1 2 3).U h1
  have h3 : k3.m.U := by unfold k3 DS.rmD; rw [if_pos k2_r]; exact (fit_give k2 0).U h2
  unfold k4 DS.rmD
  rw [if_pos k3_r]
  exact (fit_give k3 2).U h3
theorem kTake (W0 w : World) (p : Dp) (L : List (Nat × TypeId × List Value)) (h : RO W0 w p k0 L) : Calls Tryz.prog 15 #[ptr p.g, .int .i64 2, .int .i64 0] w fun e w' => e = .returned (.int .i64 0) ∧ RO W0 w' p k1 L :=
  (takeSpace_any w p k0 h.o.db 2 0).mono fun e w' ⟨he, hd, hb⟩ => ⟨by rw [k1_c] at he; exact he, h.step hd hb⟩
theorem kRm1 (W0 w : World) (p : Dp) (L : List (Nat × TypeId × List Value)) (h : RO W0 w p k1 L) : Calls Tryz.prog 29 #[ptr p.g, .int .u32 2] w fun e w' => e = .returned (.int .u32 8) ∧ RO W0 w' p k1 L :=
  (remove_any w p k1 h.o.db 2 (by decide)).mono fun e w' ⟨he, hd, hb⟩ => ⟨by rw [k1_r] at he; exact he, h.step (by rw [k1_rd] at hd; exact hd) hb⟩
theorem kSt (W0 w : World) (p : Dp) (L : List (Nat × TypeId × List Value)) (h : RO W0 w p k1 L) : Calls Tryz.prog 22 #[ptr p.g, .int .u32 2] w fun e w' => e = .returned (.int .u32 0) ∧ RO W0 w' p k2 L :=
  (stop_any w p k1 h.o.db 2 (by decide) (by decide)).mono fun e w' ⟨he, hd, hb⟩ => ⟨by rw [k1_s] at he; exact he, h.step hd hb⟩
theorem kRm2 (W0 w : World) (p : Dp) (L : List (Nat × TypeId × List Value)) (h : RO W0 w p k2 L) : Calls Tryz.prog 29 #[ptr p.g, .int .u32 0] w fun e w' => e = .returned (.int .u32 0) ∧ RO W0 w' p k3 L :=
  (remove_any w p k2 h.o.db 0 (by decide)).mono fun e w' ⟨he, hd, hb⟩ => ⟨by rw [k2_r] at he; exact he, h.step hd hb⟩
theorem kRm3 (W0 w : World) (p : Dp) (L : List (Nat × TypeId × List Value)) (h : RO W0 w p k3 L) : Calls Tryz.prog 29 #[ptr p.g, .int .u32 2] w fun e w' => e = .returned (.int .u32 0) ∧ RO W0 w' p k4 L :=
  (remove_any w p k3 h.o.db 2 (by decide)).mono fun e w' ⟨he, hd, hb⟩ => ⟨by rw [k3_r] at he; exact he, h.step hd hb⟩
theorem kFi (W0 w : World) (hT : H.Tab W0) (hs : 1 < W0.heap.size) (p : Dp) (L : List (Nat × TypeId × List Value)) (h : RO W0 w p k4 L) : Calls Tryz.prog 23 #[ptr p.g, .int .u32 1] w fun e w' => e = .returned (.int .u32 3) ∧ Below W0.heap.size W0 w' :=
  (final_any w p k4 h.o.db k4_U (h.o.gl hT hs) 1 (by decide) (by decide)).mono fun e w' ⟨d', he, _, hd, hb⟩ => ⟨by rw [k4_s.1] at he; exact he, (h.step hd hb).o.bl⟩
theorem kFr (W0 w : World) (p : Dp) (L : List (Nat × TypeId × List Value)) (h : RO W0 w p k4 L) : Calls Tryz.prog 32 #[ptr p.g] w fun e w' => e = .returned (.int .i64 3) ∧ RO W0 w' p k4 L :=
  (free_any w p k4 h.o.db).mono fun e w' ⟨he, hb⟩ => ⟨by rw [he]; congr 2, h.on hb⟩
theorem known_any (W : World) (hT : H.Tab W) (hs : 1 < W.heap.size) : Calls Tryz.prog 12 #[] W fun e W' => e = .returned (.bool true) ∧ Below W.heap.size W W' := by
  have HF := hid (fun w => fresh3_any w)
  have HFr : Hid (∀ w w' p d, Below W.heap.size W w → OD w w' p d → OD W w' p d) := hid (fun w w' p d hb h => ⟨h.db, below_on hb h.bl, fun k hk => Nat.le_trans hb.size (h.own k hk)⟩)
  have H1 := hid (fun w p L h => kTake W w p L h)
  have H2 := hid (fun w p L h => kRm1 W w p L h)
  have H3 := hid (fun w p L h => kSt W w p L h)
  have H4 := hid (fun w p L h => kRm2 W w p L h)
  have H5 := hid (fun w p L h => kRm3 W w p L h)
  have H6 := hid (fun w p L h => kFr W w p L h)
  have H7 := hid (fun w p L h => kFi W w hT hs p L h)
  clear hT hs
  change Hid (∀ w, Calls Tryz.prog 35 #[.int .i64 3] w fun e W' => ∃ (p : Dp) (r : Nat), e = .returned (.tuple #[.agg #[ptr p.g, ptr r], .bool true]) ∧ OD w W' p k0) at HF
  simp only [ptr] at *
  go_enter Tryz.func12, Tryz.ntmps12
  go_upto_region 2 with (first | (go_at_call 35; refine (HF.out _).mono ?_; rintro e w1 ⟨p, r, rfl, hO⟩; have O1 := hid (HFr.out _ _ _ _ (Below.refl _ _) hO); clear hO HF) | (refine wpList_store_st rfl 77 _ _ rfl w1.heap.size [.pointer (some ⟨p.g, 0, none⟩), .pointer (some ⟨r, 0, none⟩)] rfl rfl (Cel.new w1 77 [.pointer none, .pointer none]) size77 rfl rfl ?_; intro w2 hc hb hs; have R1 := hid (RO.box O1.out hc hb); clear hc hb hs O1))
  generalize w1.heap.size = gb at *
  have c1 := (R1.out.get 0 rfl).cell 0
  simp only [List.getElem?_cons_zero] at c1
  go_upto_region 5 with (first | (go_at_call 15; refine (H1.out _ _ _ R1.out).mono ?_; rintro e u1 ⟨rfl, hR⟩; have R2 := hid hR; clear hR c1 H1))
  clear R1
  have c2 := (R2.out.get 0 rfl).cell 0
  simp only [List.getElem?_cons_zero] at c2
  go_upto_region 6 with (first | (go_at_call 29; refine (H2.out _ _ _ R2.out).mono ?_; rintro e u2 ⟨rfl, hR⟩; have R3 := hid hR; clear hR c2 H2))
  clear R2
  have c3 := (R3.out.get 0 rfl).cell 0
  simp only [List.getElem?_cons_zero] at c3
  go_upto_region 7 with (first | (go_at_call 22; refine (H3.out _ _ _ R3.out).mono ?_; rintro e u3 ⟨rfl, hR⟩; have R4 := hid hR; clear hR c3 H3))
  clear R3
  have c4 := (R4.out.get 0 rfl).cell 0
  simp only [List.getElem?_cons_zero] at c4
  go_upto_region 8 with (first | (go_at_call 29; refine (H4.out _ _ _ R4.out).mono ?_; rintro e u4 ⟨rfl, hR⟩; have R5 := hid hR; clear hR c4 H4))
  clear R4
  have c5 := (R5.out.get 0 rfl).cell 0
  simp only [List.getElem?_cons_zero] at c5
  go_upto_region 9 with (first | (go_at_call 29; refine (H5.out _ _ _ R5.out).mono ?_; rintro e u5 ⟨rfl, hR⟩; have R6 := hid hR; clear hR c5 H5))
  clear R5
  have c6 := (R6.out.get 0 rfl).cell 0
  simp only [List.getElem?_cons_zero] at c6
  go_wp2_with (first | (go_at_call 32; refine (H6.out _ _ _ R6.out).mono ?_; rintro e u6 ⟨rfl, hR⟩; have R7 := hid hR; have c7 := (R7.out.get 0 rfl).cell 0; simp only [List.getElem?_cons_zero] at c7; clear hR c6 H6) | (go_at_call 23; refine (H7.out _ _ _ R7.out).mono ?_; rintro e u7 ⟨rfl, hB⟩; have BZ := hid hB; clear hB))
  go_returns
  exact ⟨rfl, BZ.out⟩
end Go.Proofs.YtdfnbcbnmiohnaaGreatDoor
