import Derived.Test.YtdfnbcbnmiohnaaGreatDoorP49
namespace Go.Proofs.YtdfnbcbnmiohnaaGreatDoor
open Go.RowKit
set_option maxRecDepth 100000
set_option maxHeartbeats 4000000
/-- The four entries, the space in a state. -/
def E4 (s : Int) : List En := [En.zero, ⟨1, 1, 1, s, false⟩, En.zero, ⟨3, 1, 0, 0, false⟩]
theorem e4_ent {e : DS} {s : Int} (hn : e.m.ns = 4) (hE : e.E = E4 s) : e.ent 1 = ⟨1, 1, 1, s, false⟩ ∧ e.there 1 = true := by
  have ht : e.there 1 = true := by unfold DS.there; rw [hn]; decide
  refine ⟨?_, ht⟩
  unfold DS.ent
  rw [if_pos ht]
  unfold DS.at
  rw [hE]
  rfl
theorem e4_saE {e : DS} {s : Int} (hn : e.m.ns = 4) (hE : e.E = E4 s) : e.saE 1 = 0 := by
  unfold DS.saE
  rw [hn, (e4_ent hn hE).1]
  rfl
theorem e4_fi {e : DS} {s : Int} (hn : e.m.ns = 4) (hE : e.E = E4 s) (hs : s ≠ 1) : e.fiC 1 = 4 ∧ e.fiD 1 = e := by
  have h : e.fiC 1 = 4 := by
    unfold DS.fiC
    rw [e4_saE hn hE, (e4_ent hn hE).1, if_neg (show ¬ ((0 : Int) ≠ 0) from fun h => h rfl), if_neg (show ¬ (s = 1) from hs)]
  exact ⟨h, by unfold DS.fiD; rw [h, if_neg (by decide)]⟩
theorem e4_stop {e : DS} {s : Int} (hn : e.m.ns = 4) (hE : e.E = E4 s) : (e.stD 1).m = e.m ∧ (e.stD 1).E = E4 3 := by
  obtain ⟨h1, h2⟩ := e4_ent hn hE
  have hst : e.stateE 1 3 = 0 := by
    unfold DS.stateE DS.typE
    rw [h2, h1]
    rfl
  unfold DS.stD
  rw [if_pos (e4_saE hn hE)]
  unfold DS.state
  rw [if_pos hst]
  unfold DS.stated
  rw [h1]
  refine ⟨rfl, ?_⟩
  show e.E.set 1 _ = _
  rw [hE]
  rfl
theorem e4_final {x : DS} (hn : x.m.ns = 4) (hE : x.E = E4 1) : (x.state 1 2).E = E4 2 ∧ (x.state 1 2).m = x.m := by
  obtain ⟨e1, e2⟩ := e4_ent hn hE
  have hst : x.stateE 1 2 = 0 := by
    unfold DS.stateE DS.typE
    rw [e2, e1]
    rfl
  unfold DS.state
  rw [if_pos hst]
  unfold DS.stated
  rw [e1]
  refine ⟨?_, rfl⟩
  show x.E.set 1 _ = _
  rw [hE]
  rfl
theorem LM.fid {d : DS} {L : List Int} (h : LM d L) (hl : L.length ≤ 36028797018963968) : (d.fiD 1).E = E4 2 ∧ (d.fiD 1).m = (d.msr 1 (H.sumW L)).m ∧ (d.fiD 1).m.ns = 4 := by
  obtain ⟨h1, h2, _⟩ := h.fi hl
  obtain ⟨m1, m2⟩ := msr_E d 1 (H.sumW L)
  have hE : (d.msr 1 (H.sumW L)).E = E4 1 := m1.trans h.E
  have hn : (d.msr 1 (H.sumW L)).m.ns = 4 := m2.trans h.ns
  have hf : d.fiD 1 = (d.msr 1 (H.sumW L)).state 1 2 := by
    unfold DS.fiD
    rw [if_pos h1, h2]
  rw [hf]
  obtain ⟨a1, a2⟩ := e4_final hn hE
  exact ⟨a1, a2, by rw [a2]; exact hn⟩
/-- What is behind Final of the words. -/
theorem LM.word {d e : DS} {L : List Int} (h : LM d L) (hl : L.length ≤ 36028797018963968) (he : DS.Sim (d.fiD 1) e) (o : Int) : e.m.word true 1 o = if 3 ≤ o ∧ o < 11 then (H.sumW L).getD (o - 3).toNat 0 else if 11 ≤ o ∧ o < 37 then 0 else d.m.word true 1 o := by
  rw [he.word, (h.fid hl).2.1]
  exact msr_word h.wh 1 _ h.there o
end Go.Proofs.YtdfnbcbnmiohnaaGreatDoor
namespace Go.Proofs.YtdfnbcbnmiohnaaGreatDoor
open Go.RowKit
set_option maxRecDepth 100000
set_option maxHeartbeats 4000000
/-- A database, boxes, and another memory. -/
structure TW (W w : World) (p : Dp) (d : DS) (L : List (Nat × TypeId × List Value)) (f' : Fp) (m' : MS) : Prop where
  r : RO W w p d L
  c : Mem w f' m'
  ap : ∀ k ∈ p.all, k ∉ f'.all
theorem TW.of {W w w' : World} {p : Dp} {d : DS} {L : List (Nat × TypeId × List Value)} {f' : Fp} {m' : MS} (h : RO W w p d L) (hn : NewMem w w' f' m') : TW W w' p d L f' m' :=
  ⟨h.on hn.below, hn.mem, fun k hk hm => by have := hn.new k hm; have := h.o.db.lt k hk; omega⟩
theorem TW.on {W w w' : World} {p : Dp} {d : DS} {L : List (Nat × TypeId × List Value)} {f' : Fp} {m' : MS} (h : TW W w p d L f' m') (hb : Below w.heap.size w w') : TW W w' p d L f' m' := ⟨h.r.on hb, h.c.on hb, h.ap⟩
theorem TW.step {W w w' : World} {p : Dp} {d d' : DS} {L : List (Nat × TypeId × List Value)} {f' : Fp} {m' : MS} (h : TW W w p d L f' m') (hd : DB w' p d') (hb : ButL p.w w w') : TW W w' p d' L f' m' :=
  ⟨h.r.step hd hb, h.c.frame hb (fun k hk hm => h.ap k (p.w_all' k hm) hk), h.ap⟩
theorem tStop (W w : World) (p : Dp) (e : DS) (L : List (Nat × TypeId × List Value)) (f' : Fp) (m' : MS) (h : TW W w p e L f' m') (s : Int) (hn : e.m.ns = 4) (hE : e.E = E4 s) :
    Calls Tryz.prog 22 #[ptr p.g, .int .u32 1] w fun x w' => x = .returned (.int .u32 0) ∧ TW W w' p (e.stD 1) L f' m' :=
  (stop_any w p e h.r.o.db 1 (by decide) (by decide)).mono fun x w' ⟨he, hd, hb⟩ => ⟨by rw [e4_saE hn hE] at he; exact he, h.step hd hb⟩
theorem tFinal4 (W w : World) (hT : H.Tab W) (hs : 1 < W.heap.size) (p : Dp) (e : DS) (L : List (Nat × TypeId × List Value)) (f' : Fp) (m' : MS) (h : TW W w p e L f' m') (hU : e.m.U) (s : Int) (hn : e.m.ns = 4) (hE : e.E = E4 s) (h1 : s ≠ 1) :
    Calls Tryz.prog 23 #[ptr p.g, .int .u32 1] w fun x w' => ∃ e', x = .returned (.int .u32 4) ∧ DS.Sim e e' ∧ TW W w' p e' L f' m' :=
  (final_any w p e h.r.o.db hU (h.r.o.gl hT hs) 1 (by decide) (by decide)).mono fun x w' ⟨e', he, hS, hd, hb⟩ => ⟨e', by rw [(e4_fi hn hE h1).1] at he; exact he, by rw [(e4_fi hn hE h1).2] at hS; exact hS, h.step hd hb⟩
theorem tFinal0 (W w : World) (hT : H.Tab W) (hs : 1 < W.heap.size) (p : Dp) (d : DS) (L : List (Nat × TypeId × List Value)) (f' : Fp) (m' : MS) (h : TW W w p d L f' m') (EL : List Int) (hm : LM d EL) (hl : EL.length ≤ 36028797018963968) :
    Calls Tryz.prog 23 #[ptr p.g, .int .u32 1] w fun x w' => ∃ e', x = .returned (.int .u32 0) ∧ DS.Sim (d.fiD 1) e' ∧ TW W w' p e' L f' m' :=
  (final_any w p d h.r.o.db hm.U (h.r.o.gl hT hs) 1 (by decide) (by decide)).mono fun x w' ⟨e', he, hS, hd, hb⟩ => ⟨e', by rw [(hm.fi hl).1] at he; exact he, hS, h.step hd hb⟩
theorem wds_first : H.Wds H.S.First := fun i => by
  unfold H.S.First
  match i with
  | 0 => decide
  | 1 => decide
  | 2 => decide
  | 3 => decide
  | 4 => decide
  | 5 => decide
  | 6 => decide
  | 7 => decide
  | i + 8 => simp
theorem fit_lay8 (d : DS) (s : Int) (L : List Int) (hL : H.Wds L) : ∀ j, DS.Fit d (d.lay8 s L j)
  | 0 => .refl d
  | j + 1 => (fit_lay8 d s L hL j).trans (fit_wr _ s _ _ (hL j).1 (hL j).2)
theorem wds_sumW (EL : List Int) : H.Wds (H.sumW EL) := Q.wds_runA (Q.wds_runA wds_first _ _) _ _
theorem LM.fiU {d : DS} {L : List Int} (h : LM d L) (hl : L.length ≤ 36028797018963968) : (d.fiD 1).m.U := by
  rw [(h.fid hl).2.1]
  exact ((fit_lay8 d 1 _ (wds_sumW L) 8).trans (fit_dig _ 1 zz (fun j => by rw [show zz.getD j 0 = 0 from zdig j]; decide) 26)).U h.U
theorem e4_stU {e : DS} {s : Int} (hn : e.m.ns = 4) (hE : e.E = E4 s) (hU : e.m.U) : (e.stD 1).m.U := by rw [(e4_stop hn hE).1]; exact hU
end Go.Proofs.YtdfnbcbnmiohnaaGreatDoor
