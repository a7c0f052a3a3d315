import Derived.Test.YtdfnbcbnmiohnaaGreatDoorP45
import Derived.Test.YtdfnbcbnmiohnaaGreatDoorP34
namespace Go.Proofs.YtdfnbcbnmiohnaaGreatDoor
open Go.RowKit
set_option maxRecDepth 100000
set_option maxHeartbeats 4000000
/-- The four entries, the space in a state. -/
def E4 (s : Int) : List En := [En.zero, ⟨1, 1, 1, s, false⟩, En.zero, ⟨3, 1, 0, 0, false⟩]
theorem e4_ent {e : DS} {s : Int} (hn : e.m.ns = 4) (hE : e.E = E4 s) : e.ent 1 = ⟨1, 1, 1, s, false⟩ ∧ e.there 1 = true := by
  have ht : e.there 1 = true := by unfold DS.there; rw [hn]; decide
  refine ⟨?_, ht⟩
  unfold DS.ent
  rw [if_pos ht]
  unfold DS.at
  rw [hE]
  rfl
theorem e4_final {x : DS} (hn : x.m.ns = 4) (hE : x.E = E4 1) : (x.state 1 2).E = E4 2 ∧ (x.state 1 2).m = x.m := by
  obtain ⟨e1, e2⟩ := e4_ent hn hE
  have hst : x.stateE 1 2 = 0 := by
    unfold DS.stateE DS.typE
    rw [e2, e1]
    rfl
  unfold DS.state
  rw [if_pos hst]
  unfold DS.stated
  rw [e1]
  refine ⟨?_, rfl⟩
  show x.E.set 1 _ = _
  rw [hE]
  rfl
theorem LM.fid {d : DS} {L : List Int} (h : LM d L) (hl : L.length ≤ 36028797018963968) : (d.fiD 1).E = E4 2 ∧ (d.fiD 1).m = (d.msr 1 (H.sumW L)).m ∧ (d.fiD 1).m.ns = 4 := by
  obtain ⟨h1, h2, _⟩ := h.fi hl
  obtain ⟨m1, m2⟩ := msr_E d 1 (H.sumW L)
  have hE : (d.msr 1 (H.sumW L)).E = E4 1 := m1.trans h.E
  have hn : (d.msr 1 (H.sumW L)).m.ns = 4 := m2.trans h.ns
  have hf : d.fiD 1 = (d.msr 1 (H.sumW L)).state 1 2 := by
    unfold DS.fiD
    rw [if_pos h1, h2]
  rw [hf]
  obtain ⟨a1, a2⟩ := e4_final hn hE
  exact ⟨a1, a2, by rw [a2]; exact hn⟩
/-- What is behind Final of the words. -/
theorem LM.word {d e : DS} {L : List Int} (h : LM d L) (hl : L.length ≤ 36028797018963968) (he : DS.Sim (d.fiD 1) e) (o : Int) : e.m.word true 1 o = if 3 ≤ o ∧ o < 11 then (H.sumW L).getD (o - 3).toNat 0 else if 11 ≤ o ∧ o < 37 then 0 else d.m.word true 1 o := by
  rw [he.word, (h.fid hl).2.1]
  exact msr_word h.wh 1 _ h.there o
end Go.Proofs.YtdfnbcbnmiohnaaGreatDoor
namespace Go.Proofs.YtdfnbcbnmiohnaaGreatDoor
open Go.RowKit
set_option maxRecDepth 100000
set_option maxHeartbeats 4000000
/-- A database, boxes, and another memory. -/
structure TW (W w : World) (p : Dp) (d : DS) (L : List (Nat × TypeId × List Value)) (f' : Fp) (m' : MS) : Prop where
  r : RO W w p d L
  c : Mem w f' m'
  ap : ∀ k ∈ p.all, k ∉ f'.all
theorem TW.of {W w w' : World} {p : Dp} {d : DS} {L : List (Nat × TypeId × List Value)} {f' : Fp} {m' : MS} (h : RO W w p d L) (hn : NewMem w w' f' m') : TW W w' p d L f' m' :=
  ⟨h.on hn.below, hn.mem, fun k hk hm => by have := hn.new k hm; have := h.o.db.lt k hk; omega⟩
theorem TW.on {W w w' : World} {p : Dp} {d : DS} {L : List (Nat × TypeId × List Value)} {f' : Fp} {m' : MS} (h : TW W w p d L f' m') (hb : Below w.heap.size w w') : TW W w' p d L f' m' := ⟨h.r.on hb, h.c.on hb, h.ap⟩
theorem TW.step {W w w' : World} {p : Dp} {d d' : DS} {L : List (Nat × TypeId × List Value)} {f' : Fp} {m' : MS} (h : TW W w p d L f' m') (hd : DB w' p d') (hb : ButL p.w w w') : TW W w' p d' L f' m' :=
  ⟨h.r.step hd hb, h.c.frame hb (fun k hk hm => h.ap k (p.w_all' k hm) hk), h.ap⟩
theorem wds_first : H.Wds H.S.First := fun i => by
  unfold H.S.First
  match i with
  | 0 => decide
  | 1 => decide
  | 2 => decide
  | 3 => decide
  | 4 => decide
  | 5 => decide
  | 6 => decide
  | 7 => decide
  | i + 8 => simp
theorem fit_lay8 (d : DS) (s : Int) (L : List Int) (hL : H.Wds L) : ∀ j, DS.Fit d (d.lay8 s L j)
  | 0 => .refl d
  | j + 1 => (fit_lay8 d s L hL j).trans (fit_wr _ s _ _ (hL j).1 (hL j).2)
theorem wds_sumW (EL : List Int) : H.Wds (H.sumW EL) := Q.wds_runA (Q.wds_runA wds_first _ _) _ _
end Go.Proofs.YtdfnbcbnmiohnaaGreatDoor
namespace Go.Proofs.YtdfnbcbnmiohnaaGreatDoor
open Go.RowKit
set_option maxRecDepth 100000
set_option maxHeartbeats 2000000
inductive Rch : Nat → DS → Prop
  | start : Rch 0 (DS.fresh (MS.new 8 1))
  | up {n : Nat} {d : DS} : Rch n d → Rch (n + 1) d
  | sim {n : Nat} {d e : DS} : Rch n d → DS.Sim d e → Rch n e
  | born {n : Nat} {d : DS} (a b : Int) : Rch n d → d.Ok → d.m.Whole → d.bearE a b = 0 → 0 ≤ b → b < 8 → Rch (n + 1) ((d.takeSpace a b).dig a (H.saveOf []) 26)
  | take {n : Nat} {d : DS} (q t s : Int) : Rch n d → d.Ok → Rch (n + 1) (d.take q t s)
  | ext {n : Nat} {d : DS} (a t v : Int) : Rch n d → d.Ok → d.m.Whole → (d.ent a).s = 1 → 0 ≤ v → v < 4294967296 → Rch (n + 1) (d.ext a (stepO t v))
  | fin {n : Nat} {d : DS} (a : Int) : Rch n d → d.Ok → d.m.Whole → Rch (n + 1) (d.fiD a)
  | stop {n : Nat} {d : DS} (a : Int) : Rch n d → d.Ok → Rch (n + 1) (d.stD a)
  | rem {n : Nat} {d : DS} (a : Int) : Rch n d → d.Ok → d.m.Whole → Rch (n + 1) (d.rmD a)
structure GI (n : Nat) (d : DS) : Prop where
  ns : d.m.ns = 8
  len : d.m.P.length = 9
  U : d.m.U
  inv : InvF d.at 8
  st : ∀ k, k < 8 → (d.at k).t = 1 → (d.at k).s = 1 → ∃ L, d.st (k : Int) = H.saveOf L ∧ L.length ≤ 1026 * n
theorem zero_at (m : MS) (s : Bool) (q : Int) (s' : Bool) (q' : Int) : (m.zero s q).at s' q' = m.at s' q' := by
  unfold MS.zero
  split
  · rfl
  · exact MS.set_at _ _ _ _ _ _
theorem zero_word {m : MS} (h0 : m.ns ≤ m.P.length) (s : Bool) (q : Int) (s' : Bool) (q' o : Int) (h : ¬ (s = s' ∧ q = q')) : (m.zero s q).word s' q' o = m.word s' q' o := by
  unfold MS.word
  rw [zero_at]
  cases h1 : m.at s' q' with
  | none => rfl
  | some k =>
    simp only
    have e : (m.zero s q).p k = m.p k := by
      unfold MS.zero
      cases h2 : m.at s q with
      | none => rfl
      | some j =>
        refine MS.set_p _ _ _ _ _ (fun e => h ?_)
        subst e
        exact MS.at_inj h0 h2 h1
    rw [e]
theorem there8 {d : DS} (hn : d.m.ns = 8) (x : Int) : d.there x = true ↔ 0 ≤ x ∧ x < 8 := by unfold DS.there; rw [hn]; simp
theorem at_of_E {d e : DS} (h : e.E = d.E) : e.at = d.at := by funext k; unfold DS.at; rw [h]
theorem space_at {d : DS} {s f : Int} (hk : d.Ok) (hz : d.bearE s f = 0) : (d.space s f).at = upd (upd d.at f.toNat (enF s)) s.toNat (enS s) := by
  obtain ⟨ts, tf, hsf, t1, t2, hb⟩ := bear_zero hz
  obtain ⟨s0, s1, es⟩ := there_lt ts
  obtain ⟨f0, f1, ef⟩ := there_lt tf
  have hl := hk.len
  show ((d.lay f.toNat (enF s)).lay s.toNat (enS s)).at = _
  rw [lay_upd _ (by rw [lay_len]; omega), lay_upd _ (by omega)]
theorem taken_at {d : DS} {q t s : Int} (hk : d.Ok) (hz : d.takeE q t s = 0) : (d.taken q t s).at = upd (upd d.at q.toNat (enT t s)) s.toNat { d.at s.toNat with r := (d.at s.toNat).r + 1 } := by
  obtain ⟨h1, _, _, h4, h5⟩ := take_zero hz
  obtain ⟨h6, h7, _⟩ := more_of h4
  obtain ⟨q0, q1, q2⟩ := there_lt h1
  obtain ⟨s0, s1, s2⟩ := there_lt h6
  have hl := hk.len
  have hne : s ≠ q := fun e => by rw [e, h5] at h7; cases h7
  unfold DS.taken
  rw [cnt_at _ (by rw [lay_len]; omega), lay_upd _ (by omega), upd_ne _ _ (by omega)]
theorem stated_at {d : DS} {q s : Int} (hk : d.Ok) (hz : d.stateE q s = 0) : (d.stated q s).at = upd d.at q.toNat { d.at q.toNat with s := s } ∧ (d.at q.toNat).t = 1 ∧ d.there q = true := by
  have ht : d.typE q 1 = 0 := by
    unfold DS.stateE at hz
    split at hz
    · rename_i h; rw [hz] at h; exact absurd rfl h
    · rename_i h; simpa using h
  obtain ⟨h1, h2, _⟩ := typ_zero ht
  obtain ⟨q0, q1, q2⟩ := there_lt h1
  have hl := hk.len
  rw [ent_at h1] at h2
  refine ⟨?_, h2, h1⟩
  unfold DS.stated
  rw [ent_at h1, lay_upd _ (by omega)]
theorem freed_at {d : DS} {q : Int} (hk : d.Ok) (hz : d.giveE q = 0) : (d.freed q).at = upd d.at q.toNat En.zero := by
  obtain ⟨h1, h2, h3⟩ := give_zero hz
  obtain ⟨q0, q1, q2⟩ := there_lt h1
  have hl := hk.len
  unfold DS.freed
  rw [DS.wipe_at, lay_upd _ (by omega)]
theorem given_m (d : DS) (q : Int) : (d.given q).m = d.m.zero true q := by unfold DS.given; split <;> rfl
/-- What is given back: its own entry is none any more; the owner's count is less by one; nothing else. -/
theorem given_at {d : DS} {q : Int} (hk : d.Ok) (hz : d.giveE q = 0) (j : Nat) : (d.given q).at j = if j = q.toNat then En.zero else if (d.ent q).t ≠ 1 ∧ j = (d.ent q).o.toNat ∧ 0 < (d.at j).r then { d.at j with r := (d.at j).r + -1 } else d.at j := by
  obtain ⟨h1, h2, h3⟩ := give_zero hz
  obtain ⟨q0, q1, q2⟩ := there_lt h1
  have hl := hk.len
  have hf := freed_at hk hz
  have ho : (d.ent q).o.toNat < d.m.ns := by
    rw [ent_at h1]
    have a := hk.own _ q1
    have b := ((En.ok_iff _).1 (hk.ok _ q1)).o0
    omega
  unfold DS.given
  rw [hf]
  by_cases hc : (d.ent q).t ≠ 1 ∧ 0 < (upd d.at q.toNat En.zero (d.ent q).o.toNat).r
  · rw [if_pos hc, cnt_at _ (by show (d.lay q.toNat En.zero).E.length > _; rw [lay_len]; omega), hf]
    have hne : (d.ent q).o.toNat ≠ q.toNat := fun e => by
      have := hc.2
      rw [e, upd_self] at this
      exact absurd this (by decide)
    rw [upd_ne _ _ hne] at hc ⊢
    by_cases e1 : j = (d.ent q).o.toNat
    · subst e1
      rw [upd_self, if_neg hne, if_pos ⟨hc.1, rfl, hc.2⟩]
    · rw [upd_ne _ _ e1]
      by_cases e2 : j = q.toNat
      · subst e2; rw [upd_self, if_pos rfl]
      · rw [upd_ne _ _ e2, if_neg e2, if_neg (fun h => e1 h.2.1)]
  · rw [if_neg hc, hf]
    by_cases e2 : j = q.toNat
    · subst e2; rw [upd_self, if_pos rfl]
    · rw [upd_ne _ _ e2, if_neg e2, if_neg]
      rintro ⟨g1, g2, g3⟩
      subst g2
      exact hc ⟨g1, by rw [upd_ne _ _ e2]; exact g3⟩
theorem born_word {m : MS} (h : m.Whole) (s f b k o : Int) (hk : k ≠ s) : (m.born s f b).word true k o = m.word true k o := by
  unfold MS.born
  rw [MS.write_word ((h.write true s 0 f).write true s 1 b).ns0 _ _ _ _ _ _ _ (fun e => hk e.2.1.symm), MS.write_word (h.write true s 0 f).ns0 _ _ _ _ _ _ _ (fun e => hk e.2.1.symm), MS.write_word h.ns0 _ _ _ _ _ _ _ (fun e => hk e.2.1.symm)]
theorem lay8_other {d : DS} (h : d.m.Whole) (s : Int) (L : List Int) (k o : Int) (hk : k ≠ s) : ∀ j, (d.lay8 s L j).m.word true k o = d.m.word true k o
  | 0 => rfl
  | j + 1 => (MS.write_word (lay8_whole h s L j).ns0 _ _ _ _ _ _ _ (fun e => hk e.2.1.symm)).trans (lay8_other h s L k o hk j)
theorem msr_other {d : DS} (h : d.m.Whole) (s : Int) (L : List Int) (k o : Int) (hk : k ≠ s) : (d.msr s L).m.word true k o = d.m.word true k o := by
  unfold DS.msr
  rw [dig_other (lay8_whole h s L 8) s zz true k o (fun e => hk e.2) 26, lay8_other h s L k o hk 8]
theorem msr_len (d : DS) (s : Int) (L : List Int) (hL : H.Wds L) : DS.Fit d (d.msr s L) := (fit_lay8 d s L hL 8).trans (fit_dig _ s zz (fun j => by rw [show zz.getD j 0 = 0 from zdig j]; decide) 26)
theorem stated_m (d : DS) (q s : Int) : (d.stated q s).m = d.m := rfl
theorem GI.sim {n : Nat} {d e : DS} (h : GI n d) (hs : DS.Sim d e) : GI n e :=
  ⟨hs.ns.trans h.ns, by rw [hs.P]; exact h.len, hs.U h.U, by rw [at_of_E hs.E]; exact h.inv, fun k hk t1 s1 => by rw [hs.at] at t1 s1; rw [hs.st]; exact h.st k hk t1 s1⟩
theorem GI.up {n : Nat} {d : DS} (h : GI n d) : GI (n + 1) d := ⟨h.ns, h.len, h.U, h.inv, fun k hk t1 s1 => by obtain ⟨L, e, hl⟩ := h.st k hk t1 s1; exact ⟨L, e, by omega⟩⟩
theorem GI.start : GI 0 (DS.fresh (MS.new 8 1)) := by
  have ha : (DS.fresh (MS.new 8 1)).at = fun _ => En.zero := by funext k; exact rep_at _ k
  refine ⟨MS.zall_ns _ _, ?_, zall_U (MS.U.new 8 1) _, by rw [ha]; exact InvF.zero 8, fun k _ t1 => ?_⟩
  · show ((MS.new 8 1).zall _).P.length = 9
    rw [zall_len]
    rfl
  · rw [ha] at t1; cases t1
theorem GI.born {n : Nat} {d : DS} (a b : Int) (h : GI n d) (hk : d.Ok) (hw : d.m.Whole) (hz : d.bearE a b = 0) (b0 : 0 ≤ b) (b1 : b < 8) : GI (n + 1) ((d.takeSpace a b).dig a (H.saveOf []) 26) := by
  have e0 : d.takeSpace a b = d.space a b := by unfold DS.takeSpace; rw [if_pos hz]
  have f1 := fit_space hk a b b0 (by omega)
  have f2 := f1.trans (fit_dig _ a (H.saveOf []) (H.wds_saveOf wds_nil' (by simp)) 26)
  have hE := dig_E (d.takeSpace a b) a (H.saveOf []) 26
  have hwh : (d.takeSpace a b).m.Whole := by rw [e0]; exact ((hw.write _ _ _ _).write _ _ _ _).write _ _ _ _
  obtain ⟨ts, tf, hsf, t1, t2, hb⟩ := bear_zero hz
  obtain ⟨s0, s1, es⟩ := there_lt ts
  refine ⟨f2.ns.trans h.ns, f2.P.trans h.len, f2.U h.U, ?_, fun k hk8 t1 s1 => ?_⟩
  · rw [at_of_E hE.1, e0]
    have := inv_space hk (by rw [h.ns]; exact h.inv) hz
    rw [h.ns] at this
    exact this
  · rw [at_of_E hE.1, e0, space_at hk hz] at t1 s1
    by_cases e : k = a.toNat
    · have ea : (k : Int) = a := by omega
      rw [ea]
      exact ⟨[], dig_st hwh a _ (by unfold DS.there at ts ⊢; rw [f1.ns]; exact ts) (H.saveOf_length _), by simp⟩
    · rw [upd_ne _ _ e] at t1 s1
      by_cases e2 : k = b.toNat
      · subst e2; rw [upd_self] at t1; cases t1
      · rw [upd_ne _ _ e2] at t1 s1
        obtain ⟨L, hL, hl⟩ := h.st k hk8 t1 s1
        refine ⟨L, ?_, by omega⟩
        rw [← hL]
        refine st_of (fun o => ?_)
        have hne : (k : Int) ≠ a := by omega
        rw [dig_other hwh a _ true _ o (fun x => hne x.2) 26, e0]
        exact born_word hw _ _ _ _ _ hne
theorem GI.take {n : Nat} {d : DS} (q t s : Int) (h : GI n d) (hk : d.Ok) : GI (n + 1) (d.take q t s) := by
  unfold DS.take
  split
  · rename_i hz
    have hi := inv_taken hk (by rw [h.ns]; exact h.inv) hz
    rw [h.ns] at hi
    refine ⟨h.ns, h.len, h.U, hi, fun k hk8 t1 s1 => ?_⟩
    rw [taken_at hk hz] at t1 s1
    obtain ⟨h1, _, ht, h4, h5⟩ := take_zero hz
    have : (d.at k).t = 1 ∧ (d.at k).s = 1 := by
      by_cases e : k = s.toNat
      · subst e; rw [upd_self] at t1 s1; exact ⟨t1, s1⟩
      · rw [upd_ne _ _ e] at t1 s1
        by_cases e2 : k = q.toNat
        · subst e2; rw [upd_self] at s1; cases s1
        · rw [upd_ne _ _ e2] at t1 s1; exact ⟨t1, s1⟩
    obtain ⟨L, hL, hl⟩ := h.st k hk8 this.1 this.2
    exact ⟨L, hL, by omega⟩
  · exact h.up
theorem GI.state {n : Nat} {d : DS} (q s : Int) (h : GI n d) (hk : d.Ok) (hs : s ≠ 1) : GI n (d.state q s) := by
  unfold DS.state
  split
  · rename_i hz
    obtain ⟨ha, h1, h2⟩ := stated_at hk hz
    refine ⟨h.ns, h.len, h.U, ?_, fun k hk8 t1 s1 => ?_⟩
    · rw [ha]; exact h.inv.like rfl Iff.rfl Iff.rfl (fun _ => rfl)
    · rw [ha] at t1 s1
      by_cases e : k = q.toNat
      · subst e; rw [upd_self] at s1; exact absurd s1 hs
      · rw [upd_ne _ _ e] at t1 s1
        exact h.st k hk8 t1 s1
  · exact h
theorem GI.stop {n : Nat} {d : DS} (a : Int) (h : GI n d) (hk : d.Ok) : GI (n + 1) (d.stD a) := by
  unfold DS.stD
  split
  · exact (h.state a 3 hk (by decide)).up
  · exact h.up
theorem GI.load {n : Nat} {d : DS} (h : GI n d) (hn : n ≤ 41) {a : Int} (ha : d.there a = true) (t1 : (d.ent a).t = 1) (s1 : (d.ent a).s = 1) : ∃ L, d.st a = H.saveOf L ∧ L.length ≤ 1026 * n ∧ H.LoadOk (d.st a) := by
  obtain ⟨a0, a1, ea⟩ := there_lt ha
  rw [ent_at ha] at t1 s1
  obtain ⟨L, e, hl⟩ := h.st a.toNat (by rw [← h.ns]; exact a1) t1 s1
  rw [← ea] at e
  exact ⟨L, e, hl, by rw [e]; exact Q.save_ok L (by omega)⟩
theorem st1_t {d : DS} (hk : d.Ok) {a : Int} (s1 : (d.ent a).s = 1) : d.there a = true ∧ (d.ent a).t = 1 := by
  have ht : d.there a = true := by
    by_cases h : d.there a = true
    · exact h
    · unfold DS.ent at s1; rw [if_neg h] at s1; cases s1
  refine ⟨ht, ?_⟩
  by_cases e : (d.ent a).t = 1
  · exact e
  · rw [ent_at ht] at e s1
    have := ((En.ok_iff _).1 (hk.ok _ (there_lt ht).2.1)).ns e
    rw [this.2] at s1
    cases s1
theorem GI.ext {n : Nat} {d : DS} (a t v : Int) (h : GI n d) (hn : n ≤ 41) (hk : d.Ok) (hw : d.m.Whole) (s1 : (d.ent a).s = 1) (v0 : 0 ≤ v) (v1 : v < 4294967296) : GI (n + 1) (d.ext a (stepO t v)) := by
  obtain ⟨ha, t1⟩ := st1_t hk s1
  obtain ⟨L, hL, hl, hld⟩ := h.load hn ha t1 s1
  obtain ⟨ow, ol⟩ := stepO_wds t v v0 v1
  have e1 : d.exE a = 0 := by unfold DS.exE; rw [if_pos hld]
  have e2 : d.exL a (stepO t v) = H.saveOf (L ++ (stepO t v).wds) := by unfold DS.exL; rw [if_pos hld, hL, Q.exS_save L _ (by omega)]
  have e3 : d.ext a (stepO t v) = d.dig a (H.saveOf (L ++ (stepO t v).wds)) 26 := by unfold DS.ext; rw [if_pos e1, e2]
  have hww : H.Wds (H.saveOf (L ++ (stepO t v).wds)) := by rw [← e2]; unfold DS.exL; rw [if_pos hld]; exact Q.exS_wds (DS.st_wds h.U a) ow
  have hf := fit_dig d a _ hww 26
  obtain ⟨d1, _, d3⟩ := dig_E d a (H.saveOf (L ++ (stepO t v).wds)) 26
  obtain ⟨a0, a1, ea⟩ := there_lt ha
  rw [e3]
  refine ⟨d3.trans h.ns, hf.P.trans h.len, hf.U h.U, by rw [at_of_E d1]; exact h.inv, fun k hk8 t1 s1 => ?_⟩
  rw [at_of_E d1] at t1 s1
  by_cases e : (k : Int) = a
  · rw [e]
    exact ⟨_, dig_st hw a _ ha (H.saveOf_length _), by rw [List.length_append]; omega⟩
  · obtain ⟨L', hL', hl'⟩ := h.st k hk8 t1 s1
    exact ⟨L', by rw [← hL']; exact st_of (fun o => dig_other hw a _ true _ o (fun x => e x.2) 26), by omega⟩
theorem GI.fin {n : Nat} {d : DS} (a : Int) (h : GI n d) (hn : n ≤ 41) (hk : d.Ok) (hw : d.m.Whole) : GI (n + 1) (d.fiD a) := by
  unfold DS.fiD
  split
  · rename_i hc
    have hs : d.saE a = 0 ∧ (d.ent a).s = 1 := by
      unfold DS.fiC at hc
      split at hc
      · rename_i e; exact absurd hc e
      · rename_i e
        split at hc
        · rename_i e2; exact ⟨by simpa using e, e2⟩
        · exact absurd hc (by decide)
    obtain ⟨ha, t1⟩ := st1_t hk hs.2
    obtain ⟨L, hL, hl, hld⟩ := h.load hn ha t1 hs.2
    have eL : d.fnL a = H.sumW L := by unfold DS.fnL; rw [if_pos hld, hL, Q.fiS_save]
    have hf := msr_len d a (d.fnL a) (by rw [eL]; exact wds_sumW L)
    obtain ⟨m1, m3⟩ := msr_E d a (d.fnL a)
    have hk' : (d.msr a (d.fnL a)).Ok := ⟨by rw [m1, m3]; exact hk.len, by rw [m3]; exact hk.n64, fun k hk2 => by rw [at_of_E m1]; rw [m3] at hk2; exact hk.ok k hk2, fun k hk2 => by rw [at_of_E m1, m3]; rw [m3] at hk2; exact hk.own k hk2, by show 0 ≤ ((d.lay8 a _ 8).dig a zz 26).b; rw [(dig_E _ _ _ 26).2.1, (lay8_E _ _ _ 8).2.1]; exact hk.b0, by show ((d.lay8 a _ 8).dig a zz 26).b ≤ 64; rw [(dig_E _ _ _ 26).2.1, (lay8_E _ _ _ 8).2.1]; exact hk.b1⟩
    unfold DS.state
    have hz : (d.msr a (d.fnL a)).stateE a 2 = 0 := by
      have g1 : (d.msr a (d.fnL a)).there a = true := by unfold DS.there at ha ⊢; rw [m3]; exact ha
      have g2 : (d.msr a (d.fnL a)).ent a = d.ent a := by unfold DS.ent; rw [if_pos g1, if_pos ha, at_of_E m1]
      unfold DS.stateE DS.typE
      rw [g1, g2, t1, hs.2]
      rfl
    rw [if_pos hz]
    obtain ⟨hat, q1, q2⟩ := stated_at hk' hz
    refine ⟨by rw [stated_m]; exact hf.ns.trans h.ns, by rw [stated_m]; exact hf.P.trans h.len, by rw [stated_m]; exact hf.U h.U, ?_, fun k hk8 t1 s1 => ?_⟩
    · rw [hat, at_of_E m1]; exact h.inv.like rfl Iff.rfl Iff.rfl (fun _ => rfl)
    · rw [hat, at_of_E m1] at t1 s1
      by_cases e : k = a.toNat
      · subst e; rw [upd_self] at s1; exact absurd (show (2 : Int) = 1 from s1) (by decide)
      · rw [upd_ne _ _ e] at t1 s1
        obtain ⟨L', hL', hl'⟩ := h.st k hk8 t1 s1
        obtain ⟨a0, a1, ea⟩ := there_lt ha
        have hne : (k : Int) ≠ a := by omega
        have hO := fun o => msr_other hw a (d.fnL a) (k : Int) o hne
        exact ⟨L', by rw [← hL']; exact st_of (fun o => by rw [stated_m]; exact hO o), by omega⟩
  · exact h.up
theorem GI.give {n : Nat} {d : DS} (q : Int) (h : GI n d) (hk : d.Ok) (hw : d.m.Whole) : GI n (d.give q) := by
  have hf := fit_give d q
  refine ⟨hf.ns.trans h.ns, hf.P.trans h.len, hf.U h.U, ?_, ?_⟩
  · unfold DS.give
    split
    · rename_i hz
      have := (inv_given hk (by rw [h.ns]; exact h.inv) hz).1
      rw [h.ns] at this
      exact this
    · exact h.inv
  · intro k hk8 t1 s1
    unfold DS.give at t1 s1 ⊢
    split at t1
    · rename_i hz
      rw [if_pos hz] at s1 ⊢
      rw [given_at hk hz] at t1 s1
      by_cases e : k = q.toNat
      · rw [if_pos e] at t1; cases t1
      · rw [if_neg e] at t1 s1
        have : (d.at k).t = 1 ∧ (d.at k).s = 1 := by
          split at t1
          · rename_i g; rw [if_pos g] at s1; exact ⟨t1, s1⟩
          · rename_i g; rw [if_neg g] at s1; exact ⟨t1, s1⟩
        obtain ⟨L, hL, hl⟩ := h.st k hk8 this.1 this.2
        obtain ⟨q0, _, _⟩ := there_lt (give_zero hz).1
        exact ⟨L, by rw [← hL]; exact st_of (fun o => by rw [given_m]; exact zero_word hw.ns0 _ _ _ _ _ (fun x => e (by have := x.2; omega))), hl⟩
    · rename_i hz
      rw [if_neg hz] at s1 ⊢
      exact h.st k hk8 t1 s1
theorem GI.rem {n : Nat} {d : DS} (a : Int) (h : GI n d) (hk : d.Ok) (hw : d.m.Whole) : GI (n + 1) (d.rmD a) := by
  unfold DS.rmD
  split
  · exact (h.give a hk hw).up
  · exact h.up
theorem GI.of {n : Nat} {d : DS} (h : Rch n d) (hn : n ≤ 41) : GI n d := by
  induction h with
  | start => exact .start
  | up _ ih => exact (ih (by omega)).up
  | sim _ hs ih => exact (ih hn).sim hs
  | born a b _ hk hw hz b0 b1 ih => exact (ih (by omega)).born a b hk hw hz b0 b1
  | take q t s _ hk ih => exact (ih (by omega)).take q t s hk
  | ext a t v _ hk hw s1 v0 v1 ih => exact (ih (by omega)).ext a t v (by omega) hk hw s1 v0 v1
  | fin a _ hk hw ih => exact (ih (by omega)).fin a (by omega) hk hw
  | stop a _ hk ih => exact (ih (by omega)).stop a hk
  | rem a _ hk hw ih => exact (ih (by omega)).rem a hk hw
end Go.Proofs.YtdfnbcbnmiohnaaGreatDoor
