import Derived.Test.YtdfnbcbnmiohnaaGreatDoorP44
import Derived.Test.YtdfnbcbnmiohnaaGreatDoorP43
import Derived.Test.YtdfnbcbnmiohnaaGreatDoorP40
import Derived.Test.YtdfnbcbnmiohnaaGreatDoorP36
namespace Go.Proofs.YtdfnbcbnmiohnaaGreatDoor
open Go.RowKit
set_option maxRecDepth 100000
set_option maxHeartbeats 4000000
def E4 (s : Int) : List En := [En.zero, ⟨1, 1, 1, s, false⟩, En.zero, ⟨3, 1, 0, 0, false⟩]
theorem e4_ent {e : DS} {s : Int} (hn : e.m.ns = 4) (hE : e.E = E4 s) : e.ent 1 = ⟨1, 1, 1, s, false⟩ ∧ e.there 1 = true := by
  have ht : e.there 1 = true := by unfold DS.there; rw [hn]; decide
  refine ⟨?_, ht⟩
  unfold DS.ent
  rw [if_pos ht]
  unfold DS.at
  rw [hE]
  rfl
theorem e4_final {x : DS} (hn : x.m.ns = 4) (hE : x.E = E4 1) : (x.state 1 2).E = E4 2 ∧ (x.state 1 2).m = x.m := by
  obtain ⟨e1, e2⟩ := e4_ent hn hE
  have hst : x.stateE 1 2 = 0 := by
    unfold DS.stateE DS.typE
    rw [e2, e1]
    rfl
  unfold DS.state
  rw [if_pos hst]
  unfold DS.stated
  rw [e1]
  refine ⟨?_, rfl⟩
  show x.E.set 1 _ = _
  rw [hE]
  rfl
theorem LM.fid {d : DS} {L : List Int} (h : LM d L) (hl : L.length ≤ 36028797018963968) : (d.fiD 1).E = E4 2 ∧ (d.fiD 1).m = (d.msr 1 (H.sumW L)).m ∧ (d.fiD 1).m.ns = 4 := by
  obtain ⟨h1, h2, _⟩ := h.fi hl
  obtain ⟨m1, m2⟩ := msr_E d 1 (H.sumW L)
  have hE : (d.msr 1 (H.sumW L)).E = E4 1 := m1.trans h.E
  have hn : (d.msr 1 (H.sumW L)).m.ns = 4 := m2.trans h.ns
  have hf : d.fiD 1 = (d.msr 1 (H.sumW L)).state 1 2 := by
    unfold DS.fiD
    rw [if_pos h1, h2]
  rw [hf]
  obtain ⟨a1, a2⟩ := e4_final hn hE
  exact ⟨a1, a2, by rw [a2]; exact hn⟩
theorem LM.word {d e : DS} {L : List Int} (h : LM d L) (hl : L.length ≤ 36028797018963968) (he : DS.Sim (d.fiD 1) e) (o : Int) : e.m.word true 1 o = if 3 ≤ o ∧ o < 11 then (H.sumW L).getD (o - 3).toNat 0 else if 11 ≤ o ∧ o < 37 then 0 else d.m.word true 1 o := by
  rw [he.word, (h.fid hl).2.1]
  exact msr_word h.wh 1 _ h.there o
set_option maxRecDepth 100000
set_option maxHeartbeats 4000000
structure TW (W w : World) (p : Dp) (d : DS) (L : List (Nat × TypeId × List Value)) (f' : Fp) (m' : MS) : Prop where
  r : RO W w p d L
  c : Mem w f' m'
  ap : ∀ k ∈ p.all, k ∉ f'.all
theorem TW.of {W w w' : World} {p : Dp} {d : DS} {L : List (Nat × TypeId × List Value)} {f' : Fp} {m' : MS} (h : RO W w p d L) (hn : NewMem w w' f' m') : TW W w' p d L f' m' :=
  ⟨h.on hn.below, hn.mem, fun k hk hm => by have := hn.new k hm; have := h.o.db.lt k hk; omega⟩
theorem TW.on {W w w' : World} {p : Dp} {d : DS} {L : List (Nat × TypeId × List Value)} {f' : Fp} {m' : MS} (h : TW W w p d L f' m') (hb : Below w.heap.size w w') : TW W w' p d L f' m' := ⟨h.r.on hb, h.c.on hb, h.ap⟩
theorem TW.step {W w w' : World} {p : Dp} {d d' : DS} {L : List (Nat × TypeId × List Value)} {f' : Fp} {m' : MS} (h : TW W w p d L f' m') (hd : DB w' p d') (hb : ButL p.w w w') : TW W w' p d' L f' m' :=
  ⟨h.r.step hd hb, h.c.frame hb (fun k hk hm => h.ap k (p.w_all' k hm) hk), h.ap⟩
theorem wds_first : H.Wds H.S.First := fun i => by
  unfold H.S.First
  match i with
  | 0 => decide
  | 1 => decide
  | 2 => decide
  | 3 => decide
  | 4 => decide
  | 5 => decide
  | 6 => decide
  | 7 => decide
  | i + 8 => simp
theorem fit_lay8 (d : DS) (s : Int) (L : List Int) (hL : H.Wds L) : ∀ j, DS.Fit d (d.lay8 s L j)
  | 0 => .refl d
  | j + 1 => (fit_lay8 d s L hL j).trans (fit_wr _ s _ _ (hL j).1 (hL j).2)
theorem wds_sumW (EL : List Int) : H.Wds (H.sumW EL) := Q.wds_runA (Q.wds_runA wds_first _ _) _ _
set_option maxRecDepth 100000
set_option maxHeartbeats 2000000
inductive Rch : Nat → DS → Prop
  | start : Rch 0 (DS.fresh (MS.new 8 1))
  | up {n : Nat} {d : DS} : Rch n d → Rch (n + 1) d
  | sim {n : Nat} {d e : DS} : Rch n d → DS.Sim d e → Rch n e
  | born {n : Nat} {d : DS} (a b : Int) : Rch n d → d.Ok → d.m.Whole → d.bearE a b = 0 → 0 ≤ b → b < 8 → Rch (n + 1) ((d.takeSpace a b).dig a (H.saveOf []) 26)
  | take {n : Nat} {d : DS} (q t s : Int) : Rch n d → d.Ok → Rch (n + 1) (d.take q t s)
  | ext {n : Nat} {d : DS} (a t v : Int) : Rch n d → d.Ok → d.m.Whole → (d.ent a).s = 1 → 0 ≤ v → v < 4294967296 → Rch (n + 1) (d.ext a (stepO t v))
  | fin {n : Nat} {d : DS} (a : Int) : Rch n d → d.Ok → d.m.Whole → Rch (n + 1) (d.fiD a)
  | stop {n : Nat} {d : DS} (a : Int) : Rch n d → d.Ok → Rch (n + 1) (d.stD a)
  | rem {n : Nat} {d : DS} (a : Int) : Rch n d → d.Ok → d.m.Whole → Rch (n + 1) (d.rmD a)
structure GI (n : Nat) (d : DS) : Prop where
  ns : d.m.ns = 8
  len : d.m.P.length = 9
  U : d.m.U
  inv : InvF d.at 8
  st : ∀ k, k < 8 → (d.at k).t = 1 → (d.at k).s = 1 → ∃ L, d.st (k : Int) = H.saveOf L ∧ L.length ≤ 1026 * n
theorem zero_at (m : MS) (s : Bool) (q : Int) (s' : Bool) (q' : Int) : (m.zero s q).at s' q' = m.at s' q' := by
  unfold MS.zero
  split
  · rfl
  · exact MS.set_at _ _ _ _ _ _
theorem zero_word {m : MS} (h0 : m.ns ≤ m.P.length) (s : Bool) (q : Int) (s' : Bool) (q' o : Int) (h : ¬ (s = s' ∧ q = q')) : (m.zero s q).word s' q' o = m.word s' q' o := by
  unfold MS.word
  rw [zero_at]
  cases h1 : m.at s' q' with
  | none => rfl
  | some k =>
    simp only
    have e : (m.zero s q).p k = m.p k := by
      unfold MS.zero
      cases h2 : m.at s q with
      | none => rfl
      | some j =>
        refine MS.set_p _ _ _ _ _ (fun e => h ?_)
        subst e
        exact MS.at_inj h0 h2 h1
    rw [e]
theorem there8 {d : DS} (hn : d.m.ns = 8) (x : Int) : d.there x = true ↔ 0 ≤ x ∧ x < 8 := by unfold DS.there; rw [hn]; simp
theorem at_of_E {d e : DS} (h : e.E = d.E) : e.at = d.at := by funext k; unfold DS.at; rw [h]
theorem ent_t0 {d : DS} {x : Int} (h : (d.ent x).t ≠ 0) : d.there x = true ∧ d.ent x = d.at x.toNat := ⟨there_of h, ent_at (there_of h)⟩
theorem space_at {d : DS} {s f : Int} (hk : d.Ok) (hz : d.bearE s f = 0) : (d.space s f).at = upd (upd d.at f.toNat (enF s)) s.toNat (enS s) := by
  obtain ⟨ts, tf, hsf, t1, t2, hb⟩ := bear_zero hz
  obtain ⟨s0, s1, es⟩ := there_lt ts
  obtain ⟨f0, f1, ef⟩ := there_lt tf
  have hl := hk.len
  show ((d.lay f.toNat (enF s)).lay s.toNat (enS s)).at = _
  rw [lay_upd _ (by rw [lay_len]; omega), lay_upd _ (by omega)]
theorem taken_at {d : DS} {q t s : Int} (hk : d.Ok) (hz : d.takeE q t s = 0) : (d.taken q t s).at = upd (upd d.at q.toNat (enT t s)) s.toNat { d.at s.toNat with r := (d.at s.toNat).r + 1 } := by
  obtain ⟨h1, _, _, h4, h5⟩ := take_zero hz
  obtain ⟨h6, h7, _⟩ := more_of h4
  obtain ⟨q0, q1, q2⟩ := there_lt h1
  obtain ⟨s0, s1, s2⟩ := there_lt h6
  have hl := hk.len
  have hne : s ≠ q := fun e => by rw [e, h5] at h7; cases h7
  unfold DS.taken
  rw [cnt_at _ (by rw [lay_len]; omega), lay_upd _ (by omega), upd_ne _ _ (by omega)]
theorem stated_at {d : DS} {q s : Int} (hk : d.Ok) (hz : d.stateE q s = 0) : (d.stated q s).at = upd d.at q.toNat { d.at q.toNat with s := s } ∧ (d.at q.toNat).t = 1 ∧ d.there q = true := by
  have ht : d.typE q 1 = 0 := by
    unfold DS.stateE at hz
    split at hz
    · rename_i h; rw [hz] at h; exact absurd rfl h
    · rename_i h; simpa using h
  obtain ⟨h1, h2, _⟩ := typ_zero ht
  obtain ⟨q0, q1, q2⟩ := there_lt h1
  have hl := hk.len
  rw [ent_at h1] at h2
  refine ⟨?_, h2, h1⟩
  unfold DS.stated
  rw [ent_at h1, lay_upd _ (by omega)]
theorem freed_at {d : DS} {q : Int} (hk : d.Ok) (hz : d.giveE q = 0) : (d.freed q).at = upd d.at q.toNat En.zero := by
  obtain ⟨h1, h2, h3⟩ := give_zero hz
  obtain ⟨q0, q1, q2⟩ := there_lt h1
  have hl := hk.len
  unfold DS.freed
  rw [DS.wipe_at, lay_upd _ (by omega)]
theorem given_m (d : DS) (q : Int) : (d.given q).m = d.m.zero true q := by unfold DS.given; split <;> rfl
theorem given_at {d : DS} {q : Int} (hk : d.Ok) (hz : d.giveE q = 0) (j : Nat) : (d.given q).at j = if j = q.toNat then En.zero else if (d.ent q).t ≠ 1 ∧ j = (d.ent q).o.toNat ∧ 0 < (d.at j).r then { d.at j with r := (d.at j).r + -1 } else d.at j := by
  obtain ⟨h1, h2, h3⟩ := give_zero hz
  obtain ⟨q0, q1, q2⟩ := there_lt h1
  have hl := hk.len
  have hf := freed_at hk hz
  have ho : (d.ent q).o.toNat < d.m.ns := by
    rw [ent_at h1]
    have a := hk.own _ q1
    have b := ((En.ok_iff _).1 (hk.ok _ q1)).o0
    omega
  unfold DS.given
  rw [hf]
  by_cases hc : (d.ent q).t ≠ 1 ∧ 0 < (upd d.at q.toNat En.zero (d.ent q).o.toNat).r
  · rw [if_pos hc, cnt_at _ (by show (d.lay q.toNat En.zero).E.length > _; rw [lay_len]; omega), hf]
    have hne : (d.ent q).o.toNat ≠ q.toNat := fun e => by
      have := hc.2
      rw [e, upd_self] at this
      exact absurd this (by decide)
    rw [upd_ne _ _ hne] at hc ⊢
    by_cases e1 : j = (d.ent q).o.toNat
    · subst e1
      rw [upd_self, if_neg hne, if_pos ⟨hc.1, rfl, hc.2⟩]
    · rw [upd_ne _ _ e1]
      by_cases e2 : j = q.toNat
      · subst e2; rw [upd_self, if_pos rfl]
      · rw [upd_ne _ _ e2, if_neg e2, if_neg (fun h => e1 h.2.1)]
  · rw [if_neg hc, hf]
    by_cases e2 : j = q.toNat
    · subst e2; rw [upd_self, if_pos rfl]
    · rw [upd_ne _ _ e2, if_neg e2, if_neg]
      rintro ⟨g1, g2, g3⟩
      subst g2
      exact hc ⟨g1, by rw [upd_ne _ _ e2]; exact g3⟩
theorem born_word {m : MS} (h : m.Whole) (s f b k o : Int) (hk : k ≠ s) : (m.born s f b).word true k o = m.word true k o := by
  unfold MS.born
  rw [MS.write_word ((h.write true s 0 f).write true s 1 b).ns0 _ _ _ _ _ _ _ (fun e => hk e.2.1.symm), MS.write_word (h.write true s 0 f).ns0 _ _ _ _ _ _ _ (fun e => hk e.2.1.symm), MS.write_word h.ns0 _ _ _ _ _ _ _ (fun e => hk e.2.1.symm)]
theorem lay8_other {d : DS} (h : d.m.Whole) (s : Int) (L : List Int) (k o : Int) (hk : k ≠ s) : ∀ j, (d.lay8 s L j).m.word true k o = d.m.word true k o
  | 0 => rfl
  | j + 1 => (MS.write_word (lay8_whole h s L j).ns0 _ _ _ _ _ _ _ (fun e => hk e.2.1.symm)).trans (lay8_other h s L k o hk j)
theorem msr_other {d : DS} (h : d.m.Whole) (s : Int) (L : List Int) (k o : Int) (hk : k ≠ s) : (d.msr s L).m.word true k o = d.m.word true k o := by
  unfold DS.msr
  rw [dig_other (lay8_whole h s L 8) s zz true k o (fun e => hk e.2) 26, lay8_other h s L k o hk 8]
theorem msr_len (d : DS) (s : Int) (L : List Int) (hL : H.Wds L) : DS.Fit d (d.msr s L) := (fit_lay8 d s L hL 8).trans (fit_dig _ s zz (fun j => by rw [show zz.getD j 0 = 0 from zdig j]; decide) 26)
theorem stated_m (d : DS) (q s : Int) : (d.stated q s).m = d.m := rfl
theorem GI.sim {n : Nat} {d e : DS} (h : GI n d) (hs : DS.Sim d e) : GI n e :=
  ⟨hs.ns.trans h.ns, by rw [hs.P]; exact h.len, hs.U h.U, by rw [at_of_E hs.E]; exact h.inv, fun k hk t1 s1 => by rw [hs.at] at t1 s1; rw [hs.st]; exact h.st k hk t1 s1⟩
theorem GI.up {n : Nat} {d : DS} (h : GI n d) : GI (n + 1) d := ⟨h.ns, h.len, h.U, h.inv, fun k hk t1 s1 => by obtain ⟨L, e, hl⟩ := h.st k hk t1 s1; exact ⟨L, e, by omega⟩⟩
theorem GI.start : GI 0 (DS.fresh (MS.new 8 1)) := by
  have ha : (DS.fresh (MS.new 8 1)).at = fun _ => En.zero := by funext k; exact rep_at _ k
  refine ⟨MS.zall_ns _ _, ?_, zall_U (MS.U.new 8 1) _, by rw [ha]; exact InvF.zero 8, fun k _ t1 => ?_⟩
  · show ((MS.new 8 1).zall _).P.length = 9
    rw [zall_len]
    rfl
  · rw [ha] at t1; cases t1
theorem GI.born {n : Nat} {d : DS} (a b : Int) (h : GI n d) (hk : d.Ok) (hw : d.m.Whole) (hz : d.bearE a b = 0) (b0 : 0 ≤ b) (b1 : b < 8) : GI (n + 1) ((d.takeSpace a b).dig a (H.saveOf []) 26) := by
  have e0 : d.takeSpace a b = d.space a b := by unfold DS.takeSpace; rw [if_pos hz]
  have f1 := fit_space hk a b b0 (by omega)
  have f2 := f1.trans (fit_dig _ a (H.saveOf []) (H.wds_saveOf wds_nil' (by simp)) 26)
  have hE := dig_E (d.takeSpace a b) a (H.saveOf []) 26
  have hwh : (d.takeSpace a b).m.Whole := by rw [e0]; exact ((hw.write _ _ _ _).write _ _ _ _).write _ _ _ _
  obtain ⟨ts, tf, hsf, t1, t2, hb⟩ := bear_zero hz
  obtain ⟨s0, s1, es⟩ := there_lt ts
  refine ⟨f2.ns.trans h.ns, f2.P.trans h.len, f2.U h.U, ?_, fun k hk8 t1 s1 => ?_⟩
  · rw [at_of_E hE.1, e0]
    have := inv_space hk (by rw [h.ns]; exact h.inv) hz
    rw [h.ns] at this
    exact this
  · rw [at_of_E hE.1, e0, space_at hk hz] at t1 s1
    by_cases e : k = a.toNat
    · have ea : (k : Int) = a := by omega
      rw [ea]
      exact ⟨[], dig_st hwh a _ (by unfold DS.there at ts ⊢; rw [f1.ns]; exact ts) (H.saveOf_length _), by simp⟩
    · rw [upd_ne _ _ e] at t1 s1
      by_cases e2 : k = b.toNat
      · subst e2; rw [upd_self] at t1; cases t1
      · rw [upd_ne _ _ e2] at t1 s1
        obtain ⟨L, hL, hl⟩ := h.st k hk8 t1 s1
        refine ⟨L, ?_, by omega⟩
        rw [← hL]
        refine st_of (fun o => ?_)
        have hne : (k : Int) ≠ a := by omega
        rw [dig_other hwh a _ true _ o (fun x => hne x.2) 26, e0]
        exact born_word hw _ _ _ _ _ hne
theorem GI.take {n : Nat} {d : DS} (q t s : Int) (h : GI n d) (hk : d.Ok) : GI (n + 1) (d.take q t s) := by
  unfold DS.take
  split
  · rename_i hz
    have hi := inv_taken hk (by rw [h.ns]; exact h.inv) hz
    rw [h.ns] at hi
    refine ⟨h.ns, h.len, h.U, hi, fun k hk8 t1 s1 => ?_⟩
    rw [taken_at hk hz] at t1 s1
    obtain ⟨h1, _, ht, h4, h5⟩ := take_zero hz
    have : (d.at k).t = 1 ∧ (d.at k).s = 1 := by
      by_cases e : k = s.toNat
      · subst e; rw [upd_self] at t1 s1; exact ⟨t1, s1⟩
      · rw [upd_ne _ _ e] at t1 s1
        by_cases e2 : k = q.toNat
        · subst e2; rw [upd_self] at s1; cases s1
        · rw [upd_ne _ _ e2] at t1 s1; exact ⟨t1, s1⟩
    obtain ⟨L, hL, hl⟩ := h.st k hk8 this.1 this.2
    exact ⟨L, hL, by omega⟩
  · exact h.up
theorem GI.state {n : Nat} {d : DS} (q s : Int) (h : GI n d) (hk : d.Ok) (hs : s ≠ 1) : GI n (d.state q s) := by
  unfold DS.state
  split
  · rename_i hz
    obtain ⟨ha, h1, h2⟩ := stated_at hk hz
    refine ⟨h.ns, h.len, h.U, ?_, fun k hk8 t1 s1 => ?_⟩
    · rw [ha]; exact h.inv.like rfl Iff.rfl Iff.rfl (fun _ => rfl)
    · rw [ha] at t1 s1
      by_cases e : k = q.toNat
      · subst e; rw [upd_self] at s1; exact absurd s1 hs
      · rw [upd_ne _ _ e] at t1 s1
        exact h.st k hk8 t1 s1
  · exact h
theorem GI.stop {n : Nat} {d : DS} (a : Int) (h : GI n d) (hk : d.Ok) : GI (n + 1) (d.stD a) := by
  unfold DS.stD
  split
  · exact (h.state a 3 hk (by decide)).up
  · exact h.up
theorem GI.load {n : Nat} {d : DS} (h : GI n d) (hn : n ≤ 41) {a : Int} (ha : d.there a = true) (t1 : (d.ent a).t = 1) (s1 : (d.ent a).s = 1) : ∃ L, d.st a = H.saveOf L ∧ L.length ≤ 1026 * n ∧ H.LoadOk (d.st a) := by
  obtain ⟨a0, a1, ea⟩ := there_lt ha
  rw [ent_at ha] at t1 s1
  obtain ⟨L, e, hl⟩ := h.st a.toNat (by rw [← h.ns]; exact a1) t1 s1
  rw [← ea] at e
  exact ⟨L, e, hl, by rw [e]; exact Q.save_ok L (by omega)⟩
theorem st1_t {d : DS} (hk : d.Ok) {a : Int} (s1 : (d.ent a).s = 1) : d.there a = true ∧ (d.ent a).t = 1 := by
  have ht : d.there a = true := by
    by_cases h : d.there a = true
    · exact h
    · unfold DS.ent at s1; rw [if_neg h] at s1; cases s1
  refine ⟨ht, ?_⟩
  by_cases e : (d.ent a).t = 1
  · exact e
  · rw [ent_at ht] at e s1
    have := ((En.ok_iff _).1 (hk.ok _ (there_lt ht).2.1)).ns e
    rw [this.2] at s1
    cases s1
theorem GI.ext {n : Nat} {d : DS} (a t v : Int) (h : GI n d) (hn : n ≤ 41) (hk : d.Ok) (hw : d.m.Whole) (s1 : (d.ent a).s = 1) (v0 : 0 ≤ v) (v1 : v < 4294967296) : GI (n + 1) (d.ext a (stepO t v)) := by
  obtain ⟨ha, t1⟩ := st1_t hk s1
  obtain ⟨L, hL, hl, hld⟩ := h.load hn ha t1 s1
  obtain ⟨ow, ol⟩ := stepO_wds t v v0 v1
  have e1 : d.exE a = 0 := by unfold DS.exE; rw [if_pos hld]
  have e2 : d.exL a (stepO t v) = H.saveOf (L ++ (stepO t v).wds) := by unfold DS.exL; rw [if_pos hld, hL, Q.exS_save L _ (by omega)]
  have e3 : d.ext a (stepO t v) = d.dig a (H.saveOf (L ++ (stepO t v).wds)) 26 := by unfold DS.ext; rw [if_pos e1, e2]
  have hww : H.Wds (H.saveOf (L ++ (stepO t v).wds)) := by rw [← e2]; unfold DS.exL; rw [if_pos hld]; exact Q.exS_wds (DS.st_wds h.U a) ow
  have hf := fit_dig d a _ hww 26
  obtain ⟨d1, _, d3⟩ := dig_E d a (H.saveOf (L ++ (stepO t v).wds)) 26
  obtain ⟨a0, a1, ea⟩ := there_lt ha
  rw [e3]
  refine ⟨d3.trans h.ns, hf.P.trans h.len, hf.U h.U, by rw [at_of_E d1]; exact h.inv, fun k hk8 t1 s1 => ?_⟩
  rw [at_of_E d1] at t1 s1
  by_cases e : (k : Int) = a
  · rw [e]
    exact ⟨_, dig_st hw a _ ha (H.saveOf_length _), by rw [List.length_append]; omega⟩
  · obtain ⟨L', hL', hl'⟩ := h.st k hk8 t1 s1
    exact ⟨L', by rw [← hL']; exact st_of (fun o => dig_other hw a _ true _ o (fun x => e x.2) 26), by omega⟩
theorem GI.fin {n : Nat} {d : DS} (a : Int) (h : GI n d) (hn : n ≤ 41) (hk : d.Ok) (hw : d.m.Whole) : GI (n + 1) (d.fiD a) := by
  unfold DS.fiD
  split
  · rename_i hc
    have hs : d.saE a = 0 ∧ (d.ent a).s = 1 := by
      unfold DS.fiC at hc
      split at hc
      · rename_i e; exact absurd hc e
      · rename_i e
        split at hc
        · rename_i e2; exact ⟨by simpa using e, e2⟩
        · exact absurd hc (by decide)
    obtain ⟨ha, t1⟩ := st1_t hk hs.2
    obtain ⟨L, hL, hl, hld⟩ := h.load hn ha t1 hs.2
    have eL : d.fnL a = H.sumW L := by unfold DS.fnL; rw [if_pos hld, hL, Q.fiS_save]
    have hf := msr_len d a (d.fnL a) (by rw [eL]; exact wds_sumW L)
    obtain ⟨m1, m3⟩ := msr_E d a (d.fnL a)
    have hk' : (d.msr a (d.fnL a)).Ok := ⟨by rw [m1, m3]; exact hk.len, by rw [m3]; exact hk.n64, fun k hk2 => by rw [at_of_E m1]; rw [m3] at hk2; exact hk.ok k hk2, fun k hk2 => by rw [at_of_E m1, m3]; rw [m3] at hk2; exact hk.own k hk2, by show 0 ≤ ((d.lay8 a _ 8).dig a zz 26).b; rw [(dig_E _ _ _ 26).2.1, (lay8_E _ _ _ 8).2.1]; exact hk.b0, by show ((d.lay8 a _ 8).dig a zz 26).b ≤ 64; rw [(dig_E _ _ _ 26).2.1, (lay8_E _ _ _ 8).2.1]; exact hk.b1⟩
    unfold DS.state
    have hz : (d.msr a (d.fnL a)).stateE a 2 = 0 := by
      have g1 : (d.msr a (d.fnL a)).there a = true := by unfold DS.there at ha ⊢; rw [m3]; exact ha
      have g2 : (d.msr a (d.fnL a)).ent a = d.ent a := by unfold DS.ent; rw [if_pos g1, if_pos ha, at_of_E m1]
      unfold DS.stateE DS.typE
      rw [g1, g2, t1, hs.2]
      rfl
    rw [if_pos hz]
    obtain ⟨hat, q1, q2⟩ := stated_at hk' hz
    refine ⟨by rw [stated_m]; exact hf.ns.trans h.ns, by rw [stated_m]; exact hf.P.trans h.len, by rw [stated_m]; exact hf.U h.U, ?_, fun k hk8 t1 s1 => ?_⟩
    · rw [hat, at_of_E m1]; exact h.inv.like rfl Iff.rfl Iff.rfl (fun _ => rfl)
    · rw [hat, at_of_E m1] at t1 s1
      by_cases e : k = a.toNat
      · subst e; rw [upd_self] at s1; exact absurd (show (2 : Int) = 1 from s1) (by decide)
      · rw [upd_ne _ _ e] at t1 s1
        obtain ⟨L', hL', hl'⟩ := h.st k hk8 t1 s1
        obtain ⟨a0, a1, ea⟩ := there_lt ha
        have hne : (k : Int) ≠ a := by omega
        have hO := fun o => msr_other hw a (d.fnL a) (k : Int) o hne
        exact ⟨L', by rw [← hL']; exact st_of (fun o => by rw [stated_m]; exact hO o), by omega⟩
  · exact h.up
theorem GI.give {n : Nat} {d : DS} (q : Int) (h : GI n d) (hk : d.Ok) (hw : d.m.Whole) : GI n (d.give q) := by
  have hf := fit_give d q
  refine ⟨hf.ns.trans h.ns, hf.P.trans h.len, hf.U h.U, ?_, ?_⟩
  · unfold DS.give
    split
    · rename_i hz
      have := (inv_given hk (by rw [h.ns]; exact h.inv) hz).1
      rw [h.ns] at this
      exact this
    · exact h.inv
  · intro k hk8 t1 s1
    unfold DS.give at t1 s1 ⊢
    split at t1
    · rename_i hz
      rw [if_pos hz] at s1 ⊢
      rw [given_at hk hz] at t1 s1
      by_cases e : k = q.toNat
      · rw [if_pos e] at t1; cases t1
      · rw [if_neg e] at t1 s1
        have : (d.at k).t = 1 ∧ (d.at k).s = 1 := by
          split at t1
          · rename_i g; rw [if_pos g] at s1; exact ⟨t1, s1⟩
          · rename_i g; rw [if_neg g] at s1; exact ⟨t1, s1⟩
        obtain ⟨L, hL, hl⟩ := h.st k hk8 this.1 this.2
        obtain ⟨q0, _, _⟩ := there_lt (give_zero hz).1
        exact ⟨L, by rw [← hL]; exact st_of (fun o => by rw [given_m]; exact zero_word hw.ns0 _ _ _ _ _ (fun x => e (by have := x.2; omega))), hl⟩
    · rename_i hz
      rw [if_neg hz] at s1 ⊢
      exact h.st k hk8 t1 s1
theorem GI.rem {n : Nat} {d : DS} (a : Int) (h : GI n d) (hk : d.Ok) (hw : d.m.Whole) : GI (n + 1) (d.rmD a) := by
  unfold DS.rmD
  split
  · exact (h.give a hk hw).up
  · exact h.up
theorem GI.of {n : Nat} {d : DS} (h : Rch n d) (hn : n ≤ 41) : GI n d := by
  induction h with
  | start => exact .start
  | up _ ih => exact (ih (by omega)).up
  | sim _ hs ih => exact (ih hn).sim hs
  | born a b _ hk hw hz b0 b1 ih => exact (ih (by omega)).born a b hk hw hz b0 b1
  | take q t s _ hk ih => exact (ih (by omega)).take q t s hk
  | ext a t v _ hk hw s1 v0 v1 ih => exact (ih (by omega)).ext a t v (by omega) hk hw s1 v0 v1
  | fin a _ hk hw ih => exact (ih (by omega)).fin a (by omega) hk hw
  | stop a _ hk ih => exact (ih (by omega)).stop a hk
  | rem a _ hk hw ih => exact (ih (by omega)).rem a hk hw
set_option maxHeartbeats 8000000
set_option maxRecDepth 100000
theorem rspare_any (W : World) (p : Rp) (d : DS) (h : RDB W p d) (w q : Int) (w0 : 0 ≤ w) (w1 : w < 4294967296) (q0 : 0 ≤ q) (q1 : q < 4294967296) (hm : d.saE w = 0 → (d.ent w).s ≠ 3 → d.more w = true) :
    Calls Tryz.prog 76 #[ptr p.g, .int .u32 w, .int .u32 q] W fun e W' => e = .returned (.int .i64 (d.srC w q)) ∧ RG W W' p p (d.srD w q) := by
  have HX := hid h
  have HA := hid (rspace_any W p d h w w0 w1)
  have HP := hid (fun u (hw : RDB u p d) => rpage_any u p d hw q q0 q1)
  have HE := hid (fun u (hw : RDB u p d) => rentry_any u p d hw q)
  have HT := hid (fun u (hw : RDB u p d) => rtake_any u p d hw q 6 w)
  by_cases hE : d.saE w = 0
  rotate_left
  · have hc : d.srC w q = d.saE w := by unfold DS.srC; rw [if_pos hE]
    have hd : d.srD w q = d := by unfold DS.srD; rw [hc, if_neg hE]
    rw [hc, hd]
    have hz : (d.saE w != 0) = true := by simpa using hE
    clear h hE hc hd HT HE HP hm
    simp only [ptr] at *
    generalize d.saE w = x at *
    generalize d.sp1 w = s1 at *
    generalize d.sp2 w = s2 at *
    go_enter Tryz.func76, Tryz.ntmps76
    go_wp2_with (go_at_call 122; refine HA.out.mono ?_; rintro e1 w2 ⟨rfl, hb⟩; have B1 := hid hb; clear hb)
    go_ret
    exact ⟨rfl, (RG.start HX.out).on B1.out⟩
  have h1 : d.sp1 w = w := by unfold DS.sp1; rw [hE]; rfl
  have h2 : d.sp2 w = (d.ent w).s := by unfold DS.sp2; rw [hE]; rfl
  rw [hE, h1, h2] at HA
  by_cases hs : (d.ent w).s = 3
  · have hc : d.srC w q = 22 := by unfold DS.srC; rw [if_neg (by rw [hE]; decide), if_pos hs]
    have hd : d.srD w q = d := by unfold DS.srD; rw [hc, if_neg (by decide)]
    rw [hc, hd]
    rw [hs] at HA
    clear h hE hc hd HT HE HP hm hs h1 h2
    simp only [ptr] at *
    go_enter Tryz.func76, Tryz.ntmps76
    go_wp2_with (go_at_call 122; refine HA.out.mono ?_; rintro e1 w2 ⟨rfl, hb⟩; have B1 := hid hb; clear hb)
    go_ret
    exact ⟨rfl, (RG.start HX.out).on B1.out⟩
  have hs' : ((d.ent w).s == 3) = false := by simpa using hs
  by_cases hq : q < (d.m.ns : Int)
  rotate_left
  · have hc : d.srC w q = 1 := by unfold DS.srC; rw [if_neg (by rw [hE]; decide), if_neg hs, if_neg hq]
    have hd : d.srD w q = d := by unfold DS.srD; rw [hc, if_neg (by decide)]
    rw [hc, hd]
    rw [if_neg hq] at HP
    clear h hE hc hd HT HE hm hs h1 h2 hq
    simp only [ptr] at *
    generalize (d.ent w).s = s at *
    go_enter Tryz.func76, Tryz.ntmps76
    go_wp2_with (first | (go_at_call 122; refine HA.out.mono ?_; rintro e1 w2 ⟨rfl, hb⟩; have B1 := hid hb; clear hb) | (go_at_call 123; refine (HP.out _ (HX.out.on B1.out)).mono ?_; rintro e1 wx ⟨rfl, hw⟩; subst hw))
    go_ret
    exact ⟨rfl, (RG.start HX.out).on B1.out⟩
  rw [if_pos hq] at HP
  have q2 : ¬ (q < 0) := by omega
  have hmo := hm hE hs
  have hEE : d.entE q = 0 := by unfold DS.entE DS.there; rw [if_pos (decide_eq_true ⟨q0, hq⟩)]
  rw [hEE] at HE
  by_cases ht : (d.ent q).t = 0
  · have hT : d.takeE q 6 w = 0 := by
      unfold DS.takeE
      rw [hEE, hmo, ht]
      simp [trn]
    have hc : d.srC w q = 0 := by unfold DS.srC; rw [if_neg (by rw [hE]; decide), if_neg hs, if_pos hq, if_pos hT]
    have hd : d.srD w q = d.take q 6 w := by unfold DS.srD; rw [hc, if_pos rfl]
    rw [hc, hd]
    rw [hT] at HT
    clear h hE hc hd hm hs h1 h2 hq hmo hEE hT
    generalize d.ent q = D at *
    obtain ⟨t', o, r, s', e⟩ := D
    simp only at ht
    subst ht
    simp only [ptr, En.v, En.cs] at *
    generalize (d.ent w).s = s at *
    generalize d.take q 6 w = d2 at *
    go_enter Tryz.func76, Tryz.ntmps76
    go_upto_region 10 with (first | (go_at_call 122; refine HA.out.mono ?_; rintro e1 w2 ⟨rfl, hb⟩; have B1 := hid hb; clear hb) | (go_at_call 123; refine (HP.out _ (HX.out.on B1.out)).mono ?_; rintro e1 wx ⟨rfl, hw⟩; subst hw) | (go_at_call 80; refine (HE.out _ (HX.out.on B1.out)).mono ?_; rintro e1 w3 ⟨rfl, hb⟩; have B2 := hid (below_on B1.out hb); clear hb))
    have C1 := hid (And.intro (Cel.new w3 144 [.int .i64 0, .int .i64 o, .int .i64 r, .int .i64 s', .bool e]) (below_on B2.out (below_one w3 (.cells [.int .i64 0, .int .i64 o, .int .i64 r, .int .i64 s', .bool e].toArray 144))))
    simp only [List.toArray] at C1
    generalize World.alloc _ _ = w4 at *
    generalize w3.heap.size = g8 at *
    clear B1 B2
    have y0 : w4.cell? ⟨g8, 0, none⟩ = some (.int .i64 0) := C1.out.1.cell 0
    go_wp2_with (go_at_call 85; refine (HT.out _ (HX.out.on C1.out.2)).mono ?_; rintro e1 w5 ⟨rfl, hg⟩; have G3 := hid (RG.pre C1.out.2 hg); clear hg)
    go_ret
    exact ⟨rfl, G3.out⟩
  · have hT : d.takeE q 6 w ≠ 0 := fun e => ht (take_zero e).2.2.2.2
    have hc : d.srC w q = 2 := by unfold DS.srC; rw [if_neg (by rw [hE]; decide), if_neg hs, if_pos hq, if_neg hT]
    have hd : d.srD w q = d := by unfold DS.srD; rw [hc, if_neg (by decide)]
    rw [hc, hd]
    clear h hE hc hd hm hs h1 h2 hq hmo hEE hT HT
    generalize d.ent q = D at *
    obtain ⟨t', o, r, s', e⟩ := D
    simp only at ht
    have ht' : (t' != 0) = true := by simpa using ht
    clear ht
    simp only [ptr, En.v, En.cs] at *
    generalize (d.ent w).s = s at *
    go_enter Tryz.func76, Tryz.ntmps76
    go_upto_region 10 with (first | (go_at_call 122; refine HA.out.mono ?_; rintro e1 w2 ⟨rfl, hb⟩; have B1 := hid hb; clear hb) | (go_at_call 123; refine (HP.out _ (HX.out.on B1.out)).mono ?_; rintro e1 wx ⟨rfl, hw⟩; subst hw) | (go_at_call 80; refine (HE.out _ (HX.out.on B1.out)).mono ?_; rintro e1 w3 ⟨rfl, hb⟩; have B2 := hid (below_on B1.out hb); clear hb))
    have C1 := hid (And.intro (Cel.new w3 144 [.int .i64 t', .int .i64 o, .int .i64 r, .int .i64 s', .bool e]) (below_on B2.out (below_one w3 (.cells [.int .i64 t', .int .i64 o, .int .i64 r, .int .i64 s', .bool e].toArray 144))))
    simp only [List.toArray] at C1
    generalize World.alloc _ _ = w4 at *
    generalize w3.heap.size = g8 at *
    clear B1 B2
    have y0 : w4.cell? ⟨g8, 0, none⟩ = some (.int .i64 t') := C1.out.1.cell 0
    go_wp2_with fail
    go_ret
    exact ⟨rfl, (RG.start HX.out).on C1.out.2⟩
def DS.drm (d : DS) (x : En) : Int := if x.t = 0 then 23 else if x.t ≠ 6 ∧ (d.ent x.o).s ≠ 3 then 8 else if x.t = 1 ∧ 0 < x.r then 14 else 0
theorem drm_eq {d : DS} (hk : d.Ok) (q : Int) (hs : (d.ent q).t = 1 → (d.ent q).o = q) : d.drm (d.ent q) = d.rmT (d.ent q) := by
  unfold DS.drm DS.rmT spcC prtC
  obtain ⟨t0, t1⟩ := ent_t hk q
  by_cases h0 : (d.ent q).t = 0
  · rw [if_pos h0, if_pos h0]
  rw [if_neg h0, if_neg h0]
  by_cases h1 : (d.ent q).t = 1
  · rw [if_pos h1, hs h1]
    simp only [h1]
    by_cases h3 : (d.ent q).s = 3 <;> simp [h3]
  · rw [if_neg h1]
    by_cases h6 : (d.ent q).t = 6
    · simp [h6]
    · rw [if_neg h6]
      by_cases h3 : (d.ent (d.ent q).o).s = 3 <;> simp [h3, h6, h1]
set_option maxHeartbeats 8000000
set_option maxRecDepth 100000
theorem rremove_any (W : World) (p : Rp) (d : DS) (h : RDB W p d) (q : Int) (q0 : 0 ≤ q) (q1 : q < 4294967296) (hs : (d.ent q).t = 1 → (d.ent q).o = q) :
    Calls Tryz.prog 79 #[ptr p.g, .int .u32 q] W fun e W' => e = .returned (.int .i64 (d.rmC q)) ∧ ∃ r', RG W W' p ⟨p.g, p.ge, p.cap, r'⟩ (d.rmD q) := by
  have HX := hid h
  have HP := hid (fun u (hw : RDB u p d) => rpage_any u p d hw q q0 q1)
  have HE := hid (fun u (hw : RDB u p d) => rentry_any u p d hw q)
  have HE2 := hid (fun u (hw : RDB u p d) => rentry_any u p d hw (d.ent q).o)
  have HG := hid (fun u (hw : RDB u p d) => rgive_any u p d hw q)
  have HD := hid (drm_eq h.ok q hs)
  by_cases hq : q < (d.m.ns : Int)
  rotate_left
  · have hc : d.rmC q = 1 := by unfold DS.rmC; rw [if_neg hq]
    have hd : d.rmD q = d := by unfold DS.rmD; rw [hc, if_neg (by decide)]
    rw [hc, hd]
    rw [if_neg hq] at HP
    clear h hc hd HE HE2 HG HD hs hq
    simp only [ptr] at *
    go_enter Tryz.func79, Tryz.ntmps79
    go_wp2_with (go_at_call 123; refine (HP.out _ HX.out).mono ?_; rintro e1 wx ⟨rfl, hw⟩; subst hw)
    go_ret
    exact ⟨rfl, _, RG.start HX.out⟩
  rw [if_pos hq] at HP
  have q2 : ¬ (q < 0) := by omega
  have hEE : d.entE q = 0 := by unfold DS.entE DS.there; rw [if_pos (decide_eq_true ⟨q0, hq⟩)]
  have HC : Hid (d.rmC q = d.drm (d.ent q)) := hid (by unfold DS.rmC; rw [if_pos hq, HD.out])
  have HN : Hid (d.rmC q ≠ 0 → d.rmD q = d) := hid (fun e => by unfold DS.rmD; rw [if_neg e])
  have HY : Hid (d.rmC q = 0 → d.rmD q = d.give q) := hid (fun e => by unfold DS.rmD; rw [if_pos e])
  unfold DS.drm at HC
  clear hs HD hEE hq h
  by_cases t0 : (d.ent q).t = 0
  · have HV : Hid (d.rmC q = 23) := hid (by rw [HC.out, if_pos t0])
    clear HE2 HG HY HC
    generalize d.ent q = D at *
    obtain ⟨t, o, r, s, e⟩ := D
    simp only at *
    simp only [ptr, En.v, En.cs] at *
    generalize d.rmC q = c at *
    generalize d.rmD q = D at *
    subst t0
    go_enter Tryz.func79, Tryz.ntmps79
    go_upto_region 5 with (first | (go_at_call 123; refine (HP.out _ HX.out).mono ?_; rintro e1 wx ⟨rfl, hw⟩; subst hw) | (go_at_call 80; refine (HE.out _ HX.out).mono ?_; rintro e1 w2 ⟨rfl, hb⟩; have B1 := hid hb; clear hb))
    have C1 := hid (And.intro (Cel.new w2 144 [.int .i64 0, .int .i64 o, .int .i64 r, .int .i64 s, .bool e]) (below_on B1.out (below_one w2 (.cells [.int .i64 0, .int .i64 o, .int .i64 r, .int .i64 s, .bool e].toArray 144))))
    simp only [List.toArray] at C1
    generalize World.alloc _ _ = w3 at *
    generalize w2.heap.size = g6 at *
    clear B1
    have y0 : w3.cell? ⟨g6, 0, none⟩ = some (.int .i64 0) := C1.out.1.cell 0
    have y1 : w3.cell? ⟨g6, 1, none⟩ = some (.int .i64 o) := C1.out.1.cell 1
    clear y1
    go_wp2_with fail
    go_ret
    exact ⟨by rw [HV.out]; rfl, _, by rw [HN.out (by rw [HV.out]; decide)]; exact (RG.start HX.out).on C1.out.2⟩
  by_cases t8 : (d.ent q).t ≠ 6 ∧ (d.ent (d.ent q).o).s ≠ 3
  · have HV : Hid (d.rmC q = 8) := hid (by rw [HC.out, if_neg t0, if_pos t8])
    obtain ⟨t6, s3⟩ := t8
    clear HG HY HC
    generalize d.ent q = D at *
    obtain ⟨t, o, r, s, e⟩ := D
    simp only at *
    generalize d.ent o = O at *
    obtain ⟨ot, oo, or, os, oe⟩ := O
    simp only [ptr, En.v, En.cs] at *
    generalize d.entE o = z at *
    generalize d.rmC q = c at *
    generalize d.rmD q = D at *
    have b0 : (t == 0) = false := by simpa using t0
    have b6 : (t != 6) = true := by simpa using t6
    have b3 : (os != 3) = true := by simpa using s3
    clear t0 t6 s3
    go_enter Tryz.func79, Tryz.ntmps79
    go_upto_region 5 with (first | (go_at_call 123; refine (HP.out _ HX.out).mono ?_; rintro e1 wx ⟨rfl, hw⟩; subst hw) | (go_at_call 80; refine (HE.out _ HX.out).mono ?_; rintro e1 w2 ⟨rfl, hb⟩; have B1 := hid hb; clear hb))
    have C1 := hid (And.intro (Cel.new w2 144 [.int .i64 t, .int .i64 o, .int .i64 r, .int .i64 s, .bool e]) (below_on B1.out (below_one w2 (.cells [.int .i64 t, .int .i64 o, .int .i64 r, .int .i64 s, .bool e].toArray 144))))
    simp only [List.toArray] at C1
    generalize World.alloc _ _ = w3 at *
    generalize w2.heap.size = g6 at *
    clear B1
    have y0 : w3.cell? ⟨g6, 0, none⟩ = some (.int .i64 t) := C1.out.1.cell 0
    have y1 : w3.cell? ⟨g6, 1, none⟩ = some (.int .i64 o) := C1.out.1.cell 1
    go_upto_region 8 with (go_at_call 80; refine (HE2.out _ (HX.out.on C1.out.2)).mono ?_; rintro e1 w4 ⟨rfl, hb⟩; have C2 := hid (And.intro (C1.out.1.on hb) (below_on C1.out.2 hb)); clear hb)
    have C3 := hid (And.intro (C2.out.1.on (below_one w4 (.cells [.int .i64 ot, .int .i64 oo, .int .i64 or, .int .i64 os, .bool oe].toArray 144))) (And.intro (Cel.new w4 144 [.int .i64 ot, .int .i64 oo, .int .i64 or, .int .i64 os, .bool oe]) (below_on C2.out.2 (below_one w4 (.cells [.int .i64 ot, .int .i64 oo, .int .i64 or, .int .i64 os, .bool oe].toArray 144)))))
    simp only [List.toArray] at C3
    generalize World.alloc _ _ = w5 at *
    generalize w4.heap.size = g9 at *
    clear C1 C2 y0 y1
    have y0 : w5.cell? ⟨g6, 0, none⟩ = some (.int .i64 t) := C3.out.1.cell 0
    have y2 : w5.cell? ⟨g6, 2, none⟩ = some (.int .i64 r) := C3.out.1.cell 2
    have z3 : w5.cell? ⟨g9, 3, none⟩ = some (.int .i64 os) := C3.out.2.1.cell 3
    go_wp2_with fail
    go_ret
    exact ⟨by rw [HV.out]; rfl, _, by rw [HN.out (by rw [HV.out]; decide)]; exact (RG.start HX.out).on C3.out.2.2⟩
  have hb8 : ((d.ent q).t != 6 && (d.ent (d.ent q).o).s != 3) = false := by
    cases e1 : ((d.ent q).t != 6) <;> cases e2 : ((d.ent (d.ent q).o).s != 3) <;> simp_all
  by_cases t14 : (d.ent q).t = 1 ∧ 0 < (d.ent q).r
  · have HV : Hid (d.rmC q = 14) := hid (by rw [HC.out, if_neg t0, if_neg t8, if_pos t14])
    obtain ⟨t1, r1⟩ := t14
    have s3 : (d.ent (d.ent q).o).s = 3 := by
      by_cases e : (d.ent (d.ent q).o).s = 3
      · exact e
      · exact absurd ⟨by rw [t1]; decide, e⟩ t8
    clear HG HY HC t0 t8 hb8
    generalize d.ent q = D at *
    obtain ⟨t, o, r, s, e⟩ := D
    simp only at *
    generalize d.ent o = O at *
    obtain ⟨ot, oo, or, os, oe⟩ := O
    simp only [ptr, En.v, En.cs] at *
    generalize d.entE o = z at *
    generalize d.rmC q = c at *
    generalize d.rmD q = D at *
    subst t1
    subst s3
    go_enter Tryz.func79, Tryz.ntmps79
    go_upto_region 5 with (first | (go_at_call 123; refine (HP.out _ HX.out).mono ?_; rintro e1 wx ⟨rfl, hw⟩; subst hw) | (go_at_call 80; refine (HE.out _ HX.out).mono ?_; rintro e1 w2 ⟨rfl, hb⟩; have B1 := hid hb; clear hb))
    have C1 := hid (And.intro (Cel.new w2 144 [.int .i64 1, .int .i64 o, .int .i64 r, .int .i64 s, .bool e]) (below_on B1.out (below_one w2 (.cells [.int .i64 1, .int .i64 o, .int .i64 r, .int .i64 s, .bool e].toArray 144))))
    simp only [List.toArray] at C1
    generalize World.alloc _ _ = w3 at *
    generalize w2.heap.size = g6 at *
    clear B1
    have y0 : w3.cell? ⟨g6, 0, none⟩ = some (.int .i64 1) := C1.out.1.cell 0
    have y1 : w3.cell? ⟨g6, 1, none⟩ = some (.int .i64 o) := C1.out.1.cell 1
    go_upto_region 8 with (go_at_call 80; refine (HE2.out _ (HX.out.on C1.out.2)).mono ?_; rintro e1 w4 ⟨rfl, hb⟩; have C2 := hid (And.intro (C1.out.1.on hb) (below_on C1.out.2 hb)); clear hb)
    have C3 := hid (And.intro (C2.out.1.on (below_one w4 (.cells [.int .i64 ot, .int .i64 oo, .int .i64 or, .int .i64 3, .bool oe].toArray 144))) (And.intro (Cel.new w4 144 [.int .i64 ot, .int .i64 oo, .int .i64 or, .int .i64 3, .bool oe]) (below_on C2.out.2 (below_one w4 (.cells [.int .i64 ot, .int .i64 oo, .int .i64 or, .int .i64 3, .bool oe].toArray 144)))))
    simp only [List.toArray] at C3
    generalize World.alloc _ _ = w5 at *
    generalize w4.heap.size = g9 at *
    clear C1 C2 y0 y1
    have y0 : w5.cell? ⟨g6, 0, none⟩ = some (.int .i64 1) := C3.out.1.cell 0
    have y2 : w5.cell? ⟨g6, 2, none⟩ = some (.int .i64 r) := C3.out.1.cell 2
    have z3 : w5.cell? ⟨g9, 3, none⟩ = some (.int .i64 3) := C3.out.2.1.cell 3
    go_wp2_with fail
    go_ret
    exact ⟨by rw [HV.out]; rfl, _, by rw [HN.out (by rw [HV.out]; decide)]; exact (RG.start HX.out).on C3.out.2.2⟩
  have HV : Hid (d.rmC q = 0) := hid (by rw [HC.out, if_neg t0, if_neg t8, if_neg t14])
  have hb14 : ((d.ent q).t == 1 && decide (0 < (d.ent q).r)) = false := by
    rw [Bool.and_eq_false_iff]
    by_cases e1 : (d.ent q).t = 1
    · exact .inr (decide_eq_false fun hr => t14 ⟨e1, hr⟩)
    · exact .inl (by simpa using e1)
  clear HC t8 t14 HN
  have b0 : ((d.ent q).t == 0) = false := by simpa using t0
  clear t0
  generalize d.giveE q = gE at *
  generalize d.give q = gD at *
  generalize d.ent q = D at *
  obtain ⟨t, o, r, s, e⟩ := D
  simp only at *
  generalize d.ent o = O at *
  obtain ⟨ot, oo, or, os, oe⟩ := O
  simp only [ptr, En.v, En.cs] at *
  generalize d.entE o = z at *
  generalize d.rmC q = c at *
  generalize d.rmD q = D at *
  rcases h6 : (t != 6) with _ | _ <;> rcases h3 : (os != 3) with _ | _ <;> rw [h6, h3] at hb8 <;> first | (exact absurd hb8 (by decide)) | (clear hb8; rcases h1 : (t == 1) with _ | _ <;> rcases hr : decide (0 < r) with _ | _ <;> rw [h1, hr] at hb14 <;> first | (exact absurd hb14 (by decide)) | clear hb14)
  all_goals
    first | rw [decide_eq_true_iff] at hr | rw [decide_eq_false_iff_not] at hr
    go_enter Tryz.func79, Tryz.ntmps79
    go_upto_region 5 with (first | (go_at_call 123; refine (HP.out _ HX.out).mono ?_; rintro e1 wx ⟨rfl, hw⟩; subst hw) | (go_at_call 80; refine (HE.out _ HX.out).mono ?_; rintro e1 w2 ⟨rfl, hb⟩; have B1 := hid hb; clear hb))
    have C1 := hid (And.intro (Cel.new w2 144 [.int .i64 t, .int .i64 o, .int .i64 r, .int .i64 s, .bool e]) (below_on B1.out (below_one w2 (.cells [.int .i64 t, .int .i64 o, .int .i64 r, .int .i64 s, .bool e].toArray 144))))
    simp only [List.toArray] at C1
    generalize World.alloc _ _ = w3 at *
    generalize w2.heap.size = g6 at *
    clear B1
    have y0 : w3.cell? ⟨g6, 0, none⟩ = some (.int .i64 t) := C1.out.1.cell 0
    have y1 : w3.cell? ⟨g6, 1, none⟩ = some (.int .i64 o) := C1.out.1.cell 1
    go_upto_region 8 with (go_at_call 80; refine (HE2.out _ (HX.out.on C1.out.2)).mono ?_; rintro e1 w4 ⟨rfl, hb⟩; have C2 := hid (And.intro (C1.out.1.on hb) (below_on C1.out.2 hb)); clear hb)
    have C3 := hid (And.intro (C2.out.1.on (below_one w4 (.cells [.int .i64 ot, .int .i64 oo, .int .i64 or, .int .i64 os, .bool oe].toArray 144))) (And.intro (Cel.new w4 144 [.int .i64 ot, .int .i64 oo, .int .i64 or, .int .i64 os, .bool oe]) (below_on C2.out.2 (below_one w4 (.cells [.int .i64 ot, .int .i64 oo, .int .i64 or, .int .i64 os, .bool oe].toArray 144)))))
    simp only [List.toArray] at C3
    generalize World.alloc _ _ = w5 at *
    generalize w4.heap.size = g9 at *
    clear C1 C2 y0 y1
    have y0 : w5.cell? ⟨g6, 0, none⟩ = some (.int .i64 t) := C3.out.1.cell 0
    have y2 : w5.cell? ⟨g6, 2, none⟩ = some (.int .i64 r) := C3.out.1.cell 2
    have z3 : w5.cell? ⟨g9, 3, none⟩ = some (.int .i64 os) := C3.out.2.1.cell 3
    go_wp2_with (go_at_call 127; refine (HG.out _ (HX.out.on C3.out.2.2)).mono ?_; rintro e1 w6 ⟨rfl, r', hg⟩; have G6 := hid (RG.pre C3.out.2.2 hg); clear hg)
    go_ret
    exact ⟨by rw [HV.out]; rfl, r', by rw [HY.out HV.out]; exact G6.out⟩
set_option maxHeartbeats 4000000
set_option maxRecDepth 100000
structure Hn (W wr : World) (v : Value) (L : List Nat) : Prop where
  own : wr.ownsRow W.heap.size 3 1 v L.length (ints L)
  below : Below W.heap.size W wr
theorem Hn.start (W : World) : Hn W W (.slice none 0 0) [] := ⟨World.ownsRow_nil _ _ _ _, Below.refl _ _⟩
theorem Hn.on {W w w' : World} {v : Value} {L : List Nat} (h : Hn W w v L) (hb : Below w.heap.size w w') : Hn W w' v L :=
  ⟨⟨h.own.1, h.own.2.imp id fun ⟨g, cap, cur, hv, hB, hg, r⟩ => ⟨g, cap, cur, hv, hB, (hb.block g (Array.getElem?_eq_some_iff.1 hg).1).trans hg, r⟩⟩, below_on h.below hb⟩
theorem Hn.form {W w : World} {v : Value} {L : List Nat} (h : Hn W w v L) : ∃ ao c, v = .slice ao L.length c := by
  rcases h.own.2 with ⟨hv, h0⟩ | ⟨g, cap, cur, hv, r⟩
  · exact ⟨none, 0, by rw [hv, h0]⟩
  · exact ⟨_, cap, hv⟩
theorem wpList_append_n {W w : World} {ops : Array Oper} {rest : List Oper} {o : Oper} {a : Act} {Q : Exit → Act → World → Prop} (hgd : o.guard = none) (s x : Operand)
    (ho : o.op = .call { callee := .builtin .append, args := #[s, x], argTypes := #[25, 25] }) (v : Value) (L : List Nat) (hs : a.eval s = v) (H : Hn W w v L) (ad : Addr) (c k : Nat) (hx : a.eval x = .slice (some ad) 1 c)
    (hsrc : ∀ j u, [Value.int .i64 (k : Int)][j]? = some u → w.cell? (ad.add j) = some u) (hbytes : (L.length + 1) * 8 ≤ 140737488355328)
    (h : ∀ v' w', Hn W w' v' (L ++ [k]) → wpList Tryz.prog ops Q rest (a.put o.dst v') w') : wpList Tryz.prog ops Q (o :: rest) a w := by
  obtain ⟨i, hi, hz, hsize, hby⟩ := info_parts info3
  obtain ⟨v', w', hr, h1, h2, _⟩ := run_append_own (P := Tryz.prog) w W.heap.size 25 o.type 3 i (.int .i64 0) 1 8 under45 hi hz hsize hby rfl (by decide) v L.length _ H.own ad 1 c [.int .i64 (k : Int)] rfl hsrc (by intro u hu; rw [List.mem_singleton] at hu; subst hu; rfl) (by unfold maxLen; omega) hbytes H.below.size
  have hH : Hn W w' v' (L ++ [k]) := ⟨by rw [List.length_append, ints_snoc]; exact h1, H.below.grown h2 H.below.size (fun g hg => (H.own.lt g hg).1)⟩
  refine wpList_plain hgd fun K hK => ?_
  unfold Oper.wp execOp
  simp only [ho, resolve, invoke, builtin, Sem.run_bind, Sem.run_pure, Result.andThen_ok, List.map_toArray, List.map_cons, List.map_nil, hs, hx, hr]
  exact hK _ _ (h _ _ hH)
theorem rowned_any (W : World) (p : Rp) (d : DS) (h : RDB W p d) (s : Int) :
    Calls Tryz.prog 81 #[ptr p.g, .int .i64 s] W fun x W' => ∃ v, x = .returned v ∧ Hn W W' v (d.owned s) := by
  unfold DS.owned
  have c1 := h.c1
  by_cases hs : d.there s = true
  · obtain ⟨s0, s1, es⟩ := there_lt hs
    have s2 : s < (d.m.ns : Int) := by omega
    obtain ⟨x0, _, _, _, _⟩ := h.row s.toNat s1
    rw [← ent_at hs] at x0
    by_cases ht : (d.ent s).t = 1
    · rw [if_pos ht]
      rw [ht] at x0
      have HW := hid h
      have HN : Hid (d.m.ns ≤ 64) := hid h.ok.n64
      have HR := hid (fun w (hw : RDB w p d) k hk => And.intro hw.c1 (And.intro (hw.row k hk).1 (hw.row k hk).2.1))
      have HC := hid (fun w (hw : RDB w p d) => hw.c1)
      generalize hF : (fun k : Nat => isO s (k : Int) (d.at k)) = F
      have HF : Hid (∀ k, F k = ((k : Int) != s && ((d.at k).o == s && (d.at k).t != 0))) := hid (fun k => by rw [← hF]; rfl)
      clear h hF hs ht
      generalize s.toNat = q at *
      subst es
      generalize d.m.ns = n at *
      simp only [ptr] at *
      have HS0 := hid (Hn.start W)
      go_enter Tryz.func81, Tryz.ntmps81
      go_wp2_with fail
      clear x0 c1
      have z1 : decide (n ≤ q) = false := by simpa using s1
      have z2 : decide ((q : Int) < 0) = false := by simp
      simp only [z1, z2, Bool.or_self]
      clear z1 z2
      go_loopw [5, 6] (fun l i wr => ∃ j : Nat, j ≤ n ∧ i = .int .i64 (j : Int) ∧ Hid (Hn W wr l (lstN F j))) (fun _ i _ => n - (intOf i).toNat)
      case atStart => exact ⟨0, Nat.zero_le _, rfl, HS0⟩
      case round =>
        obtain ⟨j, hj, rfl, HQ⟩ := hrel
        clear HS0
        by_cases hlt : j < n
        · have q1 : (j : Int) < (n : Int) := by omega
          obtain ⟨c1, x0, x1⟩ := HR.out _ (HW.out.on HQ.out.below) j hlt
          have hfj := HF.out j
          have HJ := hid hlt
          have hn64 := HN.out
          have j64 : (j : Int) ≤ 64 := by omega
          have HS : Hid (lstN F (j + 1) = lstN F j ++ (if F j = true then [j] else [])) := hid rfl
          generalize d.at j = D at *
          obtain ⟨ao, cc, hvf⟩ := HQ.out.form
          have hll := lstN_len F j
          subst hvf
          by_cases e1 : j = q
          · subst e1
            have : F j = false := by rw [hfj]; simp
            rw [this, if_neg (by decide), List.append_nil] at HS
            clear hfj this hll hn64 hlt hj
            generalize lstN F j = LL at *
            go_wp2_with fail
            go_roundw
            case measure => have := HJ.out; simp [intOf] <;> omega
            case rel => exact ⟨j + 1, HJ.out, by simp, by rw [HS.out]; exact HQ⟩
          · have e1' : ((j : Int) != (q : Int)) = true := by rw [bne_iff_ne]; omega
            by_cases e2 : D.t = 0
            · have : F j = false := by rw [hfj, e2]; simp
              rw [this, if_neg (by decide), List.append_nil] at HS
              rw [e2] at x0
              clear hfj this hll hn64 hlt hj e1 e2
              generalize lstN F j = LL at *
              go_wp2_with fail
              go_roundw
              case measure => have := HJ.out; simp [intOf] <;> omega
              case rel => exact ⟨j + 1, HJ.out, by simp, by rw [HS.out]; exact HQ⟩
            · have e2' : (D.t != 0) = true := by simpa using e2
              by_cases e3 : D.o = (q : Int)
              · have : F j = true := by rw [hfj, e1', e2', e3]; simp
                rw [this, if_pos rfl] at HS
                have HQ1 := hid (HQ.out.on (below_one wr (.cells #[.int .i64 (j : Int)] 3)))
                have hby : ((lstN F j).length + 1) * 8 ≤ 140737488355328 := by omega
                rw [e3] at x1
                clear hfj this hll hn64 hlt hj e1 e2 e3
                generalize lstN F j = LL at *
                go_wp2_with (at_builtin; refine wpList_append_n (W := W) rfl _ _ rfl (.slice ao LL.length cc) LL rfl HQ1.out ⟨wr.heap.size, 0, none⟩ 1 j rfl (Cel.new wr 3 [.int .i64 (j : Int)]).src hby ?_; intro v' w2 H2; obtain ⟨ao2, cc2, rfl⟩ := H2.form; have HN2 := hid H2; clear H2)
                go_roundw
                case measure => have := HJ.out; simp [intOf] <;> omega
                case rel => exact ⟨j + 1, HJ.out, by simp, by rw [HS.out]; have h9 := HN2.out; rw [List.length_append] at h9; exact hid h9⟩
              · have e3' : (D.o == (q : Int)) = false := by simpa using e3
                have : F j = false := by rw [hfj, e3']; simp
                rw [this, if_neg (by decide), List.append_nil] at HS
                clear hfj this hll hn64 hlt hj e1 e2 e3
                generalize lstN F j = LL at *
                go_wp2_with fail
                go_roundw
                case measure => have := HJ.out; simp [intOf] <;> omega
                case rel => exact ⟨j + 1, HJ.out, by simp, by rw [HS.out]; exact HQ⟩
        · have hjn : j = n := by omega
          subst hjn
          have c1 := HC.out _ (HW.out.on HQ.out.below)
          go_wp2_with fail
          go_ret
          exact ⟨_, rfl, HQ.out⟩
    · rw [if_neg ht]
      have ht' : ((d.ent s).t != 1) = true := by simpa using ht
      have ht'' : ((d.ent s).t == 1) = false := by simpa using ht
      have HS0 := hid (Hn.start W)
      generalize d.ent s = D at *
      clear h hs ht
      generalize s.toNat = q at *
      subst es
      generalize d.m.ns = n at *
      simp only [ptr] at *
      go_enter Tryz.func81, Tryz.ntmps81
      go_wp2_with fail
      go_ret
      exact ⟨_, rfl, HS0.out⟩
  · have hs' : d.there s = false := by simpa using hs
    have e0 : (d.ent s).t ≠ 1 := by rw [DS.ent_no hs']; decide
    rw [if_neg e0]
    have HS0 := hid (Hn.start W)
    rcases there_cases hs' with hc | ⟨h0, hc⟩
    · clear h hs hs' e0
      generalize d.m.ns = n at *
      simp only [ptr] at *
      go_enter Tryz.func81, Tryz.ntmps81
      go_wp2_with fail
      go_ret
      exact ⟨_, rfl, HS0.out⟩
    · clear h hs hs' e0
      generalize d.m.ns = n at *
      simp only [ptr] at *
      go_enter Tryz.func81, Tryz.ntmps81
      go_wp2_with fail
      go_ret
      exact ⟨_, rfl, HS0.out⟩
end Go.Proofs.YtdfnbcbnmiohnaaGreatDoor
