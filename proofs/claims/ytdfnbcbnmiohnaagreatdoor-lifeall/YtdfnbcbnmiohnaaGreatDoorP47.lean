import Derived.Test.YtdfnbcbnmiohnaaGreatDoorP46
import Derived.Test.YtdfnbcbnmiohnaaGreatDoorP01
import Derived.Test.YtdfnbcbnmiohnaaGreatDoorP42
import Derived.ArgAppend
import Derived.Laws.OwnMore
import Derived.Test.YtdfnbcbnmiohnaaGreatDoorP45
namespace Go.Proofs.YtdfnbcbnmiohnaaGreatDoor
open Go.RowKit
set_option maxRecDepth 100000
set_option maxHeartbeats 8000000
noncomputable def DS.lfC (d : DS) (k a b : Int) : Int := if k = 5 then d.srC a b else if k = 6 then d.fiC a else if k = 7 then d.saE a else d.rmC a
noncomputable def DS.lfD (d : DS) (k a b : Int) : DS := if k = 5 then d.srD a b else if k = 6 then d.fiD a else if k = 7 then d.stD a else d.rmD a
def DS.why (d : DS) (k a b : Int) : Int :=
  if 8 ≤ a then 1 else if k = 8 then (if (d.ent a).t = 0 then 23 else if (d.ent a).t ≠ 6 ∧ (d.ent (d.ent a).o).s ≠ 3 then 8 else if (d.ent a).t = 1 ∧ 0 < (d.ent a).r then 14 else 0)
  else if (d.ent a).t ≠ 1 then 3 else if k = 6 ∧ (d.ent a).s ≠ 1 then 4 else if k ≠ 5 then 0 else if (d.ent a).s = 3 then 22 else if 8 ≤ b then 1 else if (d.ent b).t ≠ 0 then 2 else 0
set_option maxRecDepth 100000
set_option maxHeartbeats 2000000
theorem GI.lt {n : Nat} {d : DS} (h : GI n d) {x : Int} (ht : d.there x = true) : 0 ≤ x ∧ x < 8 ∧ x.toNat < 8 ∧ ((x.toNat : Nat) : Int) = x := by
  obtain ⟨h0, h1, h2⟩ := there_lt ht
  rw [h.ns] at h1
  omega
theorem GI.self {n : Nat} {d : DS} (h : GI n d) {x : Int} (t1 : (d.ent x).t = 1) : d.there x = true ∧ (d.ent x).o = x ∧ (d.ent x).r < 63 := by
  have ht : d.there x = true := there_of (by rw [t1]; decide)
  obtain ⟨h0, h1, h2, h3⟩ := h.lt ht
  have he := ent_at ht
  rw [he] at t1
  obtain ⟨a, b⟩ := h.inv.ow x.toNat h2 t1
  rw [he]
  refine ⟨ht, by rw [a]; exact h3, ?_⟩
  rw [b]
  have := cntN_le (fun j => isO ((x.toNat : Nat) : Int) (j : Int) (d.at j)) 8
  omega
theorem GI.why {n : Nat} {d : DS} (h : GI n d) (hn : n ≤ 41) (k a b : Int) (k1 : 5 ≤ k) (k2 : k ≤ 8) (a0 : 0 ≤ a) (b0 : 0 ≤ b) : d.lfC k a b = d.why k a b := by
  have hth : ∀ x : Int, 0 ≤ x → x < 8 → d.there x = true := fun x h0 h1 => (there8 h.ns x).2 ⟨h0, h1⟩
  have hns : (d.m.ns : Int) = 8 := by rw [h.ns]; rfl
  by_cases ha : 8 ≤ a
  · have hs : d.saE a = 1 := by unfold DS.saE; rw [hns, if_neg (by omega)]
    have hr : d.rmC a = 1 := by unfold DS.rmC; rw [hns, if_neg (by omega)]
    simp [DS.lfC, DS.why, DS.srC, DS.fiC, hs, hr, ha]
  have ha' : a < 8 := by omega
  have hta := hth a a0 ha'
  have hs : d.saE a = if (d.ent a).t = 1 then 0 else 3 := by unfold DS.saE; rw [hns, if_pos ha']
  by_cases e8 : k = 8
  · subst e8
    have hr : d.rmC a = d.rmT (d.ent a) := by unfold DS.rmC; rw [hns, if_pos ha']
    have hl : d.lfC 8 a b = d.rmT (d.ent a) := by simp [DS.lfC, hr]
    have hw : d.why 8 a b = if (d.ent a).t = 0 then 23 else if (d.ent a).t ≠ 6 ∧ (d.ent (d.ent a).o).s ≠ 3 then 8 else if (d.ent a).t = 1 ∧ 0 < (d.ent a).r then 14 else 0 := by unfold DS.why; rw [if_neg ha]; rfl
    rw [hl, hw]
    unfold DS.rmT
    by_cases t0 : (d.ent a).t = 0
    · simp [t0]
    by_cases t1 : (d.ent a).t = 1
    · have ho := (h.self t1).2.1
      by_cases s3 : (d.ent a).s = 3 <;> by_cases r0 : 0 < (d.ent a).r <;> simp [t1, ho, spcC, s3, r0]
    by_cases t6 : (d.ent a).t = 6
    · simp [t6]
    by_cases s3 : (d.ent (d.ent a).o).s = 3 <;> simp [t0, t1, t6, s3, prtC]
  by_cases t1 : (d.ent a).t = 1
  · rw [if_pos t1] at hs
    by_cases e6 : k = 6
    · subst e6
      by_cases s1 : (d.ent a).s = 1
      · obtain ⟨L, _, _, hl⟩ := h.load hn hta t1 s1
        have hf : d.fnE a = 0 := by unfold DS.fnE; rw [if_pos hl]
        simp [DS.lfC, DS.why, DS.fiC, hs, s1, hf, t1, ha]
      · simp [DS.lfC, DS.why, DS.fiC, hs, s1, t1, ha]
    by_cases e5 : k = 5
    · subst e5
      by_cases s3 : (d.ent a).s = 3
      · simp [DS.lfC, DS.why, DS.srC, hs, s3, t1, ha]
      by_cases hb : 8 ≤ b
      · have hb' : ¬ b < 8 := by omega
        simp [DS.lfC, DS.why, DS.srC, hs, s3, t1, ha, hb, hns, hb']
      have hb' : b < 8 := by omega
      have htb := hth b b0 hb'
      have eb : d.entE b = 0 := by unfold DS.entE; rw [if_pos htb]
      have em : d.more a = true := by unfold DS.more; rw [t1]; simp; exact (h.self t1).2.2
      have et : trn 6 = true := by decide
      by_cases tb : (d.ent b).t = 0 <;> simp [DS.lfC, DS.why, DS.srC, hs, s3, t1, ha, hb, hns, hb', DS.takeE, eb, em, et, tb]
    have e7 : k = 7 := by omega
    subst e7
    simp [DS.lfC, DS.why, hs, t1, ha]
  · rw [if_neg t1] at hs
    have : k = 5 ∨ k = 6 ∨ k = 7 := by omega
    rcases this with rfl | rfl | rfl <;> simp [DS.lfC, DS.why, DS.srC, DS.fiC, hs, t1, ha]
structure LE (d D : DS) (k a b : Int) : Prop where
  oth : ∀ x : Int, 0 ≤ x → x < 8 → x ≠ a → ¬ (k = 5 ∧ x = b) → (D.ent x = d.ent x ∨ (k = 8 ∧ x = (d.ent a).o ∧ (D.ent x).t = 1)) ∧ (∀ o, D.m.word true x o = d.m.word true x o)
  sp : k = 5 → D.ent b = ⟨6, a, 0, 0, false⟩ ∧ (D.ent a).r = (d.ent a).r + 1 ∧ ∀ x o, D.m.word true x o = d.m.word true x o
  fi : k = 6 → (D.ent a).s = 2
  so : k = 7 → (D.ent a).s = 3 ∧ ∀ o, D.m.word true a o = d.m.word true a o
  rm : k = 8 → D.ent a = En.zero ∧ ∃ i, D.m.at true a = some i ∧ D.m.p i = zs
theorem LE.sim {d D D' : DS} {k a b : Int} (h : LE d D k a b) (hs : DS.Sim D D') : LE d D' k a b :=
  ⟨fun x h0 h1 h2 h3 => by rw [hs.ent]; exact ⟨(h.oth x h0 h1 h2 h3).1, fun o => by rw [hs.word]; exact (h.oth x h0 h1 h2 h3).2 o⟩,
   fun e => by rw [hs.ent, hs.ent]; exact ⟨(h.sp e).1, (h.sp e).2.1, fun x o => by rw [hs.word]; exact (h.sp e).2.2 x o⟩,
   fun e => by rw [hs.ent]; exact h.fi e,
   fun e => by rw [hs.ent]; exact ⟨(h.so e).1, fun o => by rw [hs.word]; exact (h.so e).2 o⟩,
   fun e => by rw [hs.ent, hs.mat]; obtain ⟨h1, i, h2, h3⟩ := h.rm e; exact ⟨h1, i, h2, by rw [hs.p]; exact h3⟩⟩
set_option maxRecDepth 100000
set_option maxHeartbeats 2000000
structure GR (d : DS) : Prop where
  ns : d.m.ns = 8
  len : d.m.P.length = 9
  inv : InvF d.at 8
theorem GI.gr {n : Nat} {d : DS} (h : GI n d) : GR d := ⟨h.ns, h.len, h.inv⟩
structure RS (d0 d : DS) (s i : Nat) (G : List Bool) : Prop where
  gr : GR d
  gl : G.length = 8
  gone : ∀ j, j < 8 → G.getD j false = true → d.at j = En.zero ∧ d.m.p j = zs
  keep : ∀ j, j < 8 → G.getD j false = false → j ≠ s → d.at j = d0.at j
  page : ∀ j, j < 8 → G.getD j false = false → d.m.p j = d0.m.p j
  me : G.getD s false = false → d.at s = { d0.at s with s := 3, r := (d0.at s).r - (i : Int) }
  fr : cntN (fun k => isF (d.at k)) 8 = cntN (fun k => isF (d0.at k)) 8 + i
def g8 : List Bool := List.replicate 8 false
theorem g8_at (j : Nat) : g8.getD j false = false := by
  unfold g8
  rw [List.getD_eq_getElem?_getD, List.getElem?_replicate]
  split <;> rfl
theorem stop_ok {d : DS} (h : GR d) (hk : d.Ok) {s : Nat} (hs : s < 8) (t1 : (d.at s).t = 1) : d.saE (s : Int) = 0 ∧ (d.stD (s : Int)).at = upd d.at s { d.at s with s := 3 } ∧ (d.stD (s : Int)).m = d.m := by
  have ht : d.there (s : Int) = true := (there8 h.ns _).2 ⟨by omega, by omega⟩
  have he := ent_at ht
  rw [Int.toNat_natCast] at he
  have hc : d.saE (s : Int) = 0 := by unfold DS.saE; rw [h.ns, if_pos (by omega), he, if_pos t1]
  have hz : d.stateE (s : Int) 3 = 0 := by unfold DS.stateE DS.typE; rw [ht, he, t1]; rfl
  obtain ⟨hat, _, _⟩ := stated_at hk hz
  rw [Int.toNat_natCast] at hat
  have hd : d.stD (s : Int) = d.stated (s : Int) 3 := by unfold DS.stD DS.state; rw [if_pos hc, if_pos hz]
  exact ⟨hc, by rw [hd, hat], by rw [hd, stated_m]⟩
theorem RS.start {d : DS} (h : GR d) (hk : d.Ok) {s : Nat} (hs : s < 8) (t1 : (d.at s).t = 1) : RS d (d.stD (s : Int)) s 0 g8 := by
  obtain ⟨_, ha, hm⟩ := stop_ok h hk hs t1
  refine ⟨⟨by rw [hm]; exact h.ns, by rw [hm]; exact h.len, by rw [ha]; exact h.inv.like rfl Iff.rfl Iff.rfl (fun _ => rfl)⟩, rfl, fun j _ hg => (by rw [g8_at] at hg; cases hg), fun j _ _ hj => by rw [ha, upd_ne _ _ hj], fun j _ _ => by rw [hm], fun _ => by rw [ha, upd_self]; simp, ?_⟩
  rw [ha]
  rw [Nat.add_zero]
  refine cntN_ext (fun k _ => ?_)
  by_cases e : k = s
  · subst e; rw [upd_self]; rfl
  · rw [upd_ne _ _ e]
theorem set_getD (G : List Bool) (p j : Nat) (hp : p < G.length) : (G.set p true).getD j false = if j = p then true else G.getD j false := by
  rw [List.getD_eq_getElem?_getD, List.getD_eq_getElem?_getD, List.getElem?_set]
  by_cases e : p = j
  · subst e; simp [hp]
  · rw [if_neg e, if_neg (fun h => e h.symm)]
theorem zero_p {m : MS} {p : Nat} (hn : m.ns = 8) (hl : m.P.length = 9) (hp : p < 8) : (m.zero true (p : Int)).p p = zs ∧ ∀ j, j ≠ p → (m.zero true (p : Int)).p j = m.p j := by
  have h1 : m.at true (p : Int) = some p := by have := at_sec (m := m) (b := (p : Int)) (by omega) (by rw [hn]; omega); simpa using this
  unfold MS.zero
  rw [h1]
  refine ⟨?_, fun j hj => MS.set_p _ _ _ _ _ hj⟩
  simp [MS.p, List.getD_eq_getElem?_getD, show p < m.P.length by omega]
theorem rm_give {d : DS} {p : Nat} (hn : d.m.ns = 8) (hp : p < 8) (hr : d.rmT (d.at p) = 0) : d.rmC (p : Int) = 0 ∧ d.giveE (p : Int) = 0 ∧ d.rmD (p : Int) = d.given (p : Int) ∧ d.ent (p : Int) = d.at p := by
  have ht : d.there (p : Int) = true := (there8 hn _).2 ⟨by omega, by omega⟩
  have he := ent_at ht
  rw [Int.toNat_natCast] at he
  have hc : d.rmC (p : Int) = 0 := by unfold DS.rmC; rw [hn, if_pos (by omega), he]; exact hr
  have hz : d.giveE (p : Int) = 0 := by
    unfold DS.giveE DS.entE
    rw [ht, he]
    unfold DS.rmT at hr
    split at hr
    · exact absurd hr (by decide)
    · rename_i t0
      rw [if_neg (by simp), if_neg t0]
      split at hr
      · unfold spcC at hr
        split at hr
        · split at hr
          · exact absurd hr (by decide)
          · rename_i r0; rw [if_neg (fun x => r0 x.2)]
        · exact absurd hr (by decide)
      · rename_i t1; rw [if_neg (fun x => t1 x.1)]
  exact ⟨hc, hz, by unfold DS.rmD DS.give; rw [if_pos hc, if_pos hz], he⟩
theorem RS.step {d0 d : DS} {s i p : Nat} {G : List Bool} (h : RS d0 d s i G) (hk : d.Ok) (h0 : GR d0) (hs : s < 8) (hp : p < 8) (hg : G.getD p false = false) (hgs : G.getD s false = false) (ho : isO (s : Int) (p : Int) (d0.at p) = true) (hi : (i : Int) < (d0.at s).r) :
    d.rmC (p : Int) = 0 ∧ RS d0 (d.rmD (p : Int)) s (i + 1) (G.set p true) ∧ (G.set p true).getD s false = false := by
  obtain ⟨o1, o2, o3⟩ := (isO_iff _ _ _).1 ho
  have hps : p ≠ s := fun e => o1 (by rw [e])
  have hx : d.at p = d0.at p := h.keep p hp hg hps
  have hme := h.me hgs
  have t1 : (d0.at p).t ≠ 1 := fun e => by
    have := (h0.inv.ow p hp e).1
    rw [this] at o2
    exact o1 o2
  have hths : d.there (s : Int) = true := (there8 h.gr.ns _).2 ⟨by omega, by omega⟩
  have hes := ent_at hths
  rw [Int.toNat_natCast] at hes
  have hr : d.rmT (d.at p) = 0 := by
    unfold DS.rmT
    rw [hx, if_neg o3, if_neg t1]
    split
    · rfl
    · rw [o2, hes, hme]; rfl
  obtain ⟨hc, hz, hd, hep⟩ := rm_give h.gr.ns hp hr
  have hat := fun j => given_at (d := d) (q := (p : Int)) hk hz j
  rw [Int.toNat_natCast, hep, hx, o2, Int.toNat_natCast] at hat
  obtain ⟨hi1, _, _⟩ := inv_given hk (by rw [h.gr.ns]; exact h.gr.inv) hz
  rw [h.gr.ns] at hi1
  obtain ⟨z1, z2⟩ := zero_p h.gr.ns h.gr.len hp
  have hgG : ∀ j, (G.set p true).getD j false = if j = p then true else G.getD j false := fun j => set_getD G p j (by rw [h.gl]; exact hp)
  refine ⟨hc, ?_, by rw [hgG, if_neg (fun e => hps e.symm)]; exact hgs⟩
  rw [hd]
  refine ⟨⟨by rw [given_m]; exact (MS.zero_ns _ _ _).trans h.gr.ns, by rw [given_m, ← h.gr.len]; exact (fit_wipe d _).P, hi1⟩, by rw [List.length_set]; exact h.gl, fun j hj hG => ?_, fun j hj hG hjs => ?_, fun j hj hG => ?_, fun _ => ?_, ?_⟩
  · rw [hgG] at hG
    by_cases e : j = p
    · subst e; exact ⟨by rw [hat, if_pos rfl], by rw [given_m]; exact z1⟩
    · rw [if_neg e] at hG
      obtain ⟨a1, a2⟩ := h.gone j hj hG
      refine ⟨?_, by rw [given_m, z2 j e]; exact a2⟩
      rw [hat, if_neg e, if_neg (fun x => ?_)]
      · exact a1
      · have := x.2.2
        rw [a1] at this
        exact absurd this (by decide)
  · rw [hgG] at hG
    by_cases e : j = p
    · subst e; rw [if_pos rfl] at hG; cases hG
    · rw [if_neg e] at hG
      rw [hat, if_neg e, if_neg (fun x => hjs x.2.1)]
      exact h.keep j hj hG hjs
  · rw [hgG] at hG
    by_cases e : j = p
    · subst e; rw [if_pos rfl] at hG; cases hG
    · rw [if_neg e] at hG
      rw [given_m, z2 j e]
      exact h.page j hj hG
  · rw [hat, if_neg (fun e => hps e.symm), if_pos ⟨t1, rfl, by rw [hme]; show 0 < (d0.at s).r - (i : Int); omega⟩, hme]
    simp only [En.mk.injEq, true_and, and_true]
    omega
  · have := cntN_one (f := fun k => isF ((d.given (p : Int)).at k)) (g := fun k => isF (d.at k)) hp (fun j hj hne => by
      show isF ((d.given (p : Int)).at j) = isF (d.at j)
      rw [hat, if_neg hne]
      split <;> rfl)
    have e1 : isF ((d.given (p : Int)).at p) = true := by rw [hat, if_pos rfl]; rfl
    have e2 : isF (d.at p) = false := by rw [hx]; simp [isF, o3]
    simp only [e1, e2, if_true] at this
    rw [h.fr] at this
    simp at this
    omega
theorem RS.last {d0 d : DS} {s i : Nat} {G : List Bool} (h : RS d0 d s i G) (hk : d.Ok) (hs : s < 8) (hgs : G.getD s false = false) (t1 : (d0.at s).t = 1) (hi : (i : Int) = (d0.at s).r) :
    d.rmC (s : Int) = 0 ∧ RS d0 (d.rmD (s : Int)) s (i + 1) (G.set s true) ∧ (G.set s true).getD s false = true := by
  have hme := h.me hgs
  have hr : d.rmT (d.at s) = 0 := by
    rw [hme]
    unfold DS.rmT
    simp only [t1]
    rw [if_neg (by decide), if_pos trivial]
    unfold spcC
    rw [if_pos rfl, if_neg (by omega)]
  obtain ⟨hc, hz, hd, hep⟩ := rm_give h.gr.ns hs hr
  have hat := fun j => given_at (d := d) (q := (s : Int)) hk hz j
  have ht : (d.at s).t = 1 := by rw [hme]; exact t1
  rw [Int.toNat_natCast, hep] at hat
  have hat' : ∀ j, (d.given (s : Int)).at j = if j = s then En.zero else d.at j := fun j => by
    rw [hat]
    by_cases e : j = s
    · rw [if_pos e, if_pos e]
    · rw [if_neg e, if_neg e, if_neg (fun x => x.1 ht)]
  obtain ⟨hi1, _, _⟩ := inv_given hk (by rw [h.gr.ns]; exact h.gr.inv) hz
  rw [h.gr.ns] at hi1
  obtain ⟨z1, z2⟩ := zero_p h.gr.ns h.gr.len hs
  have hgG : ∀ j, (G.set s true).getD j false = if j = s then true else G.getD j false := fun j => set_getD G s j (by rw [h.gl]; exact hs)
  refine ⟨hc, ?_, by rw [hgG, if_pos rfl]⟩
  rw [hd]
  refine ⟨⟨by rw [given_m]; exact (MS.zero_ns _ _ _).trans h.gr.ns, by rw [given_m, ← h.gr.len]; exact (fit_wipe d _).P, hi1⟩, by rw [List.length_set]; exact h.gl, fun j hj hG => ?_, fun j hj hG hjs => ?_, fun j hj hG => ?_, fun hG => ?_, ?_⟩
  · rw [hgG] at hG
    by_cases e : j = s
    · subst e; exact ⟨by rw [hat', if_pos rfl], by rw [given_m]; exact z1⟩
    · rw [if_neg e] at hG
      obtain ⟨a1, a2⟩ := h.gone j hj hG
      exact ⟨by rw [hat', if_neg e]; exact a1, by rw [given_m, z2 j e]; exact a2⟩
  · rw [hgG, if_neg hjs] at hG
    rw [hat', if_neg hjs]
    exact h.keep j hj hG hjs
  · rw [hgG] at hG
    by_cases e : j = s
    · subst e; rw [if_pos rfl] at hG; cases hG
    · rw [if_neg e] at hG
      rw [given_m, z2 j e]
      exact h.page j hj hG
  · rw [hgG, if_pos rfl] at hG; cases hG
  · have := cntN_one (f := fun k => isF ((d.given (s : Int)).at k)) (g := fun k => isF (d.at k)) hs (fun j hj hne => by
      show isF ((d.given (s : Int)).at j) = isF (d.at j)
      rw [hat', if_neg hne])
    have e1 : isF ((d.given (s : Int)).at s) = true := by rw [hat', if_pos rfl]; rfl
    have e2 : isF (d.at s) = false := by simp [isF, ht]
    simp only [e1, e2, if_true] at this
    rw [h.fr] at this
    simp at this
    omega
set_option maxRecDepth 100000
set_option maxHeartbeats 4000000
structure PL (w : World) (g : Nat) (L : List Nat) : Prop where
  at_ : ∀ j, j < L.length → w.cell? ⟨g, j, none⟩ = some (.int .i64 ((L.getD j 0 : Nat) : Int))
  lt : g < w.heap.size
theorem PL.on {w w' : World} {g : Nat} {L : List Nat} (h : PL w g L) (hb : Below w.heap.size w w') : PL w' g L :=
  ⟨fun j hj => by
    have := h.at_ j hj
    unfold World.cell? at this ⊢
    rw [hb.block g h.lt]
    exact this, by have := hb.size; have := h.lt; omega⟩
theorem PL.but {w w' : World} {g : Nat} {L : List Nat} {G : List Nat} (h : PL w g L) (hb : ButL G w w') (hg : g ∉ G) : PL w' g L :=
  ⟨fun j hj => by
    have := h.at_ j hj
    unfold World.cell? at this ⊢
    rw [hb.block g h.lt hg]
    exact this, by have := hb.size; have := h.lt; omega⟩
theorem own3_slice {w : World} {b : Nat} {v : Value} {n : Nat} {xs : List Value} (h : w.ownsRow b 3 1 v n xs) : ∃ ao c, v = .slice ao n c := by
  rcases h.2 with ⟨e, hn⟩ | ⟨g, cap, cur, e, _⟩
  · subst hn; exact ⟨none, 0, e⟩
  · exact ⟨some ⟨g, 0, none⟩, cap, e⟩
theorem own3_pl {w : World} {b : Nat} {v : Value} {L : List Nat} (h : w.ownsRow b 3 1 v L.length (ints L)) (h0 : 0 < L.length) : ∃ g c, v = .slice (some ⟨g, 0, none⟩) L.length c ∧ PL w g L ∧ b ≤ g := by
  rcases h.2 with ⟨e, hn⟩ | ⟨g, cap, cur, e, hb, h2, _, _, _, h6⟩
  · omega
  · refine ⟨g, cap, e, ⟨fun i hi => ?_, (Array.getElem?_eq_some_iff.1 h2).1⟩, hb⟩
    rw [cell_of_row w g i _ 3 (0, 0) h2]
    have h7 : (ints L)[i]? = some (.int .i64 ((L.getD i 0 : Nat) : Int)) := by rw [ints, List.getElem?_map, List.getD_eq_getElem?_getD, List.getElem?_eq_getElem hi]; rfl
    rw [← h6, List.getElem?_take, if_pos (by omega)] at h7
    simpa using h7
def DS.planL (d : DS) (s : Nat) : List Nat := d.owned (s : Int) ++ [s]
theorem owned_len (d : DS) (s : Int) : (d.owned s).length ≤ d.m.ns := by
  unfold DS.owned
  split
  · rw [lstN_cnt]; exact cntN_le _ _
  · simp
theorem plan_no (W : World) (p : Dp) (d : DS) (h : DB W p d) (s : Int) (t1 : (d.ent s).t ≠ 1) :
    Calls Tryz.prog 9 #[ptr p.g, .int .i64 s] W fun e W' => e = .returned (.slice none 0 0) ∧ Below W.heap.size W W' := by
  have HE := hid (entry_any W p d h s)
  have n1 : ((d.ent s).t != 1) = true := by simpa using t1
  clear h t1
  simp only [ptr, En.v, En.cs] at *
  generalize d.ent s = E at *
  go_enter Tryz.func9, Tryz.ntmps9
  go_upto_region 2 with (go_at_call 45; refine HE.out.mono ?_; rintro e w1 ⟨rfl, hb⟩; have B1 := hid (below_on hb (below_one w1 (.cells #[.int .i64 E.t, .int .i64 E.o, .int .i64 E.r, .int .i64 E.s, .bool E.e] 30))); have C1 := hid (Cel.new w1 30 [.int .i64 E.t, .int .i64 E.o, .int .i64 E.r, .int .i64 E.s, .bool E.e]); clear hb HE)
  generalize World.alloc _ _ = Y at *
  generalize w1.heap.size = g5 at *
  have c0 := C1.out.cell 0
  simp only [tqG] at c0
  go_wp2_with fail
  go_ret
  exact ⟨rfl, B1.out⟩
theorem plan_yes (W : World) (p : Dp) (d : DS) (h : DB W p d) (s : Nat) (t1 : (d.ent (s : Int)).t = 1) :
    Calls Tryz.prog 9 #[ptr p.g, .int .i64 (s : Int)] W fun e W' => ∃ g c, e = .returned (.slice (some ⟨g, 0, none⟩) (d.planL s).length c) ∧ PL W' g (d.planL s) ∧ W.heap.size ≤ g ∧ Below W.heap.size W W' := by
  have HE := hid (entry_any W p d h (s : Int))
  have HO := hid (fun w (h : DB w p d) => owned_any w p d h (s : Int))
  have HD := hid h
  have HLn := hid (Nat.le_trans (owned_len d (s : Int)) h.ok.n64)
  have n1 : ((d.ent (s : Int)).t != 1) = false := by simpa using t1
  clear h t1
  unfold DS.planL
  simp only [ptr, En.v, En.cs] at *
  generalize d.ent (s : Int) = E at *
  generalize d.owned (s : Int) = A at *
  go_enter Tryz.func9, Tryz.ntmps9
  go_upto_region 2 with (go_at_call 45; refine HE.out.mono ?_; rintro e w1 ⟨rfl, hb⟩; have D1 := hid ((HD.out.on hb).on (below_one w1 (.cells #[.int .i64 E.t, .int .i64 E.o, .int .i64 E.r, .int .i64 E.s, .bool E.e] 30))); have B1 := hid (below_on hb (below_one w1 (.cells #[.int .i64 E.t, .int .i64 E.o, .int .i64 E.r, .int .i64 E.s, .bool E.e] 30))); have C1 := hid (Cel.new w1 30 [.int .i64 E.t, .int .i64 E.o, .int .i64 E.r, .int .i64 E.s, .bool E.e]); clear hb HE HD)
  generalize World.alloc _ _ = Y at *
  generalize w1.heap.size = g5 at *
  have c0 := C1.out.cell 0
  simp only [tqG] at c0
  go_upto_region 4 with fail
  obtain ⟨i0, hi, hz0, hz1, hz2⟩ := info_parts info3
  have hAm : A.length + 1 ≤ maxLen := by have := HLn.out; unfold maxLen; omega
  have hAb : (A.length + 1) * 8 ≤ 140737488355328 := by have := HLn.out; omega
  go_wp2_with (first | (go_at_call 46; refine (HO.out _ D1.out).mono ?_; rintro e w2 ⟨v, rfl, hO, hb⟩; obtain ⟨xo, xc, rfl⟩ := own3_slice hO; have O2 := hid hO; have B2 := hid (below_on B1.out hb); have BY := hid hb.size; clear hO hb) | (at_builtin; refine wpList_append_own _ rfl _ _ 25 rfl Y.heap.size 3 i0 (.int .i64 0) 1 8 under45 hi hz0 hz1 hz2 rfl (by decide) (.slice xo A.length xc) A.length (ints A) rfl (O2.out.alloc _) ⟨w2.heap.size, 0, none⟩ 1 1 [.int .i64 (s : Int)] rfl rfl (Cel.new w2 3 [.int .i64 (s : Int)]).src (ints_oneCell .i64 [(s : Int)]) hAm hAb (by have := BY.out; simp; omega) ?_; intro v' w3 hown hgrow _; have O3 := hid hown; have G3 := hid hgrow; clear hown hgrow))
  go_ret
  have hO : w3.ownsRow Y.heap.size 3 1 v' (A ++ [s]).length (ints (A ++ [s])) := by
    have := O3.out
    rw [List.length_append, List.length_singleton]
    unfold ints at this ⊢
    rw [List.map_append]
    exact this
  obtain ⟨g, c, rfl, hp, hg⟩ := own3_pl hO (by simp)
  have hbY := B1.out.size
  have b2 := below_on B2.out (below_one w2 (.cells #[.int .i64 (s : Int)] 3))
  refine ⟨g, c, rfl, hp, by omega, b2.trans ?_⟩
  refine ⟨G3.out.os, G3.out.tape, G3.out.output, G3.out.size, fun k hk => G3.out.block k (by have := b2.size; omega) (fun e => ?_)⟩
  rcases O2.out.2 with ⟨hn, _⟩ | ⟨g', cap, cur, hn, hge, _⟩
  · rw [hn] at e; cases e
  · rw [hn] at e
    have e2 : g' = k := by simpa [Value.ownBlock] using e.symm
    omega
def Ap (v u : Value) : Prop := ∀ g, v.ownBlock = some g → u.ownBlock ≠ some g
theorem Ap.symm {v u : Value} (h : Ap v u) : Ap u v := fun g hg hv => h g hv hg
theorem own_mono {x : World} {B B' : Nat} {e : TypeId} {st : Nat} {v : Value} {n : Nat} {xs : List Value} (h : x.ownsRow B e st v n xs) (hB : B' ≤ B) : x.ownsRow B' e st v n xs :=
  ⟨h.1, h.2.imp id fun ⟨g, cap, cur, hv, hb, r⟩ => ⟨g, cap, cur, hv, Nat.le_trans hB hb, r⟩⟩
theorem own_form {x : World} {B : Nat} {e : TypeId} {st : Nat} {v : Value} {n : Nat} {xs : List Value} (h : x.ownsRow B e st v n xs) : ∃ ao cap, v = .slice ao n cap ∧ (0 < n → ∃ g, ao = some ⟨g, 0, none⟩) := by
  rcases h.2 with ⟨rfl, rfl⟩ | ⟨g, cap, cur, rfl, _⟩
  · exact ⟨none, 0, rfl, fun h => absurd h (by decide)⟩
  · exact ⟨_, cap, rfl, fun _ => ⟨g, rfl⟩⟩
set_option maxHeartbeats 8000000
set_option maxRecDepth 100000
theorem rplan_no (W : World) (p : Rp) (d : DS) (h : RDB W p d) (s : Int) (t1 : (d.ent s).t ≠ 1) :
    Calls Tryz.prog 40 #[ptr p.g, .int .i64 s] W fun e W' => e = .returned (.slice none 0 0) ∧ Below W.heap.size W W' := by
  have HE := hid (rentry_any W p d h s)
  clear h
  generalize d.ent s = D at *
  obtain ⟨t, o, r, s', e⟩ := D
  simp only at t1
  have b1 : (t != 1) = true := by simpa using t1
  clear t1
  simp only [ptr, En.v, En.cs] at *
  by_cases hz : d.entE s = 0
  · rw [hz] at HE
    clear hz
    go_enter Tryz.func40, Tryz.ntmps40
    go_upto_region 2 with (go_at_call 80; refine HE.out.mono ?_; rintro e1 w2 ⟨rfl, hb⟩; have B1 := hid hb; clear hb)
    have C1 := hid (And.intro (Cel.new w2 144 [.int .i64 t, .int .i64 o, .int .i64 r, .int .i64 s', .bool e]) (below_on B1.out (below_one w2 (.cells [.int .i64 t, .int .i64 o, .int .i64 r, .int .i64 s', .bool e].toArray 144))))
    simp only [List.toArray] at C1
    generalize World.alloc _ _ = w3 at *
    generalize w2.heap.size = g5 at *
    clear B1
    have y0 : w3.cell? ⟨g5, 0, none⟩ = some (.int .i64 t) := C1.out.1.cell 0
    go_wp2_with fail
    go_ret
    exact ⟨rfl, C1.out.2⟩
  · have hz' : (d.entE s != 0) = true := by simpa using hz
    clear hz
    generalize d.entE s = z at *
    go_enter Tryz.func40, Tryz.ntmps40
    go_upto_region 2 with (go_at_call 80; refine HE.out.mono ?_; rintro e1 w2 ⟨rfl, hb⟩; have B1 := hid hb; clear hb)
    have C1 := hid (below_on B1.out (below_one w2 (.cells [.int .i64 t, .int .i64 o, .int .i64 r, .int .i64 s', .bool e].toArray 144)))
    simp only [List.toArray] at C1
    generalize World.alloc _ _ = w3 at *
    generalize w2.heap.size = g5 at *
    clear B1
    go_wp2_with fail
    go_ret
    exact ⟨rfl, C1.out⟩
theorem rplan_yes (W : World) (p : Rp) (d : DS) (h : RDB W p d) (s : Nat) (t1 : (d.ent (s : Int)).t = 1) :
    Calls Tryz.prog 40 #[ptr p.g, .int .i64 (s : Int)] W fun e W' => ∃ v, e = .returned v ∧ Hn W W' v (d.planL s) := by
  have HX := hid h
  have HE := hid (rentry_any W p d h (s : Int))
  have HO := hid (fun u (hw : RDB u p d) => rowned_any u p d hw (s : Int))
  have hth : d.there (s : Int) = true := there_of (by rw [t1]; decide)
  have hz : d.entE (s : Int) = 0 := by unfold DS.entE; rw [if_pos hth]
  have hln := owned_len d (s : Int)
  have hn := h.ok.n64
  have hby : ((d.owned (s : Int)).length + 1) * 8 ≤ 140737488355328 := by omega
  have HPl : Hid (d.planL s = d.owned (s : Int) ++ [s]) := hid rfl
  rw [hz] at HE
  clear h hth hz hln hn
  generalize d.planL s = PL at *
  generalize d.owned (s : Int) = OL at *
  generalize d.ent (s : Int) = D at *
  obtain ⟨t, o, r, s', e⟩ := D
  simp only at t1
  subst t1
  simp only [ptr, En.v, En.cs] at *
  go_enter Tryz.func40, Tryz.ntmps40
  go_upto_region 2 with (go_at_call 80; refine HE.out.mono ?_; rintro e1 w2 ⟨rfl, hb⟩; have B1 := hid hb; clear hb)
  have C1 := hid (And.intro (Cel.new w2 144 [.int .i64 1, .int .i64 o, .int .i64 r, .int .i64 s', .bool e]) (below_on B1.out (below_one w2 (.cells [.int .i64 1, .int .i64 o, .int .i64 r, .int .i64 s', .bool e].toArray 144))))
  simp only [List.toArray] at C1
  generalize World.alloc _ _ = w3 at *
  generalize w2.heap.size = g5 at *
  clear B1
  have y0 : w3.cell? ⟨g5, 0, none⟩ = some (.int .i64 1) := C1.out.1.cell 0
  go_upto_region 5 with (go_at_call 81; refine (HO.out _ (HX.out.on C1.out.2)).mono ?_; rintro e1 w4 ⟨v4, rfl, hn4⟩; obtain ⟨ao, cc, rfl⟩ := hn4.form; have N4 : Hid (Hn W w4 (.slice ao OL.length cc) OL) := hid ⟨own_mono hn4.own C1.out.2.size, below_on C1.out.2 hn4.below⟩; clear hn4)
  clear y0
  have N5 := hid (N4.out.on (below_one w4 (.cells [.int .i64 (s : Int)].toArray 3)))
  simp only [List.toArray] at N5
  go_wp2_with (at_builtin; refine wpList_append_n (W := W) rfl _ _ rfl (.slice ao OL.length cc) OL rfl N5.out ⟨w4.heap.size, 0, none⟩ 1 s rfl (Cel.new w4 3 [.int .i64 (s : Int)]).src hby ?_; intro v' w6 H6; have HN6 := hid H6; clear H6)
  go_ret
  exact ⟨_, rfl, by rw [HPl.out]; exact HN6.out⟩
end Go.Proofs.YtdfnbcbnmiohnaaGreatDoor
