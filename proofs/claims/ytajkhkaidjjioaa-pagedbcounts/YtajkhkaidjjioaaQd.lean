/- All that is asked of a call that is done. -/
import Derived.Test.YtajkhkaidjjioaaQc
namespace Go.Proofs.Ytajkhkaidjjioaa
open Go.RowKit
theorem in0 : In 0 := ⟨by decide, by decide⟩
theorem in1 : In 1 := ⟨by decide, by decide⟩
theorem in2 : In 2 := ⟨by decide, by decide⟩
theorem ent_at' {d : DS} {q : Int} {x : En} (ht : d.there q = true) (h : d.at q.toNat = x) : d.ent q = x := (ent_at ht).trans h
theorem said_1 {d : DS} {o : Oq} (hk : d.Ok) (hf : d.m.Fl) (h : d.callE o = 0) (k1 : o.k = 1) : Said d o true := by
  have hc : d.call o = d.space o.a o.b := by unfold DS.call; rw [if_pos k1]; unfold DS.takeSpace; unfold DS.callE at h; rw [if_pos k1] at h; rw [if_pos h]
  have hz : d.bearE o.a o.b = 0 := by unfold DS.callE at h; rwa [if_pos k1] at h
  obtain ⟨ts, tf, hsf, t1, t2, hb⟩ := bear_zero hz
  obtain ⟨s0, s1, es⟩ := there_lt ts
  obtain ⟨f0, f1, ef⟩ := there_lt tf
  have n64 := hk.n64
  have b0 := hk.b0
  have hl := hk.len
  have hw1 := hf.write true o.a 0 o.b
  have hw2 := hw1.write true o.a 1 d.b
  have n1 : (d.m.write true o.a 0 o.b).ns = d.m.ns := MS.write_ns _ _ _ _ _
  have n2 : ((d.m.write true o.a 0 o.b).write true o.a 1 d.b).ns = d.m.ns := (MS.write_ns _ _ _ _ _).trans n1
  have i1 : o.a < ((d.m.write true o.a 0 o.b).ns : Int) := by rw [n1]; omega
  have i2 : o.a < (((d.m.write true o.a 0 o.b).write true o.a 1 d.b).ns : Int) := by rw [n2]; omega
  have i0 : o.a < (d.m.ns : Int) := by omega
  have hns : (d.call o).m.ns = d.m.ns := by rw [hc]; show (MS.born _ _ _ _).ns = _; simp [MS.born, MS.write_ns]
  have hat : ∀ j, (d.call o).at j = upd (upd d.at o.b.toNat (enF o.a)) o.a.toNat (enS o.a) j := fun j => by
    rw [hc]
    show ((d.lay o.b.toNat (enF o.a)).lay o.a.toNat (enS o.a)).at j = _
    rw [lay_upd _ (by rw [lay_len]; omega), lay_upd _ (by omega)]
  have hne : o.a.toNat ≠ o.b.toNat := by omega
  have k2 : o.k ≠ 2 := by omega
  refine ⟨?_, by rw [hc]; simp [DS.space, k1], (fun h => by cases h), fun p off p0 p1 o0 o1 => ?_, fun p hp => ?_, fun _ _ => ⟨ts, tf, t1, t2, ?_, ?_⟩, (fun _ h => absurd h k2), (fun _ h => by omega), (fun _ h => by omega), (fun _ h => by omega), (fun _ h => absurd k1 h)⟩
  · rw [hc, metB, if_neg (by decide), if_pos k1]
    show (wrap64 ((d.m.born o.a o.b d.b).c - d.m.c) == 3) = true
    unfold MS.born
    rw [write_c 0 s0 i2 in2, write_c _ s0 i1 in1, write_c _ s0 i0 in0, wrap_more, wrap_more, wrap_diff _ _ (by decide) (by decide)]
    rfl
  · rw [hc]
    show (d.m.born o.a o.b d.b).word true p off = _
    unfold MS.born
    rw [write_word hw2 0 s0 i2 in2, write_word hw1 _ s0 i1 in1, write_word hf _ s0 i0 in0]
    unfold wantW
    have m1 : o.b % 4294967296 = o.b := by omega
    have m2 : d.b % 4294967296 = d.b := by omega
    rw [m1, m2]
    by_cases e : p = o.a
    · by_cases e0 : off = 0
      · simp [e, e0, k1]
      · by_cases e1 : off = 1
        · simp [e, e1, k1]
        · by_cases e2 : off = 2
          · simp [e, e2, k1]
          · have e3 : ¬ off < 3 := by omega
            simp [e, e0, e1, e2, e3, k1]
    · simp [e]
  · by_cases e1 : (p : Int) = o.a
    · exact .inl (.inl e1)
    · by_cases e2 : (p : Int) = o.b
      · exact .inl (.inr ⟨e2, k1⟩)
      · refine .inr ⟨(d.at p).r, ?_, .inl rfl⟩
        rw [hat, upd_ne _ _ (by omega), upd_ne _ _ (by omega)]
  · rw [ent_same hns ts, hat, upd_self]
  · rw [ent_same hns tf, hat, upd_ne _ _ (Ne.symm hne), upd_self]
theorem said_2 {d : DS} {o : Oq} (hk : d.Ok) (h : d.callE o = 0) (k2 : o.k = 2) : Said d o true := by
  have k1 : o.k ≠ 1 := by omega
  have hz : d.takeE o.a o.t o.b = 0 := by unfold DS.callE at h; rwa [if_neg k1, if_pos k2] at h
  have hc : d.call o = d.taken o.a o.t o.b := by unfold DS.call; rw [if_neg k1, if_pos k2]; unfold DS.take; rw [if_pos hz]
  obtain ⟨tq, ⟨t0, t1⟩, _, hm, hf⟩ := take_zero hz
  obtain ⟨ts, s1, s2⟩ := more_of hm
  obtain ⟨q0, q1, eq⟩ := there_lt tq
  obtain ⟨s0, s3, es⟩ := there_lt ts
  have hl := hk.len
  have hne : o.b.toNat ≠ o.a.toNat := fun e => by rw [ent_at ts, e, ← ent_at tq, hf] at s1; cases s1
  have hns : (d.call o).m.ns = d.m.ns := by rw [hc]; rfl
  have hat : ∀ j, (d.call o).at j = upd (upd d.at o.a.toNat (enT o.t o.b)) o.b.toNat { d.at o.b.toNat with r := (d.at o.b.toNat).r + 1 } j := fun j => by
    rw [hc]
    unfold DS.taken
    rw [cnt_at _ (by rw [lay_len]; omega), lay_upd _ (by omega), upd_ne _ _ hne]
  have hr := (En.ok_iff _).1 (hk.ok _ s3)
  refine ⟨?_, by rw [hc]; simp [DS.taken, DS.cnt, DS.lay, k1], (fun h => by cases h), fun p off p0 p1 o0 o1 => ?_, fun p hp => ?_, (fun _ h => absurd h k1), fun _ _ => ⟨hf, ?_, ?_, ?_, ?_⟩, (fun _ h => by omega), (fun _ h => by omega), (fun _ h => by omega), (fun _ _ h => absurd k2 h)⟩
  · rw [hc, metB, if_neg (by decide), if_neg k1, if_neg (by omega)]
    show (wrap64 (d.m.c - d.m.c) == 0) = true
    simp [wrap64]
  · rw [hc]
    show d.m.word true p off = _
    simp [wantW, k2]
  · by_cases e1 : (p : Int) = o.a
    · exact .inl (.inl e1)
    · by_cases e2 : (p : Int) = o.b
      · have e3 : p = o.b.toNat := by omega
        refine .inr ⟨(d.at p).r + 1, ?_, .inr (.inl ⟨e2, k2⟩)⟩
        rw [hat, e3, upd_self]
      · refine .inr ⟨(d.at p).r, ?_, .inl rfl⟩
        rw [hat, upd_ne _ _ (by omega), upd_ne _ _ (by omega)]
  · rw [ent_same hns tq, hat, upd_ne _ _ (Ne.symm hne), upd_self]
  · rw [ent_same hns ts, hat, upd_self, ent_at ts]
  · rw [ent_at ts]; exact hr.r0
  · rw [ent_at ts]; exact hr.r1
theorem said_3 {d : DS} {o : Oq} (hk : d.Ok) (hf : d.m.Fl) (h : d.callE o = 0) (k3 : o.k = 3) : Said d o true := by
  have k1 : o.k ≠ 1 := by omega
  have k2 : o.k ≠ 2 := by omega
  have hz : d.turnE o.a o.t = 0 := by unfold DS.callE at h; rwa [if_neg k1, if_neg k2, if_pos k3] at h
  have hc : d.call o = d.turned o.a o.t := by unfold DS.call; rw [if_neg k1, if_neg k2, if_pos k3]; unfold DS.turn; rw [if_pos hz]
  obtain ⟨tq, h1, h2⟩ := turn_zero hz
  obtain ⟨q0, q1, eq⟩ := there_lt tq
  have hl := hk.len
  have i0 : o.a < (d.m.ns : Int) := by omega
  have hns : (d.call o).m.ns = d.m.ns := by rw [hc]; show (d.m.zero _ _).ns = _; exact MS.zero_ns _ _ _
  have hat : ∀ j, (d.call o).at j = upd d.at o.a.toNat (enT o.t (d.ent o.a).o) j := fun j => by
    rw [hc]
    show (d.lay o.a.toNat (enT o.t (d.ent o.a).o)).at j = _
    rw [lay_upd _ (by omega)]
  refine ⟨?_, by rw [hc]; simp [DS.turned, DS.wipe, DS.lay, k1], (fun h => by cases h), fun p off p0 p1 o0 o1 => ?_, fun p hp => ?_, (fun _ h => absurd h k1), (fun _ h => absurd h k2), fun _ _ => ?_, (fun _ h => by omega), (fun _ h => by omega), (fun _ _ _ h => absurd k3 h)⟩
  · rw [hc, metB, if_neg (by decide), if_neg k1, if_pos (.inl k3)]
    show (wrap64 ((d.m.zero true o.a).c - d.m.c) == 1024) = true
    rw [zero_c q0 i0, wrap_diff _ _ (by decide) (by decide)]; rfl
  · rw [hc]
    show (d.m.zero true o.a).word true p off = _
    rw [zero_word hf q0 i0]
    simp [wantW, k3]
  · by_cases e1 : (p : Int) = o.a
    · exact .inl (.inl e1)
    · refine .inr ⟨(d.at p).r, ?_, .inl rfl⟩
      rw [hat, upd_ne _ _ (by omega)]
  · rw [ent_same hns tq, hat, upd_self]
theorem said_4 {d : DS} {o : Oq} (hk : d.Ok) (hf : d.m.Fl) (hI : InvF d.at d.m.ns) (h : d.callE o = 0) (k4 : o.k = 4) : Said d o true := by
  have k1 : o.k ≠ 1 := by omega
  have k2 : o.k ≠ 2 := by omega
  have k3 : o.k ≠ 3 := by omega
  have hz : d.giveE o.a = 0 := by unfold DS.callE at h; rwa [if_neg k1, if_neg k2, if_neg k3, if_pos k4] at h
  have hc : d.call o = d.given o.a := by unfold DS.call; rw [if_neg k1, if_neg k2, if_neg k3, if_pos k4]; unfold DS.give; rw [if_pos hz]
  obtain ⟨tq, h1, h2⟩ := give_zero hz
  obtain ⟨q0, q1, eq⟩ := there_lt tq
  obtain ⟨_, g1, g2⟩ := inv_given hk hI hz
  have hl := hk.len
  have i0 : o.a < (d.m.ns : Int) := by omega
  have hm : (d.call o).m = d.m.zero true o.a ∧ (d.call o).b = d.b := by
    rw [hc]
    by_cases e : (d.ent o.a).t = 1
    · rw [g2 e]; exact ⟨rfl, rfl⟩
    · rw [g1 e]; exact ⟨rfl, rfl⟩
  have hns : (d.call o).m.ns = d.m.ns := by rw [hm.1]; exact MS.zero_ns _ _ _
  have hfr : (d.freed o.a).at = upd d.at o.a.toNat En.zero := by
    show (d.lay o.a.toNat En.zero).at = _
    rw [lay_upd _ (by omega)]
  have hfl : (d.freed o.a).E.length = d.E.length := lay_len _ _ _
  rw [ent_at tq] at h1 g1 g2
  have hown := (hI.sp _ q1 h1)
  have hat1 : (d.at o.a.toNat).t = 1 → ∀ j, (d.call o).at j = upd d.at o.a.toNat En.zero j := fun e j => by rw [hc, g2 e, hfr]
  have hat2 : (d.at o.a.toNat).t ≠ 1 → ∀ j, (d.call o).at j = upd (upd d.at o.a.toNat En.zero) (d.at o.a.toNat).o.toNat { upd d.at o.a.toNat En.zero (d.at o.a.toNat).o.toNat with r := (upd d.at o.a.toNat En.zero (d.at o.a.toNat).o.toNat).r + -1 } j := fun e j => by
    rw [hc, g1 e, cnt_at _ (by rw [hfl]; omega), hfr]
  have hne : (d.at o.a.toNat).t ≠ 1 → (d.at o.a.toNat).o.toNat ≠ o.a.toNat := fun e e2 => by rw [e2] at hown; exact e hown.2.2
  refine ⟨?_, by rw [hm.2]; simp [k1], (fun h => by cases h), fun p off p0 p1 o0 o1 => ?_, fun p hp => ?_, (fun _ h => absurd h k1), (fun _ h => absurd h k2), (fun _ h => absurd h k3), fun _ _ => ⟨?_, ?_⟩, (fun _ h => by omega), (fun _ _ _ _ h => absurd k4 h)⟩
  · rw [hm.1, metB, if_neg (by decide), if_neg k1, if_pos (.inr k4), zero_c q0 i0, wrap_diff _ _ (by decide) (by decide)]; rfl
  · rw [hm.1, zero_word hf q0 i0]
    simp [wantW, k4]
  · by_cases e1 : (p : Int) = o.a
    · exact .inl (.inl e1)
    · have e1' : p ≠ o.a.toNat := by omega
      by_cases e : (d.at o.a.toNat).t = 1
      · refine .inr ⟨(d.at p).r, ?_, .inl rfl⟩
        rw [hat1 e, upd_ne _ _ e1']
      · by_cases e2 : p = (d.at o.a.toNat).o.toNat
        · refine .inr ⟨(d.at p).r + -1, ?_, .inr (.inr ⟨tq, by rw [ent_at tq]; have := hown.1; omega, k4⟩)⟩
          rw [hat2 e, ← e2, upd_self, upd_ne _ _ e1']
        · refine .inr ⟨(d.at p).r, ?_, .inl rfl⟩
          rw [hat2 e, upd_ne _ _ e2, upd_ne _ _ e1']
  · rw [ent_same hns tq]
    by_cases e : (d.at o.a.toNat).t = 1
    · rw [hat1 e, upd_self]
    · rw [hat2 e, upd_ne _ _ (Ne.symm (hne e)), upd_self]
  · rw [ent_at tq]
    by_cases e : (d.at o.a.toNat).t = 1
    · exact .inl e
    · have hto : d.there (d.at o.a.toNat).o = true := decide_eq_true ⟨hown.1, by have := hown.2.1; have := hown.1; omega⟩
      have hr := (En.ok_iff _).1 (hk.ok _ hown.2.1)
      refine .inr ⟨e, ?_, ?_, ?_⟩
      · rw [ent_same hns hto, hat2 e, upd_self, upd_ne _ _ (hne e), ent_at hto]; show (d.at (d.at o.a.toNat).o.toNat).r + -1 = (d.at (d.at o.a.toNat).o.toNat).r - 1; omega
      · rw [ent_at hto]; exact hr.r0
      · rw [ent_at hto]; exact hr.r1
theorem said_5 {d : DS} {o : Oq} (hk : d.Ok) (h : d.callE o = 0) (k5 : o.k = 5) : Said d o true := by
  have k1 : o.k ≠ 1 := by omega
  have k2 : o.k ≠ 2 := by omega
  have k3 : o.k ≠ 3 := by omega
  have k4 : o.k ≠ 4 := by omega
  have hz : d.stateE o.a o.t = 0 := by unfold DS.callE at h; rwa [if_neg k1, if_neg k2, if_neg k3, if_neg k4, if_pos k5] at h
  have hc : d.call o = d.stated o.a o.t := by unfold DS.call; rw [if_neg k1, if_neg k2, if_neg k3, if_neg k4, if_pos k5]; unfold DS.state; rw [if_pos hz]
  have hy : d.typE o.a 1 = 0 := by
    unfold DS.stateE at hz
    by_cases e : d.typE o.a 1 = 0
    · exact e
    · rw [if_pos e] at hz; exact absurd hz e
  obtain ⟨tq, t1, _⟩ := typ_zero hy
  obtain ⟨q0, q1, eq⟩ := there_lt tq
  have hl := hk.len
  have hns : (d.call o).m.ns = d.m.ns := by rw [hc]; rfl
  have hat : ∀ j, (d.call o).at j = upd d.at o.a.toNat { d.ent o.a with s := o.t } j := fun j => by
    rw [hc]; unfold DS.stated; rw [lay_upd _ (by omega)]
  refine ⟨?_, by rw [hc]; simp [DS.stated, DS.lay, k1], (fun h => by cases h), fun p off p0 p1 o0 o1 => ?_, fun p hp => ?_, (fun _ h => absurd h k1), (fun _ h => absurd h k2), (fun _ h => absurd h k3), (fun _ h => absurd h k4), fun _ _ => ?_, (fun _ _ _ _ _ h => absurd k5 h)⟩
  · rw [hc, metB, if_neg (by decide), if_neg k1, if_neg (by omega)]
    show (wrap64 (d.m.c - d.m.c) == 0) = true
    simp [wrap64]
  · rw [hc]
    show d.m.word true p off = _
    simp [wantW, k5]
  · by_cases e1 : (p : Int) = o.a
    · exact .inl (.inl e1)
    · refine .inr ⟨(d.at p).r, ?_, .inl rfl⟩
      rw [hat, upd_ne _ _ (by omega)]
  · rw [ent_same hns tq, hat, upd_self]
theorem said_6 {d : DS} {o : Oq} (hk : d.Ok) (h : d.callE o = 0) (k1 : o.k ≠ 1) (k2 : o.k ≠ 2) (k3 : o.k ≠ 3) (k4 : o.k ≠ 4) (k5 : o.k ≠ 5) : Said d o true := by
  have hz : d.enteredE o.a = 0 := by unfold DS.callE at h; rwa [if_neg k1, if_neg k2, if_neg k3, if_neg k4, if_neg k5] at h
  have hc : d.call o = d.lay o.a.toNat { d.ent o.a with e := o.on } := by unfold DS.call; rw [if_neg k1, if_neg k2, if_neg k3, if_neg k4, if_neg k5]; unfold DS.entered; rw [if_pos hz]
  obtain ⟨tq, t1, _⟩ := typ_zero hz
  obtain ⟨q0, q1, eq⟩ := there_lt tq
  have hl := hk.len
  have hns : (d.call o).m.ns = d.m.ns := by rw [hc]; rfl
  have hat : ∀ j, (d.call o).at j = upd d.at o.a.toNat { d.ent o.a with e := o.on } j := fun j => by
    rw [hc]; rw [lay_upd _ (by omega)]
  refine ⟨?_, by rw [hc]; simp [DS.lay, k1], (fun h => by cases h), fun p off p0 p1 o0 o1 => ?_, fun p hp => ?_, (fun _ h => absurd h k1), (fun _ h => absurd h k2), (fun _ h => absurd h k3), (fun _ h => absurd h k4), (fun _ h => absurd h k5), fun _ _ _ _ _ _ => ?_⟩
  · rw [hc, metB, if_neg (by decide), if_neg k1, if_neg (by omega)]
    show (wrap64 (d.m.c - d.m.c) == 0) = true
    simp [wrap64]
  · rw [hc]
    show d.m.word true p off = _
    simp [wantW, k1, k3, k4]
  · by_cases e1 : (p : Int) = o.a
    · exact .inl (.inl e1)
    · refine .inr ⟨(d.at p).r, ?_, .inl rfl⟩
      rw [hat, upd_ne _ _ (by omega)]
  · rw [ent_same hns tq, hat, upd_self]
theorem said_any {d : DS} (o : Oq) (hk : d.Ok) (hf : d.m.Fl) (hI : InvF d.at d.m.ns) : Said d o (d.callE o == 0) := by
  by_cases h : d.callE o = 0
  · rw [show (d.callE o == 0) = true by simpa using h]
    by_cases k1 : o.k = 1
    · exact said_1 hk hf h k1
    by_cases k2 : o.k = 2
    · exact said_2 hk h k2
    by_cases k3 : o.k = 3
    · exact said_3 hk hf h k3
    by_cases k4 : o.k = 4
    · exact said_4 hk hf hI h k4
    by_cases k5 : o.k = 5
    · exact said_5 hk h k5
    exact said_6 hk h k1 k2 k3 k4 k5
  · rw [show (d.callE o == 0) = false by simpa using h]
    exact said_no h
end Go.Proofs.Ytajkhkaidjjioaa
