/- Counts, as plain numbers: what every call keeps. What a call leaves, as plain numbers. What a call leaves: words, entries, meters. All that is asked of a call that is done. The law's within 21, at 29, met 26, kept 28. -/
import Derived.Test.YtajkhkaidjjioaaPc
namespace Go.Proofs.Ytajkhkaidjjioaa
open Go.RowKit
theorem cntN_ext {f g : Nat → Bool} {n : Nat} (h : ∀ k, k < n → f k = g k) : cntN f n = cntN g n := by
  induction n with
  | zero => rfl
  | succ n ih => rw [cntN, cntN, ih (fun k hk => h k (by omega)), h n (by omega)]
theorem cntN_one {f g : Nat → Bool} {n k : Nat} (hk : k < n) (h : ∀ j, j < n → j ≠ k → f j = g j) : cntN f n + (if g k = true then 1 else 0) = cntN g n + (if f k = true then 1 else 0) := by
  induction n with
  | zero => omega
  | succ n ih =>
    by_cases e : k = n
    · subst e
      rw [cntN, cntN, cntN_ext (fun j hj => h j (by omega) (by omega))]
      omega
    · have := ih (by omega) (fun j hj hne => h j (by omega) hne)
      rw [cntN, cntN, h n (by omega) (fun e' => e e'.symm)]
      omega
theorem cntN_none {f : Nat → Bool} {n : Nat} (h : ∀ k, k < n → f k = false) : cntN f n = 0 := by
  induction n with
  | zero => rfl
  | succ n ih => rw [cntN, ih (fun k hk => h k (by omega)), h n (by omega)]; rfl
theorem cntN_zero {f : Nat → Bool} {n : Nat} (h : cntN f n = 0) : ∀ k, k < n → f k = false := by
  induction n with
  | zero => intro k hk; omega
  | succ n ih =>
    rw [cntN] at h
    intro k hk
    by_cases e : k = n
    · subst e
      cases hf : f k
      · rfl
      · rw [hf] at h; simp at h
    · exact ih (by omega) k (by omega)
theorem cntN_pos {f : Nat → Bool} {n k : Nat} (hk : k < n) (h : f k = true) : 0 < cntN f n := by
  rcases Nat.eq_zero_or_pos (cntN f n) with e | e
  · rw [cntN_zero e k hk] at h; cases h
  · exact e
theorem cntN_single {f : Nat → Bool} {n k : Nat} (hk : k < n) (h1 : f k = true) (h : ∀ j, j < n → j ≠ k → f j = false) : cntN f n = 1 := by
  have := cntN_one (f := f) (g := fun _ => false) hk h
  rw [cntN_none (f := fun _ => false) (fun _ _ => rfl), h1] at this
  simpa using this
theorem lstN_cnt (f : Nat → Bool) (n : Nat) : (lstN f n).length = cntN f n := by
  induction n with
  | zero => rfl
  | succ n ih => rw [lstN, cntN, List.length_append, ih]; split <;> simp
def upd (a : Nat → En) (k : Nat) (x : En) : Nat → En := fun j => if j = k then x else a j
theorem upd_self (a : Nat → En) (k : Nat) (x : En) : upd a k x k = x := if_pos rfl
theorem upd_ne (a : Nat → En) {k j : Nat} (x : En) (h : j ≠ k) : upd a k x j = a j := if_neg h
theorem lay_upd {d : DS} {k : Nat} (x : En) (hk : k < d.E.length) : (d.lay k x).at = upd d.at k x := by
  funext j; exact lay_at k j x hk
/-- Owners are spaces; a space is its own owner, and its references are counts. -/
structure InvF (a : Nat → En) (n : Nat) : Prop where
  sp : ∀ k, k < n → (a k).t ≠ 0 → 0 ≤ (a k).o ∧ (a k).o.toNat < n ∧ (a (a k).o.toNat).t = 1
  ow : ∀ k, k < n → (a k).t = 1 → (a k).o = (k : Int) ∧ (a k).r = (cntN (fun j => isO (k : Int) (j : Int) (a j)) n : Int)
theorem isO_iff (s k : Int) (x : En) : isO s k x = true ↔ k ≠ s ∧ x.o = s ∧ x.t ≠ 0 := by simp [isO]
theorem isO_f {s k : Int} {x : En} (h : ¬ (k ≠ s ∧ x.o = s ∧ x.t ≠ 0)) : isO s k x = false := by
  cases hh : isO s k x
  · rfl
  · exact absurd ((isO_iff _ _ _).1 hh) h
theorem isO_cg {s k : Int} {x y : En} (h1 : x.o = y.o) (h2 : x.t = y.t) : isO s k x = isO s k y := by unfold isO; rw [h1, h2]
theorem InvF.zero (n : Nat) : InvF (fun _ => En.zero) n := ⟨fun _ _ h => absurd rfl h, fun _ _ h => by cases h⟩
theorem InvF.space {a : Nat → En} {n s f : Nat} (h : InvF a n) (hs : s < n) (hf : f < n) (hne : s ≠ f) (ts : (a s).t = 0) (tf : (a f).t = 0) : InvF (upd (upd a f (enF (s : Int))) s (enS (s : Int))) n := by
  have hnone : ∀ j, j < n → (a j).t ≠ 0 → (a j).o ≠ (s : Int) := fun j hj ht e => by
    have := (h.sp j hj ht).2.2
    rw [e, Int.toNat_natCast, ts] at this
    cases this
  have hnonf : ∀ j, j < n → (a j).t ≠ 0 → (a j).o ≠ (f : Int) := fun j hj ht e => by
    have := (h.sp j hj ht).2.2
    rw [e, Int.toNat_natCast, tf] at this
    cases this
  refine ⟨fun k hk ht => ?_, fun k hk ht => ?_⟩
  · by_cases e1 : k = s
    · subst e1; rw [upd_self]; simp only [enS, Int.toNat_natCast]; rw [upd_self]; exact ⟨by omega, hk, rfl⟩
    · rw [upd_ne _ _ e1] at ht ⊢
      by_cases e2 : k = f
      · subst e2; rw [upd_self]; simp only [enF, Int.toNat_natCast]; rw [upd_self]; exact ⟨by omega, hs, rfl⟩
      · rw [upd_ne _ _ e2] at ht ⊢
        have h1 := h.sp k hk ht
        have h2 := hnone k hk ht
        have h3 := hnonf k hk ht
        rw [upd_ne _ _ (by omega), upd_ne _ _ (by omega)]
        exact h1
  · by_cases e1 : k = s
    · subst e1
      rw [upd_self]
      refine ⟨rfl, ?_⟩
      rw [cntN_single hf]
      · rfl
      · rw [isO_iff, upd_ne _ _ (Ne.symm hne), upd_self]; exact ⟨by omega, rfl, by simp [enF]⟩
      · intro j hj hjf
        refine isO_f ?_
        rintro ⟨h1, h2, h3⟩
        have e2 : j ≠ k := by omega
        rw [upd_ne _ _ e2, upd_ne _ _ hjf] at h2 h3
        exact hnone j hj h3 h2
    · rw [upd_ne _ _ e1] at ht ⊢
      by_cases e2 : k = f
      · subst e2; rw [upd_self] at ht; cases ht
      · rw [upd_ne _ _ e2] at ht ⊢
        obtain ⟨h1, h2⟩ := h.ow k hk ht
        refine ⟨h1, h2.trans ?_⟩
        congr 1
        refine cntN_ext fun j hj => ?_
        by_cases e3 : j = s
        · subst e3
          rw [upd_self, isO_f (by rw [ts]; simp), isO_f (by simp only [enS]; omega)]
        · rw [upd_ne _ _ e3]
          by_cases e4 : j = f
          · subst e4
            rw [upd_self, isO_f (by rw [tf]; simp), isO_f (by simp only [enF]; omega)]
          · rw [upd_ne _ _ e4]
theorem InvF.taken {a : Nat → En} {n q s : Nat} {t : Int} (h : InvF a n) (hq : q < n) (hs : s < n) (tq : (a q).t = 0) (ts : (a s).t = 1) (t0 : t ≠ 0) (t1 : t ≠ 1) : InvF (upd (upd a q (enT t (s : Int))) s { a s with r := (a s).r + 1 }) n := by
  have hne : s ≠ q := fun e => by rw [e, tq] at ts; cases ts
  have hso : (a s).o = (s : Int) := (h.ow s hs ts).1
  have hnonq : ∀ j, j < n → (a j).t ≠ 0 → (a j).o ≠ (q : Int) := fun j hj ht e => by
    have := (h.sp j hj ht).2.2
    rw [e, Int.toNat_natCast, tq] at this
    cases this
  refine ⟨fun k hk ht => ?_, fun k hk ht => ?_⟩
  · by_cases e1 : k = s
    · subst e1; rw [upd_self]; simp only [hso, Int.toNat_natCast]; rw [upd_self]; exact ⟨by omega, hk, ts⟩
    · rw [upd_ne _ _ e1] at ht ⊢
      by_cases e2 : k = q
      · subst e2; rw [upd_self]; simp only [enT, Int.toNat_natCast]; rw [upd_self]; exact ⟨by omega, hs, ts⟩
      · rw [upd_ne _ _ e2] at ht ⊢
        have h1 := h.sp k hk ht
        have h3 := hnonq k hk ht
        by_cases e3 : (a k).o.toNat = s
        · rw [e3, upd_self]; exact ⟨h1.1, hs, ts⟩
        · rw [upd_ne _ _ e3, upd_ne _ _ (by omega)]; exact h1
  · by_cases e1 : k = s
    · subst e1
      rw [upd_self]
      refine ⟨hso, ?_⟩
      have h2 := (h.ow k hs ts).2
      obtain ⟨A, hA⟩ : ∃ A, A = upd (upd a q (enT t (k : Int))) k { a k with r := (a k).r + 1 } := ⟨_, rfl⟩
      rw [← hA]
      have h3 := cntN_one (f := fun j => isO (k : Int) (j : Int) (A j)) (g := fun j => isO (k : Int) (j : Int) (a j)) (k := q) hq (fun j hj hjq => by
        by_cases e3 : j = k
        · subst e3; rw [isO_f (x := A j) (by simp), isO_f (x := a j) (by simp)]
        · rw [hA, upd_ne _ _ e3, upd_ne _ _ hjq])
      have h4 : isO (k : Int) (q : Int) (a q) = false := isO_f (by rw [tq]; simp)
      have h5 : isO (k : Int) (q : Int) (A q) = true := (isO_iff _ _ _).2 (by rw [hA, upd_ne _ _ (Ne.symm hne), upd_self]; exact ⟨by omega, rfl, t0⟩)
      rw [h4, h5] at h3
      simp only [Bool.false_eq_true, if_false, if_true] at h3
      clear hA
      show (a k).r + 1 = ((cntN (fun j => isO (k : Int) (j : Int) (A j)) n : Nat) : Int)
      omega
    · rw [upd_ne _ _ e1] at ht ⊢
      by_cases e2 : k = q
      · subst e2; rw [upd_self] at ht; exact absurd ht t1
      · rw [upd_ne _ _ e2] at ht ⊢
        obtain ⟨h1, h2⟩ := h.ow k hk ht
        refine ⟨h1, h2.trans ?_⟩
        congr 1
        refine cntN_ext fun j hj => ?_
        by_cases e3 : j = s
        · subst e3; rw [upd_self]; exact isO_cg rfl rfl
        · rw [upd_ne _ _ e3]
          by_cases e4 : j = q
          · subst e4
            rw [upd_self, isO_f (by rw [tq]; simp), isO_f (by simp only [enT]; omega)]
          · rw [upd_ne _ _ e4]
/-- An entry changes, but its owner and whether it is free or a space. -/
theorem InvF.like {a : Nat → En} {n q : Nat} {x : En} (h : InvF a n) (ho : x.o = (a q).o) (h0 : x.t = 0 ↔ (a q).t = 0) (h1 : x.t = 1 ↔ (a q).t = 1) (hr : x.t = 1 → x.r = (a q).r) : InvF (upd a q x) n := by
  have ht : ∀ j, ((upd a q x j).t = 1 ↔ (a j).t = 1) ∧ ((upd a q x j).t = 0 ↔ (a j).t = 0) ∧ (upd a q x j).o = (a j).o := fun j => by
    by_cases e : j = q
    · subst e; rw [upd_self]; exact ⟨h1, h0, ho⟩
    · rw [upd_ne _ _ e]; exact ⟨Iff.rfl, Iff.rfl, rfl⟩
  have hO : ∀ s k : Int, ∀ j, isO s k (upd a q x j) = isO s k (a j) := fun s k j => by
    have := ht j
    cases hh : isO s k (a j)
    · refine isO_f (fun hc => ?_)
      have := (isO_iff s k (a j)).2 ⟨hc.1, (ht j).2.2 ▸ hc.2.1, fun e => hc.2.2 ((ht j).2.1.2 e)⟩
      rw [hh] at this; cases this
    · have := (isO_iff s k (a j)).1 hh
      exact (isO_iff _ _ _).2 ⟨this.1, (ht j).2.2.trans this.2.1, fun e => this.2.2 ((ht j).2.1.1 e)⟩
  refine ⟨fun k hk hkt => ?_, fun k hk hkt => ?_⟩
  · have := h.sp k hk (fun e => hkt ((ht k).2.1.2 e))
    rw [(ht k).2.2]
    exact ⟨this.1, this.2.1, (ht _).1.2 this.2.2⟩
  · have h3 := h.ow k hk ((ht k).1.1 hkt)
    refine ⟨(ht k).2.2.trans h3.1, ?_⟩
    rw [cntN_ext (fun j _ => hO _ _ j), ← h3.2]
    by_cases e : k = q
    · subst e; rw [upd_self] at hkt ⊢; exact hr hkt
    · rw [upd_ne _ _ e]
theorem InvF.freeS {a : Nat → En} {n q : Nat} (h : InvF a n) (hq : q < n) (tq : (a q).t = 1) (r0 : (a q).r ≤ 0) : InvF (upd a q En.zero) n := by
  obtain ⟨ho, hr⟩ := h.ow q hq tq
  have hno := cntN_zero (f := fun j => isO (q : Int) (j : Int) (a j)) (n := n) (by omega)
  have hn : ∀ k, k < n → k ≠ q → (a k).t ≠ 0 → (a k).o ≠ (q : Int) := fun k hk hkq ht e => by
    have : isO (q : Int) (k : Int) (a k) = false := hno k hk
    rw [(isO_iff _ _ _).2 ⟨by omega, e, ht⟩] at this
    cases this
  refine ⟨fun k hk ht => ?_, fun k hk ht => ?_⟩
  · by_cases e1 : k = q
    · subst e1; rw [upd_self] at ht; exact absurd rfl ht
    · rw [upd_ne _ _ e1] at ht ⊢
      have h1 := h.sp k hk ht
      have h2 := hn k hk e1 ht
      rw [upd_ne _ _ (by omega)]
      exact h1
  · by_cases e1 : k = q
    · subst e1; rw [upd_self] at ht; cases ht
    · rw [upd_ne _ _ e1] at ht ⊢
      obtain ⟨h1, h2⟩ := h.ow k hk ht
      refine ⟨h1, h2.trans ?_⟩
      congr 1
      refine cntN_ext fun j hj => ?_
      by_cases e3 : j = q
      · subst e3; rw [upd_self, isO_f (by rw [ho]; omega), isO_f (by simp [En.zero])]
      · rw [upd_ne _ _ e3]
theorem InvF.freeO {a : Nat → En} {n q : Nat} (h : InvF a n) (hq : q < n) (t0 : (a q).t ≠ 0) (t1 : (a q).t ≠ 1) : 0 < (upd a q En.zero (a q).o.toNat).r ∧ InvF (upd (upd a q En.zero) (a q).o.toNat { upd a q En.zero (a q).o.toNat with r := (upd a q En.zero (a q).o.toNat).r + -1 }) n := by
  obtain ⟨o0, o1, ot⟩ := h.sp q hq t0
  have hne : (a q).o.toNat ≠ q := fun e => by rw [e] at ot; exact t1 ot
  rw [upd_ne _ _ hne]
  generalize ho : (a q).o.toNat = o at *
  have hoI : (a q).o = (o : Int) := by omega
  have hoo := h.ow o o1 ot
  have hqc : isO (o : Int) (q : Int) (a q) = true := (isO_iff _ _ _).2 ⟨by omega, hoI, t0⟩
  have hpos := cntN_pos (f := fun j => isO (o : Int) (j : Int) (a j)) hq hqc
  refine ⟨by rw [hoo.2]; omega, fun k hk ht => ?_, fun k hk ht => ?_⟩
  · by_cases e1 : k = o
    · subst e1; rw [upd_self]; simp only [hoo.1, Int.toNat_natCast]; rw [upd_self]; exact ⟨by omega, hk, ot⟩
    · rw [upd_ne _ _ e1] at ht ⊢
      by_cases e2 : k = q
      · subst e2; rw [upd_self] at ht; exact absurd rfl ht
      · rw [upd_ne _ _ e2] at ht ⊢
        have h1 := h.sp k hk ht
        by_cases e3 : (a k).o.toNat = o
        · rw [e3, upd_self]; exact ⟨h1.1, o1, ot⟩
        · rw [upd_ne _ _ e3]
          have e4 : (a k).o.toNat ≠ q := fun e => t1 (e ▸ h1.2.2)
          rw [upd_ne _ _ e4]
          exact h1
  · by_cases e1 : k = o
    · subst e1
      rw [upd_self]
      refine ⟨hoo.1, ?_⟩
      obtain ⟨A, hA⟩ : ∃ A, A = upd (upd a q En.zero) k { a k with r := (a k).r + -1 } := ⟨_, rfl⟩
      rw [← hA]
      have h3 := cntN_one (f := fun j => isO (k : Int) (j : Int) (A j)) (g := fun j => isO (k : Int) (j : Int) (a j)) (k := q) hq (fun j hj hjq => by
        by_cases e3 : j = k
        · subst e3; rw [isO_f (x := A j) (by simp), isO_f (x := a j) (by simp)]
        · rw [hA, upd_ne _ _ e3, upd_ne _ _ hjq])
      have h5 : isO (k : Int) (q : Int) (A q) = false := isO_f (by rw [hA, upd_ne _ _ (Ne.symm hne), upd_self]; simp [En.zero])
      rw [hqc, h5] at h3
      simp only [Bool.false_eq_true, if_false, if_true] at h3
      clear hA
      have h6 := hoo.2
      show (a k).r + -1 = ((cntN (fun j => isO (k : Int) (j : Int) (A j)) n : Nat) : Int)
      omega
    · rw [upd_ne _ _ e1] at ht ⊢
      by_cases e2 : k = q
      · subst e2; rw [upd_self] at ht; cases ht
      · rw [upd_ne _ _ e2] at ht ⊢
        obtain ⟨h1, h2⟩ := h.ow k hk ht
        refine ⟨h1, h2.trans ?_⟩
        congr 1
        refine cntN_ext fun j hj => ?_
        by_cases e3 : j = o
        · subst e3; rw [upd_self]; exact isO_cg rfl rfl
        · rw [upd_ne _ _ e3]
          by_cases e4 : j = q
          · subst e4; rw [upd_self, isO_f (by rw [hoI]; omega), isO_f (by simp [En.zero])]
          · rw [upd_ne _ _ e4]
end Go.Proofs.Ytajkhkaidjjioaa
namespace Go.Proofs.Ytajkhkaidjjioaa
open Go.RowKit
theorem state_at (d : DS) (m : MS) (b : Int) : DS.at { d with m := m, b := b } = d.at := rfl
theorem DS.wipe_at (d : DS) (q : Int) : (d.wipe q).at = d.at := rfl
theorem cnt_at {d : DS} {k : Nat} (n : Int) (hk : k < d.E.length) : (d.cnt k n).at = upd d.at k { d.at k with r := (d.at k).r + n } := lay_upd _ hk
theorem lay_len (d : DS) (k : Nat) (x : En) : (d.lay k x).E.length = d.E.length := by simp [DS.lay]
theorem inv_space {d : DS} {s f : Int} (hk : d.Ok) (h : InvF d.at d.m.ns) (hz : d.bearE s f = 0) : InvF (d.space s f).at d.m.ns := by
  obtain ⟨ts, tf, hsf, t1, t2, hb⟩ := bear_zero hz
  obtain ⟨s0, s1, es⟩ := there_lt ts
  obtain ⟨f0, f1, ef⟩ := there_lt tf
  rw [ent_at ts] at t1
  rw [ent_at tf] at t2
  have hl := hk.len
  have he : (d.space s f).at = upd (upd d.at f.toNat (enF ((s.toNat : Nat) : Int))) s.toNat (enS ((s.toNat : Nat) : Int)) := by
    show ((d.lay f.toNat (enF s)).lay s.toNat (enS s)).at = _
    rw [lay_upd _ (by rw [lay_len]; omega), lay_upd _ (by omega), ← es]
  rw [he]
  exact h.space s1 f1 (by omega) t1 t2
theorem inv_taken {d : DS} {q t s : Int} (hk : d.Ok) (h : InvF d.at d.m.ns) (hz : d.takeE q t s = 0) : InvF (d.taken q t s).at d.m.ns := by
  obtain ⟨tq, ⟨t0, t1⟩, _, hm, hf⟩ := take_zero hz
  obtain ⟨ts, s1, s2⟩ := more_of hm
  obtain ⟨q0, q1, eq⟩ := there_lt tq
  obtain ⟨s0, s3, es⟩ := there_lt ts
  rw [ent_at tq] at hf
  rw [ent_at ts] at s1
  have hl := hk.len
  have hne : s.toNat ≠ q.toNat := fun e => by rw [e, hf] at s1; cases s1
  have he : (d.taken q t s).at = upd (upd d.at q.toNat (enT t ((s.toNat : Nat) : Int))) s.toNat { d.at s.toNat with r := (d.at s.toNat).r + 1 } := by
    unfold DS.taken
    rw [cnt_at _ (by rw [lay_len]; omega), lay_upd _ (by omega), upd_ne _ _ hne, ← es]
  rw [he]
  exact h.taken q1 s3 hf s1 (by omega) (by omega)
theorem inv_turned {d : DS} {q t : Int} (hk : d.Ok) (h : InvF d.at d.m.ns) (hz : d.turnE q t = 0) : InvF (d.turned q t).at d.m.ns := by
  obtain ⟨tq, h1, h2⟩ := turn_zero hz
  obtain ⟨q0, q1, eq⟩ := there_lt tq
  rw [ent_at tq] at h1
  rw [trn_iff] at h1 h2
  have hl := hk.len
  have he : (d.turned q t).at = upd d.at q.toNat (enT t (d.at q.toNat).o) := by
    show (d.lay q.toNat (enT t (d.ent q).o)).at = _
    rw [lay_upd _ (by omega), ent_at tq]
  rw [he]
  exact h.like rfl (by show t = 0 ↔ _; omega) (by show t = 1 ↔ _; omega) (by show t = 1 → _; omega)
theorem inv_given {d : DS} {q : Int} (hk : d.Ok) (h : InvF d.at d.m.ns) (hz : d.giveE q = 0) : InvF (d.given q).at d.m.ns ∧ ((d.ent q).t ≠ 1 → d.given q = (d.freed q).cnt (d.ent q).o.toNat (-1)) ∧ ((d.ent q).t = 1 → d.given q = d.freed q) := by
  obtain ⟨tq, h1, h2⟩ := give_zero hz
  obtain ⟨q0, q1, eq⟩ := there_lt tq
  have hl := hk.len
  have hf : (d.freed q).at = upd d.at q.toNat En.zero := by
    show (d.lay q.toNat En.zero).at = _
    rw [lay_upd _ (by omega)]
  have hfl : (d.freed q).E.length = d.E.length := lay_len _ _ _
  rw [ent_at tq] at h1 h2 ⊢
  unfold DS.given
  rw [ent_at tq, hf]
  by_cases e : (d.at q.toNat).t = 1
  · rw [if_neg (by simp [e]), hf]
    exact ⟨h.freeS q1 e (by omega), fun h => absurd e h, fun _ => rfl⟩
  · obtain ⟨g1, g2⟩ := h.freeO q1 h1 e
    have g3 := (h.sp _ q1 h1).2.1
    rw [if_pos ⟨e, g1⟩]
    refine ⟨?_, fun _ => rfl, fun h => absurd h e⟩
    rw [cnt_at _ (by rw [hfl]; omega), hf]
    exact g2
theorem inv_call {d : DS} (o : Oq) (hk : d.Ok) (h : InvF d.at d.m.ns) : (d.call o).m.ns = d.m.ns ∧ InvF (d.call o).at d.m.ns := by
  have hl := hk.len
  unfold DS.call
  split
  · unfold DS.takeSpace
    split
    · rename_i hz
      exact ⟨by show (d.m.born _ _ _).ns = _; simp [MS.born, MS.write_ns], inv_space hk h hz⟩
    · exact ⟨rfl, h⟩
  · split
    · unfold DS.take
      split
      · rename_i hz; exact ⟨rfl, inv_taken hk h hz⟩
      · exact ⟨rfl, h⟩
    · split
      · unfold DS.turn
        split
        · rename_i hz; exact ⟨by show (d.m.zero _ _).ns = _; exact MS.zero_ns _ _ _, inv_turned hk h hz⟩
        · exact ⟨rfl, h⟩
      · split
        · unfold DS.give
          split
          · rename_i hz
            refine ⟨?_, (inv_given hk h hz).1⟩
            unfold DS.given
            split
            · show (d.m.zero _ _).ns = _; exact MS.zero_ns _ _ _
            · show (d.m.zero _ _).ns = _; exact MS.zero_ns _ _ _
          · exact ⟨rfl, h⟩
        · split
          · unfold DS.state
            split
            · rename_i hz
              have hy : d.typE o.a 1 = 0 := by
                unfold DS.stateE at hz
                by_cases e : d.typE o.a 1 = 0
                · exact e
                · rw [if_pos e] at hz; exact absurd hz e
              obtain ⟨tq, t1, _⟩ := typ_zero hy
              obtain ⟨q0, q1, eq⟩ := there_lt tq
              refine ⟨rfl, ?_⟩
              unfold DS.stated
              rw [lay_upd _ (by omega), ent_at tq]
              exact h.like rfl Iff.rfl Iff.rfl (fun _ => rfl)
            · exact ⟨rfl, h⟩
          · unfold DS.entered
            split
            · rename_i hz
              obtain ⟨tq, t1, _⟩ := typ_zero hz
              obtain ⟨q0, q1, eq⟩ := there_lt tq
              refine ⟨rfl, ?_⟩
              rw [lay_upd _ (by omega), ent_at tq]
              exact h.like rfl Iff.rfl Iff.rfl (fun _ => rfl)
            · exact ⟨rfl, h⟩
/-- Sums. -/
def sumN (f : Nat → Nat) : Nat → Nat
  | 0 => 0
  | k + 1 => sumN f k + f k
theorem sumN_ext {f g : Nat → Nat} {n : Nat} (h : ∀ k, k < n → f k = g k) : sumN f n = sumN g n := by
  induction n with
  | zero => rfl
  | succ n ih => rw [sumN, sumN, ih (fun k hk => h k (by omega)), h n (by omega)]
theorem sumN_add (f g : Nat → Nat) (n : Nat) : sumN (fun k => f k + g k) n = sumN f n + sumN g n := by
  induction n with
  | zero => rfl
  | succ n ih => simp only [sumN, ih]; omega
theorem sumN_one (n : Nat) : sumN (fun _ => 1) n = n := by
  induction n with
  | zero => rfl
  | succ n ih => simp only [sumN, ih]
theorem sumN_zero (n : Nat) : sumN (fun _ => 0) n = 0 := by
  induction n with
  | zero => rfl
  | succ n ih => simp only [sumN, ih]
theorem cntN_sum (f : Nat → Bool) (n : Nat) : cntN f n = sumN (fun k => if f k = true then 1 else 0) n := by
  induction n with
  | zero => rfl
  | succ n ih => rw [cntN, sumN, ih]
theorem sumN_swap (F : Nat → Nat → Bool) (n m : Nat) : sumN (fun p => cntN (F p) m) n = sumN (fun j => cntN (fun p => F p j) n) m := by
  induction n with
  | zero =>
    simp only [sumN]
    exact (sumN_zero m).symm.trans (sumN_ext fun k _ => rfl)
  | succ n ih =>
    simp only [sumN, ih, cntN]
    rw [sumN_add, cntN_sum (F n) m]
def spc (x : En) : Bool := x.t == 1
theorem sums_all {a : Nat → En} {n : Nat} (h : InvF a n) : cntN (fun k => isF (a k)) n + sumN (fun p => if spc (a p) = true then 1 + cntN (fun j => isO (p : Int) (j : Int) (a j)) n else 0) n = n := by
  have h1 : sumN (fun p => if spc (a p) = true then 1 + cntN (fun j => isO (p : Int) (j : Int) (a j)) n else 0) n = sumN (fun p => if spc (a p) = true then 1 else 0) n + sumN (fun p => cntN (fun j => spc (a p) && isO (p : Int) (j : Int) (a j)) n) n := by
    rw [← sumN_add]
    refine sumN_ext fun p _ => ?_
    cases spc (a p)
    · simp only [Bool.false_eq_true, if_false, Bool.false_and]; rw [cntN_none (fun _ _ => rfl)]
    · simp only [if_true, Bool.true_and]
  rw [h1, sumN_swap, cntN_sum, ← sumN_add, ← sumN_add]
  refine (sumN_ext fun j hj => ?_).trans (sumN_one n)
  by_cases e0 : (a j).t = 0
  · have f1 : isF (a j) = true := by simp [isF, e0]
    have f2 : spc (a j) = false := by simp [spc, e0]
    rw [f1, f2, cntN_none (fun p _ => by rw [isO_f (by rw [e0]; simp)]; simp)]
    rfl
  · have f1 : isF (a j) = false := by simp [isF, e0]
    obtain ⟨o0, o1, ot⟩ := h.sp j hj e0
    by_cases e1 : (a j).t = 1
    · have f2 : spc (a j) = true := by simp [spc, e1]
      have ho := (h.ow j hj e1).1
      rw [f1, f2, cntN_none (fun p _ => by rw [isO_f (by rw [ho]; omega)]; simp)]
      rfl
    · have f2 : spc (a j) = false := by simp [spc, e1]
      rw [f1, f2, cntN_single (k := (a j).o.toNat) o1]
      · rfl
      · simp only [Bool.and_eq_true, isO_iff]
        refine ⟨by simp [spc, ot], fun e => ?_, by omega, e0⟩
        have : (a j).o.toNat = j := by omega
        rw [this] at ot
        exact e1 ot
      · intro p hp hpo
        rw [isO_f (by omega)]
        simp
end Go.Proofs.Ytajkhkaidjjioaa
namespace Go.Proofs.Ytajkhkaidjjioaa
open Go.RowKit
structure MS.Fl (m : MS) : Prop where
  n : m.ns ≤ m.P.length
  l : ∀ k, k < m.P.length → (m.p k).length = 1024
theorem Mem.fl {w : World} {f : Fp} {m : MS} (h : Mem w f m) : m.Fl := ⟨h.ns0, h.full⟩
theorem at_sec (m : MS) {p : Int} (h0 : 0 ≤ p) (h1 : p < (m.ns : Int)) : m.at true p = some p.toNat := by unfold MS.at; rw [if_pos h0, if_pos rfl, if_pos h1]
theorem at_out (m : MS) {p : Int} (h : ¬ (0 ≤ p ∧ p < (m.ns : Int))) : m.at true p = none := by
  unfold MS.at
  by_cases h0 : 0 ≤ p
  · rw [if_pos h0, if_pos rfl, if_neg (fun h1 => h ⟨h0, h1⟩)]
  · rw [if_neg h0]
theorem p_set (P : List (List Int)) (k j : Nat) (L : List Int) (hk : k < P.length) : (P.set k L).getD j [] = if j = k then L else P.getD j [] := by
  by_cases e : j = k
  · subst e; rw [if_pos rfl]; simp [List.getD_eq_getElem?_getD, List.getElem?_set_self hk]
  · rw [if_neg e]; simp [List.getD_eq_getElem?_getD, List.getElem?_set_ne (Ne.symm e)]
theorem wd_set (L : List Int) (k j : Nat) (v : Int) (hk : k < L.length) : wd (L.set k v) j = if j = k then v else wd L j := by
  unfold wd
  by_cases e : j = k
  · subst e; rw [if_pos rfl]; simp [List.getD_eq_getElem?_getD, List.getElem?_set_self hk]
  · rw [if_neg e]; simp [List.getD_eq_getElem?_getD, List.getElem?_set_ne (Ne.symm e)]
theorem wd_zs (j : Nat) : wd zs j = 0 := by
  unfold wd zs
  rw [List.getD_eq_getElem?_getD, List.getElem?_replicate]
  split <;> rfl
theorem MS.Fl.write {m : MS} (h : m.Fl) (s : Bool) (p off v : Int) : (m.write s p off v).Fl := by
  unfold MS.write
  split
  · exact h
  · rename_i k hk
    split
    · refine ⟨by show m.ns ≤ (m.P.set _ _).length; rw [List.length_set]; exact h.n, fun j hj => ?_⟩
      have hk' : k < m.P.length := MS.at_lt h.n hk
      simp only [List.length_set] at hj
      show ((m.P.set k _).getD j []).length = 1024
      rw [p_set _ _ _ _ hk']
      split
      · rw [List.length_set]; exact h.l k hk'
      · exact h.l j hj
    · exact h
theorem MS.Fl.zero {m : MS} (h : m.Fl) (s : Bool) (p : Int) : (m.zero s p).Fl := by
  unfold MS.zero
  split
  · exact h
  · rename_i k hk
    refine ⟨by show m.ns ≤ (m.P.set _ _).length; rw [List.length_set]; exact h.n, fun j hj => ?_⟩
    have hk' : k < m.P.length := MS.at_lt h.n hk
    simp only [List.length_set] at hj
    show ((m.P.set k _).getD j []).length = 1024
    rw [p_set _ _ _ _ hk']
    split
    · exact zs_len
    · exact h.l j hj
theorem write_word {m : MS} (h : m.Fl) {p off : Int} (v : Int) (h0 : 0 ≤ p) (h1 : p < (m.ns : Int)) (ho : In off) (q o : Int) : (m.write true p off v).word true q o = if q = p ∧ o = off then v else m.word true q o := by
  have hp : p.toNat < m.P.length := by have := h.n; omega
  have hw : m.write true p off v = { m.tick 1 with P := m.P.set p.toNat ((m.p p.toNat).set off.toNat v) } := by unfold MS.write; rw [at_sec m h0 h1]; simp only; rw [if_pos ho]
  rw [hw]
  unfold MS.word
  by_cases hq : 0 ≤ q ∧ q < (m.ns : Int)
  · rw [at_sec m hq.1 hq.2, at_sec { m.tick 1 with P := m.P.set p.toNat ((m.p p.toNat).set off.toNat v) } hq.1 hq.2]
    simp only
    by_cases hi : In o
    · rw [if_pos hi, if_pos hi]
      show wd ((m.P.set p.toNat _).getD q.toNat []) o.toNat = _
      rw [p_set _ _ _ _ hp]
      by_cases e1 : q = p
      · subst e1
        rw [if_pos rfl, wd_set _ _ _ _ (by rw [h.l _ hp]; have := ho.1; have := ho.2; omega)]
        by_cases e2 : o = off
        · subst e2; rw [if_pos rfl, if_pos ⟨rfl, rfl⟩]
        · rw [if_neg (by have := hi.1; have := ho.1; omega), if_neg (fun hh => e2 hh.2)]
      · rw [if_neg (by omega), if_neg (fun hh => e1 hh.1)]; rfl
    · rw [if_neg hi, if_neg hi, if_neg]
      rintro ⟨_, rfl⟩; exact hi ho
  · rw [at_out m hq, at_out { m.tick 1 with P := m.P.set p.toNat ((m.p p.toNat).set off.toNat v) } hq, if_neg]
    rintro ⟨rfl, _⟩; exact hq ⟨h0, h1⟩
theorem zero_word {m : MS} (h : m.Fl) {p : Int} (h0 : 0 ≤ p) (h1 : p < (m.ns : Int)) (q o : Int) : (m.zero true p).word true q o = if q = p then 0 else m.word true q o := by
  have hp : p.toNat < m.P.length := by have := h.n; omega
  have hw : m.zero true p = { m.tick 1024 with P := m.P.set p.toNat zs } := by unfold MS.zero; rw [at_sec m h0 h1]
  rw [hw]
  unfold MS.word
  by_cases hq : 0 ≤ q ∧ q < (m.ns : Int)
  · rw [at_sec m hq.1 hq.2, at_sec { m.tick 1024 with P := m.P.set p.toNat zs } hq.1 hq.2]
    simp only
    by_cases hi : In o
    · rw [if_pos hi, if_pos hi]
      show wd ((m.P.set p.toNat _).getD q.toNat []) o.toNat = _
      rw [p_set _ _ _ _ hp]
      by_cases e1 : q = p
      · subst e1; rw [if_pos rfl, if_pos rfl, wd_zs]
      · rw [if_neg (by omega), if_neg e1]; rfl
    · rw [if_neg hi, if_neg hi]; split <;> rfl
  · rw [at_out m hq, at_out { m.tick 1024 with P := m.P.set p.toNat zs } hq]; simp
theorem write_c {m : MS} {p off : Int} (v : Int) (h0 : 0 ≤ p) (h1 : p < (m.ns : Int)) (ho : In off) : (m.write true p off v).c = wrap64 (m.c + 1) := by unfold MS.write; rw [at_sec m h0 h1]; simp only; rw [if_pos ho]; rfl
theorem zero_c {m : MS} {p : Int} (h0 : 0 ≤ p) (h1 : p < (m.ns : Int)) : (m.zero true p).c = wrap64 (m.c + 1024) := by unfold MS.zero; rw [at_sec m h0 h1]; rfl
theorem wrap_diff (c n : Int) (h0 : 0 ≤ n) (h1 : n ≤ 5000) : wrap64 (wrap64 (c + n) - c) = n := by unfold wrap64; omega
theorem wrap_more (c n m : Int) : wrap64 (wrap64 (c + n) + m) = wrap64 (c + (n + m)) := by unfold wrap64; omega
/-- What the meter counts; what stands in a page's word. -/
def metB (o : Oq) (done : Bool) (n : Int) : Bool := if done = false then n == 0 else if o.k = 1 then n == 3 else if o.k = 3 ∨ o.k = 4 then n == 1024 else n == 0
def wantW (d : DS) (o : Oq) (done : Bool) (p off : Int) : Int :=
  if done = true ∧ p = o.a ∧ o.k = 1 ∧ off < 3 then (if off = 0 then o.b % 4294967296 else if off = 1 then d.b % 4294967296 else 0) else if done = true ∧ p = o.a ∧ (o.k = 3 ∨ o.k = 4) then 0 else d.m.word true p off
theorem call_no {d : DS} {o : Oq} (h : d.callE o ≠ 0) : d.call o = d := by
  unfold DS.callE at h
  unfold DS.call
  by_cases k1 : o.k = 1
  · rw [if_pos k1] at h ⊢; unfold DS.takeSpace; rw [if_neg h]
  rw [if_neg k1] at h ⊢
  by_cases k2 : o.k = 2
  · rw [if_pos k2] at h ⊢; unfold DS.take; rw [if_neg h]
  rw [if_neg k2] at h ⊢
  by_cases k3 : o.k = 3
  · rw [if_pos k3] at h ⊢; unfold DS.turn; rw [if_neg h]
  rw [if_neg k3] at h ⊢
  by_cases k4 : o.k = 4
  · rw [if_pos k4] at h ⊢; unfold DS.give; rw [if_neg h]
  rw [if_neg k4] at h ⊢
  by_cases k5 : o.k = 5
  · rw [if_pos k5] at h ⊢; unfold DS.state; rw [if_neg h]
  rw [if_neg k5] at h ⊢
  unfold DS.entered; rw [if_neg h]
/-- All that is asked of one call. -/
structure Said (d : DS) (o : Oq) (done : Bool) : Prop where
  met : metB o done (wrap64 ((d.call o).m.c - d.m.c)) = true
  births : (d.call o).b = d.b + (if done = true ∧ o.k = 1 then 1 else 0)
  words : done = false → d.call o = d
  laid : ∀ p off : Int, 0 ≤ p → p < (d.m.ns : Int) → 0 ≤ off → off < 1024 → (d.call o).m.word true p off = wantW d o done p off
  kept : ∀ p : Nat, p < d.m.ns → ((p : Int) = o.a ∨ ((p : Int) = o.b ∧ o.k = 1)) ∨ ∃ r, (d.call o).at p = { d.at p with r := r } ∧ (r = (d.at p).r ∨ ((p : Int) = o.b ∧ o.k = 2) ∨ (d.there o.a = true ∧ (p : Int) = (d.ent o.a).o ∧ o.k = 4))
  s1 : done = true → o.k = 1 → d.there o.a = true ∧ d.there o.b = true ∧ (d.ent o.a).t = 0 ∧ (d.ent o.b).t = 0 ∧ (d.call o).ent o.a = enS o.a ∧ (d.call o).ent o.b = enF o.a
  s2 : done = true → o.k = 2 → (d.ent o.a).t = 0 ∧ (d.call o).ent o.a = enT o.t o.b ∧ ((d.call o).ent o.b).r = (d.ent o.b).r + 1 ∧ 0 ≤ (d.ent o.b).r ∧ (d.ent o.b).r < 64
  s3 : done = true → o.k = 3 → (d.call o).ent o.a = enT o.t (d.ent o.a).o
  s4 : done = true → o.k = 4 → (d.call o).ent o.a = En.zero ∧ ((d.ent o.a).t = 1 ∨ ((d.ent o.a).t ≠ 1 ∧ ((d.call o).ent (d.ent o.a).o).r = (d.ent (d.ent o.a).o).r - 1 ∧ 0 ≤ (d.ent (d.ent o.a).o).r ∧ (d.ent (d.ent o.a).o).r < 64))
  s5 : done = true → o.k = 5 → (d.call o).ent o.a = { d.ent o.a with s := o.t }
  s6 : done = true → o.k ≠ 1 → o.k ≠ 2 → o.k ≠ 3 → o.k ≠ 4 → o.k ≠ 5 → (d.call o).ent o.a = { d.ent o.a with e := o.on }
theorem said_no {d : DS} {o : Oq} (h : d.callE o ≠ 0) : Said d o false := by
  have e := call_no h
  refine ⟨?_, by rw [e]; simp, fun _ => e, fun p off _ _ _ _ => ?_, fun p hp => .inr ⟨(d.at p).r, by rw [e], .inl rfl⟩, (fun h => by cases h), (fun h => by cases h), (fun h => by cases h), (fun h => by cases h), (fun h => by cases h), (fun h => by cases h)⟩
  · rw [e, metB, if_pos rfl]; simp only [beq_iff_eq]; unfold wrap64; omega
  · rw [e]; simp [wantW]
theorem there_same {d d' : DS} (h : d'.m.ns = d.m.ns) (q : Int) : d'.there q = d.there q := by unfold DS.there; rw [h]
theorem ent_same {d d' : DS} (h : d'.m.ns = d.m.ns) {q : Int} (hq : d.there q = true) : d'.ent q = d'.at q.toNat := ent_at (by rw [there_same h]; exact hq)
end Go.Proofs.Ytajkhkaidjjioaa
namespace Go.Proofs.Ytajkhkaidjjioaa
open Go.RowKit
theorem in0 : In 0 := ⟨by decide, by decide⟩
theorem in1 : In 1 := ⟨by decide, by decide⟩
theorem in2 : In 2 := ⟨by decide, by decide⟩
theorem ent_at' {d : DS} {q : Int} {x : En} (ht : d.there q = true) (h : d.at q.toNat = x) : d.ent q = x := (ent_at ht).trans h
theorem said_1 {d : DS} {o : Oq} (hk : d.Ok) (hf : d.m.Fl) (h : d.callE o = 0) (k1 : o.k = 1) : Said d o true := by
  have hc : d.call o = d.space o.a o.b := by unfold DS.call; rw [if_pos k1]; unfold DS.takeSpace; unfold DS.callE at h; rw [if_pos k1] at h; rw [if_pos h]
  have hz : d.bearE o.a o.b = 0 := by unfold DS.callE at h; rwa [if_pos k1] at h
  obtain ⟨ts, tf, hsf, t1, t2, hb⟩ := bear_zero hz
  obtain ⟨s0, s1, es⟩ := there_lt ts
  obtain ⟨f0, f1, ef⟩ := there_lt tf
  have n64 := hk.n64
  have b0 := hk.b0
  have hl := hk.len
  have hw1 := hf.write true o.a 0 o.b
  have hw2 := hw1.write true o.a 1 d.b
  have n1 : (d.m.write true o.a 0 o.b).ns = d.m.ns := MS.write_ns _ _ _ _ _
  have n2 : ((d.m.write true o.a 0 o.b).write true o.a 1 d.b).ns = d.m.ns := (MS.write_ns _ _ _ _ _).trans n1
  have i1 : o.a < ((d.m.write true o.a 0 o.b).ns : Int) := by rw [n1]; omega
  have i2 : o.a < (((d.m.write true o.a 0 o.b).write true o.a 1 d.b).ns : Int) := by rw [n2]; omega
  have i0 : o.a < (d.m.ns : Int) := by omega
  have hns : (d.call o).m.ns = d.m.ns := by rw [hc]; show (MS.born _ _ _ _).ns = _; simp [MS.born, MS.write_ns]
  have hat : ∀ j, (d.call o).at j = upd (upd d.at o.b.toNat (enF o.a)) o.a.toNat (enS o.a) j := fun j => by
    rw [hc]
    show ((d.lay o.b.toNat (enF o.a)).lay o.a.toNat (enS o.a)).at j = _
    rw [lay_upd _ (by rw [lay_len]; omega), lay_upd _ (by omega)]
  have hne : o.a.toNat ≠ o.b.toNat := by omega
  have k2 : o.k ≠ 2 := by omega
  refine ⟨?_, by rw [hc]; simp [DS.space, k1], (fun h => by cases h), fun p off p0 p1 o0 o1 => ?_, fun p hp => ?_, fun _ _ => ⟨ts, tf, t1, t2, ?_, ?_⟩, (fun _ h => absurd h k2), (fun _ h => by omega), (fun _ h => by omega), (fun _ h => by omega), (fun _ h => absurd k1 h)⟩
  · rw [hc, metB, if_neg (by decide), if_pos k1]
    show (wrap64 ((d.m.born o.a o.b d.b).c - d.m.c) == 3) = true
    unfold MS.born
    rw [write_c 0 s0 i2 in2, write_c _ s0 i1 in1, write_c _ s0 i0 in0, wrap_more, wrap_more, wrap_diff _ _ (by decide) (by decide)]
    rfl
  · rw [hc]
    show (d.m.born o.a o.b d.b).word true p off = _
    unfold MS.born
    rw [write_word hw2 0 s0 i2 in2, write_word hw1 _ s0 i1 in1, write_word hf _ s0 i0 in0]
    unfold wantW
    have m1 : o.b % 4294967296 = o.b := by omega
    have m2 : d.b % 4294967296 = d.b := by omega
    rw [m1, m2]
    by_cases e : p = o.a
    · by_cases e0 : off = 0
      · simp [e, e0, k1]
      · by_cases e1 : off = 1
        · simp [e, e1, k1]
        · by_cases e2 : off = 2
          · simp [e, e2, k1]
          · have e3 : ¬ off < 3 := by omega
            simp [e, e0, e1, e2, e3, k1]
    · simp [e]
  · by_cases e1 : (p : Int) = o.a
    · exact .inl (.inl e1)
    · by_cases e2 : (p : Int) = o.b
      · exact .inl (.inr ⟨e2, k1⟩)
      · refine .inr ⟨(d.at p).r, ?_, .inl rfl⟩
        rw [hat, upd_ne _ _ (by omega), upd_ne _ _ (by omega)]
  · rw [ent_same hns ts, hat, upd_self]
  · rw [ent_same hns tf, hat, upd_ne _ _ (Ne.symm hne), upd_self]
theorem said_2 {d : DS} {o : Oq} (hk : d.Ok) (h : d.callE o = 0) (k2 : o.k = 2) : Said d o true := by
  have k1 : o.k ≠ 1 := by omega
  have hz : d.takeE o.a o.t o.b = 0 := by unfold DS.callE at h; rwa [if_neg k1, if_pos k2] at h
  have hc : d.call o = d.taken o.a o.t o.b := by unfold DS.call; rw [if_neg k1, if_pos k2]; unfold DS.take; rw [if_pos hz]
  obtain ⟨tq, ⟨t0, t1⟩, _, hm, hf⟩ := take_zero hz
  obtain ⟨ts, s1, s2⟩ := more_of hm
  obtain ⟨q0, q1, eq⟩ := there_lt tq
  obtain ⟨s0, s3, es⟩ := there_lt ts
  have hl := hk.len
  have hne : o.b.toNat ≠ o.a.toNat := fun e => by rw [ent_at ts, e, ← ent_at tq, hf] at s1; cases s1
  have hns : (d.call o).m.ns = d.m.ns := by rw [hc]; rfl
  have hat : ∀ j, (d.call o).at j = upd (upd d.at o.a.toNat (enT o.t o.b)) o.b.toNat { d.at o.b.toNat with r := (d.at o.b.toNat).r + 1 } j := fun j => by
    rw [hc]
    unfold DS.taken
    rw [cnt_at _ (by rw [lay_len]; omega), lay_upd _ (by omega), upd_ne _ _ hne]
  have hr := (En.ok_iff _).1 (hk.ok _ s3)
  refine ⟨?_, by rw [hc]; simp [DS.taken, DS.cnt, DS.lay, k1], (fun h => by cases h), fun p off p0 p1 o0 o1 => ?_, fun p hp => ?_, (fun _ h => absurd h k1), fun _ _ => ⟨hf, ?_, ?_, ?_, ?_⟩, (fun _ h => by omega), (fun _ h => by omega), (fun _ h => by omega), (fun _ _ h => absurd k2 h)⟩
  · rw [hc, metB, if_neg (by decide), if_neg k1, if_neg (by omega)]
    show (wrap64 (d.m.c - d.m.c) == 0) = true
    simp [wrap64]
  · rw [hc]
    show d.m.word true p off = _
    simp [wantW, k2]
  · by_cases e1 : (p : Int) = o.a
    · exact .inl (.inl e1)
    · by_cases e2 : (p : Int) = o.b
      · have e3 : p = o.b.toNat := by omega
        refine .inr ⟨(d.at p).r + 1, ?_, .inr (.inl ⟨e2, k2⟩)⟩
        rw [hat, e3, upd_self]
      · refine .inr ⟨(d.at p).r, ?_, .inl rfl⟩
        rw [hat, upd_ne _ _ (by omega), upd_ne _ _ (by omega)]
  · rw [ent_same hns tq, hat, upd_ne _ _ (Ne.symm hne), upd_self]
  · rw [ent_same hns ts, hat, upd_self, ent_at ts]
  · rw [ent_at ts]; exact hr.r0
  · rw [ent_at ts]; exact hr.r1
theorem said_3 {d : DS} {o : Oq} (hk : d.Ok) (hf : d.m.Fl) (h : d.callE o = 0) (k3 : o.k = 3) : Said d o true := by
  have k1 : o.k ≠ 1 := by omega
  have k2 : o.k ≠ 2 := by omega
  have hz : d.turnE o.a o.t = 0 := by unfold DS.callE at h; rwa [if_neg k1, if_neg k2, if_pos k3] at h
  have hc : d.call o = d.turned o.a o.t := by unfold DS.call; rw [if_neg k1, if_neg k2, if_pos k3]; unfold DS.turn; rw [if_pos hz]
  obtain ⟨tq, h1, h2⟩ := turn_zero hz
  obtain ⟨q0, q1, eq⟩ := there_lt tq
  have hl := hk.len
  have i0 : o.a < (d.m.ns : Int) := by omega
  have hns : (d.call o).m.ns = d.m.ns := by rw [hc]; show (d.m.zero _ _).ns = _; exact MS.zero_ns _ _ _
  have hat : ∀ j, (d.call o).at j = upd d.at o.a.toNat (enT o.t (d.ent o.a).o) j := fun j => by
    rw [hc]
    show (d.lay o.a.toNat (enT o.t (d.ent o.a).o)).at j = _
    rw [lay_upd _ (by omega)]
  refine ⟨?_, by rw [hc]; simp [DS.turned, DS.wipe, DS.lay, k1], (fun h => by cases h), fun p off p0 p1 o0 o1 => ?_, fun p hp => ?_, (fun _ h => absurd h k1), (fun _ h => absurd h k2), fun _ _ => ?_, (fun _ h => by omega), (fun _ h => by omega), (fun _ _ _ h => absurd k3 h)⟩
  · rw [hc, metB, if_neg (by decide), if_neg k1, if_pos (.inl k3)]
    show (wrap64 ((d.m.zero true o.a).c - d.m.c) == 1024) = true
    rw [zero_c q0 i0, wrap_diff _ _ (by decide) (by decide)]; rfl
  · rw [hc]
    show (d.m.zero true o.a).word true p off = _
    rw [zero_word hf q0 i0]
    simp [wantW, k3]
  · by_cases e1 : (p : Int) = o.a
    · exact .inl (.inl e1)
    · refine .inr ⟨(d.at p).r, ?_, .inl rfl⟩
      rw [hat, upd_ne _ _ (by omega)]
  · rw [ent_same hns tq, hat, upd_self]
theorem said_4 {d : DS} {o : Oq} (hk : d.Ok) (hf : d.m.Fl) (hI : InvF d.at d.m.ns) (h : d.callE o = 0) (k4 : o.k = 4) : Said d o true := by
  have k1 : o.k ≠ 1 := by omega
  have k2 : o.k ≠ 2 := by omega
  have k3 : o.k ≠ 3 := by omega
  have hz : d.giveE o.a = 0 := by unfold DS.callE at h; rwa [if_neg k1, if_neg k2, if_neg k3, if_pos k4] at h
  have hc : d.call o = d.given o.a := by unfold DS.call; rw [if_neg k1, if_neg k2, if_neg k3, if_pos k4]; unfold DS.give; rw [if_pos hz]
  obtain ⟨tq, h1, h2⟩ := give_zero hz
  obtain ⟨q0, q1, eq⟩ := there_lt tq
  obtain ⟨_, g1, g2⟩ := inv_given hk hI hz
  have hl := hk.len
  have i0 : o.a < (d.m.ns : Int) := by omega
  have hm : (d.call o).m = d.m.zero true o.a ∧ (d.call o).b = d.b := by
    rw [hc]
    by_cases e : (d.ent o.a).t = 1
    · rw [g2 e]; exact ⟨rfl, rfl⟩
    · rw [g1 e]; exact ⟨rfl, rfl⟩
  have hns : (d.call o).m.ns = d.m.ns := by rw [hm.1]; exact MS.zero_ns _ _ _
  have hfr : (d.freed o.a).at = upd d.at o.a.toNat En.zero := by
    show (d.lay o.a.toNat En.zero).at = _
    rw [lay_upd _ (by omega)]
  have hfl : (d.freed o.a).E.length = d.E.length := lay_len _ _ _
  rw [ent_at tq] at h1 g1 g2
  have hown := (hI.sp _ q1 h1)
  have hat1 : (d.at o.a.toNat).t = 1 → ∀ j, (d.call o).at j = upd d.at o.a.toNat En.zero j := fun e j => by rw [hc, g2 e, hfr]
  have hat2 : (d.at o.a.toNat).t ≠ 1 → ∀ j, (d.call o).at j = upd (upd d.at o.a.toNat En.zero) (d.at o.a.toNat).o.toNat { upd d.at o.a.toNat En.zero (d.at o.a.toNat).o.toNat with r := (upd d.at o.a.toNat En.zero (d.at o.a.toNat).o.toNat).r + -1 } j := fun e j => by
    rw [hc, g1 e, cnt_at _ (by rw [hfl]; omega), hfr]
  have hne : (d.at o.a.toNat).t ≠ 1 → (d.at o.a.toNat).o.toNat ≠ o.a.toNat := fun e e2 => by rw [e2] at hown; exact e hown.2.2
  refine ⟨?_, by rw [hm.2]; simp [k1], (fun h => by cases h), fun p off p0 p1 o0 o1 => ?_, fun p hp => ?_, (fun _ h => absurd h k1), (fun _ h => absurd h k2), (fun _ h => absurd h k3), fun _ _ => ⟨?_, ?_⟩, (fun _ h => by omega), (fun _ _ _ _ h => absurd k4 h)⟩
  · rw [hm.1, metB, if_neg (by decide), if_neg k1, if_pos (.inr k4), zero_c q0 i0, wrap_diff _ _ (by decide) (by decide)]; rfl
  · rw [hm.1, zero_word hf q0 i0]
    simp [wantW, k4]
  · by_cases e1 : (p : Int) = o.a
    · exact .inl (.inl e1)
    · have e1' : p ≠ o.a.toNat := by omega
      by_cases e : (d.at o.a.toNat).t = 1
      · refine .inr ⟨(d.at p).r, ?_, .inl rfl⟩
        rw [hat1 e, upd_ne _ _ e1']
      · by_cases e2 : p = (d.at o.a.toNat).o.toNat
        · refine .inr ⟨(d.at p).r + -1, ?_, .inr (.inr ⟨tq, by rw [ent_at tq]; have := hown.1; omega, k4⟩)⟩
          rw [hat2 e, ← e2, upd_self, upd_ne _ _ e1']
        · refine .inr ⟨(d.at p).r, ?_, .inl rfl⟩
          rw [hat2 e, upd_ne _ _ e2, upd_ne _ _ e1']
  · rw [ent_same hns tq]
    by_cases e : (d.at o.a.toNat).t = 1
    · rw [hat1 e, upd_self]
    · rw [hat2 e, upd_ne _ _ (Ne.symm (hne e)), upd_self]
  · rw [ent_at tq]
    by_cases e : (d.at o.a.toNat).t = 1
    · exact .inl e
    · have hto : d.there (d.at o.a.toNat).o = true := decide_eq_true ⟨hown.1, by have := hown.2.1; have := hown.1; omega⟩
      have hr := (En.ok_iff _).1 (hk.ok _ hown.2.1)
      refine .inr ⟨e, ?_, ?_, ?_⟩
      · rw [ent_same hns hto, hat2 e, upd_self, upd_ne _ _ (hne e), ent_at hto]; show (d.at (d.at o.a.toNat).o.toNat).r + -1 = (d.at (d.at o.a.toNat).o.toNat).r - 1; omega
      · rw [ent_at hto]; exact hr.r0
      · rw [ent_at hto]; exact hr.r1
theorem said_5 {d : DS} {o : Oq} (hk : d.Ok) (h : d.callE o = 0) (k5 : o.k = 5) : Said d o true := by
  have k1 : o.k ≠ 1 := by omega
  have k2 : o.k ≠ 2 := by omega
  have k3 : o.k ≠ 3 := by omega
  have k4 : o.k ≠ 4 := by omega
  have hz : d.stateE o.a o.t = 0 := by unfold DS.callE at h; rwa [if_neg k1, if_neg k2, if_neg k3, if_neg k4, if_pos k5] at h
  have hc : d.call o = d.stated o.a o.t := by unfold DS.call; rw [if_neg k1, if_neg k2, if_neg k3, if_neg k4, if_pos k5]; unfold DS.state; rw [if_pos hz]
  have hy : d.typE o.a 1 = 0 := by
    unfold DS.stateE at hz
    by_cases e : d.typE o.a 1 = 0
    · exact e
    · rw [if_pos e] at hz; exact absurd hz e
  obtain ⟨tq, t1, _⟩ := typ_zero hy
  obtain ⟨q0, q1, eq⟩ := there_lt tq
  have hl := hk.len
  have hns : (d.call o).m.ns = d.m.ns := by rw [hc]; rfl
  have hat : ∀ j, (d.call o).at j = upd d.at o.a.toNat { d.ent o.a with s := o.t } j := fun j => by
    rw [hc]; unfold DS.stated; rw [lay_upd _ (by omega)]
  refine ⟨?_, by rw [hc]; simp [DS.stated, DS.lay, k1], (fun h => by cases h), fun p off p0 p1 o0 o1 => ?_, fun p hp => ?_, (fun _ h => absurd h k1), (fun _ h => absurd h k2), (fun _ h => absurd h k3), (fun _ h => absurd h k4), fun _ _ => ?_, (fun _ _ _ _ _ h => absurd k5 h)⟩
  · rw [hc, metB, if_neg (by decide), if_neg k1, if_neg (by omega)]
    show (wrap64 (d.m.c - d.m.c) == 0) = true
    simp [wrap64]
  · rw [hc]
    show d.m.word true p off = _
    simp [wantW, k5]
  · by_cases e1 : (p : Int) = o.a
    · exact .inl (.inl e1)
    · refine .inr ⟨(d.at p).r, ?_, .inl rfl⟩
      rw [hat, upd_ne _ _ (by omega)]
  · rw [ent_same hns tq, hat, upd_self]
theorem said_6 {d : DS} {o : Oq} (hk : d.Ok) (h : d.callE o = 0) (k1 : o.k ≠ 1) (k2 : o.k ≠ 2) (k3 : o.k ≠ 3) (k4 : o.k ≠ 4) (k5 : o.k ≠ 5) : Said d o true := by
  have hz : d.enteredE o.a = 0 := by unfold DS.callE at h; rwa [if_neg k1, if_neg k2, if_neg k3, if_neg k4, if_neg k5] at h
  have hc : d.call o = d.lay o.a.toNat { d.ent o.a with e := o.on } := by unfold DS.call; rw [if_neg k1, if_neg k2, if_neg k3, if_neg k4, if_neg k5]; unfold DS.entered; rw [if_pos hz]
  obtain ⟨tq, t1, _⟩ := typ_zero hz
  obtain ⟨q0, q1, eq⟩ := there_lt tq
  have hl := hk.len
  have hns : (d.call o).m.ns = d.m.ns := by rw [hc]; rfl
  have hat : ∀ j, (d.call o).at j = upd d.at o.a.toNat { d.ent o.a with e := o.on } j := fun j => by
    rw [hc]; rw [lay_upd _ (by omega)]
  refine ⟨?_, by rw [hc]; simp [DS.lay, k1], (fun h => by cases h), fun p off p0 p1 o0 o1 => ?_, fun p hp => ?_, (fun _ h => absurd h k1), (fun _ h => absurd h k2), (fun _ h => absurd h k3), (fun _ h => absurd h k4), (fun _ h => absurd h k5), fun _ _ _ _ _ _ => ?_⟩
  · rw [hc, metB, if_neg (by decide), if_neg k1, if_neg (by omega)]
    show (wrap64 (d.m.c - d.m.c) == 0) = true
    simp [wrap64]
  · rw [hc]
    show d.m.word true p off = _
    simp [wantW, k1, k3, k4]
  · by_cases e1 : (p : Int) = o.a
    · exact .inl (.inl e1)
    · refine .inr ⟨(d.at p).r, ?_, .inl rfl⟩
      rw [hat, upd_ne _ _ (by omega)]
  · rw [ent_same hns tq, hat, upd_self]
theorem said_any {d : DS} (o : Oq) (hk : d.Ok) (hf : d.m.Fl) (hI : InvF d.at d.m.ns) : Said d o (d.callE o == 0) := by
  by_cases h : d.callE o = 0
  · rw [show (d.callE o == 0) = true by simpa using h]
    by_cases k1 : o.k = 1
    · exact said_1 hk hf h k1
    by_cases k2 : o.k = 2
    · exact said_2 hk h k2
    by_cases k3 : o.k = 3
    · exact said_3 hk hf h k3
    by_cases k4 : o.k = 4
    · exact said_4 hk hf hI h k4
    by_cases k5 : o.k = 5
    · exact said_5 hk h k5
    exact said_6 hk h k1 k2 k3 k4 k5
  · rw [show (d.callE o == 0) = false by simpa using h]
    exact said_no h
end Go.Proofs.Ytajkhkaidjjioaa
namespace Go.Proofs.Ytajkhkaidjjioaa
open Go.RowKit
set_option maxHeartbeats 4000000
set_option maxRecDepth 100000
def wi (x lo n : Int) : Int := lo + x % n
theorem wi_range (x lo n : Int) (h : 0 < n) : lo ≤ wi x lo n ∧ wi x lo n < lo + n := by
  unfold wi
  have := Int.emod_nonneg x (show n ≠ 0 by omega)
  have := Int.emod_lt_of_pos x h
  omega
theorem within_any (W : World) (x lo hi : Int) (h0 : 0 ≤ lo) (h1 : lo ≤ hi) (h2 : hi ≤ 1048576) (x0 : -9223372036854775808 ≤ x) (x1 : x ≤ 9223372036854775807) :
    Calls Try.prog 21 #[.int .i64 x, .int .i64 lo, .int .i64 hi] W fun e W' => e = .returned (.int .i64 (wi x lo (hi - lo + 1))) ∧ W' = W := by
  obtain ⟨n, hn⟩ : ∃ n, n = hi - lo + 1 := ⟨_, rfl⟩
  have hn0 : 0 < n := by omega
  have ht : x.tmod n = x % n ∧ 0 ≤ x.tmod n ∨ x.tmod n + n = x % n ∧ x.tmod n < 0 := by
    by_cases hx : 0 ≤ x
    · exact .inl ⟨Int.tmod_eq_emod_of_nonneg hx, by rw [Int.tmod_eq_emod_of_nonneg hx]; exact Int.emod_nonneg _ (by omega)⟩
    · have e1 : (-x).tmod n = (-x) % n := Int.tmod_eq_emod_of_nonneg (by omega)
      rw [Int.neg_tmod] at e1
      by_cases hd : (-x) % n = 0
      · left
        have h4 : x % n = 0 := by
          have : n ∣ -x := Int.dvd_of_emod_eq_zero hd
          exact Int.emod_eq_zero_of_dvd (by have := Int.dvd_neg.1 this; exact this)
        omega
      · right
        have h5 := Int.emod_nonneg (-x) (show n ≠ 0 by omega)
        have h6 := Int.emod_lt_of_pos (-x) hn0
        have h7 : x % n = n - (-x) % n := by
          have e : x = (n - (-x) % n) + n * (-((-x) / n) - 1) := by
            have := Int.mul_ediv_add_emod (-x) n
            have e3 : n * (-((-x) / n) - 1) = - (n * ((-x) / n)) - n := by rw [Int.mul_sub, Int.mul_one, Int.mul_neg]
            rw [e3]
            omega
          rw [e, Int.add_mul_emod_self_left, ← e]
          exact Int.emod_eq_of_lt (by omega) (by omega)
        omega
  have hr := Int.emod_lt_of_pos x hn0
  have hr0 := Int.emod_nonneg x (show n ≠ 0 by omega)
  unfold wi
  rw [← hn]
  rcases ht with ⟨h3, h4⟩ | ⟨h3, h4⟩
  · rw [← h3] at hr hr0 ⊢
    generalize ht : x.tmod n = t at *
    subst hn
    go_enter Try.func21, Try.ntmps21
    go_wp2_with fail
    go_returns
    exact ⟨ret_int (by omega), rfl⟩
  · subst hn
    generalize ht : x.tmod (hi - lo + 1) = t at *
    go_enter Try.func21, Try.ntmps21
    go_wp2_with fail
    go_returns
    exact ⟨ret_int (by omega), rfl⟩
theorem lat_any (W : World) (p : Dp) (d : DS) (h : DB W p d) (q : Int) :
    Calls Try.prog 29 #[ptr p.g, .int .i64 q] W fun e W' => e = .returned (d.ent q).v ∧ Below W.heap.size W W' := by
  have B0 := hid (bag_one W 62 En.zero.cs)
  have HX := hid (h.on (below_one W (.cells En.zero.cs.toArray 62)))
  have HE := hid (fun w (hw : DB w p d) => entry_any w p d hw q)
  clear h
  generalize d.ent q = D at *
  generalize d.entE q = DE at *
  simp only [En.zero, En.cs] at HX B0
  simp only [ptr, En.v] at HE ⊢
  go_enter Try.func29, Try.ntmps29
  go_upto_region 1 with fail
  generalize W.alloc _ = X at *
  generalize hg : W.heap.size = g4 at B0 ⊢
  have HG := hid hg
  clear hg
  go_upto_region 2 with (first | (go_at_call 55; refine (HE.out _ HX.out).mono ?_; rintro x w1 ⟨rfl, hb⟩; have B1 := hid (B0.out.on hb); clear hb) | (refine wpList_store_st rfl 62 _ _ rfl w1.heap.size D.cs rfl rfl (Cel.new w1 62 En.zero.cs) sizeE rfl rfl ?_; intro w3 hc hb hs; have B3 := hid (B1.out.add hc hb); clear hc hb hs))
  generalize w1.heap.size = g5 at *
  go_wp2_with (first | (refine wpList_load_mid rfl 62 _ rfl g5 0 rfl _ _ ((B3.out.get 0 rfl).range) underE rfl (by rw [sizeE]; rfl) ?_) | (refine wpList_store_st rfl 62 _ _ rfl g4 D.cs rfl rfl (B3.out.get 1 rfl) sizeE rfl rfl ?_; intro w4 hc hb hs; have HF := hid (And.intro hc (B3.out.below.trans (hb.below (by have := HG.out; simp; omega) B3.out.below.size))); clear hc hb hs))
  exact ret_st rfl rfl g4 _ rfl HF.out.1 underE rfl (by rw [sizeE]; rfl) ⟨rfl, HF.out.2⟩
theorem met_any (W : World) (o : Oq) (done : Bool) (n : Int) : Calls Try.prog 26 #[o.val, .bool done, .int .i64 n] W fun e W' => e = .returned (.bool (metB o done n)) ∧ Below W.heap.size W W' := by
  have HC := hid (Cel.new W 29 o.cs)
  have HB := hid (below_one W (.cells o.cs.toArray 29))
  unfold metB
  obtain ⟨k, dd, a, b, t, on, off, v⟩ := o
  simp only [Oq.val, Oq.cs] at *
  cases done
  · rw [if_pos rfl]
    go_enter Try.func26, Try.ntmps26
    go_wp2_with fail
    go_ret
    exact ⟨rfl, HB.out⟩
  · rw [if_neg (by decide)]
    by_cases k1 : k = 1
    · subst k1
      rw [if_pos rfl]
      go_enter Try.func26, Try.ntmps26
      go_upto_region 1 with fail
      generalize W.alloc _ = X at *
      have c0 := HC.out.cell 0
      simp only [List.getElem?_cons_zero] at c0
      go_wp2_with fail
      go_ret
      exact ⟨rfl, HB.out⟩
    · rw [if_neg k1]
      by_cases k3 : k = 3
      · subst k3
        rw [if_pos (.inl rfl)]
        go_enter Try.func26, Try.ntmps26
        go_upto_region 1 with fail
        generalize W.alloc _ = X at *
        have c0 := HC.out.cell 0
        simp only [List.getElem?_cons_zero] at c0
        go_wp2_with fail
        go_ret
        exact ⟨rfl, HB.out⟩
      · by_cases k4 : k = 4
        · subst k4
          rw [if_pos (.inr rfl)]
          go_enter Try.func26, Try.ntmps26
          go_upto_region 1 with fail
          generalize W.alloc _ = X at *
          have c0 := HC.out.cell 0
          simp only [List.getElem?_cons_zero] at c0
          go_wp2_with fail
          go_ret
          exact ⟨rfl, HB.out⟩
        · rw [if_neg (by omega)]
          have q1 : (k == 1) = false := by simpa using k1
          have q3 : (k == 3) = false := by simpa using k3
          have q4 : (k == 4) = false := by simpa using k4
          clear k1 k3 k4
          go_enter Try.func26, Try.ntmps26
          go_upto_region 1 with fail
          generalize W.alloc _ = X at *
          have c0 := HC.out.cell 0
          simp only [List.getElem?_cons_zero] at c0
          go_wp2_with fail
          go_ret
          exact ⟨rfl, HB.out⟩
end Go.Proofs.Ytajkhkaidjjioaa
