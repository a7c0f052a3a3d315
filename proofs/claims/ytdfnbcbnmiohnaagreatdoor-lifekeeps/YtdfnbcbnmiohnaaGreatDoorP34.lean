import Derived.Test.YtdfnbcbnmiohnaaGreatDoorP33
import Derived.Test.YtdfnbcbnmiohnaaGreatDoorP28
namespace Go.Proofs.YtdfnbcbnmiohnaaGreatDoor
open Go.RowKit
theorem cntN_ext {f g : Nat → Bool} {n : Nat} (h : ∀ k, k < n → f k = g k) : cntN f n = cntN g n := by
  induction n with
  | zero => rfl
  | succ n ih => rw [cntN, cntN, ih (fun k hk => h k (by omega)), h n (by omega)]
theorem cntN_one {f g : Nat → Bool} {n k : Nat} (hk : k < n) (h : ∀ j, j < n → j ≠ k → f j = g j) : cntN f n + (if g k = true then 1 else 0) = cntN g n + (if f k = true then 1 else 0) := by
  induction n with
  | zero => omega
  | succ n ih =>
    by_cases e : k = n
    · subst e
      rw [cntN, cntN, cntN_ext (fun j hj => h j (by omega) (by omega))]
      omega
    · have := ih (by omega) (fun j hj hne => h j (by omega) hne)
      rw [cntN, cntN, h n (by omega) (fun e' => e e'.symm)]
      omega
theorem cntN_none {f : Nat → Bool} {n : Nat} (h : ∀ k, k < n → f k = false) : cntN f n = 0 := by
  induction n with
  | zero => rfl
  | succ n ih => rw [cntN, ih (fun k hk => h k (by omega)), h n (by omega)]; rfl
theorem cntN_zero {f : Nat → Bool} {n : Nat} (h : cntN f n = 0) : ∀ k, k < n → f k = false := by
  induction n with
  | zero => intro k hk; omega
  | succ n ih =>
    rw [cntN] at h
    intro k hk
    by_cases e : k = n
    · subst e
      cases hf : f k
      · rfl
      · rw [hf] at h; simp at h
    · exact ih (by omega) k (by omega)
theorem cntN_pos {f : Nat → Bool} {n k : Nat} (hk : k < n) (h : f k = true) : 0 < cntN f n := by
  rcases Nat.eq_zero_or_pos (cntN f n) with e | e
  · rw [cntN_zero e k hk] at h; cases h
  · exact e
theorem cntN_single {f : Nat → Bool} {n k : Nat} (hk : k < n) (h1 : f k = true) (h : ∀ j, j < n → j ≠ k → f j = false) : cntN f n = 1 := by
  have := cntN_one (f := f) (g := fun _ => false) hk h
  rw [cntN_none (f := fun _ => false) (fun _ _ => rfl), h1] at this
  simpa using this
theorem lstN_cnt (f : Nat → Bool) (n : Nat) : (lstN f n).length = cntN f n := by
  induction n with
  | zero => rfl
  | succ n ih => rw [lstN, cntN, List.length_append, ih]; split <;> simp
def upd (a : Nat → En) (k : Nat) (x : En) : Nat → En := fun j => if j = k then x else a j
theorem upd_self (a : Nat → En) (k : Nat) (x : En) : upd a k x k = x := if_pos rfl
theorem upd_ne (a : Nat → En) {k j : Nat} (x : En) (h : j ≠ k) : upd a k x j = a j := if_neg h
theorem lay_upd {d : DS} {k : Nat} (x : En) (hk : k < d.E.length) : (d.lay k x).at = upd d.at k x := by
  funext j; exact lay_at k j x hk
/-- Owners are spaces; a space is its own owner, and its references are counts. -/
structure InvF (a : Nat → En) (n : Nat) : Prop where
  sp : ∀ k, k < n → (a k).t ≠ 0 → 0 ≤ (a k).o ∧ (a k).o.toNat < n ∧ (a (a k).o.toNat).t = 1
  ow : ∀ k, k < n → (a k).t = 1 → (a k).o = (k : Int) ∧ (a k).r = (cntN (fun j => isO (k : Int) (j : Int) (a j)) n : Int)
theorem isO_iff (s k : Int) (x : En) : isO s k x = true ↔ k ≠ s ∧ x.o = s ∧ x.t ≠ 0 := by simp [isO]
theorem isO_f {s k : Int} {x : En} (h : ¬ (k ≠ s ∧ x.o = s ∧ x.t ≠ 0)) : isO s k x = false := by
  cases hh : isO s k x
  · rfl
  · exact absurd ((isO_iff _ _ _).1 hh) h
theorem isO_cg {s k : Int} {x y : En} (h1 : x.o = y.o) (h2 : x.t = y.t) : isO s k x = isO s k y := by unfold isO; rw [h1, h2]
theorem InvF.zero (n : Nat) : InvF (fun _ => En.zero) n := ⟨fun _ _ h => absurd rfl h, fun _ _ h => by cases h⟩
theorem InvF.space {a : Nat → En} {n s f : Nat} (h : InvF a n) (hs : s < n) (hf : f < n) (hne : s ≠ f) (ts : (a s).t = 0) (tf : (a f).t = 0) : InvF (upd (upd a f (enF (s : Int))) s (enS (s : Int))) n := by
  have hnone : ∀ j, j < n → (a j).t ≠ 0 → (a j).o ≠ (s : Int) := fun j hj ht e => by
    have := (h.sp j hj ht).2.2
    rw [e, Int.toNat_natCast, ts] at this
    cases this
  have hnonf : ∀ j, j < n → (a j).t ≠ 0 → (a j).o ≠ (f : Int) := fun j hj ht e => by
    have := (h.sp j hj ht).2.2
    rw [e, Int.toNat_natCast, tf] at this
    cases this
  refine ⟨fun k hk ht => ?_, fun k hk ht => ?_⟩
  · by_cases e1 : k = s
    · subst e1; rw [upd_self]; simp only [enS, Int.toNat_natCast]; rw [upd_self]; exact ⟨by omega, hk, rfl⟩
    · rw [upd_ne _ _ e1] at ht ⊢
      by_cases e2 : k = f
      · subst e2; rw [upd_self]; simp only [enF, Int.toNat_natCast]; rw [upd_self]; exact ⟨by omega, hs, rfl⟩
      · rw [upd_ne _ _ e2] at ht ⊢
        have h1 := h.sp k hk ht
        have h2 := hnone k hk ht
        have h3 := hnonf k hk ht
        rw [upd_ne _ _ (by omega), upd_ne _ _ (by omega)]
        exact h1
  · by_cases e1 : k = s
    · subst e1
      rw [upd_self]
      refine ⟨rfl, ?_⟩
      rw [cntN_single hf]
      · rfl
      · rw [isO_iff, upd_ne _ _ (Ne.symm hne), upd_self]; exact ⟨by omega, rfl, by simp [enF]⟩
      · intro j hj hjf
        refine isO_f ?_
        rintro ⟨h1, h2, h3⟩
        have e2 : j ≠ k := by omega
        rw [upd_ne _ _ e2, upd_ne _ _ hjf] at h2 h3
        exact hnone j hj h3 h2
    · rw [upd_ne _ _ e1] at ht ⊢
      by_cases e2 : k = f
      · subst e2; rw [upd_self] at ht; cases ht
      · rw [upd_ne _ _ e2] at ht ⊢
        obtain ⟨h1, h2⟩ := h.ow k hk ht
        refine ⟨h1, h2.trans ?_⟩
        congr 1
        refine cntN_ext fun j hj => ?_
        by_cases e3 : j = s
        · subst e3
          rw [upd_self, isO_f (by rw [ts]; simp), isO_f (by simp only [enS]; omega)]
        · rw [upd_ne _ _ e3]
          by_cases e4 : j = f
          · subst e4
            rw [upd_self, isO_f (by rw [tf]; simp), isO_f (by simp only [enF]; omega)]
          · rw [upd_ne _ _ e4]
theorem InvF.taken {a : Nat → En} {n q s : Nat} {t : Int} (h : InvF a n) (hq : q < n) (hs : s < n) (tq : (a q).t = 0) (ts : (a s).t = 1) (t0 : t ≠ 0) (t1 : t ≠ 1) : InvF (upd (upd a q (enT t (s : Int))) s { a s with r := (a s).r + 1 }) n := by
  have hne : s ≠ q := fun e => by rw [e, tq] at ts; cases ts
  have hso : (a s).o = (s : Int) := (h.ow s hs ts).1
  have hnonq : ∀ j, j < n → (a j).t ≠ 0 → (a j).o ≠ (q : Int) := fun j hj ht e => by
    have := (h.sp j hj ht).2.2
    rw [e, Int.toNat_natCast, tq] at this
    cases this
  refine ⟨fun k hk ht => ?_, fun k hk ht => ?_⟩
  · by_cases e1 : k = s
    · subst e1; rw [upd_self]; simp only [hso, Int.toNat_natCast]; rw [upd_self]; exact ⟨by omega, hk, ts⟩
    · rw [upd_ne _ _ e1] at ht ⊢
      by_cases e2 : k = q
      · subst e2; rw [upd_self]; simp only [enT, Int.toNat_natCast]; rw [upd_self]; exact ⟨by omega, hs, ts⟩
      · rw [upd_ne _ _ e2] at ht ⊢
        have h1 := h.sp k hk ht
        have h3 := hnonq k hk ht
        by_cases e3 : (a k).o.toNat = s
        · rw [e3, upd_self]; exact ⟨h1.1, hs, ts⟩
        · rw [upd_ne _ _ e3, upd_ne _ _ (by omega)]; exact h1
  · by_cases e1 : k = s
    · subst e1
      rw [upd_self]
      refine ⟨hso, ?_⟩
      have h2 := (h.ow k hs ts).2
      obtain ⟨A, hA⟩ : ∃ A, A = upd (upd a q (enT t (k : Int))) k { a k with r := (a k).r + 1 } := ⟨_, rfl⟩
      rw [← hA]
      have h3 := cntN_one (f := fun j => isO (k : Int) (j : Int) (A j)) (g := fun j => isO (k : Int) (j : Int) (a j)) (k := q) hq (fun j hj hjq => by
        by_cases e3 : j = k
        · subst e3; rw [isO_f (x := A j) (by simp), isO_f (x := a j) (by simp)]
        · rw [hA, upd_ne _ _ e3, upd_ne _ _ hjq])
      have h4 : isO (k : Int) (q : Int) (a q) = false := isO_f (by rw [tq]; simp)
      have h5 : isO (k : Int) (q : Int) (A q) = true := (isO_iff _ _ _).2 (by rw [hA, upd_ne _ _ (Ne.symm hne), upd_self]; exact ⟨by omega, rfl, t0⟩)
      rw [h4, h5] at h3
      simp only [Bool.false_eq_true, if_false, if_true] at h3
      clear hA
      show (a k).r + 1 = ((cntN (fun j => isO (k : Int) (j : Int) (A j)) n : Nat) : Int)
      omega
    · rw [upd_ne _ _ e1] at ht ⊢
      by_cases e2 : k = q
      · subst e2; rw [upd_self] at ht; exact absurd ht t1
      · rw [upd_ne _ _ e2] at ht ⊢
        obtain ⟨h1, h2⟩ := h.ow k hk ht
        refine ⟨h1, h2.trans ?_⟩
        congr 1
        refine cntN_ext fun j hj => ?_
        by_cases e3 : j = s
        · subst e3; rw [upd_self]; exact isO_cg rfl rfl
        · rw [upd_ne _ _ e3]
          by_cases e4 : j = q
          · subst e4
            rw [upd_self, isO_f (by rw [tq]; simp), isO_f (by simp only [enT]; omega)]
          · rw [upd_ne _ _ e4]
/-- An entry changes, but its owner and whether it is free or a space. -/
theorem InvF.like {a : Nat → En} {n q : Nat} {x : En} (h : InvF a n) (ho : x.o = (a q).o) (h0 : x.t = 0 ↔ (a q).t = 0) (h1 : x.t = 1 ↔ (a q).t = 1) (hr : x.t = 1 → x.r = (a q).r) : InvF (upd a q x) n := by
  have ht : ∀ j, ((upd a q x j).t = 1 ↔ (a j).t = 1) ∧ ((upd a q x j).t = 0 ↔ (a j).t = 0) ∧ (upd a q x j).o = (a j).o := fun j => by
    by_cases e : j = q
    · subst e; rw [upd_self]; exact ⟨h1, h0, ho⟩
    · rw [upd_ne _ _ e]; exact ⟨Iff.rfl, Iff.rfl, rfl⟩
  have hO : ∀ s k : Int, ∀ j, isO s k (upd a q x j) = isO s k (a j) := fun s k j => by
    have := ht j
    cases hh : isO s k (a j)
    · refine isO_f (fun hc => ?_)
      have := (isO_iff s k (a j)).2 ⟨hc.1, (ht j).2.2 ▸ hc.2.1, fun e => hc.2.2 ((ht j).2.1.2 e)⟩
      rw [hh] at this; cases this
    · have := (isO_iff s k (a j)).1 hh
      exact (isO_iff _ _ _).2 ⟨this.1, (ht j).2.2.trans this.2.1, fun e => this.2.2 ((ht j).2.1.1 e)⟩
  refine ⟨fun k hk hkt => ?_, fun k hk hkt => ?_⟩
  · have := h.sp k hk (fun e => hkt ((ht k).2.1.2 e))
    rw [(ht k).2.2]
    exact ⟨this.1, this.2.1, (ht _).1.2 this.2.2⟩
  · have h3 := h.ow k hk ((ht k).1.1 hkt)
    refine ⟨(ht k).2.2.trans h3.1, ?_⟩
    rw [cntN_ext (fun j _ => hO _ _ j), ← h3.2]
    by_cases e : k = q
    · subst e; rw [upd_self] at hkt ⊢; exact hr hkt
    · rw [upd_ne _ _ e]
theorem InvF.freeS {a : Nat → En} {n q : Nat} (h : InvF a n) (hq : q < n) (tq : (a q).t = 1) (r0 : (a q).r ≤ 0) : InvF (upd a q En.zero) n := by
  obtain ⟨ho, hr⟩ := h.ow q hq tq
  have hno := cntN_zero (f := fun j => isO (q : Int) (j : Int) (a j)) (n := n) (by omega)
  have hn : ∀ k, k < n → k ≠ q → (a k).t ≠ 0 → (a k).o ≠ (q : Int) := fun k hk hkq ht e => by
    have : isO (q : Int) (k : Int) (a k) = false := hno k hk
    rw [(isO_iff _ _ _).2 ⟨by omega, e, ht⟩] at this
    cases this
  refine ⟨fun k hk ht => ?_, fun k hk ht => ?_⟩
  · by_cases e1 : k = q
    · subst e1; rw [upd_self] at ht; exact absurd rfl ht
    · rw [upd_ne _ _ e1] at ht ⊢
      have h1 := h.sp k hk ht
      have h2 := hn k hk e1 ht
      rw [upd_ne _ _ (by omega)]
      exact h1
  · by_cases e1 : k = q
    · subst e1; rw [upd_self] at ht; cases ht
    · rw [upd_ne _ _ e1] at ht ⊢
      obtain ⟨h1, h2⟩ := h.ow k hk ht
      refine ⟨h1, h2.trans ?_⟩
      congr 1
      refine cntN_ext fun j hj => ?_
      by_cases e3 : j = q
      · subst e3; rw [upd_self, isO_f (by rw [ho]; omega), isO_f (by simp [En.zero])]
      · rw [upd_ne _ _ e3]
theorem InvF.freeO {a : Nat → En} {n q : Nat} (h : InvF a n) (hq : q < n) (t0 : (a q).t ≠ 0) (t1 : (a q).t ≠ 1) : 0 < (upd a q En.zero (a q).o.toNat).r ∧ InvF (upd (upd a q En.zero) (a q).o.toNat { upd a q En.zero (a q).o.toNat with r := (upd a q En.zero (a q).o.toNat).r + -1 }) n := by
  obtain ⟨o0, o1, ot⟩ := h.sp q hq t0
  have hne : (a q).o.toNat ≠ q := fun e => by rw [e] at ot; exact t1 ot
  rw [upd_ne _ _ hne]
  generalize ho : (a q).o.toNat = o at *
  have hoI : (a q).o = (o : Int) := by omega
  have hoo := h.ow o o1 ot
  have hqc : isO (o : Int) (q : Int) (a q) = true := (isO_iff _ _ _).2 ⟨by omega, hoI, t0⟩
  have hpos := cntN_pos (f := fun j => isO (o : Int) (j : Int) (a j)) hq hqc
  refine ⟨by rw [hoo.2]; omega, fun k hk ht => ?_, fun k hk ht => ?_⟩
  · by_cases e1 : k = o
    · subst e1; rw [upd_self]; simp only [hoo.1, Int.toNat_natCast]; rw [upd_self]; exact ⟨by omega, hk, ot⟩
    · rw [upd_ne _ _ e1] at ht ⊢
      by_cases e2 : k = q
      · subst e2; rw [upd_self] at ht; exact absurd rfl ht
      · rw [upd_ne _ _ e2] at ht ⊢
        have h1 := h.sp k hk ht
        by_cases e3 : (a k).o.toNat = o
        · rw [e3, upd_self]; exact ⟨h1.1, o1, ot⟩
        · rw [upd_ne _ _ e3]
          have e4 : (a k).o.toNat ≠ q := fun e => t1 (e ▸ h1.2.2)
          rw [upd_ne _ _ e4]
          exact h1
  · by_cases e1 : k = o
    · subst e1
      rw [upd_self]
      refine ⟨hoo.1, ?_⟩
      obtain ⟨A, hA⟩ : ∃ A, A = upd (upd a q En.zero) k { a k with r := (a k).r + -1 } := ⟨_, rfl⟩
      rw [← hA]
      have h3 := cntN_one (f := fun j => isO (k : Int) (j : Int) (A j)) (g := fun j => isO (k : Int) (j : Int) (a j)) (k := q) hq (fun j hj hjq => by
        by_cases e3 : j = k
        · subst e3; rw [isO_f (x := A j) (by simp), isO_f (x := a j) (by simp)]
        · rw [hA, upd_ne _ _ e3, upd_ne _ _ hjq])
      have h5 : isO (k : Int) (q : Int) (A q) = false := isO_f (by rw [hA, upd_ne _ _ (Ne.symm hne), upd_self]; simp [En.zero])
      rw [hqc, h5] at h3
      simp only [Bool.false_eq_true, if_false, if_true] at h3
      clear hA
      have h6 := hoo.2
      show (a k).r + -1 = ((cntN (fun j => isO (k : Int) (j : Int) (A j)) n : Nat) : Int)
      omega
    · rw [upd_ne _ _ e1] at ht ⊢
      by_cases e2 : k = q
      · subst e2; rw [upd_self] at ht; cases ht
      · rw [upd_ne _ _ e2] at ht ⊢
        obtain ⟨h1, h2⟩ := h.ow k hk ht
        refine ⟨h1, h2.trans ?_⟩
        congr 1
        refine cntN_ext fun j hj => ?_
        by_cases e3 : j = o
        · subst e3; rw [upd_self]; exact isO_cg rfl rfl
        · rw [upd_ne _ _ e3]
          by_cases e4 : j = q
          · subst e4; rw [upd_self, isO_f (by rw [hoI]; omega), isO_f (by simp [En.zero])]
          · rw [upd_ne _ _ e4]
end Go.Proofs.YtdfnbcbnmiohnaaGreatDoor
namespace Go.Proofs.YtdfnbcbnmiohnaaGreatDoor
open Go.RowKit
theorem DS.wipe_at (d : DS) (q : Int) : (d.wipe q).at = d.at := rfl
theorem cnt_at {d : DS} {k : Nat} (n : Int) (hk : k < d.E.length) : (d.cnt k n).at = upd d.at k { d.at k with r := (d.at k).r + n } := lay_upd _ hk
theorem lay_len (d : DS) (k : Nat) (x : En) : (d.lay k x).E.length = d.E.length := by simp [DS.lay]
theorem inv_space {d : DS} {s f : Int} (hk : d.Ok) (h : InvF d.at d.m.ns) (hz : d.bearE s f = 0) : InvF (d.space s f).at d.m.ns := by
  obtain ⟨ts, tf, hsf, t1, t2, hb⟩ := bear_zero hz
  obtain ⟨s0, s1, es⟩ := there_lt ts
  obtain ⟨f0, f1, ef⟩ := there_lt tf
  rw [ent_at ts] at t1
  rw [ent_at tf] at t2
  have hl := hk.len
  have he : (d.space s f).at = upd (upd d.at f.toNat (enF ((s.toNat : Nat) : Int))) s.toNat (enS ((s.toNat : Nat) : Int)) := by
    show ((d.lay f.toNat (enF s)).lay s.toNat (enS s)).at = _
    rw [lay_upd _ (by rw [lay_len]; omega), lay_upd _ (by omega), ← es]
  rw [he]
  exact h.space s1 f1 (by omega) t1 t2
theorem inv_taken {d : DS} {q t s : Int} (hk : d.Ok) (h : InvF d.at d.m.ns) (hz : d.takeE q t s = 0) : InvF (d.taken q t s).at d.m.ns := by
  obtain ⟨tq, ⟨t0, t1⟩, _, hm, hf⟩ := take_zero hz
  obtain ⟨ts, s1, s2⟩ := more_of hm
  obtain ⟨q0, q1, eq⟩ := there_lt tq
  obtain ⟨s0, s3, es⟩ := there_lt ts
  rw [ent_at tq] at hf
  rw [ent_at ts] at s1
  have hl := hk.len
  have hne : s.toNat ≠ q.toNat := fun e => by rw [e, hf] at s1; cases s1
  have he : (d.taken q t s).at = upd (upd d.at q.toNat (enT t ((s.toNat : Nat) : Int))) s.toNat { d.at s.toNat with r := (d.at s.toNat).r + 1 } := by
    unfold DS.taken
    rw [cnt_at _ (by rw [lay_len]; omega), lay_upd _ (by omega), upd_ne _ _ hne, ← es]
  rw [he]
  exact h.taken q1 s3 hf s1 (by omega) (by omega)
theorem inv_given {d : DS} {q : Int} (hk : d.Ok) (h : InvF d.at d.m.ns) (hz : d.giveE q = 0) : InvF (d.given q).at d.m.ns ∧ ((d.ent q).t ≠ 1 → d.given q = (d.freed q).cnt (d.ent q).o.toNat (-1)) ∧ ((d.ent q).t = 1 → d.given q = d.freed q) := by
  obtain ⟨tq, h1, h2⟩ := give_zero hz
  obtain ⟨q0, q1, eq⟩ := there_lt tq
  have hl := hk.len
  have hf : (d.freed q).at = upd d.at q.toNat En.zero := by
    show (d.lay q.toNat En.zero).at = _
    rw [lay_upd _ (by omega)]
  have hfl : (d.freed q).E.length = d.E.length := lay_len _ _ _
  rw [ent_at tq] at h1 h2 ⊢
  unfold DS.given
  rw [ent_at tq, hf]
  by_cases e : (d.at q.toNat).t = 1
  · rw [if_neg (by simp [e]), hf]
    exact ⟨h.freeS q1 e (by omega), fun h => absurd e h, fun _ => rfl⟩
  · obtain ⟨g1, g2⟩ := h.freeO q1 h1 e
    have g3 := (h.sp _ q1 h1).2.1
    rw [if_pos ⟨e, g1⟩]
    refine ⟨?_, fun _ => rfl, fun h => absurd h e⟩
    rw [cnt_at _ (by rw [hfl]; omega), hf]
    exact g2
def sumN (f : Nat → Nat) : Nat → Nat
  | 0 => 0
  | k + 1 => sumN f k + f k
def spc (x : En) : Bool := x.t == 1
end Go.Proofs.YtdfnbcbnmiohnaaGreatDoor
namespace Go.Proofs.YtdfnbcbnmiohnaaGreatDoor
open Go.RowKit
set_option maxRecDepth 100000
set_option maxHeartbeats 8000000
attribute [-simp] Tryz.isAgg44 Tryz.sizeOf44 Tryz.zeroValue44 Tryz.isAgg55 Tryz.sizeOf55 Tryz.zeroValue55
/-- The measurement's first j words are laid. -/
def DS.lay8 (d : DS) (s : Int) (L : List Int) : Nat → DS
  | 0 => d
  | j + 1 => (d.lay8 s L j).wr s (3 + (j : Int)) (L.getD j 0)
def zz : List Int := List.replicate 26 0
/-- The measurement is laid, the digest gone. -/
def DS.msr (d : DS) (s : Int) (L : List Int) : DS := (d.lay8 s L 8).dig s zz 26
theorem layM_any (W : World) (p : Dp) (d : DS) (h : DB W p d) (s : Int) (FL : List Int) (hFl : FL.length = 8) :
    Calls Tryz.prog 64 #[ptr p.g, .int .i64 s, .agg (u32s FL).toArray] W fun e W' => e = .returned (.tuple #[]) ∧ DB W' p (d.msr s FL) ∧ ButL p.f.w W W' := by
  have D0 := hid ((DG.startw h).new 55 (u32s FL))
  have HMm := hid (fun w d' (hw : DB w p d') => memory_any w p d' hw)
  have HFr := hid (fun w => lsecure_any w s)
  have HWr := hid (fun w d' (hw : DB w p d') (off v : Int) => (write_any w p.f d'.m hw.mem true s off v))
  have HIX : Hid (∀ (j : Nat), j < 8 → ∀ w, (Instr.index 55 (.agg (u32s FL).toArray) (.int .i64 (j : Int))).run Tryz.prog w = .ok (.int .u32 (FL.getD j 0)) w) := hid (fun j hj w => H.index_ag under55 Tryz.underlying43 (by kernel_rfl) FL j hFl hj w)
  clear h
  simp only [ptr, fr] at *
  go_enter Tryz.func64, Tryz.ntmps64
  go_upto_region 1 with fail
  have D0' : Hid (DG W (W.alloc (Obj.cells (u32s FL).toArray 55)) p d p.f.w [(W.heap.size, 55, u32s FL)]) := D0
  clear D0
  generalize World.alloc _ _ = X at *
  generalize W.heap.size = g5 at *
  go_upto_region 2 with (first | (refine wpList_load_mid rfl 55 _ rfl g5 0 rfl _ _ (D0'.out.get 0 rfl).range under55 rfl (by rw [size55]; simp [u32s, hFl]) ?_))
  go_loopw [10] (fun i wr => ∃ j : Nat, j ≤ 8 ∧ i = .int .i64 (j : Int) ∧ Hid (DG W wr p (d.lay8 s FL j) p.f.w [(g5, 55, u32s FL)])) (fun i _ => 8 - (intOf i).toNat)
  case atStart => exact ⟨0, Nat.zero_le _, rfl, D0'⟩
  case round =>
    obtain ⟨j, hj, rfl, E0⟩ := hrel
    clear D0'
    by_cases hlt : j < 8
    · have q1 : (j : Int) < 8 := by omega
      have kw : IntKind.wrap .i64 (3 + (j : Int)) = 3 + (j : Int) := by rw [IntKind.wrap_i64]; omega
      have kw2 : IntKind.wrap .i64 ((j : Int) + 1) = (j : Int) + 1 := by rw [IntKind.wrap_i64]; omega
      have HJ := hid hlt
      have HV : Hid (d.lay8 s FL (j + 1) = (d.lay8 s FL j).wr s (3 + (j : Int)) (FL.getD j 0)) := hid rfl
      clear hlt hj
      generalize d.lay8 s FL j = dj at *
      generalize hdk : d.lay8 s FL (j + 1) = dk at *
      have HDK := hid hdk
      clear hdk
      have hix := HIX.out j HJ.out
      generalize FL.getD j 0 = v at *
      go_wp2_with (first | (go_at_call 28; refine (HMm.out _ _ E0.out.db).mono ?_; rintro e w4 ⟨rfl, rfl⟩) | (go_at_call 112; refine (HFr.out _).mono ?_; rintro e w4 ⟨rfl, hb⟩; have E2 := hid (E0.out.on hb); clear hb) | (go_at_call 53; refine (HWr.out _ _ E2.out.db _ _).mono ?_; rintro e w5 ⟨rfl, hm, hb⟩; have E3 : Hid (DG W w5 p dk p.f.w [(g5, 55, u32s FL)]) := hid (by rw [HV.out]; exact E2.out.mem hm hb (MS.write_ns ..)); clear hm hb E2))
      exact ⟨⟨j + 1, HJ.out, by simp, by rw [HDK.out]; exact E3⟩, by have := HJ.out; simp [intOf]; omega⟩
    · have hj' : j = 8 := by omega
      subst hj'
      clear hlt hj HIX
      rw [show ((8 : Nat) : Int) = 8 from rfl]
      generalize h8 : d.lay8 s FL 8 = d8 at E0
      have HM : Hid (d.msr s FL = d8.dig s zz 26) := hid (by rw [← h8]; rfl)
      clear h8
      go_upto_region 6 with fail
      go_upto_region 7 with fail
      go_loopw [8] (fun i wr2 => ∃ j : Nat, j ≤ 26 ∧ i = .int .i64 (11 + (j : Int)) ∧ Hid (DG W wr2 p (d8.dig s zz j) p.f.w [(g5, 55, u32s FL)])) (fun i _ => 37 - (intOf i).toNat)
      case atStart => exact ⟨0, Nat.zero_le _, rfl, E0⟩
      case round =>
        obtain ⟨j, hj, rfl, F0⟩ := hrel
        clear E0
        by_cases hlt : j < 26
        · have q1 : 11 + (j : Int) < 37 := by omega
          have kw2 : IntKind.wrap .i64 (11 + (j : Int) + 1) = 11 + (j : Int) + 1 := by rw [IntKind.wrap_i64]; omega
          have HJ := hid hlt
          have HV : Hid (d8.dig s zz (j + 1) = (d8.dig s zz j).wr s (11 + (j : Int)) 0) := hid (by show (d8.dig s zz j).wr s (11 + (j : Int)) (zz.getD j 0) = _; rw [show zz.getD j 0 = 0 from zdig j])
          clear hlt hj
          generalize d8.dig s zz j = dj at *
          generalize hdk : d8.dig s zz (j + 1) = dk at *
          have HDK := hid hdk
          clear hdk
          go_wp2_with (first | (go_at_call 28; refine (HMm.out _ _ F0.out.db).mono ?_; rintro e w4 ⟨rfl, rfl⟩) | (go_at_call 112; refine (HFr.out _).mono ?_; rintro e w4 ⟨rfl, hb⟩; have E2 := hid (F0.out.on hb); clear hb) | (go_at_call 53; refine (HWr.out _ _ E2.out.db _ _).mono ?_; rintro e w5 ⟨rfl, hm, hb⟩; have E3 : Hid (DG W w5 p dk p.f.w [(g5, 55, u32s FL)]) := hid (by rw [HV.out]; exact E2.out.mem hm hb (MS.write_ns ..)); clear hm hb E2))
          go_roundw
          case measure => have := HJ.out; simp [intOf] <;> omega
          case rel => exact ⟨j + 1, HJ.out, by simp [Int.add_assoc], by rw [HDK.out]; exact E3⟩
        · have hj' : j = 26 := by omega
          subst hj'
          clear hlt hj
          go_wp2_with fail
          go_returns
          exact ⟨rfl, by rw [HM.out]; exact F0.out.db, F0.out.but⟩
end Go.Proofs.YtdfnbcbnmiohnaaGreatDoor
