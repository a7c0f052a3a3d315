import Derived.Test.YtdfnbcbnmiohnaaGreatDoorP34
import Derived.Test.YtdfnbcbnmiohnaaGreatDoorP29
import Derived.Test.YtdfnbcbnmiohnaaGreatDoorP35
import Derived.Test.YtdfnbcbnmiohnaaGreatDoorP01
import Derived.Test.YtdfnbcbnmiohnaaGreatDoorP42
import Derived.Test.YtdfnbcbnmiohnaaGreatDoorP31
import Derived.Test.YtdfnbcbnmiohnaaGreatDoorP39
namespace Go.Proofs.YtdfnbcbnmiohnaaGreatDoor
open Go.RowKit
theorem cntN_ext {f g : Nat → Bool} {n : Nat} (h : ∀ k, k < n → f k = g k) : cntN f n = cntN g n := by
  induction n with
  | zero => rfl
  | succ n ih => rw [cntN, cntN, ih (fun k hk => h k (by omega)), h n (by omega)]
theorem cntN_one {f g : Nat → Bool} {n k : Nat} (hk : k < n) (h : ∀ j, j < n → j ≠ k → f j = g j) : cntN f n + (if g k = true then 1 else 0) = cntN g n + (if f k = true then 1 else 0) := by
  induction n with
  | zero => omega
  | succ n ih =>
    by_cases e : k = n
    · subst e
      rw [cntN, cntN, cntN_ext (fun j hj => h j (by omega) (by omega))]
      omega
    · have := ih (by omega) (fun j hj hne => h j (by omega) hne)
      rw [cntN, cntN, h n (by omega) (fun e' => e e'.symm)]
      omega
theorem cntN_none {f : Nat → Bool} {n : Nat} (h : ∀ k, k < n → f k = false) : cntN f n = 0 := by
  induction n with
  | zero => rfl
  | succ n ih => rw [cntN, ih (fun k hk => h k (by omega)), h n (by omega)]; rfl
theorem cntN_zero {f : Nat → Bool} {n : Nat} (h : cntN f n = 0) : ∀ k, k < n → f k = false := by
  induction n with
  | zero => intro k hk; omega
  | succ n ih =>
    rw [cntN] at h
    intro k hk
    by_cases e : k = n
    · subst e
      cases hf : f k
      · rfl
      · rw [hf] at h; simp at h
    · exact ih (by omega) k (by omega)
theorem cntN_pos {f : Nat → Bool} {n k : Nat} (hk : k < n) (h : f k = true) : 0 < cntN f n := by
  rcases Nat.eq_zero_or_pos (cntN f n) with e | e
  · rw [cntN_zero e k hk] at h; cases h
  · exact e
theorem cntN_single {f : Nat → Bool} {n k : Nat} (hk : k < n) (h1 : f k = true) (h : ∀ j, j < n → j ≠ k → f j = false) : cntN f n = 1 := by
  have := cntN_one (f := f) (g := fun _ => false) hk h
  rw [cntN_none (f := fun _ => false) (fun _ _ => rfl), h1] at this
  simpa using this
theorem lstN_cnt (f : Nat → Bool) (n : Nat) : (lstN f n).length = cntN f n := by
  induction n with
  | zero => rfl
  | succ n ih => rw [lstN, cntN, List.length_append, ih]; split <;> simp
def upd (a : Nat → En) (k : Nat) (x : En) : Nat → En := fun j => if j = k then x else a j
theorem upd_self (a : Nat → En) (k : Nat) (x : En) : upd a k x k = x := if_pos rfl
theorem upd_ne (a : Nat → En) {k j : Nat} (x : En) (h : j ≠ k) : upd a k x j = a j := if_neg h
theorem lay_upd {d : DS} {k : Nat} (x : En) (hk : k < d.E.length) : (d.lay k x).at = upd d.at k x := by
  funext j; exact lay_at k j x hk
structure InvF (a : Nat → En) (n : Nat) : Prop where
  sp : ∀ k, k < n → (a k).t ≠ 0 → 0 ≤ (a k).o ∧ (a k).o.toNat < n ∧ (a (a k).o.toNat).t = 1
  ow : ∀ k, k < n → (a k).t = 1 → (a k).o = (k : Int) ∧ (a k).r = (cntN (fun j => isO (k : Int) (j : Int) (a j)) n : Int)
theorem isO_iff (s k : Int) (x : En) : isO s k x = true ↔ k ≠ s ∧ x.o = s ∧ x.t ≠ 0 := by simp [isO]
theorem isO_f {s k : Int} {x : En} (h : ¬ (k ≠ s ∧ x.o = s ∧ x.t ≠ 0)) : isO s k x = false := by
  cases hh : isO s k x
  · rfl
  · exact absurd ((isO_iff _ _ _).1 hh) h
theorem isO_cg {s k : Int} {x y : En} (h1 : x.o = y.o) (h2 : x.t = y.t) : isO s k x = isO s k y := by unfold isO; rw [h1, h2]
theorem InvF.zero (n : Nat) : InvF (fun _ => En.zero) n := ⟨fun _ _ h => absurd rfl h, fun _ _ h => by cases h⟩
theorem InvF.space {a : Nat → En} {n s f : Nat} (h : InvF a n) (hs : s < n) (hf : f < n) (hne : s ≠ f) (ts : (a s).t = 0) (tf : (a f).t = 0) : InvF (upd (upd a f (enF (s : Int))) s (enS (s : Int))) n := by
  have hnone : ∀ j, j < n → (a j).t ≠ 0 → (a j).o ≠ (s : Int) := fun j hj ht e => by
    have := (h.sp j hj ht).2.2
    rw [e, Int.toNat_natCast, ts] at this
    cases this
  have hnonf : ∀ j, j < n → (a j).t ≠ 0 → (a j).o ≠ (f : Int) := fun j hj ht e => by
    have := (h.sp j hj ht).2.2
    rw [e, Int.toNat_natCast, tf] at this
    cases this
  refine ⟨fun k hk ht => ?_, fun k hk ht => ?_⟩
  · by_cases e1 : k = s
    · subst e1; rw [upd_self]; simp only [enS, Int.toNat_natCast]; rw [upd_self]; exact ⟨by omega, hk, rfl⟩
    · rw [upd_ne _ _ e1] at ht ⊢
      by_cases e2 : k = f
      · subst e2; rw [upd_self]; simp only [enF, Int.toNat_natCast]; rw [upd_self]; exact ⟨by omega, hs, rfl⟩
      · rw [upd_ne _ _ e2] at ht ⊢
        have h1 := h.sp k hk ht
        have h2 := hnone k hk ht
        have h3 := hnonf k hk ht
        rw [upd_ne _ _ (by omega), upd_ne _ _ (by omega)]
        exact h1
  · by_cases e1 : k = s
    · subst e1
      rw [upd_self]
      refine ⟨rfl, ?_⟩
      rw [cntN_single hf]
      · rfl
      · rw [isO_iff, upd_ne _ _ (Ne.symm hne), upd_self]; exact ⟨by omega, rfl, by simp [enF]⟩
      · intro j hj hjf
        refine isO_f ?_
        rintro ⟨h1, h2, h3⟩
        have e2 : j ≠ k := by omega
        rw [upd_ne _ _ e2, upd_ne _ _ hjf] at h2 h3
        exact hnone j hj h3 h2
    · rw [upd_ne _ _ e1] at ht ⊢
      by_cases e2 : k = f
      · subst e2; rw [upd_self] at ht; cases ht
      · rw [upd_ne _ _ e2] at ht ⊢
        obtain ⟨h1, h2⟩ := h.ow k hk ht
        refine ⟨h1, h2.trans ?_⟩
        congr 1
        refine cntN_ext fun j hj => ?_
        by_cases e3 : j = s
        · subst e3
          rw [upd_self, isO_f (by rw [ts]; simp), isO_f (by simp only [enS]; omega)]
        · rw [upd_ne _ _ e3]
          by_cases e4 : j = f
          · subst e4
            rw [upd_self, isO_f (by rw [tf]; simp), isO_f (by simp only [enF]; omega)]
          · rw [upd_ne _ _ e4]
theorem InvF.taken {a : Nat → En} {n q s : Nat} {t : Int} (h : InvF a n) (hq : q < n) (hs : s < n) (tq : (a q).t = 0) (ts : (a s).t = 1) (t0 : t ≠ 0) (t1 : t ≠ 1) : InvF (upd (upd a q (enT t (s : Int))) s { a s with r := (a s).r + 1 }) n := by
  have hne : s ≠ q := fun e => by rw [e, tq] at ts; cases ts
  have hso : (a s).o = (s : Int) := (h.ow s hs ts).1
  have hnonq : ∀ j, j < n → (a j).t ≠ 0 → (a j).o ≠ (q : Int) := fun j hj ht e => by
    have := (h.sp j hj ht).2.2
    rw [e, Int.toNat_natCast, tq] at this
    cases this
  refine ⟨fun k hk ht => ?_, fun k hk ht => ?_⟩
  · by_cases e1 : k = s
    · subst e1; rw [upd_self]; simp only [hso, Int.toNat_natCast]; rw [upd_self]; exact ⟨by omega, hk, ts⟩
    · rw [upd_ne _ _ e1] at ht ⊢
      by_cases e2 : k = q
      · subst e2; rw [upd_self]; simp only [enT, Int.toNat_natCast]; rw [upd_self]; exact ⟨by omega, hs, ts⟩
      · rw [upd_ne _ _ e2] at ht ⊢
        have h1 := h.sp k hk ht
        have h3 := hnonq k hk ht
        by_cases e3 : (a k).o.toNat = s
        · rw [e3, upd_self]; exact ⟨h1.1, hs, ts⟩
        · rw [upd_ne _ _ e3, upd_ne _ _ (by omega)]; exact h1
  · by_cases e1 : k = s
    · subst e1
      rw [upd_self]
      refine ⟨hso, ?_⟩
      have h2 := (h.ow k hs ts).2
      obtain ⟨A, hA⟩ : ∃ A, A = upd (upd a q (enT t (k : Int))) k { a k with r := (a k).r + 1 } := ⟨_, rfl⟩
      rw [← hA]
      have h3 := cntN_one (f := fun j => isO (k : Int) (j : Int) (A j)) (g := fun j => isO (k : Int) (j : Int) (a j)) (k := q) hq (fun j hj hjq => by
        by_cases e3 : j = k
        · subst e3; rw [isO_f (x := A j) (by simp), isO_f (x := a j) (by simp)]
        · rw [hA, upd_ne _ _ e3, upd_ne _ _ hjq])
      have h4 : isO (k : Int) (q : Int) (a q) = false := isO_f (by rw [tq]; simp)
      have h5 : isO (k : Int) (q : Int) (A q) = true := (isO_iff _ _ _).2 (by rw [hA, upd_ne _ _ (Ne.symm hne), upd_self]; exact ⟨by omega, rfl, t0⟩)
      rw [h4, h5] at h3
      simp only [Bool.false_eq_true, if_false, if_true] at h3
      clear hA
      show (a k).r + 1 = ((cntN (fun j => isO (k : Int) (j : Int) (A j)) n : Nat) : Int)
      omega
    · rw [upd_ne _ _ e1] at ht ⊢
      by_cases e2 : k = q
      · subst e2; rw [upd_self] at ht; exact absurd ht t1
      · rw [upd_ne _ _ e2] at ht ⊢
        obtain ⟨h1, h2⟩ := h.ow k hk ht
        refine ⟨h1, h2.trans ?_⟩
        congr 1
        refine cntN_ext fun j hj => ?_
        by_cases e3 : j = s
        · subst e3; rw [upd_self]; exact isO_cg rfl rfl
        · rw [upd_ne _ _ e3]
          by_cases e4 : j = q
          · subst e4
            rw [upd_self, isO_f (by rw [tq]; simp), isO_f (by simp only [enT]; omega)]
          · rw [upd_ne _ _ e4]
theorem InvF.like {a : Nat → En} {n q : Nat} {x : En} (h : InvF a n) (ho : x.o = (a q).o) (h0 : x.t = 0 ↔ (a q).t = 0) (h1 : x.t = 1 ↔ (a q).t = 1) (hr : x.t = 1 → x.r = (a q).r) : InvF (upd a q x) n := by
  have ht : ∀ j, ((upd a q x j).t = 1 ↔ (a j).t = 1) ∧ ((upd a q x j).t = 0 ↔ (a j).t = 0) ∧ (upd a q x j).o = (a j).o := fun j => by
    by_cases e : j = q
    · subst e; rw [upd_self]; exact ⟨h1, h0, ho⟩
    · rw [upd_ne _ _ e]; exact ⟨Iff.rfl, Iff.rfl, rfl⟩
  have hO : ∀ s k : Int, ∀ j, isO s k (upd a q x j) = isO s k (a j) := fun s k j => by
    have := ht j
    cases hh : isO s k (a j)
    · refine isO_f (fun hc => ?_)
      have := (isO_iff s k (a j)).2 ⟨hc.1, (ht j).2.2 ▸ hc.2.1, fun e => hc.2.2 ((ht j).2.1.2 e)⟩
      rw [hh] at this; cases this
    · have := (isO_iff s k (a j)).1 hh
      exact (isO_iff _ _ _).2 ⟨this.1, (ht j).2.2.trans this.2.1, fun e => this.2.2 ((ht j).2.1.1 e)⟩
  refine ⟨fun k hk hkt => ?_, fun k hk hkt => ?_⟩
  · have := h.sp k hk (fun e => hkt ((ht k).2.1.2 e))
    rw [(ht k).2.2]
    exact ⟨this.1, this.2.1, (ht _).1.2 this.2.2⟩
  · have h3 := h.ow k hk ((ht k).1.1 hkt)
    refine ⟨(ht k).2.2.trans h3.1, ?_⟩
    rw [cntN_ext (fun j _ => hO _ _ j), ← h3.2]
    by_cases e : k = q
    · subst e; rw [upd_self] at hkt ⊢; exact hr hkt
    · rw [upd_ne _ _ e]
theorem InvF.freeS {a : Nat → En} {n q : Nat} (h : InvF a n) (hq : q < n) (tq : (a q).t = 1) (r0 : (a q).r ≤ 0) : InvF (upd a q En.zero) n := by
  obtain ⟨ho, hr⟩ := h.ow q hq tq
  have hno := cntN_zero (f := fun j => isO (q : Int) (j : Int) (a j)) (n := n) (by omega)
  have hn : ∀ k, k < n → k ≠ q → (a k).t ≠ 0 → (a k).o ≠ (q : Int) := fun k hk hkq ht e => by
    have : isO (q : Int) (k : Int) (a k) = false := hno k hk
    rw [(isO_iff _ _ _).2 ⟨by omega, e, ht⟩] at this
    cases this
  refine ⟨fun k hk ht => ?_, fun k hk ht => ?_⟩
  · by_cases e1 : k = q
    · subst e1; rw [upd_self] at ht; exact absurd rfl ht
    · rw [upd_ne _ _ e1] at ht ⊢
      have h1 := h.sp k hk ht
      have h2 := hn k hk e1 ht
      rw [upd_ne _ _ (by omega)]
      exact h1
  · by_cases e1 : k = q
    · subst e1; rw [upd_self] at ht; cases ht
    · rw [upd_ne _ _ e1] at ht ⊢
      obtain ⟨h1, h2⟩ := h.ow k hk ht
      refine ⟨h1, h2.trans ?_⟩
      congr 1
      refine cntN_ext fun j hj => ?_
      by_cases e3 : j = q
      · subst e3; rw [upd_self, isO_f (by rw [ho]; omega), isO_f (by simp [En.zero])]
      · rw [upd_ne _ _ e3]
theorem InvF.freeO {a : Nat → En} {n q : Nat} (h : InvF a n) (hq : q < n) (t0 : (a q).t ≠ 0) (t1 : (a q).t ≠ 1) : 0 < (upd a q En.zero (a q).o.toNat).r ∧ InvF (upd (upd a q En.zero) (a q).o.toNat { upd a q En.zero (a q).o.toNat with r := (upd a q En.zero (a q).o.toNat).r + -1 }) n := by
  obtain ⟨o0, o1, ot⟩ := h.sp q hq t0
  have hne : (a q).o.toNat ≠ q := fun e => by rw [e] at ot; exact t1 ot
  rw [upd_ne _ _ hne]
  generalize ho : (a q).o.toNat = o at *
  have hoI : (a q).o = (o : Int) := by omega
  have hoo := h.ow o o1 ot
  have hqc : isO (o : Int) (q : Int) (a q) = true := (isO_iff _ _ _).2 ⟨by omega, hoI, t0⟩
  have hpos := cntN_pos (f := fun j => isO (o : Int) (j : Int) (a j)) hq hqc
  refine ⟨by rw [hoo.2]; omega, fun k hk ht => ?_, fun k hk ht => ?_⟩
  · by_cases e1 : k = o
    · subst e1; rw [upd_self]; simp only [hoo.1, Int.toNat_natCast]; rw [upd_self]; exact ⟨by omega, hk, ot⟩
    · rw [upd_ne _ _ e1] at ht ⊢
      by_cases e2 : k = q
      · subst e2; rw [upd_self] at ht; exact absurd rfl ht
      · rw [upd_ne _ _ e2] at ht ⊢
        have h1 := h.sp k hk ht
        by_cases e3 : (a k).o.toNat = o
        · rw [e3, upd_self]; exact ⟨h1.1, o1, ot⟩
        · rw [upd_ne _ _ e3]
          have e4 : (a k).o.toNat ≠ q := fun e => t1 (e ▸ h1.2.2)
          rw [upd_ne _ _ e4]
          exact h1
  · by_cases e1 : k = o
    · subst e1
      rw [upd_self]
      refine ⟨hoo.1, ?_⟩
      obtain ⟨A, hA⟩ : ∃ A, A = upd (upd a q En.zero) k { a k with r := (a k).r + -1 } := ⟨_, rfl⟩
      rw [← hA]
      have h3 := cntN_one (f := fun j => isO (k : Int) (j : Int) (A j)) (g := fun j => isO (k : Int) (j : Int) (a j)) (k := q) hq (fun j hj hjq => by
        by_cases e3 : j = k
        · subst e3; rw [isO_f (x := A j) (by simp), isO_f (x := a j) (by simp)]
        · rw [hA, upd_ne _ _ e3, upd_ne _ _ hjq])
      have h5 : isO (k : Int) (q : Int) (A q) = false := isO_f (by rw [hA, upd_ne _ _ (Ne.symm hne), upd_self]; simp [En.zero])
      rw [hqc, h5] at h3
      simp only [Bool.false_eq_true, if_false, if_true] at h3
      clear hA
      have h6 := hoo.2
      show (a k).r + -1 = ((cntN (fun j => isO (k : Int) (j : Int) (A j)) n : Nat) : Int)
      omega
    · rw [upd_ne _ _ e1] at ht ⊢
      by_cases e2 : k = q
      · subst e2; rw [upd_self] at ht; cases ht
      · rw [upd_ne _ _ e2] at ht ⊢
        obtain ⟨h1, h2⟩ := h.ow k hk ht
        refine ⟨h1, h2.trans ?_⟩
        congr 1
        refine cntN_ext fun j hj => ?_
        by_cases e3 : j = o
        · subst e3; rw [upd_self]; exact isO_cg rfl rfl
        · rw [upd_ne _ _ e3]
          by_cases e4 : j = q
          · subst e4; rw [upd_self, isO_f (by rw [hoI]; omega), isO_f (by simp [En.zero])]
          · rw [upd_ne _ _ e4]
theorem DS.wipe_at (d : DS) (q : Int) : (d.wipe q).at = d.at := rfl
theorem cnt_at {d : DS} {k : Nat} (n : Int) (hk : k < d.E.length) : (d.cnt k n).at = upd d.at k { d.at k with r := (d.at k).r + n } := lay_upd _ hk
theorem lay_len (d : DS) (k : Nat) (x : En) : (d.lay k x).E.length = d.E.length := by simp [DS.lay]
theorem inv_space {d : DS} {s f : Int} (hk : d.Ok) (h : InvF d.at d.m.ns) (hz : d.bearE s f = 0) : InvF (d.space s f).at d.m.ns := by
  obtain ⟨ts, tf, hsf, t1, t2, hb⟩ := bear_zero hz
  obtain ⟨s0, s1, es⟩ := there_lt ts
  obtain ⟨f0, f1, ef⟩ := there_lt tf
  rw [ent_at ts] at t1
  rw [ent_at tf] at t2
  have hl := hk.len
  have he : (d.space s f).at = upd (upd d.at f.toNat (enF ((s.toNat : Nat) : Int))) s.toNat (enS ((s.toNat : Nat) : Int)) := by
    show ((d.lay f.toNat (enF s)).lay s.toNat (enS s)).at = _
    rw [lay_upd _ (by rw [lay_len]; omega), lay_upd _ (by omega), ← es]
  rw [he]
  exact h.space s1 f1 (by omega) t1 t2
theorem inv_taken {d : DS} {q t s : Int} (hk : d.Ok) (h : InvF d.at d.m.ns) (hz : d.takeE q t s = 0) : InvF (d.taken q t s).at d.m.ns := by
  obtain ⟨tq, ⟨t0, t1⟩, _, hm, hf⟩ := take_zero hz
  obtain ⟨ts, s1, s2⟩ := more_of hm
  obtain ⟨q0, q1, eq⟩ := there_lt tq
  obtain ⟨s0, s3, es⟩ := there_lt ts
  rw [ent_at tq] at hf
  rw [ent_at ts] at s1
  have hl := hk.len
  have hne : s.toNat ≠ q.toNat := fun e => by rw [e, hf] at s1; cases s1
  have he : (d.taken q t s).at = upd (upd d.at q.toNat (enT t ((s.toNat : Nat) : Int))) s.toNat { d.at s.toNat with r := (d.at s.toNat).r + 1 } := by
    unfold DS.taken
    rw [cnt_at _ (by rw [lay_len]; omega), lay_upd _ (by omega), upd_ne _ _ hne, ← es]
  rw [he]
  exact h.taken q1 s3 hf s1 (by omega) (by omega)
theorem inv_given {d : DS} {q : Int} (hk : d.Ok) (h : InvF d.at d.m.ns) (hz : d.giveE q = 0) : InvF (d.given q).at d.m.ns ∧ ((d.ent q).t ≠ 1 → d.given q = (d.freed q).cnt (d.ent q).o.toNat (-1)) ∧ ((d.ent q).t = 1 → d.given q = d.freed q) := by
  obtain ⟨tq, h1, h2⟩ := give_zero hz
  obtain ⟨q0, q1, eq⟩ := there_lt tq
  have hl := hk.len
  have hf : (d.freed q).at = upd d.at q.toNat En.zero := by
    show (d.lay q.toNat En.zero).at = _
    rw [lay_upd _ (by omega)]
  have hfl : (d.freed q).E.length = d.E.length := lay_len _ _ _
  rw [ent_at tq] at h1 h2 ⊢
  unfold DS.given
  rw [ent_at tq, hf]
  by_cases e : (d.at q.toNat).t = 1
  · rw [if_neg (by simp [e]), hf]
    exact ⟨h.freeS q1 e (by omega), fun h => absurd e h, fun _ => rfl⟩
  · obtain ⟨g1, g2⟩ := h.freeO q1 h1 e
    have g3 := (h.sp _ q1 h1).2.1
    rw [if_pos ⟨e, g1⟩]
    refine ⟨?_, fun _ => rfl, fun h => absurd h e⟩
    rw [cnt_at _ (by rw [hfl]; omega), hf]
    exact g2
def sumN (f : Nat → Nat) : Nat → Nat
  | 0 => 0
  | k + 1 => sumN f k + f k
def spc (x : En) : Bool := x.t == 1
set_option maxHeartbeats 4000000
set_option maxRecDepth 100000
theorem under78 : Tryz.prog.underlying 148 = some (.slice 144) := by kernel_rfl
theorem info124 : (Tryz.prog.info? 144).map (fun i => (i.zero, i.size, i.bytes)) = some (some En.zero.v, 5, 40) := by kernel_rfl
theorem ecs_snoc (E : List En) (x : En) : ecs (E ++ [x]) = ecs E ++ x.cs := by simp [ecs]
theorem cs_one (x : En) : ∀ u ∈ x.cs, u.oneCell' = true := by
  intro u hu
  simp only [En.cs, List.mem_cons, List.not_mem_nil, or_false] at hu
  rcases hu with rfl | rfl | rfl | rfl | rfl <;> rfl
theorem wpList_append_e {B : Nat} {w : World} {ops : Array Oper} {rest : List Oper} {o : Oper} {a : Act} {Q : Exit → Act → World → Prop} (hgd : o.guard = none) (s x : Operand)
    (ho : o.op = .call { callee := .builtin .append, args := #[s, x], argTypes := #[148, 148] }) (v : Value) (E : List En) (hs : a.eval s = v) (H : w.ownsRow B 144 5 v E.length (ecs E)) (hB : B ≤ w.heap.size) (ad : Addr) (c : Nat) (y : En) (hx : a.eval x = .slice (some ad) 1 c)
    (hsrc : ∀ j u, y.cs[j]? = some u → w.cell? (ad.add j) = some u) (hlen : E.length ≤ 1000)
    (h : ∀ v' w', w'.ownsRow B 144 5 v' (E ++ [y]).length (ecs (E ++ [y])) → w.grownBy w' v.ownBlock → wpList Tryz.prog ops Q rest (a.put o.dst v') w') : wpList Tryz.prog ops Q (o :: rest) a w := by
  obtain ⟨i, hi, hz, hsize, hby⟩ := info_parts info124
  obtain ⟨v', w', hr, h1, h2, _⟩ := run_append_own (P := Tryz.prog) w B 148 o.type 144 i En.zero.v 5 40 under78 hi hz hsize hby rfl (by decide) v E.length _ H ad 1 c y.cs rfl hsrc (cs_one y) (by unfold maxLen; omega) (by omega) hB
  have hH : w'.ownsRow B 144 5 v' (E ++ [y]).length (ecs (E ++ [y])) := by rw [List.length_append, ecs_snoc]; exact h1
  refine wpList_plain hgd fun K hK => ?_
  unfold Oper.wp execOp
  simp only [ho, resolve, invoke, builtin, Sem.run_bind, Sem.run_pure, Result.andThen_ok, List.map_toArray, List.map_cons, List.map_nil, hs, hx, hr]
  exact hK _ _ (h _ _ hH h2)
theorem own_blk {w : World} {B : Nat} {v : Value} {n : Nat} {L : List Value} (h : w.ownsRow B 144 5 v n L) {b : Nat} (hb : v.ownBlock = some b) : B ≤ b ∧ ∃ cur, w.heap[b]? = some (.cells cur 144 (0, 0)) := by
  rcases h.2 with ⟨hv, h0⟩ | ⟨g, cap, cur, hv, hB, hg, r⟩
  · rw [hv] at hb; cases hb
  · rw [hv] at hb
    have : g = b := by injection hb
    subst this
    exact ⟨hB, cur, hg⟩
theorem own_but {w w' : World} {B : Nat} {v : Value} {n : Nat} {L : List Value} {G : List Nat} (h : w.ownsRow B 144 5 v n L) (hb : ButL G w w') (hn : ∀ b cur, w.heap[b]? = some (.cells cur 144 (0, 0)) → B ≤ b → b ∉ G) : w'.ownsRow B 144 5 v n L :=
  ⟨h.1, h.2.imp id fun ⟨g, cap, cur, hv, hB, hg, r⟩ => ⟨g, cap, cur, hv, hB, (hb.block g (Array.getElem?_eq_some_iff.1 hg).1 (hn g cur hg hB)).trans hg, r⟩⟩
structure RN (W w : World) (r0 : Rf) (g : Nat) (v : Value) (r : Rf) (E : List En) (b : Int) (m : MS) : Prop where
  own : w.ownsRow W.heap.size 144 5 v E.length (ecs E)
  cel : Cel w g 150 [ptr r.g, v, .int .i64 b]
  hg : W.heap.size ≤ g
  mem : RMem w r m
  but : ButL r0.all W w
  sub : ∀ k ∈ r.all, k ∈ r0.all ∨ W.heap.size ≤ k
theorem RN.on {W w w' : World} {r0 r : Rf} {g : Nat} {v : Value} {E : List En} {b : Int} {m : MS} (h : RN W w r0 g v r E b m) (hb : Below w.heap.size w w') : RN W w' r0 g v r E b m :=
  ⟨own_but h.own (.of (G := []) hb) (by simp), h.cel.on hb, h.hg, h.mem.on hb, h.but.on hb, h.sub⟩
theorem off_cells {w : World} {r : Rf} {m : MS} (h : RMem w r m) {b : Nat} {cur : Array Value} {t : TypeId} (hc : w.heap[b]? = some (.cells cur t (0, 0))) (ht : t ≠ 186 ∧ t ≠ 51 ∧ t ≠ 43) : b ∉ r.all :=
  h.off (cs := cur.toList) (by show w.heap[b]? = _; rw [hc]) ht
theorem RN.st {W w w' : World} {r0 r r' : Rf} {g : Nat} {v : Value} {E : List En} {b : Int} {m m' : MS} (h : RN W w r0 g v r E b m) (hs : RSt w w' r r' m') : RN W w' r0 g v r' E b m' := by
  refine ⟨own_but h.own hs.but (fun b cur hc _ => off_cells h.mem hc (by decide)), ?_, h.hg, hs.mem, h.but.trans_sub hs.but h.sub, fun k hk => ?_⟩
  · rw [hs.g]; exact h.cel.but hs.but (h.mem.off h.cel (by decide))
  · rcases hs.sub k hk with hk | hk
    · exact h.sub k hk
    · exact .inr (Nat.le_trans h.but.size hk)
theorem RN.snoc {W w w' : World} {r0 r : Rf} {g : Nat} {v v' : Value} {E E' : List En} {b : Int} {m : MS} (h : RN W w r0 g v r E b m) (h2 : w'.ownsRow W.heap.size 144 5 v' E'.length (ecs E')) (hgr : w.grownBy w' v.ownBlock) :
    RN W (w'.setCell ⟨g, 1, none⟩ v') r0 g v' r E' b m ∧ w'.cell? ⟨g, 1, none⟩ = some v ∧ w'.frozen? ⟨g, 1, none⟩ = false := by
  obtain ⟨G, hG⟩ : ∃ G : List Nat, G = v.ownBlock.toList := ⟨_, rfl⟩
  have hbt : ButL G w w' := grown_but hgr (fun b hb => by rw [hG, hb]; simp)
  have hGe : ∀ k ∈ G, W.heap.size ≤ k ∧ ∃ cur, w.heap[k]? = some (.cells cur 144 (0, 0)) := fun k hk => by
    rw [hG, Option.mem_toList] at hk
    exact own_blk h.own hk
  have hgG : g ∉ G := fun hk => by
    obtain ⟨_, cur, hc⟩ := hGe g hk
    have hc' : Cel w g 144 cur.toList := by show w.heap[g]? = _; rw [hc]
    exact absurd (h.cel.ty hc') (by decide)
  have hrG : ∀ k ∈ r.all, k ∉ G := fun k hk hm => by
    obtain ⟨_, cur, hc⟩ := hGe k hm
    exact off_cells h.mem hc (by decide) hk
  have hcel := h.cel.but hbt hgG
  have hb1 : ButL [g] w' (w'.setCell ⟨g, 1, none⟩ v') := .setCell _ _ _ _ (by simp)
  have hmem := h.mem.frame hbt hrG
  refine ⟨⟨own_but h2 hb1 (fun k cur hc _ => ?_), hcel.setCell 1 v', h.hg, hmem.frame hb1 (fun k hk hm => ?_), (h.but.trans_sub hbt (fun k hk => .inr (hGe k hk).1)).trans_sub hb1 (fun k hk => ?_), h.sub⟩, hcel.cell 1, hcel.free 1⟩
  · intro hm
    rw [List.mem_singleton] at hm
    subst hm
    have hc' : Cel w' k 144 cur.toList := by show w'.heap[k]? = _; rw [hc]
    exact absurd (hcel.ty hc') (by decide)
  · rw [List.mem_singleton] at hm
    subst hm
    exact hmem.off hcel (by decide) hk
  · rw [List.mem_singleton] at hk
    subst hk
    exact .inr h.hg
theorem RN.done {W w : World} {r0 r : Rf} {g : Nat} {v : Value} {E : List En} {b : Int} {m : MS} (h : RN W w r0 g v r E b m) (hn : 0 < m.ns) (hl : E.length = m.ns) (hk : DS.Ok ⟨m, b, E⟩) :
    ∃ ge cap, RDB w ⟨g, ge, cap, r⟩ ⟨m, b, E⟩ ∧ W.heap.size ≤ ge := by
  rcases h.own.2 with ⟨hv, h0⟩ | ⟨ge, cap, cur, hv, hB, hg, hle, hm, hsz, ht⟩
  · omega
  · refine ⟨ge, cap, ⟨h.mem, ?_, ⟨cur.toList.drop (E.length * 5), ?_⟩, hk⟩, hB⟩
    · have := h.cel
      rw [hv, hl] at this
      exact this
    · show w.heap[ge]? = _
      rw [hg]
      show some (Obj.cells cur 144 (0, 0)) = some (.cells (ecs E ++ cur.toList.drop (E.length * 5)).toArray 144 (0, 0))
      rw [← ht, List.take_append_drop]
set_option maxHeartbeats 4000000
set_option maxRecDepth 100000
theorem rsecure_g (w : World) (r : Rf) (m : MS) (h : RMem w r m) (g : Nat) (hg : r.g = g) : Calls Tryz.prog 119 #[.pointer (some ⟨g, 0, none⟩)] w fun x w' => x = .returned (.int .i64 (m.ns : Int)) ∧ w' = w := by
  subst hg
  exact rsecure_any w r m h
theorem rzero_g (w : World) (r : Rf) (m : MS) (h : RMem w r m) (g : Nat) (hg : r.g = g) (s : Bool) (p : Int) : Calls Tryz.prog 120 #[.pointer (some ⟨g, 0, none⟩), fr s p] w fun x w' => x = .returned (.int .i64 (m.perr s p)) ∧ ∃ r', RSt w w' r r' (m.zero s p) := by
  subst hg
  exact rzero_any w r m h s p
theorem own_form5 {w : World} {B : Nat} {v : Value} {n : Nat} {L : List Value} (h : w.ownsRow B 144 5 v n L) : ∃ ao c, v = .slice ao n c := by
  rcases h.2 with ⟨hv, h0⟩ | ⟨g, cap, cur, hv, r⟩
  · exact ⟨none, 0, by rw [hv, h0]⟩
  · exact ⟨_, cap, hv⟩
structure NewD (W w : World) (r : Rf) (p : Rp) (d : DS) : Prop where
  db : RDB w p d
  g : W.heap.size ≤ p.g
  ge : W.heap.size ≤ p.ge
  rg : p.r.g = r.g
  but : ButL r.all W w
  sub : ∀ k ∈ p.r.all, k ∈ r.all ∨ W.heap.size ≤ k
theorem rnewDB_any (W : World) (r : Rf) (m : MS) (h : RMem W r m) (h64 : m.ns ≤ 64) (h0 : 0 < m.ns) :
    Calls Tryz.prog 75 #[ptr r.g] W fun e W' => ∃ p, e = .returned (ptr p.g) ∧ NewD W W' r p (DS.fresh m) := by
  have HS0 : Hid (RN W (W.alloc (.cells #[.pointer (some ⟨r.g, 0, none⟩), .slice none 0 0, .int .i64 0] 150)) r W.heap.size (.slice none 0 0) r [] 0 m) := hid
    ⟨World.ownsRow_nil _ _ _ _, Cel.new W 150 [.pointer (some ⟨r.g, 0, none⟩), .slice none 0 0, .int .i64 0], Nat.le_refl _, h.on (below_one _ _), .of (below_one _ _), fun k hk => .inl hk⟩
  have HN : Hid (m.ns ≤ 64) := hid h64
  have HZ0 : Hid (0 < m.ns) := hid h0
  have HZN : Hid (∀ k, (m.zall k).ns = m.ns) := hid (fun k => m.zall_ns k)
  have HFr := hid (fun w (p : Int) => rframe_any w p)
  clear h h64 h0
  simp only [ptr] at *
  go_enter Tryz.func75, Tryz.ntmps75
  go_wp2_with fail
  generalize W.alloc _ = X at *
  have HG : Hid (W.heap.size = W.heap.size) := hid rfl
  generalize hg : W.heap.size = g at *
  have HGG := hid hg
  clear hg HG
  go_loopw [4] (fun i wr => ∃ (j : Nat) (v : Value) (r' : Rf), j ≤ m.ns ∧ i = .int .i64 (j : Int) ∧ Hid (RN W wr r g v r' (List.replicate j En.zero) 0 (m.zall j) ∧ r'.g = r.g)) (fun i _ => m.ns - (intOf i).toNat)
  case atStart => exact ⟨0, _, r, Nat.zero_le _, rfl, hid ⟨HS0.out, rfl⟩⟩
  case round =>
    obtain ⟨j, v, r', hj, rfl, HQ⟩ := hrel
    clear HS0
    have HSc := hid (rsecure_g _ _ _ HQ.out.1.mem r.g HQ.out.2)
    rw [HZN.out] at HSc
    by_cases hlt : j < m.ns
    · have q1 : (j : Int) < (m.ns : Int) := by omega
      have HJ := hid hlt
      have hn64 := HN.out
      have j64 : (j : Int) ≤ 64 := by omega
      have j1000 : (List.replicate j En.zero).length ≤ 1000 := by rw [List.length_replicate]; omega
      have HR : Hid (List.replicate j En.zero ++ [En.zero] = List.replicate (j + 1) En.zero) := hid (by rw [List.replicate_succ'])
      have HM : Hid ((m.zall j).zero true (j : Int) = m.zall (j + 1)) := hid rfl
      clear hn64 hlt hj
      obtain ⟨m2, hm2⟩ : ∃ m2, m2 = m.zall (j + 1) := ⟨_, rfl⟩
      obtain ⟨E2, hE2⟩ : ∃ E2, E2 = List.replicate (j + 1) En.zero := ⟨_, rfl⟩
      rw [← hm2] at HM
      rw [← hE2] at HR
      have HME := hid (And.intro hm2 hE2)
      clear hm2 hE2
      generalize m.zall j = m1 at *
      generalize List.replicate j En.zero = E1 at *
      go_upto_region 8 with (first | (go_at_call 119; refine HSc.out.mono ?_; rintro e w0 ⟨rfl, rfl⟩) | (go_at_call 121; refine (HFr.out _ _).mono ?_; rintro e w1 ⟨rfl, hb⟩; have HQ1 := hid (And.intro (HQ.out.1.on hb) HQ.out.2); clear hb) | (go_at_call 120; refine (rzero_g _ _ _ HQ1.out.1.mem r.g HQ1.out.2 true (j : Int)).mono ?_; rintro e w2 ⟨rfl, r2, hs⟩; have HQ2 := hid (And.intro (HQ1.out.1.st hs) (hs.g.trans HQ1.out.2)); clear hs))
      rw [HM.out] at HQ2
      have y0 := HQ2.out.1.cel.cell 1
      simp only [tqG, tqH] at y0
      have HQ3 := hid (HQ2.out.1.on (below_one w2 (.cells En.zero.cs.toArray 144)))
      have HGR := hid HQ2.out.2
      have hfm := own_form5 HQ2.out.1.own
      obtain ⟨ao, cc, rfl⟩ := hfm
      have HBB := hid HQ3.out.but.size
      clear HQ2
      go_wp2_with (first | (refine wpList_build_zR rfl rfl ?_) | (at_builtin; refine wpList_append_e (B := W.heap.size) rfl _ _ rfl (.slice ao E1.length cc) E1 rfl HQ3.out.own HBB.out ⟨w2.heap.size, 0, none⟩ 1 En.zero rfl (Cel.new w2 144 En.zero.cs).src j1000 ?_; intro v' w3 h3 hgr; rw [HR.out] at h3; obtain ⟨ao9, cc9, rfl⟩ := own_form5 h3; obtain ⟨hq4, y1, y2⟩ := HQ3.out.snoc h3 hgr; have HQ4 := hid hq4; clear hq4 h3 hgr))
      go_roundw
      case measure => have := HJ.out; simp [intOf] <;> omega
      case rel => exact ⟨j + 1, _, _, HJ.out, by simp, hid ⟨by rw [← HME.out.1, ← HME.out.2]; exact HQ4.out, HGR.out⟩⟩
    · have hjn : j = m.ns := by omega
      subst hjn
      go_wp2_with (go_at_call 119; refine HSc.out.mono ?_; rintro e w0 ⟨rfl, rfl⟩)
      go_ret
      obtain ⟨ge, cap, hdb, hge⟩ := HQ.out.1.done (by rw [HZN.out]; exact HZ0.out) (by rw [HZN.out, List.length_replicate]) (zed_ok m m.ns HN.out)
      exact ⟨⟨g, ge, cap, r'⟩, rfl, hdb, HQ.out.1.hg, hge, HQ.out.2, HQ.out.1.but, HQ.out.1.sub⟩
set_option maxRecDepth 100000
set_option maxHeartbeats 4000000
structure OD (W0 w : World) (p : Dp) (d : DS) : Prop where
  db : DB w p d
  bl : Below W0.heap.size W0 w
  own : ∀ k ∈ p.all, W0.heap.size ≤ k
theorem OD.on {W0 w w' : World} {p : Dp} {d : DS} (h : OD W0 w p d) (hb : Below w.heap.size w w') : OD W0 w' p d := ⟨h.db.on hb, below_on h.bl hb, h.own⟩
theorem OD.step {W0 w w' : World} {p : Dp} {d d' : DS} (h : OD W0 w p d) (hd : DB w' p d') (hb : ButL p.w w w') : OD W0 w' p d' := ⟨hd, h.bl.trans (hb.below (fun k hk => h.own k (p.w_all' k hk)) h.bl.size), h.own⟩
theorem OD.stepf {W0 w w' : World} {p : Dp} {d d' : DS} (h : OD W0 w p d) (hd : DB w' p d') (hb : ButL p.f.w w w') : OD W0 w' p d' := h.step hd (hb.mono p.fw_w)
theorem OD.gl {W0 w : World} {p : Dp} {d : DS} (h : OD W0 w p d) (hT : H.Tab W0) (hs : 1 < W0.heap.size) : Gl w p :=
  ⟨hT.below (h.bl.mono (show 2 ≤ W0.heap.size by omega)) (by decide), by have := h.bl.size; omega, fun k hk => by have := h.own k hk; omega⟩
theorem size77 : (Tryz.prog.info? 77).map (·.size) = some 2 := by kernel_rfl
theorem under77 : Tryz.prog.underlying 77 = some (.struct (Tryz.prog.fieldsOf 77)) := by kernel_rfl
theorem built77 (g r : Nat) : Tryz.prog.built 77 [(0, .pointer (some ⟨g, 0, none⟩)), (1, .pointer (some ⟨r, 0, none⟩))] = some #[.pointer (some ⟨g, 0, none⟩), .pointer (some ⟨r, 0, none⟩)] := by kernel_rfl
structure F5 (W w : World) (g2 : Nat) (p : Dp) (d : DS) : Prop where
  o : OD W w p d
  c : Cel w g2 77 [.pointer none, .pointer none]
  off : g2 ∉ p.all
theorem F5.on {W w w' : World} {g2 : Nat} {p : Dp} {d : DS} (h : F5 W w g2 p d) (hb : Below w.heap.size w w') : F5 W w' g2 p d := ⟨h.o.on hb, h.c.on hb, h.off⟩
theorem f5_new (W X w1 w2 w : World) (f : Fp) (m : MS) (r : Rf) (g2 : Nat) (hX : Below W.heap.size W X) (hc : Cel X g2 77 [.pointer none, .pointer none]) (h1 : NewMem X w1 f m) (h2 : NewR w1 w2 r m) (hw : Below w2.heap.size w2 w) (h64 : m.ns ≤ 64) :
    Calls Tryz.prog 14 #[ptr f.gm] w fun e w' => ∃ g gw, e = .returned (ptr g) ∧ F5 W w' g2 ⟨g, gw, f⟩ (DS.fresh m) ∧ RMem w' r m ∧ (∀ k ∈ r.all, k ∉ (⟨g, gw, f⟩ : Dp).all) ∧ (∀ k ∈ r.all, g2 ≠ k) ∧ (∀ k ∈ r.all, W.heap.size ≤ k) := by
  have hm : Mem w f m := (h1.mem.on h2.below).on hw
  have hfl : ∀ k ∈ f.all, k < w1.heap.size := h1.mem.lt
  have hrl : ∀ k ∈ r.all, w1.heap.size ≤ k := h2.new
  have hrm : RMem w r m := h2.mem.on hw
  refine (newDB_any w f m hm h64).mono fun e w' ⟨g, gw, he, hd, g1, g2', hb⟩ => ?_
  have hr2 : ∀ k ∈ r.all, k < w.heap.size := hrm.lt
  have hgX : g2 < X.heap.size := hc.lt
  have hX1 := h1.below.size
  have hfX : ∀ k ∈ f.all, X.heap.size ≤ k := h1.new
  have hwW : Below W.heap.size W w := below_on (below_on (below_on hX h1.below) h2.below) hw
  refine ⟨g, gw, he, ⟨⟨hd, hwW.trans (hb.below (fun k hk => by have := hfX k (Fp.w_all hk); have := hX.size; omega) hwW.size), fun k hk => ?_⟩, ?_, fun hk => ?_⟩, ?_, fun k hk hm => ?_, fun k hk e => ?_, fun k hk => ?_⟩
  · have h3 := hX.size
    have h4 := hwW.size
    simp only [Dp.all, List.mem_cons] at hk
    rcases hk with rfl | rfl | hk
    · omega
    · omega
    · have := hfX k hk; omega
  · exact (((hc.on h1.below).on h2.below).on hw).but hb (fun hk => by have := hfX g2 (Fp.w_all hk); omega)
  · have h4 := h2.below.size
    have h5 := hw.size
    simp only [Dp.all, List.mem_cons] at hk
    rcases hk with hk | hk | hk
    · omega
    · omega
    · have := hfX g2 hk; omega
  · exact hrm.frame hb (fun k hk hm => by have := hfl k (Fp.w_all hm); have := hrl k hk; omega)
  · have h6 := hr2 k hk
    simp only [Dp.all, List.mem_cons] at hm
    rcases hm with hm | hm | hm
    · omega
    · omega
    · have := hfl k hm; have := hrl k hk; omega
  · have := hrl k hk; omega
  · have := hrl k hk; have := hX.size; omega
theorem fresh3_any (W : World) : Calls Tryz.prog 35 #[.int .i64 3] W fun e W' => ∃ (p : Dp) (r : Nat), e = .returned (.tuple #[.agg #[ptr p.g, ptr r], .bool true]) ∧ OD W W' p (DS.fresh (MS.new 3 1)) := by
  have C0 := hid (Cel.new W 77 [.pointer none, .pointer none])
  have B0 := hid (below_one W (.cells #[.pointer none, .pointer none] 77))
  have HN := hid (fun w => new_any w 3 1 (by decide) (by decide) (by decide) (by decide))
  have HR := hid (fun w => rnew_any w 3 1 (by decide) (by decide) (by decide) (by decide))
  have HD := hid (fun X w1 w2 w f r g2 hX hc h1 h2 hw => f5_new W X w1 w2 w f (MS.new 3 1) r g2 hX hc h1 h2 hw (by decide))
  have HQ := hid (fun w r (h : RMem w r (MS.new 3 1)) => rnewDB_any w r (MS.new 3 1) h (by decide) (by decide))
  generalize DS.fresh (MS.new 3 1) = D0 at *
  generalize MS.new 3 1 = M at *
  simp only [ptr] at *
  go_enter Tryz.func35, Tryz.ntmps35
  go_upto_region 1 with fail
  generalize World.alloc _ _ = X at *
  have HG : Hid (W.heap.size ≤ W.heap.size) := hid (Nat.le_refl _)
  generalize hg : W.heap.size = g2 at C0 ⊢
  have HG : Hid (W.heap.size ≤ g2) := hid (Nat.le_of_eq hg)
  clear hg
  go_upto_region 6 with (first | (go_at_call 13; refine (HN.out _).mono ?_; rintro e w1 ⟨f, rfl, hn⟩; have N1 := hid hn; clear hn HN) | (go_at_call 74; refine (HR.out _).mono ?_; rintro e w2 ⟨r, rfl, hn⟩; have N2 := hid hn; clear hn HR) | (go_at_call 14; refine (HD.out _ _ _ _ _ _ _ B0.out C0.out N1.out N2.out (Below.refl _ _)).mono ?_; rintro e w3 ⟨g, gw, rfl, h5, hrm, ha, hb, hc⟩; have F3 := hid h5; have R3 := hid (And.intro hrm (And.intro ha (And.intro hb hc))); clear h5 hrm ha hb hc HD N1 N2 C0 B0) | (go_at_call 75; refine (HQ.out _ _ R3.out.1).mono ?_; rintro e w4 ⟨rp, rfl, hn⟩; have F4 : Hid (F5 W w4 g2 ⟨g, gw, f⟩ D0) := hid ⟨⟨F3.out.o.db.frame hn.but (fun k hk hm => R3.out.2.1 k hm hk), F3.out.o.bl.trans (hn.but.below (fun k hk => R3.out.2.2.2 k hk) F3.out.o.bl.size), F3.out.o.own⟩, F3.out.c.but hn.but (fun hm => R3.out.2.2.1 _ hm rfl), F3.out.off⟩; clear hn HQ R3 F3) | (refine wpList_build_f rfl 77 _ rfl _ rfl _ (built77 g rp.g) ?_) | (refine wpList_store_st rfl 77 _ _ rfl w4.heap.size [.pointer (some ⟨g, 0, none⟩), .pointer (some ⟨rp.g, 0, none⟩)] rfl rfl (Cel.new w4 77 [.pointer none, .pointer none]) size77 rfl rfl ?_; intro w5 hc hb hs; have F6 : Hid (F5 W w5 g2 ⟨g, gw, f⟩ D0 ∧ Cel w5 w4.heap.size 77 [.pointer (some ⟨g, 0, none⟩), .pointer (some ⟨rp.g, 0, none⟩)] ∧ g2 < w4.heap.size) := hid ⟨F4.out.on ((below_one w4 _).trans (hb.below (by simp) (by simp))), hc, F4.out.c.lt⟩; clear hc hb hs F4))
  generalize w4.heap.size = g8 at *
  have E1 := hid (And.intro (F6.out.1.on (Below.refl _ _).drew) (And.intro (F6.out.2.1.on (Below.refl _ _).drew) F6.out.2.2))
  clear F6
  refine wp_region_held_drew (S := fun w => Cel w g8 77 [.pointer (some ⟨g, 0, none⟩), .pointer (some ⟨rp.g, 0, none⟩)]) (by kernel_rfl) E1.out.2.1 (fun hHeld => ?_)
  generalize World.drew _ = w6 at *
  refine tk 0 (some 27) (.agg #[.pointer (some ⟨g, 0, none⟩), .pointer (some ⟨rp.g, 0, none⟩)]) ?_ (hy := yieldsIf_load_mid (by rfl) _ _ rfl _ _ rfl _ _ (fun w hSw => hSw.range) under77 rfl (by rw [size77]; rfl))
  simp only [Act.put, tqA, tqZ, tqS]
  refine tk 1 (some 28) (.pointer (some ⟨g8, 0, none⟩)) ?_
  simp only [Act.put, tqA, tqZ, tqS]
  refine tk 2 (some 29) (.pointer (some ⟨g, 0, none⟩)) ?_ (hy := Or.inl ⟨by rfl, by intro w hSw; have hc : w.cell? ⟨g8, 0, none⟩ = some (.pointer (some ⟨g, 0, none⟩)) := hSw.cell 0; go_simp⟩)
  simp only [Act.put, tqA, tqZ, tqS]
  refine tk 3 (some 30) (.bool true) ?_
  simp only [Act.put, tqA, tqZ, tqS]
  refine wpAnyH_ready (rs := [4]) (by kernel_rfl) (by simp) (AllReadyH.cons rfl (fun KQ hK => ?_) AllReadyH.nil)
  rw [if_pos (by rfl)]
  refine wp_store_st 77 _ _ rfl g2 [.pointer (some ⟨g, 0, none⟩), .pointer (some ⟨rp.g, 0, none⟩)] rfl rfl E1.out.1.c size77 rfl rfl ?_
  intro w7 hc hb hs
  have E2 : Hid (Cel w7 g2 77 [.pointer (some ⟨g, 0, none⟩), .pointer (some ⟨rp.g, 0, none⟩)] ∧ OD W w7 ⟨g, gw, f⟩ D0) := hid ⟨hc, E1.out.1.o.db.frame hb (fun k hk hm => E1.out.1.off (by simp only [List.mem_singleton] at hm; rw [← hm]; exact hk)), E1.out.1.o.bl.trans (hb.below (by simp only [List.mem_singleton, forall_eq]; exact HG.out) E1.out.1.o.bl.size), E1.out.1.o.own⟩
  have E3 := hid (E1.out.2.1.but hb (by simp only [List.mem_singleton]; have := E1.out.2.2; omega))
  clear hc hb hs E1
  refine hK.out _ _ E3.out (fun hHeld => ?_)
  clear hK KQ
  try simp only [Act.put]
  refine wpAnyH_ready (rs := [5]) (by kernel_rfl) (by simp) (AllReadyH.cons rfl (fun KQ hK => ?_) AllReadyH.nil)
  go_simp
  refine hK.out _ _ E3.out (fun hHeld => ?_)
  clear hK KQ
  try simp only [Act.put, tqA, tqZ, tqS]
  refine wpAnyH_done (by kernel_rfl) ?_ _
  go_wp2_with fail
  refine ret_st2 rfl rfl g2 _ rfl E2.out.1 under77 rfl size77 ⟨⟨g, gw, f⟩, rp.g, rfl, E2.out.2⟩
set_option maxRecDepth 100000
set_option maxHeartbeats 4000000
structure RO (W0 w : World) (p : Dp) (d : DS) (L : List (Nat × TypeId × List Value)) : Prop where
  o : OD W0 w p d
  bag : ∀ x ∈ L, Cel w x.1 x.2.1 x.2.2
  off : ∀ x ∈ L, x.1 ∉ p.all
theorem RO.start {W0 w : World} {p : Dp} {d : DS} (h : OD W0 w p d) : RO W0 w p d [] := ⟨h, by simp, by simp⟩
theorem RO.on {W0 w w' : World} {p : Dp} {d : DS} {L : List (Nat × TypeId × List Value)} (h : RO W0 w p d L) (hb : Below w.heap.size w w') : RO W0 w' p d L := ⟨h.o.on hb, fun x hx => (h.bag x hx).on hb, h.off⟩
theorem RO.get {W0 w : World} {p : Dp} {d : DS} {L : List (Nat × TypeId × List Value)} (h : RO W0 w p d L) (k : Nat) {g : Nat} {t : TypeId} {cs : List Value} (hk : L[k]? = some (g, t, cs)) : Cel w g t cs := h.bag _ (List.mem_of_getElem? hk)
theorem RO.new {W0 w : World} {p : Dp} {d : DS} {L : List (Nat × TypeId × List Value)} (h : RO W0 w p d L) (t : TypeId) (cs : List Value) : RO W0 (w.alloc (.cells cs.toArray t)) p d ((w.heap.size, t, cs) :: L) :=
  ⟨h.o.on (below_one w _), fun x hx => by
    rcases List.mem_cons.1 hx with rfl | hx
    · exact Cel.new w t cs
    · exact (h.bag x hx).on (below_one w _), fun x hx hm => by
    rcases List.mem_cons.1 hx with rfl | hx
    · exact absurd (h.o.db.lt _ hm) (Nat.lt_irrefl _)
    · exact h.off x hx hm⟩
theorem RO.step {W0 w w' : World} {p : Dp} {d d' : DS} {L : List (Nat × TypeId × List Value)} (h : RO W0 w p d L) (hd : DB w' p d') (hb : ButL p.w w w') : RO W0 w' p d' L :=
  ⟨h.o.step hd hb, fun x hx => (h.bag x hx).but hb (fun hm => h.off x hx (p.w_all' _ hm)), h.off⟩
theorem RO.box {W0 w w2 : World} {p : Dp} {d : DS} {u : TypeId} {ds es : List Value} (h : OD W0 w p d) (hc : Cel w2 w.heap.size u es) (hb : ButL [w.heap.size] (w.alloc (.cells ds.toArray u)) w2) : RO W0 w2 p d [(w.heap.size, u, es)] :=
  ⟨h.on ((below_one w _).trans (hb.below (by simp) (by simp))), fun x hx => by rw [List.mem_singleton] at hx; subst hx; exact hc, fun x hx hm => by rw [List.mem_singleton] at hx; subst hx; exact absurd (h.db.lt _ hm) (Nat.lt_irrefl _)⟩
theorem ent3 {d : DS} {x0 x1 x2 : En} (hn : d.m.ns = 3) (hE : d.E = [x0, x1, x2]) : d.ent 0 = x0 ∧ d.ent 1 = x1 ∧ d.ent 2 = x2 ∧ d.entE 0 = 0 ∧ d.entE 1 = 0 ∧ d.entE 2 = 0 ∧ d.there 0 = true ∧ d.there 1 = true ∧ d.there 2 = true := by
  unfold DS.entE DS.ent DS.there DS.at
  rw [hn, hE]
  exact ⟨rfl, rfl, rfl, rfl, rfl, rfl, rfl, rfl, rfl⟩
def k0 : DS := DS.fresh (MS.new 3 1)
def k1 : DS := k0.takeSpace 2 0
def k2 : DS := k1.stD 2
def k3 : DS := k2.rmD 0
def k4 : DS := k3.rmD 2
def enX (r s : Int) : En := ⟨1, 2, r, s, false⟩
theorem k0_f : k0.m.ns = 3 ∧ k0.E = [En.zero, En.zero, En.zero] := ⟨(MS.zall_ns _ _).trans rfl, rfl⟩
theorem k1_c : k0.bearE 2 0 = 0 := by
  obtain ⟨h1, h2, h3, h4, h5, h6, _⟩ := ent3 k0_f.1 k0_f.2
  unfold DS.bearE
  rw [h1, h3, h4, h6]
  rfl
theorem k1_f : k1.m.ns = 3 ∧ k1.E = [enF 2, En.zero, enX 1 1] := by
  unfold k1 DS.takeSpace
  rw [if_pos k1_c]
  refine ⟨?_, ?_⟩
  · unfold DS.space MS.born
    simp only [MS.write_ns]
    exact k0_f.1
  · show ((k0.E.set 0 (enF 2)).set 2 (enS 2)) = _
    rw [k0_f.2]
    rfl
theorem k1_r : k1.rmC 2 = 8 := by
  obtain ⟨_, _, h3, _⟩ := ent3 k1_f.1 k1_f.2
  unfold DS.rmC
  rw [k1_f.1, h3]
  rfl
theorem k1_rd : k1.rmD 2 = k1 := by unfold DS.rmD; rw [k1_r]; rfl
theorem k1_s : k1.saE 2 = 0 := by
  obtain ⟨_, _, h3, _⟩ := ent3 k1_f.1 k1_f.2
  unfold DS.saE
  rw [k1_f.1, h3]
  rfl
theorem k2_f : k2.m.ns = 3 ∧ k2.E = [enF 2, En.zero, enX 1 3] := by
  obtain ⟨_, _, h3, _, _, _, _, _, h9⟩ := ent3 k1_f.1 k1_f.2
  have hs : k1.stateE 2 3 = 0 := by
    unfold DS.stateE DS.typE
    rw [h3, h9]
    rfl
  unfold k2 DS.stD
  rw [if_pos k1_s]
  unfold DS.state
  rw [if_pos hs]
  unfold DS.stated
  rw [h3]
  refine ⟨k1_f.1, ?_⟩
  show k1.E.set 2 _ = _
  rw [k1_f.2]
  rfl
theorem k2_r : k2.rmC 0 = 0 := by
  obtain ⟨h1, _, h3, _⟩ := ent3 k2_f.1 k2_f.2
  have h3' : k2.ent (enF 2).o = enX 1 3 := h3
  unfold DS.rmC DS.rmT
  rw [k2_f.1, h1, h3']
  rfl
theorem k3_f : k3.m.ns = 3 ∧ k3.E = [En.zero, En.zero, enX 0 3] := by
  obtain ⟨h1, _, h3, h4, _⟩ := ent3 k2_f.1 k2_f.2
  have hg : k2.giveE 0 = 0 := by
    unfold DS.giveE
    rw [h1, h4]
    rfl
  unfold k3 DS.rmD
  rw [if_pos k2_r]
  unfold DS.give
  rw [if_pos hg]
  have hfE : (k2.freed 0).E = [En.zero, En.zero, enX 1 3] := by
    show k2.E.set 0 En.zero = _
    rw [k2_f.2]
    rfl
  have hfn : (k2.freed 0).m.ns = 3 := (MS.zero_ns _ _ _).trans k2_f.1
  have ha : (k2.freed 0).at 2 = enX 1 3 := by unfold DS.at; rw [hfE]; rfl
  unfold DS.given
  rw [h1]
  rw [if_pos (show (enF 2).t ≠ 1 ∧ 0 < ((k2.freed 0).at (enF 2).o.toNat).r from ⟨by decide, by show 0 < ((k2.freed 0).at 2).r; rw [ha]; decide⟩)]
  refine ⟨hfn, ?_⟩
  show (k2.freed 0).E.set 2 { (k2.freed 0).at 2 with r := ((k2.freed 0).at 2).r + (-1) } = _
  rw [hfE, ha]
  rfl
theorem k3_r : k3.rmC 2 = 0 := by
  obtain ⟨_, _, h3, _⟩ := ent3 k3_f.1 k3_f.2
  unfold DS.rmC
  rw [k3_f.1, h3]
  rfl
theorem k4_f : k4.m.ns = 3 ∧ k4.E = [En.zero, En.zero, En.zero] := by
  obtain ⟨_, _, h3, _, _, h6, _⟩ := ent3 k3_f.1 k3_f.2
  have hg : k3.giveE 2 = 0 := by
    unfold DS.giveE
    rw [h3, h6]
    rfl
  unfold k4 DS.rmD
  rw [if_pos k3_r]
  unfold DS.give
  rw [if_pos hg]
  unfold DS.given
  rw [h3, if_neg (fun h => h.1 rfl)]
  refine ⟨(MS.zero_ns _ _ _).trans k3_f.1, ?_⟩
  show k3.E.set 2 En.zero = _
  rw [k3_f.2]
  rfl
theorem k4_s : k4.fiC 1 = 3 ∧ k4.fiD 1 = k4 := by
  obtain ⟨_, h2, _⟩ := ent3 k4_f.1 k4_f.2
  have hs : k4.saE 1 = 3 := by
    unfold DS.saE
    rw [k4_f.1, h2]
    rfl
  have hc : k4.fiC 1 = 3 := by unfold DS.fiC; rw [hs]; rfl
  exact ⟨hc, by unfold DS.fiD; rw [hc]; rfl⟩
theorem k0_U : k0.m.U := zall_U (MS.U.new 3 1) _
theorem k0_ok : k0.Ok := zed_ok _ _ (by decide)
theorem k4_U : k4.m.U := by
  have h1 : k1.m.U := (fit_space k0_ok 2 0 (by decide) (by decide)).U k0_U
  have h2 : k2.m.U := by unfold k2 DS.stD; rw [if_pos k1_s]; exact (fit_state k1 2 3).U h1
  have h3 : k3.m.U := by unfold k3 DS.rmD; rw [if_pos k2_r]; exact (fit_give k2 0).U h2
  unfold k4 DS.rmD
  rw [if_pos k3_r]
  exact (fit_give k3 2).U h3
theorem kTake (W0 w : World) (p : Dp) (L : List (Nat × TypeId × List Value)) (h : RO W0 w p k0 L) : Calls Tryz.prog 15 #[ptr p.g, .int .i64 2, .int .i64 0] w fun e w' => e = .returned (.int .i64 0) ∧ RO W0 w' p k1 L :=
  (takeSpace_any w p k0 h.o.db 2 0).mono fun e w' ⟨he, hd, hb⟩ => ⟨by rw [k1_c] at he; exact he, h.step hd hb⟩
theorem kRm1 (W0 w : World) (p : Dp) (L : List (Nat × TypeId × List Value)) (h : RO W0 w p k1 L) : Calls Tryz.prog 29 #[ptr p.g, .int .u32 2] w fun e w' => e = .returned (.int .u32 8) ∧ RO W0 w' p k1 L :=
  (remove_any w p k1 h.o.db 2 (by decide)).mono fun e w' ⟨he, hd, hb⟩ => ⟨by rw [k1_r] at he; exact he, h.step (by rw [k1_rd] at hd; exact hd) hb⟩
theorem kSt (W0 w : World) (p : Dp) (L : List (Nat × TypeId × List Value)) (h : RO W0 w p k1 L) : Calls Tryz.prog 22 #[ptr p.g, .int .u32 2] w fun e w' => e = .returned (.int .u32 0) ∧ RO W0 w' p k2 L :=
  (stop_any w p k1 h.o.db 2 (by decide) (by decide)).mono fun e w' ⟨he, hd, hb⟩ => ⟨by rw [k1_s] at he; exact he, h.step hd hb⟩
theorem kRm2 (W0 w : World) (p : Dp) (L : List (Nat × TypeId × List Value)) (h : RO W0 w p k2 L) : Calls Tryz.prog 29 #[ptr p.g, .int .u32 0] w fun e w' => e = .returned (.int .u32 0) ∧ RO W0 w' p k3 L :=
  (remove_any w p k2 h.o.db 0 (by decide)).mono fun e w' ⟨he, hd, hb⟩ => ⟨by rw [k2_r] at he; exact he, h.step hd hb⟩
theorem kRm3 (W0 w : World) (p : Dp) (L : List (Nat × TypeId × List Value)) (h : RO W0 w p k3 L) : Calls Tryz.prog 29 #[ptr p.g, .int .u32 2] w fun e w' => e = .returned (.int .u32 0) ∧ RO W0 w' p k4 L :=
  (remove_any w p k3 h.o.db 2 (by decide)).mono fun e w' ⟨he, hd, hb⟩ => ⟨by rw [k3_r] at he; exact he, h.step hd hb⟩
theorem kFi (W0 w : World) (hT : H.Tab W0) (hs : 1 < W0.heap.size) (p : Dp) (L : List (Nat × TypeId × List Value)) (h : RO W0 w p k4 L) : Calls Tryz.prog 23 #[ptr p.g, .int .u32 1] w fun e w' => e = .returned (.int .u32 3) ∧ Below W0.heap.size W0 w' :=
  (final_any w p k4 h.o.db k4_U (h.o.gl hT hs) 1 (by decide) (by decide)).mono fun e w' ⟨d', he, _, hd, hb⟩ => ⟨by rw [k4_s.1] at he; exact he, (h.step hd hb).o.bl⟩
theorem kFr (W0 w : World) (p : Dp) (L : List (Nat × TypeId × List Value)) (h : RO W0 w p k4 L) : Calls Tryz.prog 32 #[ptr p.g] w fun e w' => e = .returned (.int .i64 3) ∧ RO W0 w' p k4 L :=
  (free_any w p k4 h.o.db).mono fun e w' ⟨he, hb⟩ => ⟨by rw [he]; congr 2, h.on hb⟩
theorem known_any (W : World) (hT : H.Tab W) (hs : 1 < W.heap.size) : Calls Tryz.prog 12 #[] W fun e W' => e = .returned (.bool true) ∧ Below W.heap.size W W' := by
  have HF := hid (fun w => fresh3_any w)
  have HFr : Hid (∀ w w' p d, Below W.heap.size W w → OD w w' p d → OD W w' p d) := hid (fun w w' p d hb h => ⟨h.db, below_on hb h.bl, fun k hk => Nat.le_trans hb.size (h.own k hk)⟩)
  have H1 := hid (fun w p L h => kTake W w p L h)
  have H2 := hid (fun w p L h => kRm1 W w p L h)
  have H3 := hid (fun w p L h => kSt W w p L h)
  have H4 := hid (fun w p L h => kRm2 W w p L h)
  have H5 := hid (fun w p L h => kRm3 W w p L h)
  have H6 := hid (fun w p L h => kFr W w p L h)
  have H7 := hid (fun w p L h => kFi W w hT hs p L h)
  clear hT hs
  change Hid (∀ w, Calls Tryz.prog 35 #[.int .i64 3] w fun e W' => ∃ (p : Dp) (r : Nat), e = .returned (.tuple #[.agg #[ptr p.g, ptr r], .bool true]) ∧ OD w W' p k0) at HF
  simp only [ptr] at *
  go_enter Tryz.func12, Tryz.ntmps12
  go_upto_region 2 with (first | (go_at_call 35; refine (HF.out _).mono ?_; rintro e w1 ⟨p, r, rfl, hO⟩; have O1 := hid (HFr.out _ _ _ _ (Below.refl _ _) hO); clear hO HF) | (refine wpList_store_st rfl 77 _ _ rfl w1.heap.size [.pointer (some ⟨p.g, 0, none⟩), .pointer (some ⟨r, 0, none⟩)] rfl rfl (Cel.new w1 77 [.pointer none, .pointer none]) size77 rfl rfl ?_; intro w2 hc hb hs; have R1 := hid (RO.box O1.out hc hb); clear hc hb hs O1))
  generalize w1.heap.size = gb at *
  have c1 := (R1.out.get 0 rfl).cell 0
  simp only [tqG] at c1
  go_upto_region 5 with (first | (go_at_call 15; refine (H1.out _ _ _ R1.out).mono ?_; rintro e u1 ⟨rfl, hR⟩; have R2 := hid hR; clear hR c1 H1))
  clear R1
  have c2 := (R2.out.get 0 rfl).cell 0
  simp only [tqG] at c2
  go_upto_region 6 with (first | (go_at_call 29; refine (H2.out _ _ _ R2.out).mono ?_; rintro e u2 ⟨rfl, hR⟩; have R3 := hid hR; clear hR c2 H2))
  clear R2
  have c3 := (R3.out.get 0 rfl).cell 0
  simp only [tqG] at c3
  go_upto_region 7 with (first | (go_at_call 22; refine (H3.out _ _ _ R3.out).mono ?_; rintro e u3 ⟨rfl, hR⟩; have R4 := hid hR; clear hR c3 H3))
  clear R3
  have c4 := (R4.out.get 0 rfl).cell 0
  simp only [tqG] at c4
  go_upto_region 8 with (first | (go_at_call 29; refine (H4.out _ _ _ R4.out).mono ?_; rintro e u4 ⟨rfl, hR⟩; have R5 := hid hR; clear hR c4 H4))
  clear R4
  have c5 := (R5.out.get 0 rfl).cell 0
  simp only [tqG] at c5
  go_upto_region 9 with (first | (go_at_call 29; refine (H5.out _ _ _ R5.out).mono ?_; rintro e u5 ⟨rfl, hR⟩; have R6 := hid hR; clear hR c5 H5))
  clear R5
  have c6 := (R6.out.get 0 rfl).cell 0
  simp only [tqG] at c6
  go_wp2_with (first | (go_at_call 32; refine (H6.out _ _ _ R6.out).mono ?_; rintro e u6 ⟨rfl, hR⟩; have R7 := hid hR; have c7 := (R7.out.get 0 rfl).cell 0; simp only [tqG] at c7; clear hR c6 H6) | (go_at_call 23; refine (H7.out _ _ _ R7.out).mono ?_; rintro e u7 ⟨rfl, hB⟩; have BZ := hid hB; clear hB))
  go_returns
  exact ⟨rfl, BZ.out⟩
end Go.Proofs.YtdfnbcbnmiohnaaGreatDoor
