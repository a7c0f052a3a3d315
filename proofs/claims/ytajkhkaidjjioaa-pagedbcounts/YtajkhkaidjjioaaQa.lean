/- Counts, as plain numbers: what every call keeps. -/
import Derived.Test.YtajkhkaidjjioaaPc
namespace Go.Proofs.Ytajkhkaidjjioaa
open Go.RowKit
theorem cntN_ext {f g : Nat → Bool} {n : Nat} (h : ∀ k, k < n → f k = g k) : cntN f n = cntN g n := by
  induction n with
  | zero => rfl
  | succ n ih => rw [cntN, cntN, ih (fun k hk => h k (by omega)), h n (by omega)]
theorem cntN_one {f g : Nat → Bool} {n k : Nat} (hk : k < n) (h : ∀ j, j < n → j ≠ k → f j = g j) : cntN f n + (if g k = true then 1 else 0) = cntN g n + (if f k = true then 1 else 0) := by
  induction n with
  | zero => omega
  | succ n ih =>
    by_cases e : k = n
    · subst e
      rw [cntN, cntN, cntN_ext (fun j hj => h j (by omega) (by omega))]
      omega
    · have := ih (by omega) (fun j hj hne => h j (by omega) hne)
      rw [cntN, cntN, h n (by omega) (fun e' => e e'.symm)]
      omega
theorem cntN_none {f : Nat → Bool} {n : Nat} (h : ∀ k, k < n → f k = false) : cntN f n = 0 := by
  induction n with
  | zero => rfl
  | succ n ih => rw [cntN, ih (fun k hk => h k (by omega)), h n (by omega)]; rfl
theorem cntN_zero {f : Nat → Bool} {n : Nat} (h : cntN f n = 0) : ∀ k, k < n → f k = false := by
  induction n with
  | zero => intro k hk; omega
  | succ n ih =>
    rw [cntN] at h
    intro k hk
    by_cases e : k = n
    · subst e
      cases hf : f k
      · rfl
      · rw [hf] at h; simp at h
    · exact ih (by omega) k (by omega)
theorem cntN_pos {f : Nat → Bool} {n k : Nat} (hk : k < n) (h : f k = true) : 0 < cntN f n := by
  rcases Nat.eq_zero_or_pos (cntN f n) with e | e
  · rw [cntN_zero e k hk] at h; cases h
  · exact e
theorem cntN_single {f : Nat → Bool} {n k : Nat} (hk : k < n) (h1 : f k = true) (h : ∀ j, j < n → j ≠ k → f j = false) : cntN f n = 1 := by
  have := cntN_one (f := f) (g := fun _ => false) hk h
  rw [cntN_none (f := fun _ => false) (fun _ _ => rfl), h1] at this
  simpa using this
theorem lstN_cnt (f : Nat → Bool) (n : Nat) : (lstN f n).length = cntN f n := by
  induction n with
  | zero => rfl
  | succ n ih => rw [lstN, cntN, List.length_append, ih]; split <;> simp
def upd (a : Nat → En) (k : Nat) (x : En) : Nat → En := fun j => if j = k then x else a j
theorem upd_self (a : Nat → En) (k : Nat) (x : En) : upd a k x k = x := if_pos rfl
theorem upd_ne (a : Nat → En) {k j : Nat} (x : En) (h : j ≠ k) : upd a k x j = a j := if_neg h
theorem lay_upd {d : DS} {k : Nat} (x : En) (hk : k < d.E.length) : (d.lay k x).at = upd d.at k x := by
  funext j; exact lay_at k j x hk
/-- Owners are spaces; a space is its own owner, and its references are counts. -/
structure InvF (a : Nat → En) (n : Nat) : Prop where
  sp : ∀ k, k < n → (a k).t ≠ 0 → 0 ≤ (a k).o ∧ (a k).o.toNat < n ∧ (a (a k).o.toNat).t = 1
  ow : ∀ k, k < n → (a k).t = 1 → (a k).o = (k : Int) ∧ (a k).r = (cntN (fun j => isO (k : Int) (j : Int) (a j)) n : Int)
theorem isO_iff (s k : Int) (x : En) : isO s k x = true ↔ k ≠ s ∧ x.o = s ∧ x.t ≠ 0 := by simp [isO]
theorem isO_f {s k : Int} {x : En} (h : ¬ (k ≠ s ∧ x.o = s ∧ x.t ≠ 0)) : isO s k x = false := by
  cases hh : isO s k x
  · rfl
  · exact absurd ((isO_iff _ _ _).1 hh) h
theorem isO_cg {s k : Int} {x y : En} (h1 : x.o = y.o) (h2 : x.t = y.t) : isO s k x = isO s k y := by unfold isO; rw [h1, h2]
theorem InvF.zero (n : Nat) : InvF (fun _ => En.zero) n := ⟨fun _ _ h => absurd rfl h, fun _ _ h => by cases h⟩
theorem InvF.space {a : Nat → En} {n s f : Nat} (h : InvF a n) (hs : s < n) (hf : f < n) (hne : s ≠ f) (ts : (a s).t = 0) (tf : (a f).t = 0) : InvF (upd (upd a f (enF (s : Int))) s (enS (s : Int))) n := by
  have hnone : ∀ j, j < n → (a j).t ≠ 0 → (a j).o ≠ (s : Int) := fun j hj ht e => by
    have := (h.sp j hj ht).2.2
    rw [e, Int.toNat_natCast, ts] at this
    cases this
  have hnonf : ∀ j, j < n → (a j).t ≠ 0 → (a j).o ≠ (f : Int) := fun j hj ht e => by
    have := (h.sp j hj ht).2.2
    rw [e, Int.toNat_natCast, tf] at this
    cases this
  refine ⟨fun k hk ht => ?_, fun k hk ht => ?_⟩
  · by_cases e1 : k = s
    · subst e1; rw [upd_self]; simp only [enS, Int.toNat_natCast]; rw [upd_self]; exact ⟨by omega, hk, rfl⟩
    · rw [upd_ne _ _ e1] at ht ⊢
      by_cases e2 : k = f
      · subst e2; rw [upd_self]; simp only [enF, Int.toNat_natCast]; rw [upd_self]; exact ⟨by omega, hs, rfl⟩
      · rw [upd_ne _ _ e2] at ht ⊢
        have h1 := h.sp k hk ht
        have h2 := hnone k hk ht
        have h3 := hnonf k hk ht
        rw [upd_ne _ _ (by omega), upd_ne _ _ (by omega)]
        exact h1
  · by_cases e1 : k = s
    · subst e1
      rw [upd_self]
      refine ⟨rfl, ?_⟩
      rw [cntN_single hf]
      · rfl
      · rw [isO_iff, upd_ne _ _ (Ne.symm hne), upd_self]; exact ⟨by omega, rfl, by simp [enF]⟩
      · intro j hj hjf
        refine isO_f ?_
        rintro ⟨h1, h2, h3⟩
        have e2 : j ≠ k := by omega
        rw [upd_ne _ _ e2, upd_ne _ _ hjf] at h2 h3
        exact hnone j hj h3 h2
    · rw [upd_ne _ _ e1] at ht ⊢
      by_cases e2 : k = f
      · subst e2; rw [upd_self] at ht; cases ht
      · rw [upd_ne _ _ e2] at ht ⊢
        obtain ⟨h1, h2⟩ := h.ow k hk ht
        refine ⟨h1, h2.trans ?_⟩
        congr 1
        refine cntN_ext fun j hj => ?_
        by_cases e3 : j = s
        · subst e3
          rw [upd_self, isO_f (by rw [ts]; simp), isO_f (by simp only [enS]; omega)]
        · rw [upd_ne _ _ e3]
          by_cases e4 : j = f
          · subst e4
            rw [upd_self, isO_f (by rw [tf]; simp), isO_f (by simp only [enF]; omega)]
          · rw [upd_ne _ _ e4]
theorem InvF.taken {a : Nat → En} {n q s : Nat} {t : Int} (h : InvF a n) (hq : q < n) (hs : s < n) (tq : (a q).t = 0) (ts : (a s).t = 1) (t0 : t ≠ 0) (t1 : t ≠ 1) : InvF (upd (upd a q (enT t (s : Int))) s { a s with r := (a s).r + 1 }) n := by
  have hne : s ≠ q := fun e => by rw [e, tq] at ts; cases ts
  have hso : (a s).o = (s : Int) := (h.ow s hs ts).1
  have hnonq : ∀ j, j < n → (a j).t ≠ 0 → (a j).o ≠ (q : Int) := fun j hj ht e => by
    have := (h.sp j hj ht).2.2
    rw [e, Int.toNat_natCast, tq] at this
    cases this
  refine ⟨fun k hk ht => ?_, fun k hk ht => ?_⟩
  · by_cases e1 : k = s
    · subst e1; rw [upd_self]; simp only [hso, Int.toNat_natCast]; rw [upd_self]; exact ⟨by omega, hk, ts⟩
    · rw [upd_ne _ _ e1] at ht ⊢
      by_cases e2 : k = q
      · subst e2; rw [upd_self]; simp only [enT, Int.toNat_natCast]; rw [upd_self]; exact ⟨by omega, hs, ts⟩
      · rw [upd_ne _ _ e2] at ht ⊢
        have h1 := h.sp k hk ht
        have h3 := hnonq k hk ht
        by_cases e3 : (a k).o.toNat = s
        · rw [e3, upd_self]; exact ⟨h1.1, hs, ts⟩
        · rw [upd_ne _ _ e3, upd_ne _ _ (by omega)]; exact h1
  · by_cases e1 : k = s
    · subst e1
      rw [upd_self]
      refine ⟨hso, ?_⟩
      have h2 := (h.ow k hs ts).2
      obtain ⟨A, hA⟩ : ∃ A, A = upd (upd a q (enT t (k : Int))) k { a k with r := (a k).r + 1 } := ⟨_, rfl⟩
      rw [← hA]
      have h3 := cntN_one (f := fun j => isO (k : Int) (j : Int) (A j)) (g := fun j => isO (k : Int) (j : Int) (a j)) (k := q) hq (fun j hj hjq => by
        by_cases e3 : j = k
        · subst e3; rw [isO_f (x := A j) (by simp), isO_f (x := a j) (by simp)]
        · rw [hA, upd_ne _ _ e3, upd_ne _ _ hjq])
      have h4 : isO (k : Int) (q : Int) (a q) = false := isO_f (by rw [tq]; simp)
      have h5 : isO (k : Int) (q : Int) (A q) = true := (isO_iff _ _ _).2 (by rw [hA, upd_ne _ _ (Ne.symm hne), upd_self]; exact ⟨by omega, rfl, t0⟩)
      rw [h4, h5] at h3
      simp only [Bool.false_eq_true, if_false, if_true] at h3
      clear hA
      show (a k).r + 1 = ((cntN (fun j => isO (k : Int) (j : Int) (A j)) n : Nat) : Int)
      omega
    · rw [upd_ne _ _ e1] at ht ⊢
      by_cases e2 : k = q
      · subst e2; rw [upd_self] at ht; exact absurd ht t1
      · rw [upd_ne _ _ e2] at ht ⊢
        obtain ⟨h1, h2⟩ := h.ow k hk ht
        refine ⟨h1, h2.trans ?_⟩
        congr 1
        refine cntN_ext fun j hj => ?_
        by_cases e3 : j = s
        · subst e3; rw [upd_self]; exact isO_cg rfl rfl
        · rw [upd_ne _ _ e3]
          by_cases e4 : j = q
          · subst e4
            rw [upd_self, isO_f (by rw [tq]; simp), isO_f (by simp only [enT]; omega)]
          · rw [upd_ne _ _ e4]
/-- An entry changes, but its owner and whether it is free or a space. -/
theorem InvF.like {a : Nat → En} {n q : Nat} {x : En} (h : InvF a n) (ho : x.o = (a q).o) (h0 : x.t = 0 ↔ (a q).t = 0) (h1 : x.t = 1 ↔ (a q).t = 1) (hr : x.t = 1 → x.r = (a q).r) : InvF (upd a q x) n := by
  have ht : ∀ j, ((upd a q x j).t = 1 ↔ (a j).t = 1) ∧ ((upd a q x j).t = 0 ↔ (a j).t = 0) ∧ (upd a q x j).o = (a j).o := fun j => by
    by_cases e : j = q
    · subst e; rw [upd_self]; exact ⟨h1, h0, ho⟩
    · rw [upd_ne _ _ e]; exact ⟨Iff.rfl, Iff.rfl, rfl⟩
  have hO : ∀ s k : Int, ∀ j, isO s k (upd a q x j) = isO s k (a j) := fun s k j => by
    have := ht j
    cases hh : isO s k (a j)
    · refine isO_f (fun hc => ?_)
      have := (isO_iff s k (a j)).2 ⟨hc.1, (ht j).2.2 ▸ hc.2.1, fun e => hc.2.2 ((ht j).2.1.2 e)⟩
      rw [hh] at this; cases this
    · have := (isO_iff s k (a j)).1 hh
      exact (isO_iff _ _ _).2 ⟨this.1, (ht j).2.2.trans this.2.1, fun e => this.2.2 ((ht j).2.1.1 e)⟩
  refine ⟨fun k hk hkt => ?_, fun k hk hkt => ?_⟩
  · have := h.sp k hk (fun e => hkt ((ht k).2.1.2 e))
    rw [(ht k).2.2]
    exact ⟨this.1, this.2.1, (ht _).1.2 this.2.2⟩
  · have h3 := h.ow k hk ((ht k).1.1 hkt)
    refine ⟨(ht k).2.2.trans h3.1, ?_⟩
    rw [cntN_ext (fun j _ => hO _ _ j), ← h3.2]
    by_cases e : k = q
    · subst e; rw [upd_self] at hkt ⊢; exact hr hkt
    · rw [upd_ne _ _ e]
theorem InvF.freeS {a : Nat → En} {n q : Nat} (h : InvF a n) (hq : q < n) (tq : (a q).t = 1) (r0 : (a q).r ≤ 0) : InvF (upd a q En.zero) n := by
  obtain ⟨ho, hr⟩ := h.ow q hq tq
  have hno := cntN_zero (f := fun j => isO (q : Int) (j : Int) (a j)) (n := n) (by omega)
  have hn : ∀ k, k < n → k ≠ q → (a k).t ≠ 0 → (a k).o ≠ (q : Int) := fun k hk hkq ht e => by
    have : isO (q : Int) (k : Int) (a k) = false := hno k hk
    rw [(isO_iff _ _ _).2 ⟨by omega, e, ht⟩] at this
    cases this
  refine ⟨fun k hk ht => ?_, fun k hk ht => ?_⟩
  · by_cases e1 : k = q
    · subst e1; rw [upd_self] at ht; exact absurd rfl ht
    · rw [upd_ne _ _ e1] at ht ⊢
      have h1 := h.sp k hk ht
      have h2 := hn k hk e1 ht
      rw [upd_ne _ _ (by omega)]
      exact h1
  · by_cases e1 : k = q
    · subst e1; rw [upd_self] at ht; cases ht
    · rw [upd_ne _ _ e1] at ht ⊢
      obtain ⟨h1, h2⟩ := h.ow k hk ht
      refine ⟨h1, h2.trans ?_⟩
      congr 1
      refine cntN_ext fun j hj => ?_
      by_cases e3 : j = q
      · subst e3; rw [upd_self, isO_f (by rw [ho]; omega), isO_f (by simp [En.zero])]
      · rw [upd_ne _ _ e3]
theorem InvF.freeO {a : Nat → En} {n q : Nat} (h : InvF a n) (hq : q < n) (t0 : (a q).t ≠ 0) (t1 : (a q).t ≠ 1) : 0 < (upd a q En.zero (a q).o.toNat).r ∧ InvF (upd (upd a q En.zero) (a q).o.toNat { upd a q En.zero (a q).o.toNat with r := (upd a q En.zero (a q).o.toNat).r + -1 }) n := by
  obtain ⟨o0, o1, ot⟩ := h.sp q hq t0
  have hne : (a q).o.toNat ≠ q := fun e => by rw [e] at ot; exact t1 ot
  rw [upd_ne _ _ hne]
  generalize ho : (a q).o.toNat = o at *
  have hoI : (a q).o = (o : Int) := by omega
  have hoo := h.ow o o1 ot
  have hqc : isO (o : Int) (q : Int) (a q) = true := (isO_iff _ _ _).2 ⟨by omega, hoI, t0⟩
  have hpos := cntN_pos (f := fun j => isO (o : Int) (j : Int) (a j)) hq hqc
  refine ⟨by rw [hoo.2]; omega, fun k hk ht => ?_, fun k hk ht => ?_⟩
  · by_cases e1 : k = o
    · subst e1; rw [upd_self]; simp only [hoo.1, Int.toNat_natCast]; rw [upd_self]; exact ⟨by omega, hk, ot⟩
    · rw [upd_ne _ _ e1] at ht ⊢
      by_cases e2 : k = q
      · subst e2; rw [upd_self] at ht; exact absurd rfl ht
      · rw [upd_ne _ _ e2] at ht ⊢
        have h1 := h.sp k hk ht
        by_cases e3 : (a k).o.toNat = o
        · rw [e3, upd_self]; exact ⟨h1.1, o1, ot⟩
        · rw [upd_ne _ _ e3]
          have e4 : (a k).o.toNat ≠ q := fun e => t1 (e ▸ h1.2.2)
          rw [upd_ne _ _ e4]
          exact h1
  · by_cases e1 : k = o
    · subst e1
      rw [upd_self]
      refine ⟨hoo.1, ?_⟩
      obtain ⟨A, hA⟩ : ∃ A, A = upd (upd a q En.zero) k { a k with r := (a k).r + -1 } := ⟨_, rfl⟩
      rw [← hA]
      have h3 := cntN_one (f := fun j => isO (k : Int) (j : Int) (A j)) (g := fun j => isO (k : Int) (j : Int) (a j)) (k := q) hq (fun j hj hjq => by
        by_cases e3 : j = k
        · subst e3; rw [isO_f (x := A j) (by simp), isO_f (x := a j) (by simp)]
        · rw [hA, upd_ne _ _ e3, upd_ne _ _ hjq])
      have h5 : isO (k : Int) (q : Int) (A q) = false := isO_f (by rw [hA, upd_ne _ _ (Ne.symm hne), upd_self]; simp [En.zero])
      rw [hqc, h5] at h3
      simp only [Bool.false_eq_true, if_false, if_true] at h3
      clear hA
      have h6 := hoo.2
      show (a k).r + -1 = ((cntN (fun j => isO (k : Int) (j : Int) (A j)) n : Nat) : Int)
      omega
    · rw [upd_ne _ _ e1] at ht ⊢
      by_cases e2 : k = q
      · subst e2; rw [upd_self] at ht; cases ht
      · rw [upd_ne _ _ e2] at ht ⊢
        obtain ⟨h1, h2⟩ := h.ow k hk ht
        refine ⟨h1, h2.trans ?_⟩
        congr 1
        refine cntN_ext fun j hj => ?_
        by_cases e3 : j = o
        · subst e3; rw [upd_self]; exact isO_cg rfl rfl
        · rw [upd_ne _ _ e3]
          by_cases e4 : j = q
          · subst e4; rw [upd_self, isO_f (by rw [hoI]; omega), isO_f (by simp [En.zero])]
          · rw [upd_ne _ _ e4]
end Go.Proofs.Ytajkhkaidjjioaa
