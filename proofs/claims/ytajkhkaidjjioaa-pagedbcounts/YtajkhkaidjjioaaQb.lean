/- What a call leaves, as plain numbers. -/
import Derived.Test.YtajkhkaidjjioaaQa
namespace Go.Proofs.Ytajkhkaidjjioaa
open Go.RowKit
theorem state_at (d : DS) (m : MS) (b : Int) : DS.at { d with m := m, b := b } = d.at := rfl
theorem DS.wipe_at (d : DS) (q : Int) : (d.wipe q).at = d.at := rfl
theorem cnt_at {d : DS} {k : Nat} (n : Int) (hk : k < d.E.length) : (d.cnt k n).at = upd d.at k { d.at k with r := (d.at k).r + n } := lay_upd _ hk
theorem lay_len (d : DS) (k : Nat) (x : En) : (d.lay k x).E.length = d.E.length := by simp [DS.lay]
theorem inv_space {d : DS} {s f : Int} (hk : d.Ok) (h : InvF d.at d.m.ns) (hz : d.bearE s f = 0) : InvF (d.space s f).at d.m.ns := by
  obtain ⟨ts, tf, hsf, t1, t2, hb⟩ := bear_zero hz
  obtain ⟨s0, s1, es⟩ := there_lt ts
  obtain ⟨f0, f1, ef⟩ := there_lt tf
  rw [ent_at ts] at t1
  rw [ent_at tf] at t2
  have hl := hk.len
  have he : (d.space s f).at = upd (upd d.at f.toNat (enF ((s.toNat : Nat) : Int))) s.toNat (enS ((s.toNat : Nat) : Int)) := by
    show ((d.lay f.toNat (enF s)).lay s.toNat (enS s)).at = _
    rw [lay_upd _ (by rw [lay_len]; omega), lay_upd _ (by omega), ← es]
  rw [he]
  exact h.space s1 f1 (by omega) t1 t2
theorem inv_taken {d : DS} {q t s : Int} (hk : d.Ok) (h : InvF d.at d.m.ns) (hz : d.takeE q t s = 0) : InvF (d.taken q t s).at d.m.ns := by
  obtain ⟨tq, ⟨t0, t1⟩, _, hm, hf⟩ := take_zero hz
  obtain ⟨ts, s1, s2⟩ := more_of hm
  obtain ⟨q0, q1, eq⟩ := there_lt tq
  obtain ⟨s0, s3, es⟩ := there_lt ts
  rw [ent_at tq] at hf
  rw [ent_at ts] at s1
  have hl := hk.len
  have hne : s.toNat ≠ q.toNat := fun e => by rw [e, hf] at s1; cases s1
  have he : (d.taken q t s).at = upd (upd d.at q.toNat (enT t ((s.toNat : Nat) : Int))) s.toNat { d.at s.toNat with r := (d.at s.toNat).r + 1 } := by
    unfold DS.taken
    rw [cnt_at _ (by rw [lay_len]; omega), lay_upd _ (by omega), upd_ne _ _ hne, ← es]
  rw [he]
  exact h.taken q1 s3 hf s1 (by omega) (by omega)
theorem inv_turned {d : DS} {q t : Int} (hk : d.Ok) (h : InvF d.at d.m.ns) (hz : d.turnE q t = 0) : InvF (d.turned q t).at d.m.ns := by
  obtain ⟨tq, h1, h2⟩ := turn_zero hz
  obtain ⟨q0, q1, eq⟩ := there_lt tq
  rw [ent_at tq] at h1
  rw [trn_iff] at h1 h2
  have hl := hk.len
  have he : (d.turned q t).at = upd d.at q.toNat (enT t (d.at q.toNat).o) := by
    show (d.lay q.toNat (enT t (d.ent q).o)).at = _
    rw [lay_upd _ (by omega), ent_at tq]
  rw [he]
  exact h.like rfl (by show t = 0 ↔ _; omega) (by show t = 1 ↔ _; omega) (by show t = 1 → _; omega)
theorem inv_given {d : DS} {q : Int} (hk : d.Ok) (h : InvF d.at d.m.ns) (hz : d.giveE q = 0) : InvF (d.given q).at d.m.ns ∧ ((d.ent q).t ≠ 1 → d.given q = (d.freed q).cnt (d.ent q).o.toNat (-1)) ∧ ((d.ent q).t = 1 → d.given q = d.freed q) := by
  obtain ⟨tq, h1, h2⟩ := give_zero hz
  obtain ⟨q0, q1, eq⟩ := there_lt tq
  have hl := hk.len
  have hf : (d.freed q).at = upd d.at q.toNat En.zero := by
    show (d.lay q.toNat En.zero).at = _
    rw [lay_upd _ (by omega)]
  have hfl : (d.freed q).E.length = d.E.length := lay_len _ _ _
  rw [ent_at tq] at h1 h2 ⊢
  unfold DS.given
  rw [ent_at tq, hf]
  by_cases e : (d.at q.toNat).t = 1
  · rw [if_neg (by simp [e]), hf]
    exact ⟨h.freeS q1 e (by omega), fun h => absurd e h, fun _ => rfl⟩
  · obtain ⟨g1, g2⟩ := h.freeO q1 h1 e
    have g3 := (h.sp _ q1 h1).2.1
    rw [if_pos ⟨e, g1⟩]
    refine ⟨?_, fun _ => rfl, fun h => absurd h e⟩
    rw [cnt_at _ (by rw [hfl]; omega), hf]
    exact g2
theorem inv_call {d : DS} (o : Oq) (hk : d.Ok) (h : InvF d.at d.m.ns) : (d.call o).m.ns = d.m.ns ∧ InvF (d.call o).at d.m.ns := by
  have hl := hk.len
  unfold DS.call
  split
  · unfold DS.takeSpace
    split
    · rename_i hz
      exact ⟨by show (d.m.born _ _ _).ns = _; simp [MS.born, MS.write_ns], inv_space hk h hz⟩
    · exact ⟨rfl, h⟩
  · split
    · unfold DS.take
      split
      · rename_i hz; exact ⟨rfl, inv_taken hk h hz⟩
      · exact ⟨rfl, h⟩
    · split
      · unfold DS.turn
        split
        · rename_i hz; exact ⟨by show (d.m.zero _ _).ns = _; exact MS.zero_ns _ _ _, inv_turned hk h hz⟩
        · exact ⟨rfl, h⟩
      · split
        · unfold DS.give
          split
          · rename_i hz
            refine ⟨?_, (inv_given hk h hz).1⟩
            unfold DS.given
            split
            · show (d.m.zero _ _).ns = _; exact MS.zero_ns _ _ _
            · show (d.m.zero _ _).ns = _; exact MS.zero_ns _ _ _
          · exact ⟨rfl, h⟩
        · split
          · unfold DS.state
            split
            · rename_i hz
              have hy : d.typE o.a 1 = 0 := by
                unfold DS.stateE at hz
                by_cases e : d.typE o.a 1 = 0
                · exact e
                · rw [if_pos e] at hz; exact absurd hz e
              obtain ⟨tq, t1, _⟩ := typ_zero hy
              obtain ⟨q0, q1, eq⟩ := there_lt tq
              refine ⟨rfl, ?_⟩
              unfold DS.stated
              rw [lay_upd _ (by omega), ent_at tq]
              exact h.like rfl Iff.rfl Iff.rfl (fun _ => rfl)
            · exact ⟨rfl, h⟩
          · unfold DS.entered
            split
            · rename_i hz
              obtain ⟨tq, t1, _⟩ := typ_zero hz
              obtain ⟨q0, q1, eq⟩ := there_lt tq
              refine ⟨rfl, ?_⟩
              rw [lay_upd _ (by omega), ent_at tq]
              exact h.like rfl Iff.rfl Iff.rfl (fun _ => rfl)
            · exact ⟨rfl, h⟩
/-- Sums. -/
def sumN (f : Nat → Nat) : Nat → Nat
  | 0 => 0
  | k + 1 => sumN f k + f k
theorem sumN_ext {f g : Nat → Nat} {n : Nat} (h : ∀ k, k < n → f k = g k) : sumN f n = sumN g n := by
  induction n with
  | zero => rfl
  | succ n ih => rw [sumN, sumN, ih (fun k hk => h k (by omega)), h n (by omega)]
theorem sumN_add (f g : Nat → Nat) (n : Nat) : sumN (fun k => f k + g k) n = sumN f n + sumN g n := by
  induction n with
  | zero => rfl
  | succ n ih => simp only [sumN, ih]; omega
theorem sumN_one (n : Nat) : sumN (fun _ => 1) n = n := by
  induction n with
  | zero => rfl
  | succ n ih => simp only [sumN, ih]
theorem sumN_zero (n : Nat) : sumN (fun _ => 0) n = 0 := by
  induction n with
  | zero => rfl
  | succ n ih => simp only [sumN, ih]
theorem cntN_sum (f : Nat → Bool) (n : Nat) : cntN f n = sumN (fun k => if f k = true then 1 else 0) n := by
  induction n with
  | zero => rfl
  | succ n ih => rw [cntN, sumN, ih]
theorem sumN_swap (F : Nat → Nat → Bool) (n m : Nat) : sumN (fun p => cntN (F p) m) n = sumN (fun j => cntN (fun p => F p j) n) m := by
  induction n with
  | zero =>
    simp only [sumN]
    exact (sumN_zero m).symm.trans (sumN_ext fun k _ => rfl)
  | succ n ih =>
    simp only [sumN, ih, cntN]
    rw [sumN_add, cntN_sum (F n) m]
def spc (x : En) : Bool := x.t == 1
theorem sums_all {a : Nat → En} {n : Nat} (h : InvF a n) : cntN (fun k => isF (a k)) n + sumN (fun p => if spc (a p) = true then 1 + cntN (fun j => isO (p : Int) (j : Int) (a j)) n else 0) n = n := by
  have h1 : sumN (fun p => if spc (a p) = true then 1 + cntN (fun j => isO (p : Int) (j : Int) (a j)) n else 0) n = sumN (fun p => if spc (a p) = true then 1 else 0) n + sumN (fun p => cntN (fun j => spc (a p) && isO (p : Int) (j : Int) (a j)) n) n := by
    rw [← sumN_add]
    refine sumN_ext fun p _ => ?_
    cases spc (a p)
    · simp only [Bool.false_eq_true, if_false, Bool.false_and]; rw [cntN_none (fun _ _ => rfl)]
    · simp only [if_true, Bool.true_and]
  rw [h1, sumN_swap, cntN_sum, ← sumN_add, ← sumN_add]
  refine (sumN_ext fun j hj => ?_).trans (sumN_one n)
  by_cases e0 : (a j).t = 0
  · have f1 : isF (a j) = true := by simp [isF, e0]
    have f2 : spc (a j) = false := by simp [spc, e0]
    rw [f1, f2, cntN_none (fun p _ => by rw [isO_f (by rw [e0]; simp)]; simp)]
    rfl
  · have f1 : isF (a j) = false := by simp [isF, e0]
    obtain ⟨o0, o1, ot⟩ := h.sp j hj e0
    by_cases e1 : (a j).t = 1
    · have f2 : spc (a j) = true := by simp [spc, e1]
      have ho := (h.ow j hj e1).1
      rw [f1, f2, cntN_none (fun p _ => by rw [isO_f (by rw [ho]; omega)]; simp)]
      rfl
    · have f2 : spc (a j) = false := by simp [spc, e1]
      rw [f1, f2, cntN_single (k := (a j).o.toNat) o1]
      · rfl
      · simp only [Bool.and_eq_true, isO_iff]
        refine ⟨by simp [spc, ot], fun e => ?_, by omega, e0⟩
        have : (a j).o.toNat = j := by omega
        rw [this] at ot
        exact e1 ot
      · intro p hp hpo
        rw [isO_f (by omega)]
        simp
end Go.Proofs.Ytajkhkaidjjioaa
