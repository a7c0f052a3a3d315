/- What a call leaves: words, entries, meters. -/
import Derived.Test.YtajkhkaidjjioaaQb
namespace Go.Proofs.Ytajkhkaidjjioaa
open Go.RowKit
structure MS.Fl (m : MS) : Prop where
  n : m.ns ≤ m.P.length
  l : ∀ k, k < m.P.length → (m.p k).length = 1024
theorem Mem.fl {w : World} {f : Fp} {m : MS} (h : Mem w f m) : m.Fl := ⟨h.ns0, h.full⟩
theorem at_sec (m : MS) {p : Int} (h0 : 0 ≤ p) (h1 : p < (m.ns : Int)) : m.at true p = some p.toNat := by unfold MS.at; rw [if_pos h0, if_pos rfl, if_pos h1]
theorem at_out (m : MS) {p : Int} (h : ¬ (0 ≤ p ∧ p < (m.ns : Int))) : m.at true p = none := by
  unfold MS.at
  by_cases h0 : 0 ≤ p
  · rw [if_pos h0, if_pos rfl, if_neg (fun h1 => h ⟨h0, h1⟩)]
  · rw [if_neg h0]
theorem p_set (P : List (List Int)) (k j : Nat) (L : List Int) (hk : k < P.length) : (P.set k L).getD j [] = if j = k then L else P.getD j [] := by
  by_cases e : j = k
  · subst e; rw [if_pos rfl]; simp [List.getD_eq_getElem?_getD, List.getElem?_set_self hk]
  · rw [if_neg e]; simp [List.getD_eq_getElem?_getD, List.getElem?_set_ne (Ne.symm e)]
theorem wd_set (L : List Int) (k j : Nat) (v : Int) (hk : k < L.length) : wd (L.set k v) j = if j = k then v else wd L j := by
  unfold wd
  by_cases e : j = k
  · subst e; rw [if_pos rfl]; simp [List.getD_eq_getElem?_getD, List.getElem?_set_self hk]
  · rw [if_neg e]; simp [List.getD_eq_getElem?_getD, List.getElem?_set_ne (Ne.symm e)]
theorem wd_zs (j : Nat) : wd zs j = 0 := by
  unfold wd zs
  rw [List.getD_eq_getElem?_getD, List.getElem?_replicate]
  split <;> rfl
theorem MS.Fl.write {m : MS} (h : m.Fl) (s : Bool) (p off v : Int) : (m.write s p off v).Fl := by
  unfold MS.write
  split
  · exact h
  · rename_i k hk
    split
    · refine ⟨by show m.ns ≤ (m.P.set _ _).length; rw [List.length_set]; exact h.n, fun j hj => ?_⟩
      have hk' : k < m.P.length := MS.at_lt h.n hk
      simp only [List.length_set] at hj
      show ((m.P.set k _).getD j []).length = 1024
      rw [p_set _ _ _ _ hk']
      split
      · rw [List.length_set]; exact h.l k hk'
      · exact h.l j hj
    · exact h
theorem MS.Fl.zero {m : MS} (h : m.Fl) (s : Bool) (p : Int) : (m.zero s p).Fl := by
  unfold MS.zero
  split
  · exact h
  · rename_i k hk
    refine ⟨by show m.ns ≤ (m.P.set _ _).length; rw [List.length_set]; exact h.n, fun j hj => ?_⟩
    have hk' : k < m.P.length := MS.at_lt h.n hk
    simp only [List.length_set] at hj
    show ((m.P.set k _).getD j []).length = 1024
    rw [p_set _ _ _ _ hk']
    split
    · exact zs_len
    · exact h.l j hj
theorem write_word {m : MS} (h : m.Fl) {p off : Int} (v : Int) (h0 : 0 ≤ p) (h1 : p < (m.ns : Int)) (ho : In off) (q o : Int) : (m.write true p off v).word true q o = if q = p ∧ o = off then v else m.word true q o := by
  have hp : p.toNat < m.P.length := by have := h.n; omega
  have hw : m.write true p off v = { m.tick 1 with P := m.P.set p.toNat ((m.p p.toNat).set off.toNat v) } := by unfold MS.write; rw [at_sec m h0 h1]; simp only; rw [if_pos ho]
  rw [hw]
  unfold MS.word
  by_cases hq : 0 ≤ q ∧ q < (m.ns : Int)
  · rw [at_sec m hq.1 hq.2, at_sec { m.tick 1 with P := m.P.set p.toNat ((m.p p.toNat).set off.toNat v) } hq.1 hq.2]
    simp only
    by_cases hi : In o
    · rw [if_pos hi, if_pos hi]
      show wd ((m.P.set p.toNat _).getD q.toNat []) o.toNat = _
      rw [p_set _ _ _ _ hp]
      by_cases e1 : q = p
      · subst e1
        rw [if_pos rfl, wd_set _ _ _ _ (by rw [h.l _ hp]; have := ho.1; have := ho.2; omega)]
        by_cases e2 : o = off
        · subst e2; rw [if_pos rfl, if_pos ⟨rfl, rfl⟩]
        · rw [if_neg (by have := hi.1; have := ho.1; omega), if_neg (fun hh => e2 hh.2)]
      · rw [if_neg (by omega), if_neg (fun hh => e1 hh.1)]; rfl
    · rw [if_neg hi, if_neg hi, if_neg]
      rintro ⟨_, rfl⟩; exact hi ho
  · rw [at_out m hq, at_out { m.tick 1 with P := m.P.set p.toNat ((m.p p.toNat).set off.toNat v) } hq, if_neg]
    rintro ⟨rfl, _⟩; exact hq ⟨h0, h1⟩
theorem zero_word {m : MS} (h : m.Fl) {p : Int} (h0 : 0 ≤ p) (h1 : p < (m.ns : Int)) (q o : Int) : (m.zero true p).word true q o = if q = p then 0 else m.word true q o := by
  have hp : p.toNat < m.P.length := by have := h.n; omega
  have hw : m.zero true p = { m.tick 1024 with P := m.P.set p.toNat zs } := by unfold MS.zero; rw [at_sec m h0 h1]
  rw [hw]
  unfold MS.word
  by_cases hq : 0 ≤ q ∧ q < (m.ns : Int)
  · rw [at_sec m hq.1 hq.2, at_sec { m.tick 1024 with P := m.P.set p.toNat zs } hq.1 hq.2]
    simp only
    by_cases hi : In o
    · rw [if_pos hi, if_pos hi]
      show wd ((m.P.set p.toNat _).getD q.toNat []) o.toNat = _
      rw [p_set _ _ _ _ hp]
      by_cases e1 : q = p
      · subst e1; rw [if_pos rfl, if_pos rfl, wd_zs]
      · rw [if_neg (by omega), if_neg e1]; rfl
    · rw [if_neg hi, if_neg hi]; split <;> rfl
  · rw [at_out m hq, at_out { m.tick 1024 with P := m.P.set p.toNat zs } hq]; simp
theorem write_c {m : MS} {p off : Int} (v : Int) (h0 : 0 ≤ p) (h1 : p < (m.ns : Int)) (ho : In off) : (m.write true p off v).c = wrap64 (m.c + 1) := by unfold MS.write; rw [at_sec m h0 h1]; simp only; rw [if_pos ho]; rfl
theorem zero_c {m : MS} {p : Int} (h0 : 0 ≤ p) (h1 : p < (m.ns : Int)) : (m.zero true p).c = wrap64 (m.c + 1024) := by unfold MS.zero; rw [at_sec m h0 h1]; rfl
theorem wrap_diff (c n : Int) (h0 : 0 ≤ n) (h1 : n ≤ 5000) : wrap64 (wrap64 (c + n) - c) = n := by unfold wrap64; omega
theorem wrap_more (c n m : Int) : wrap64 (wrap64 (c + n) + m) = wrap64 (c + (n + m)) := by unfold wrap64; omega
/-- What the meter counts; what stands in a page's word. -/
def metB (o : Oq) (done : Bool) (n : Int) : Bool := if done = false then n == 0 else if o.k = 1 then n == 3 else if o.k = 3 ∨ o.k = 4 then n == 1024 else n == 0
def wantW (d : DS) (o : Oq) (done : Bool) (p off : Int) : Int :=
  if done = true ∧ p = o.a ∧ o.k = 1 ∧ off < 3 then (if off = 0 then o.b % 4294967296 else if off = 1 then d.b % 4294967296 else 0) else if done = true ∧ p = o.a ∧ (o.k = 3 ∨ o.k = 4) then 0 else d.m.word true p off
theorem call_no {d : DS} {o : Oq} (h : d.callE o ≠ 0) : d.call o = d := by
  unfold DS.callE at h
  unfold DS.call
  by_cases k1 : o.k = 1
  · rw [if_pos k1] at h ⊢; unfold DS.takeSpace; rw [if_neg h]
  rw [if_neg k1] at h ⊢
  by_cases k2 : o.k = 2
  · rw [if_pos k2] at h ⊢; unfold DS.take; rw [if_neg h]
  rw [if_neg k2] at h ⊢
  by_cases k3 : o.k = 3
  · rw [if_pos k3] at h ⊢; unfold DS.turn; rw [if_neg h]
  rw [if_neg k3] at h ⊢
  by_cases k4 : o.k = 4
  · rw [if_pos k4] at h ⊢; unfold DS.give; rw [if_neg h]
  rw [if_neg k4] at h ⊢
  by_cases k5 : o.k = 5
  · rw [if_pos k5] at h ⊢; unfold DS.state; rw [if_neg h]
  rw [if_neg k5] at h ⊢
  unfold DS.entered; rw [if_neg h]
/-- All that is asked of one call. -/
structure Said (d : DS) (o : Oq) (done : Bool) : Prop where
  met : metB o done (wrap64 ((d.call o).m.c - d.m.c)) = true
  births : (d.call o).b = d.b + (if done = true ∧ o.k = 1 then 1 else 0)
  words : done = false → d.call o = d
  laid : ∀ p off : Int, 0 ≤ p → p < (d.m.ns : Int) → 0 ≤ off → off < 1024 → (d.call o).m.word true p off = wantW d o done p off
  kept : ∀ p : Nat, p < d.m.ns → ((p : Int) = o.a ∨ ((p : Int) = o.b ∧ o.k = 1)) ∨ ∃ r, (d.call o).at p = { d.at p with r := r } ∧ (r = (d.at p).r ∨ ((p : Int) = o.b ∧ o.k = 2) ∨ (d.there o.a = true ∧ (p : Int) = (d.ent o.a).o ∧ o.k = 4))
  s1 : done = true → o.k = 1 → d.there o.a = true ∧ d.there o.b = true ∧ (d.ent o.a).t = 0 ∧ (d.ent o.b).t = 0 ∧ (d.call o).ent o.a = enS o.a ∧ (d.call o).ent o.b = enF o.a
  s2 : done = true → o.k = 2 → (d.ent o.a).t = 0 ∧ (d.call o).ent o.a = enT o.t o.b ∧ ((d.call o).ent o.b).r = (d.ent o.b).r + 1 ∧ 0 ≤ (d.ent o.b).r ∧ (d.ent o.b).r < 64
  s3 : done = true → o.k = 3 → (d.call o).ent o.a = enT o.t (d.ent o.a).o
  s4 : done = true → o.k = 4 → (d.call o).ent o.a = En.zero ∧ ((d.ent o.a).t = 1 ∨ ((d.ent o.a).t ≠ 1 ∧ ((d.call o).ent (d.ent o.a).o).r = (d.ent (d.ent o.a).o).r - 1 ∧ 0 ≤ (d.ent (d.ent o.a).o).r ∧ (d.ent (d.ent o.a).o).r < 64))
  s5 : done = true → o.k = 5 → (d.call o).ent o.a = { d.ent o.a with s := o.t }
  s6 : done = true → o.k ≠ 1 → o.k ≠ 2 → o.k ≠ 3 → o.k ≠ 4 → o.k ≠ 5 → (d.call o).ent o.a = { d.ent o.a with e := o.on }
theorem said_no {d : DS} {o : Oq} (h : d.callE o ≠ 0) : Said d o false := by
  have e := call_no h
  refine ⟨?_, by rw [e]; simp, fun _ => e, fun p off _ _ _ _ => ?_, fun p hp => .inr ⟨(d.at p).r, by rw [e], .inl rfl⟩, (fun h => by cases h), (fun h => by cases h), (fun h => by cases h), (fun h => by cases h), (fun h => by cases h), (fun h => by cases h)⟩
  · rw [e, metB, if_pos rfl]; simp only [beq_iff_eq]; unfold wrap64; omega
  · rw [e]; simp [wantW]
theorem there_same {d d' : DS} (h : d'.m.ns = d.m.ns) (q : Int) : d'.there q = d.there q := by unfold DS.there; rw [h]
theorem ent_same {d d' : DS} (h : d'.m.ns = d.m.ns) {q : Int} (hq : d.there q = true) : d'.ent q = d'.at q.toNat := ent_at (by rw [there_same h]; exact hq)
end Go.Proofs.Ytajkhkaidjjioaa
