/- WalkList: what the tables hold. -/
import Derived.Test.YtmmphmdmocfnpaaKq
import Derived.Test.YtmmphmdmocfnpaaP3d
namespace Go.Proofs.Ytmmphmdmocfnpaa
open Go.RowKit
set_option maxRecDepth 100000
theorem write_here {m : MS} {p o v : Int} (hp : 0 ≤ p ∧ p < (m.ns : Int)) (hns : m.ns ≤ m.P.length) (hf : ∀ k, k < m.P.length → (m.p k).length = 1024) (ho : In o) : (m.write true p o v).word true p o = v := by
  have hat : m.at true p = some p.toNat := by unfold MS.at; rw [if_pos hp.1, if_pos rfl, if_pos hp.2]
  have hl : p.toNat < m.P.length := by omega
  unfold MS.word
  rw [MS.write_at, hat]
  simp only
  rw [if_pos ho]
  unfold MS.write
  rw [hat]
  simp only
  rw [if_pos ho]
  unfold MS.tick MS.p wd
  simp only [List.getD_eq_getElem?_getD]
  rw [List.getElem?_set_self hl]
  simp only [Option.getD_some]
  have h4 := hf p.toNat hl
  unfold In at ho
  rw [List.getElem?_set_self (by rw [show m.P[p.toNat]?.getD [] = m.p p.toNat by unfold MS.p; rw [List.getD_eq_getElem?_getD]]; omega)]
  rfl
theorem write_full {m : MS} {s : Bool} {p o v : Int} (hf : ∀ k, k < m.P.length → (m.p k).length = 1024) : ∀ k, k < (m.write s p o v).P.length → ((m.write s p o v).p k).length = 1024 := by
  intro k hk
  rw [(MS.write_ns m s p o v).2] at hk
  unfold MS.write
  split
  · exact hf k hk
  · rename_i j hj
    split
    · unfold MS.tick MS.p
      simp only [List.getD_eq_getElem?_getD]
      by_cases e : j = k
      · subst e
        rw [List.getElem?_set_self hk]
        simp only [Option.getD_some, List.length_set]
        have := hf j hk
        unfold MS.p at this
        rw [List.getD_eq_getElem?_getD] at this
        exact this
      · rw [List.getElem?_set_ne e]
        have := hf k hk
        unfold MS.p at this
        rw [List.getD_eq_getElem?_getD] at this
        exact this
    · exact hf k hk
theorem new_full (s n : Nat) : ∀ k, k < (MS.new s n).P.length → ((MS.new s n).p k).length = 1024 := fun k hk => by
  have e : (MS.new s n).P.length = s + n := by simp [MS.new]
  have e2 : (MS.new s n).p k = zs := rep_p k (s + n) (by omega)
  rw [e2]
  simp [zs]
theorem new_word (s n : Nat) (b : Bool) (p o : Int) : (MS.new s n).word b p o = 0 := by
  unfold MS.word
  split
  · rfl
  · rename_i k hk
    have hl := MS.at_lt (m := MS.new s n) (by simp [MS.new]) hk
    have e : (MS.new s n).P.length = s + n := by simp [MS.new]
    have e2 : (MS.new s n).p k = zs := rep_p k (s + n) (by omega)
    rw [e2]
    split
    · exact wd_zs _
    · rfl
theorem tabs_full : ∀ t, ∀ k, k < (tabs t).P.length → ((tabs t).p k).length = 1024
  | 0 => new_full 8 4
  | t + 1 => write_full (tabs_full t)
theorem mpd_full (L : Nat → Mg) : ∀ n, ∀ k, k < (mpd L n).P.length → ((mpd L n).p k).length = 1024
  | 0 => tabs_full 3
  | n + 1 => write_full (mpd_full L n)
theorem tabs_le (t : Nat) : (tabs t).ns ≤ (tabs t).P.length := by have := tabs_ns t; omega
theorem mpd_le (L : Nat → Mg) (n : Nat) : (mpd L n).ns ≤ (mpd L n).P.length := by have := mpd_ns L n; omega
theorem tabs_other (b : Int) (a : Int) (ha : 1 ≤ a) : ∀ t, (tabs t).word true a b = 0
  | 0 => new_word 8 4 true a b
  | t + 1 => by
    rw [tabs, MS.write_word (tabs_le t) _ _ _ _ _ _ _ (by omega)]
    exact tabs_other b a ha t
theorem tabs_zero (i : Int) : (tabs 3).word true 0 i = if i = 5 then 257 else if i = 9 then 513 else if i = 255 then 769 else 0 := by
  have hns := fun t => tabs_ns t
  have st : ∀ t, (tabs (t + 1)).word true 0 i = if i = ix t then 256 * ((t : Int) + 1) + 1 else (tabs t).word true 0 i := fun t => by
    rw [tabs]
    by_cases e : i = ix t
    · subst e
      rw [if_pos rfl, write_here (by have := (hns t).1; omega) (tabs_le t) (tabs_full t) (by unfold In ix; split <;> (try split) <;> omega)]
    · rw [if_neg e, MS.write_word (tabs_le t) _ _ _ _ _ _ _ (fun h => e h.2.2.symm)]
  rw [st 2, st 1, st 0]
  rw [show (tabs 0).word true 0 i = 0 from new_word 8 4 true 0 i]
  show (if i = 255 then (769 : Int) else if i = 9 then 513 else if i = 5 then 257 else 0) = _
  by_cases h1 : i = 5
  · subst h1; simp
  · by_cases h2 : i = 9
    · subst h2; simp
    · simp [h1, h2]
def tI (x : Mg) : Int := wi x.i 0 3
def tJ (x : Mg) : Int := wi x.j 0 1024
theorem tI_range (x : Mg) : 0 ≤ tI x ∧ tI x < 3 := by have := wi_range x.i 0 3 (by decide); unfold tI; omega
theorem tJ_range (x : Mg) : 0 ≤ tJ x ∧ tJ x < 1024 := by have := wi_range x.j 0 1024 (by decide); unfold tJ; omega
def lastM (L : Nat → Mg) : Nat → Int → Int → Option Mg
  | 0, _, _ => none
  | k + 1, a, b => if tI (L k) = a ∧ tJ (L k) = b then some (L k) else lastM L k a b
def wdO : Option Mg → Int
  | none => 0
  | some x => x.sd.enc
theorem mpd_word (L : Nat → Mg) (a b : Int) (ha : 0 ≤ a ∧ a < 3) : ∀ n, (mpd L n).word true (a + 1) b = wdO (lastM L n a b)
  | 0 => tabs_other b (a + 1) (by omega) 3
  | n + 1 => by
    have hi := tI_range (L n)
    have hj := tJ_range (L n)
    rw [mpd, lastM]
    change ((mpd L n).write true (tI (L n) + 1) (tJ (L n)) (L n).sd.enc).word true (a + 1) b = _
    by_cases e : tI (L n) = a ∧ tJ (L n) = b
    · rw [if_pos e, ← e.1, ← e.2, write_here (by have := (mpd_ns L n).1; omega) (mpd_le L n) (mpd_full L n) (by unfold In; omega)]
      rfl
    · rw [if_neg e, MS.write_word (mpd_le L n) _ _ _ _ _ _ _ (fun h => e ⟨by omega, h.2.2⟩)]
      exact mpd_word L a b ha n
theorem mpd_zero (L : Nat → Mg) (i : Int) : ∀ n, (mpd L n).word true 0 i = if i = 5 then 257 else if i = 9 then 513 else if i = 255 then 769 else 0
  | 0 => tabs_zero i
  | n + 1 => by
    have hi := tI_range (L n)
    rw [mpd]
    change ((mpd L n).write true (tI (L n) + 1) (tJ (L n)) (L n).sd.enc).word true 0 i = _
    rw [MS.write_word (mpd_le L n) _ _ _ _ _ _ _ (by omega)]
    exact mpd_zero L i n
/-- The first-level words. -/
theorem mpd_f1 (L : Nat → Mg) (n : Nat) (a : Nat) (ha : a < 3) : (mpd L n).f1E 0 (ix a) = 0 ∧ (mpd L n).f1 0 (ix a) = (a : Int) + 1 := by
  have hns := (mpd_ns L n).1
  have hix : In (ix a) := by unfold In ix; split <;> (try split) <;> omega
  have hw : (mpd L n).word true 0 (ix a) = 256 * ((a : Int) + 1) + 1 := by
    rw [mpd_zero]
    rcases (show a = 0 ∨ a = 1 ∨ a = 2 by omega) with rfl | rfl | rfl <;> decide
  have hp : pfE ((mpd L n).word true 0 (ix a)) = 0 ∧ pf ((mpd L n).word true 0 (ix a)) = (a : Int) + 1 := by
    rw [hw]
    rcases (show a = 0 ∨ a = 1 ∨ a = 2 by omega) with rfl | rfl | rfl <;> decide
  have := f1_ok (mpd_U L n) (l := 0) (i := ix a) (by rw [hns]; decide) hix hp.1 (by rw [hp.2, hns]; omega)
  exact ⟨this.1, by rw [this.2, hp.2]⟩
theorem mpd_f1n (L : Nat → Mg) (n : Nat) (i : Int) (hi : In i) (h : i ≠ 5 ∧ i ≠ 9 ∧ i ≠ 255) : (mpd L n).f1E 0 i = 92 := by
  have hw : (mpd L n).word true 0 i = 0 := by rw [mpd_zero, if_neg h.1, if_neg h.2.1, if_neg h.2.2]
  unfold MS.f1E
  rw [if_pos (err_sec (by rw [(mpd_ns L n).1]; decide) hi), hw]
  rfl
/-- The second-level words. -/
theorem mpd_f2 (L : Nat → Mg) (n : Nat) (a b : Int) (ha : 0 ≤ a ∧ a < 3) (hb : In b) (x : Mg) (h : lastM L n a b = some x) : (mpd L n).f2E (a + 1) b = 0 ∧ (mpd L n).f2 (a + 1) b = x.sd := by
  have hns := mpd_ns L n
  have hw := mpd_word L a b ha n
  rw [h] at hw
  obtain ⟨e1, e2, e3⟩ := ps_enc x.sd x.sd_err
  have hw2 : (mpd L n).word true (a + 1) b = x.sd.code := by rw [hw]; exact e1
  have hat : ((mpd L n).at x.sd.s x.sd.p).isSome = true := by
    have h1 := wi_range x.p 0 8 (by decide)
    have h2 := wi_range x.p 0 4 (by decide)
    unfold MS.at Mg.sd
    rw [hns.1, hns.2]
    by_cases hs : x.s = true
    · rw [if_pos hs]; simp only [if_pos h1.1, if_true]; rw [if_pos (by omega)]; rfl
    · rw [if_neg hs]; simp only [if_pos h2.1, Bool.false_eq_true, if_false]; rw [if_pos (by omega)]; rfl
  have hE : (mpd L n).f2E (a + 1) b = 0 := (f2_eq (by rw [hns.1]; omega) hb).2 ⟨by rw [hw2]; exact e3, by rw [hw2, e2]; exact hat⟩
  exact ⟨hE, by unfold MS.f2; rw [if_pos hE, hw2, e2]⟩
theorem mpd_f2n (L : Nat → Mg) (n : Nat) (a b : Int) (ha : 0 ≤ a ∧ a < 3) (hb : In b) (h : lastM L n a b = none) : (mpd L n).f2E (a + 1) b = 92 := by
  have hw := mpd_word L a b ha n
  rw [h] at hw
  unfold MS.f2E
  rw [if_pos (err_sec (by rw [(mpd_ns L n).1]; omega) hb), hw]
  rfl
/-- Walks. -/
theorem mpd_wk (L : Nat → Mg) (n : Nat) (va : Int) (hva : VaOk va) (a : Nat) (ha : a < 3) (hi : va / 4194304 = ix a) (x : Mg) (h : lastM L n (a : Int) (va / 4096 % 1024) = some x) : (mpd L n).wk 0 va = x.sd ∧ (mpd L n).wkE 0 va = 0 := by
  have hI : spI va = ix a := by unfold spI; rw [if_pos hva, hi]
  have hJ : spJ va = va / 4096 % 1024 := by unfold spJ; rw [if_pos hva]
  have hE : spE va = 0 := by unfold spE; rw [if_pos hva]
  have h1 := mpd_f1 L n a ha
  have h2 := mpd_f2 L n (a : Int) (va / 4096 % 1024) (by omega) (by unfold In; omega) x h
  unfold MS.wk MS.wkE
  rw [if_pos hE, if_pos hE, hI, if_pos h1.1, if_pos h1.1, h1.2, hJ, h2.1, h2.2]
  exact ⟨rfl, rfl⟩
theorem mpd_wkn (L : Nat → Mg) (n : Nat) (va : Int) (hva : VaOk va) (h0 : 0 ≤ va) (h : ∀ a : Nat, a < 3 → va / 4194304 = ix a → lastM L n (a : Int) (va / 4096 % 1024) = none) : (mpd L n).wk 0 va = Mp.z ∧ (mpd L n).wkE 0 va = 92 := by
  have hI : spI va = va / 4194304 := by unfold spI; rw [if_pos hva]
  have hJ : spJ va = va / 4096 % 1024 := by unfold spJ; rw [if_pos hva]
  have hE : spE va = 0 := by unfold spE; rw [if_pos hva]
  have hr : va < 1073741824 := hva.1
  by_cases hx : ∃ a : Nat, a < 3 ∧ va / 4194304 = ix a
  · obtain ⟨a, ha, hi⟩ := hx
    have h1 := mpd_f1 L n a ha
    have h2 := mpd_f2n L n (a : Int) (va / 4096 % 1024) (by omega) (by unfold In; omega) (h a ha hi)
    unfold MS.wk MS.wkE
    rw [if_pos hE, if_pos hE, hI, hi, if_pos h1.1, if_pos h1.1, h1.2, hJ, h2]
    refine ⟨?_, rfl⟩
    unfold MS.f2
    rw [if_neg (by rw [h2]; decide)]
  · have hn : va / 4194304 ≠ 5 ∧ va / 4194304 ≠ 9 ∧ va / 4194304 ≠ 255 := ⟨fun e => hx ⟨0, by decide, e⟩, fun e => hx ⟨1, by decide, e⟩, fun e => hx ⟨2, by decide, e⟩⟩
    have h1 := mpd_f1n L n (va / 4194304) (by unfold In; omega) hn
    unfold MS.wk MS.wkE
    rw [if_pos hE, if_pos hE, hI, if_neg (by rw [h1]; decide), if_neg (by rw [h1]; decide), h1]
    exact ⟨rfl, rfl⟩
end Go.Proofs.Ytmmphmdmocfnpaa
