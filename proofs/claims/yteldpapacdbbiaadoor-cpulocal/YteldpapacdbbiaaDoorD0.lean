/- What a step hangs on: plain facts. -/
import Derived.Test.YteldpapacdbbiaaDoorCf
import Derived.Test.YteldpapacdbbiaaDoorCg
namespace Go.Proofs.YteldpapacdbbiaaDoor
open Go.RowKit
set_option maxRecDepth 100000
theorem stp_no' {m : MS} {l : Int} {f : F} (h : ¬ m.trE l f.pc 2 = 0) : stp m l f = ⟨f, 3, f.pc, m.wkS l f.pc⟩ := by unfold stp; rw [if_neg h]
theorem stp_bad' {m : MS} {l : Int} {f : F} (h : m.trE l f.pc 2 = 0) (h2 : ¬ I.decE (m.fw l f.pc) = 0) : stp m l f = ⟨f, 2, m.fw l f.pc, m.fm l f.pc⟩ := by unfold stp; rw [if_pos h, if_neg h2]
theorem stp_do' {m : MS} {l : Int} {f : F} (h : m.trE l f.pc 2 = 0) (h2 : I.decE (m.fw l f.pc) = 0) : stp m l f = doI (m.fm l f.pc) l f (I.dec (m.fw l f.pc)) := by unfold stp; rw [if_pos h, if_pos h2]
abbrev Pl := Bool × Int × Int
/-- The places that a walk of an address may read. -/
def MS.tbl (m : MS) (l va : Int) : List Pl := if spE va = 0 then (if pfE (m.word true l (spI va)) = 0 then [(true, l, spI va), (true, pf (m.word true l (spI va)), spJ va)] else [(true, l, spI va)]) else []
theorem tbl_local {m : MS} (h0 : m.ns ≤ m.P.length) {s : Bool} {p o v l va : Int} (h : (s, p, o) ∉ m.tbl l va) :
    (m.write s p o v).wk l va = m.wk l va ∧ (m.write s p o v).wkE l va = m.wkE l va ∧ (m.write s p o v).wkD l va = m.wkD l va := by
  by_cases hs : spE va = 0
  · have h1 : ¬ (s = true ∧ p = l ∧ o = spI va) := fun ⟨a, b, c⟩ => h (by unfold MS.tbl; rw [if_pos hs]; subst a b c; split <;> simp)
    have h2 : ¬ (pfE (m.word true l (spI va)) = 0 ∧ s = true ∧ p = pf (m.word true l (spI va)) ∧ o = spJ va) := fun ⟨e, a, b, c⟩ => h (by unfold MS.tbl; rw [if_pos hs, if_pos e]; subst a b c; simp)
    have hk := wk_local h0 s p o v l va h1 h2
    refine ⟨hk.1, hk.2, ?_⟩
    have e1 : (m.write s p o v).f1E l (spI va) = m.f1E l (spI va) := by
      unfold MS.f1E
      rw [MS.write_err, MS.write_word h0 _ _ _ _ _ _ _ h1, MS.write_at]
    unfold MS.wkD
    rw [e1, MS.write_err]
  · refine ⟨?_, ?_, ?_⟩
    · unfold MS.wk; rw [if_neg hs, if_neg hs]
    · unfold MS.wkE; rw [if_neg hs, if_neg hs]
    · unfold MS.wkD; rw [if_neg hs, if_neg hs]
theorem tr_local {m : MS} (h0 : m.ns ≤ m.P.length) {s : Bool} {p o v l va : Int} (h : (s, p, o) ∉ m.tbl l va) (a : Int) :
    (m.write s p o v).trE l va a = m.trE l va a ∧ (m.write s p o v).trS l va a = m.trS l va a ∧ (m.write s p o v).trP l va a = m.trP l va a ∧ (m.write s p o v).trO l va a = m.trO l va a :=
  tr_same ⟨(tbl_local h0 h).1, (tbl_local h0 h).2.1⟩ a
/-- A word is another one; the meter stays. -/
def MS.upd (m : MS) (s : Bool) (p o v : Int) : MS := { m.write s p o v with c := m.c }
theorem wc_same {m : MS} : m.wc m.c = m := rfl
theorem MS.write_eq (m : MS) (s : Bool) (p o v : Int) : m.write s p o v = if m.err s p o = 0 then (m.upd s p o v).wc (wrap64 (m.c + 1)) else m := by
  unfold MS.upd MS.write MS.err MS.wc MS.tick
  cases m.at s p with
  | none => simp
  | some k => by_cases h : In o <;> simp [h]
theorem MS.wc_write (m : MS) (c : Int) (s : Bool) (p o v : Int) : (m.wc c).upd s p o v = (m.upd s p o v).wc c := by
  unfold MS.upd MS.write
  rw [show (m.wc c).at s p = m.at s p from rfl]
  cases m.at s p with
  | none => rfl
  | some k => simp only; split <;> rfl
/-- How many words a step touches. -/
def stD (m : MS) (l : Int) (f : F) : Int :=
  m.wkD l f.pc + (if m.trE l f.pc 2 = 0 then 1 + (if I.decE (m.fw l f.pc) = 0 ∧ 15 ≤ (I.dec (m.fw l f.pc)).op ∧ (I.dec (m.fw l f.pc)).op ≤ 18 then m.wkD l (ad f (I.dec (m.fw l f.pc))) + (if m.trE l (ad f (I.dec (m.fw l f.pc))) (acc (I.dec (m.fw l f.pc))) = 0 then 1 else 0) else 0) else 0)
theorem stD_range (m : MS) (l : Int) (f : F) : 0 ≤ stD m l f ∧ stD m l f ≤ 6 := by
  have h1 := m.wkD_range l f.pc
  have h2 := m.wkD_range l (ad f (I.dec (m.fw l f.pc)))
  unfold stD
  split
  · split
    · split <;> omega
    · omega
  · omega
/-- Does it store, and where. -/
def stS (m : MS) (l : Int) (f : F) : Bool := decide (m.trE l f.pc 2 = 0 ∧ I.decE (m.fw l f.pc) = 0 ∧ acc (I.dec (m.fw l f.pc)) = 1 ∧ m.trE l (ad f (I.dec (m.fw l f.pc))) 1 = 0)
def stB (m : MS) (l : Int) (f : F) : MS := if stS m l f then m.upd (m.trS l (ad f (I.dec (m.fw l f.pc))) 1) (m.trP l (ad f (I.dec (m.fw l f.pc))) 1) (m.trO l (ad f (I.dec (m.fw l f.pc))) 1) (rg f (I.dec (m.fw l f.pc)).a) else m
theorem acc_val (i : Ins) : acc i = 0 ∨ acc i = 1 := by unfold acc; split <;> simp
theorem acc_one {i : Ins} (h : acc i = 1) : i.op = 16 ∨ i.op = 18 := by
  unfold acc at h
  split at h
  · assumption
  · cases h
theorem MS.read_wc {m : MS} {s : Bool} {p o : Int} (h : m.err s p o = 0) (c0 : 0 ≤ m.c) (c1 : m.c ≤ 4611686018427387904) : m.read s p o = m.wc (m.c + 1) := by
  rw [MS.read_eq, if_pos h]
  unfold MS.tick MS.wc
  rw [w64 (by omega) (by omega)]
theorem rcM_eq {m : MS} {l va a v : Int} (ha : a = 0 ∨ a = 1) (c0 : 0 ≤ m.c) (c1 : m.c ≤ 2305843009213693952) : m.rcM l va a v = (if m.trE l va a = 0 ∧ a = 1 then m.upd (m.trS l va a) (m.trP l va a) (m.trO l va a) v else m).wc (m.c + (m.wkD l va + if m.trE l va a = 0 then 1 else 0)) := by
  have hd := m.wkD_range l va
  unfold MS.rcM
  rw [m.wkS_eq l va c0 (by omega)]
  by_cases h : m.trE l va a = 0
  · have he := tr_err h
    rw [if_pos h, if_pos h]
    have he' : (m.wc (m.c + m.wkD l va)).err (m.trS l va a) (m.trP l va a) (m.trO l va a) = 0 := he
    rcases ha with rfl | rfl
    · rw [if_neg (by decide), if_neg (by simp), MS.read_wc he' (by show 0 ≤ m.c + _; omega) (by show m.c + _ ≤ _; omega)]
      show m.wc (m.c + m.wkD l va + 1) = _
      rw [show m.c + m.wkD l va + 1 = m.c + (m.wkD l va + 1) by omega]
    · rw [if_pos rfl, if_pos ⟨h, rfl⟩, MS.write_eq, if_pos he', MS.wc_write]
      show (m.upd _ _ _ _).wc (wrap64 (m.c + m.wkD l va + 1)) = _
      rw [w64 (by omega) (by omega), show m.c + m.wkD l va + 1 = m.c + (m.wkD l va + 1) by omega]
  · rw [if_neg h, if_neg (fun hh => h hh.1), if_neg h, Int.add_zero]
theorem fm_eq {m : MS} {l pc : Int} (h : m.trE l pc 2 = 0) (c0 : 0 ≤ m.c) (c1 : m.c ≤ 2305843009213693952) : m.fm l pc = m.wc (m.c + (m.wkD l pc + 1)) := by
  have hd := m.wkD_range l pc
  unfold MS.fm
  rw [m.wkS_eq l pc c0 (by omega)]
  have he := tr_err h
  rw [MS.read_wc (m := m.wc (m.c + m.wkD l pc)) he (by show 0 ≤ m.c + _; omega) (by show m.c + _ ≤ _; omega)]
  show m.wc (m.c + m.wkD l pc + 1) = _
  rw [show m.c + m.wkD l pc + 1 = m.c + (m.wkD l pc + 1) by omega]
theorem doI_m {m : MS} {l : Int} {f : F} {i : Ins} (h : i.op ≤ 14 ∨ 19 ≤ i.op) : (doI m l f i).m = m := by
  unfold doI
  rcases h with h | h
  · rw [if_pos h]
  · rw [if_neg (by omega), if_neg (by omega)]
    split
    · rfl
    · split <;> rfl
theorem doI_mm {m : MS} {l : Int} {f : F} {i : Ins} (h1 : 15 ≤ i.op) (h2 : i.op ≤ 18) : (doI m l f i).m = m.rcM l (ad f i) (acc i) (rg f i.a) := by
  unfold doI
  rw [if_neg (by omega), if_pos h2]
  split <;> rfl
theorem stB_mem {m : MS} {l : Int} {f : F} (h : m.trE l f.pc 2 = 0) (h2 : I.decE (m.fw l f.pc) = 0) : stB m l f = if m.trE l (ad f (I.dec (m.fw l f.pc))) (acc (I.dec (m.fw l f.pc))) = 0 ∧ acc (I.dec (m.fw l f.pc)) = 1 then m.upd (m.trS l (ad f (I.dec (m.fw l f.pc))) (acc (I.dec (m.fw l f.pc)))) (m.trP l (ad f (I.dec (m.fw l f.pc))) (acc (I.dec (m.fw l f.pc)))) (m.trO l (ad f (I.dec (m.fw l f.pc))) (acc (I.dec (m.fw l f.pc)))) (rg f (I.dec (m.fw l f.pc)).a) else m := by
  unfold stB stS
  generalize I.dec (m.fw l f.pc) = i
  rcases acc_val i with ha | ha
  · rw [ha]; simp
  · rw [ha]
    by_cases ht : m.trE l (ad f i) 1 = 0
    · rw [if_pos (by simp [h, h2, ht]), if_pos ⟨ht, rfl⟩]
    · rw [if_neg (by simp [ht]), if_neg (fun hh => ht hh.1)]
/-- What a step leaves of a memory. -/
theorem stp_m {m : MS} {l : Int} {f : F} (c0 : 0 ≤ m.c) (c1 : m.c ≤ 1152921504606846976) : (stp m l f).m = (stB m l f).wc (m.c + stD m l f) := by
  have hd := m.wkD_range l f.pc
  by_cases h : m.trE l f.pc 2 = 0
  · by_cases h2 : I.decE (m.fw l f.pc) = 0
    · rw [stp_do' h h2, stB_mem h h2]
      by_cases h3 : 15 ≤ (I.dec (m.fw l f.pc)).op ∧ (I.dec (m.fw l f.pc)).op ≤ 18
      · have hD : stD m l f = m.wkD l f.pc + (1 + (m.wkD l (ad f (I.dec (m.fw l f.pc))) + if m.trE l (ad f (I.dec (m.fw l f.pc))) (acc (I.dec (m.fw l f.pc))) = 0 then 1 else 0)) := by unfold stD; rw [if_pos h, if_pos ⟨h2, h3⟩]
        rw [doI_mm h3.1 h3.2, fm_eq h c0 (by omega), hD]
        rw [rcM_eq (m := m.wc (m.c + (m.wkD l f.pc + 1))) (acc_val _) (by show 0 ≤ m.c + _; omega) (by show m.c + _ ≤ _; omega)]
        generalize I.dec (m.fw l f.pc) = i
        show (if m.trE l (ad f i) (acc i) = 0 ∧ acc i = 1 then (m.wc (m.c + (m.wkD l f.pc + 1))).upd (m.trS l (ad f i) (acc i)) (m.trP l (ad f i) (acc i)) (m.trO l (ad f i) (acc i)) (rg f i.a) else m.wc (m.c + (m.wkD l f.pc + 1))).wc (m.c + (m.wkD l f.pc + 1) + (m.wkD l (ad f i) + if m.trE l (ad f i) (acc i) = 0 then 1 else 0)) = _
        rw [show m.c + (m.wkD l f.pc + 1) + (m.wkD l (ad f i) + if m.trE l (ad f i) (acc i) = 0 then 1 else 0) = m.c + (m.wkD l f.pc + (1 + (m.wkD l (ad f i) + if m.trE l (ad f i) (acc i) = 0 then 1 else 0))) by omega]
        by_cases hh : m.trE l (ad f i) (acc i) = 0 ∧ acc i = 1
        · rw [if_pos hh, if_pos hh, MS.wc_write]; rfl
        · rw [if_neg hh, if_neg hh]; rfl
      · have ha : ¬ acc (I.dec (m.fw l f.pc)) = 1 := fun ha => by have := acc_one ha; omega
        have hD : stD m l f = m.wkD l f.pc + 1 := by unfold stD; rw [if_pos h, if_neg (fun hh => h3 hh.2), Int.add_zero]
        rw [doI_m (by omega), fm_eq h c0 (by omega), if_neg (fun hh => ha hh.2), hD]
    · have hD : stD m l f = m.wkD l f.pc + 1 := by unfold stD; rw [if_pos h, if_neg (fun hh => h2 hh.1), Int.add_zero]
      have hB : stB m l f = m := by unfold stB stS; rw [if_neg (by simp [h2])]
      rw [stp_bad' h h2, hD, hB]
      show m.fm l f.pc = _
      rw [fm_eq h c0 (by omega)]
  · have hD : stD m l f = m.wkD l f.pc := by unfold stD; rw [if_neg h, Int.add_zero]
    have hB : stB m l f = m := by unfold stB stS; rw [if_neg (by simp [h])]
    rw [stp_no' h, hD, hB]
    show m.wkS l f.pc = _
    rw [m.wkS_eq l f.pc c0 (by omega)]
/-- The places that a step may read. -/
def rds (m : MS) (l : Int) (f : F) : List Pl :=
  m.tbl l f.pc ++ (if m.trE l f.pc 2 = 0 then [(m.trS l f.pc 2, m.trP l f.pc 2, m.trO l f.pc 2)] ++
    (if I.decE (m.fw l f.pc) = 0 ∧ 15 ≤ (I.dec (m.fw l f.pc)).op ∧ (I.dec (m.fw l f.pc)).op ≤ 18 then m.tbl l (ad f (I.dec (m.fw l f.pc))) ++
      (if acc (I.dec (m.fw l f.pc)) = 0 ∧ m.trE l (ad f (I.dec (m.fw l f.pc))) 0 = 0 then [(m.trS l (ad f (I.dec (m.fw l f.pc))) 0, m.trP l (ad f (I.dec (m.fw l f.pc))) 0, m.trO l (ad f (I.dec (m.fw l f.pc))) 0)] else []) else []) else [])
theorem write_wordP {m : MS} (h0 : m.ns ≤ m.P.length) {s : Bool} {p o v : Int} {s' : Bool} {p' o' : Int} (h : (s, p, o) ≠ (s', p', o')) : (m.write s p o v).word s' p' o' = m.word s' p' o' :=
  MS.write_word h0 s p o v s' p' o' (fun ⟨a, b, c⟩ => h (by rw [a, b, c]))
theorem doI_alike {m m' : MS} {l : Int} {f : F} {i : Ins} (h : 15 ≤ i.op → i.op ≤ 18 → m'.trE l (ad f i) (acc i) = m.trE l (ad f i) (acc i) ∧ m'.rcW l (ad f i) (acc i) (rg f i.a) = m.rcW l (ad f i) (acc i) (rg f i.a)) : (doI m' l f i).f = (doI m l f i).f ∧ (doI m' l f i).k = (doI m l f i).k ∧ (doI m' l f i).a = (doI m l f i).a := by
  unfold doI
  by_cases h1 : i.op ≤ 14
  · rw [if_pos h1, if_pos h1]; exact ⟨rfl, rfl, rfl⟩
  · rw [if_neg h1, if_neg h1]
    by_cases h2 : i.op ≤ 18
    · obtain ⟨e1, e2⟩ := h (by omega) h2
      rw [if_pos h2, if_pos h2, e1, e2]
      split <;> exact ⟨rfl, rfl, rfl⟩
    · rw [if_neg h2, if_neg h2]
      split
      · exact ⟨rfl, rfl, rfl⟩
      · split <;> exact ⟨rfl, rfl, rfl⟩
/-- A word that it does not read may be another one. -/
theorem stp_local {m : MS} (h0 : m.ns ≤ m.P.length) {s : Bool} {p o v l : Int} {f : F} (h : (s, p, o) ∉ rds m l f) :
    ((stp (m.write s p o v) l f).f = (stp m l f).f ∧ (stp (m.write s p o v) l f).k = (stp m l f).k ∧ (stp (m.write s p o v) l f).a = (stp m l f).a) ∧ stD (m.write s p o v) l f = stD m l f ∧ stS (m.write s p o v) l f = stS m l f ∧
    (stS m l f = true → stB (m.write s p o v) l f = (m.write s p o v).upd (m.trS l (ad f (I.dec (m.fw l f.pc))) 1) (m.trP l (ad f (I.dec (m.fw l f.pc))) 1) (m.trO l (ad f (I.dec (m.fw l f.pc))) 1) (rg f (I.dec (m.fw l f.pc)).a)) := by
  have t1 : (s, p, o) ∉ m.tbl l f.pc := fun hh => h (by unfold rds; simp [hh])
  have k1 := tbl_local h0 (v := v) t1
  have r1 := tr_local h0 (v := v) t1 2
  by_cases e : m.trE l f.pc 2 = 0
  · have n2 : (s, p, o) ≠ (m.trS l f.pc 2, m.trP l f.pc 2, m.trO l f.pc 2) := fun hh => h (by unfold rds; rw [if_pos e, hh]; simp)
    have w1 : (m.write s p o v).fw l f.pc = m.fw l f.pc := by unfold MS.fw; rw [r1.2.1, r1.2.2.1, r1.2.2.2]; exact write_wordP h0 n2
    have e' : (m.write s p o v).trE l f.pc 2 = 0 := r1.1.trans e
    by_cases d : I.decE (m.fw l f.pc) = 0
    · have d' : I.decE ((m.write s p o v).fw l f.pc) = 0 := by rw [w1]; exact d
      by_cases b : 15 ≤ (I.dec (m.fw l f.pc)).op ∧ (I.dec (m.fw l f.pc)).op ≤ 18
      · have t2 : (s, p, o) ∉ m.tbl l (ad f (I.dec (m.fw l f.pc))) := fun hh => h (by unfold rds; rw [if_pos e, if_pos ⟨d, b⟩]; simp [hh])
        have k2 := tbl_local h0 (v := v) t2
        have r2 := fun a => tr_local h0 (v := v) t2 a
        have hal : (doI ((m.write s p o v).fm l f.pc) l f (I.dec (m.fw l f.pc))).f = (doI (m.fm l f.pc) l f (I.dec (m.fw l f.pc))).f ∧ (doI ((m.write s p o v).fm l f.pc) l f (I.dec (m.fw l f.pc))).k = (doI (m.fm l f.pc) l f (I.dec (m.fw l f.pc))).k ∧ (doI ((m.write s p o v).fm l f.pc) l f (I.dec (m.fw l f.pc))).a = (doI (m.fm l f.pc) l f (I.dec (m.fw l f.pc))).a := doI_alike (fun _ _ => by
          refine ⟨by rw [(MS.fm_tr _ _ _ _ _ _).1, (MS.fm_tr _ _ _ _ _ _).1, (r2 _).1], ?_⟩
          unfold MS.rcW
          rw [(MS.fm_tr _ _ _ _ _ _).1, (MS.fm_tr _ _ _ _ _ _).1, (MS.fm_tr _ _ _ _ _ _).2.1, (MS.fm_tr _ _ _ _ _ _).2.1, (MS.fm_tr _ _ _ _ _ _).2.2.1, (MS.fm_tr _ _ _ _ _ _).2.2.1, (MS.fm_tr _ _ _ _ _ _).2.2.2, (MS.fm_tr _ _ _ _ _ _).2.2.2, (r2 _).1, (r2 _).2.1, (r2 _).2.2.1, (r2 _).2.2.2, MS.fm_word, MS.fm_word]
          rcases acc_val (I.dec (m.fw l f.pc)) with ha | ha
          · rw [ha]
            by_cases ht : m.trE l (ad f (I.dec (m.fw l f.pc))) 0 = 0
            · rw [if_pos ht, if_pos ht, if_neg (by decide), if_neg (by decide)]
              exact write_wordP h0 (fun hh => h (by unfold rds; rw [if_pos e, if_pos ⟨d, b⟩, if_pos ⟨ha, ht⟩, hh]; simp))
            · rw [if_neg ht, if_neg ht]
          · rw [ha, if_pos rfl, if_pos rfl])
        refine ⟨by rw [stp_do' e' d', stp_do' e d, w1]; exact hal, ?_, ?_, fun hs => ?_⟩
        · unfold stD; rw [w1, k1.2.2, k2.2.2, r1.1, (r2 _).1]
        · unfold stS; rw [w1, r1.1, (r2 _).1]
        · have hs' : stS (m.write s p o v) l f = true := by unfold stS at hs ⊢; rw [w1, r1.1, (r2 _).1]; exact hs
          unfold stB
          rw [if_pos hs', w1, (r2 _).2.1, (r2 _).2.2.1, (r2 _).2.2.2]
      · have na : ¬ acc (I.dec (m.fw l f.pc)) = 1 := fun ha => by have := acc_one ha; omega
        have hsf : stS m l f = false := by unfold stS; simp [na]
        refine ⟨by rw [stp_do' e' d', stp_do' e d, w1]; exact doI_alike (fun h1 h2 => absurd ⟨h1, h2⟩ b), ?_, ?_, fun hs => by rw [hsf] at hs; cases hs⟩
        · unfold stD; rw [w1, k1.2.2, r1.1, if_pos e, if_pos e, if_neg (fun hh => b hh.2), if_neg (fun hh => b hh.2)]
        · rw [hsf]; unfold stS; rw [w1]; simp [na]
    · have d' : ¬ I.decE ((m.write s p o v).fw l f.pc) = 0 := by rw [w1]; exact d
      have hsf : stS m l f = false := by unfold stS; simp [d]
      refine ⟨by rw [stp_bad' e' d', stp_bad' e d, w1]; exact ⟨rfl, rfl, rfl⟩, ?_, ?_, fun hs => by rw [hsf] at hs; cases hs⟩
      · unfold stD; rw [w1, k1.2.2, r1.1, if_pos e, if_pos e, if_neg (fun hh => d hh.1), if_neg (fun hh => d hh.1)]
      · rw [hsf]; unfold stS; rw [w1]; simp [d]
  · have e' : ¬ (m.write s p o v).trE l f.pc 2 = 0 := by rw [r1.1]; exact e
    have hsf : stS m l f = false := by unfold stS; simp [e]
    refine ⟨by rw [stp_no' e', stp_no' e]; exact ⟨rfl, rfl, rfl⟩, ?_, ?_, fun hs => by rw [hsf] at hs; cases hs⟩
    · unfold stD; rw [k1.2.2, r1.1, if_neg e, if_neg e]
    · rw [hsf]; unfold stS; simp [e']
theorem upd_word (m : MS) (s : Bool) (p o v : Int) (s' : Bool) (p' o' : Int) : (m.upd s p o v).word s' p' o' = (m.write s p o v).word s' p' o' := by
  unfold MS.upd MS.word; rfl
theorem write_self {m : MS} (hf : ∀ k, k < m.P.length → (m.p k).length = 1024) (h0 : m.ns ≤ m.P.length) {s : Bool} {p o v : Int} (h : m.err s p o = 0) : (m.write s p o v).word s p o = v := by
  unfold MS.err at h
  unfold MS.word
  rw [MS.write_at]
  cases h1 : m.at s p with
  | none => rw [h1] at h; cases h
  | some k =>
    rw [h1] at h
    simp only at h ⊢
    by_cases hi : In o
    · have hk := MS.at_lt h0 h1
      rw [if_pos hi]
      unfold MS.write
      rw [h1]
      simp only
      rw [if_pos hi]
      simp only [MS.p, List.getD_eq_getElem?_getD, List.getElem?_set_self hk, Option.getD_some]
      have hl := hf k hk
      unfold MS.p at hl
      rw [List.getD_eq_getElem?_getD] at hl
      rw [wd_set, if_pos ⟨rfl, by rw [hl]; unfold In at hi; omega⟩]
    · rw [if_neg hi] at h; cases h
end Go.Proofs.YteldpapacdbbiaaDoor
