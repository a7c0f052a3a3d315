import Derived.Test.YtgbpbfnpeeciaaaGreatP28
namespace Go.Proofs.YtgbpbfnpeeciaaaGreat
open Go.RowKit
set_option maxRecDepth 100000
set_option maxHeartbeats 4000000
theorem DS.Sim.wc {d e : DS} (h : DS.Sim d e) : e = { d with m := { d.m with c := e.m.c } } := by
  obtain ⟨⟨c, ns, P⟩, b, E⟩ := d
  obtain ⟨⟨c', ns', P'⟩, b', E'⟩ := e
  obtain ⟨h1, h2, h3, h4⟩ := h
  simp only at h1 h2 h3 h4
  subst h1 h2 h3 h4
  rfl
theorem DS.Sim.takeE {d e : DS} (h : DS.Sim d e) (q t s : Int) : e.takeE q t s = d.takeE q t s := by unfold DS.takeE DS.more; rw [h.entE, h.ent, h.ent]
theorem DS.Sim.bearE {d e : DS} (h : DS.Sim d e) (s f : Int) : e.bearE s f = d.bearE s f := by unfold DS.bearE; rw [h.entE, h.entE, h.ent, h.ent, h.b]
theorem DS.Sim.lay {d e : DS} (h : DS.Sim d e) (k : Nat) (x : En) : DS.Sim (d.lay k x) (e.lay k x) := ⟨by unfold DS.lay; simp only [h.E], h.b, h.ns, h.P⟩
theorem DS.Sim.take {d e : DS} (h : DS.Sim d e) (q t s : Int) : DS.Sim (d.take q t s) (e.take q t s) := by
  unfold DS.take
  rw [h.takeE]
  split
  · unfold DS.taken DS.cnt
    have := (h.lay q.toNat (enT t s))
    rw [this.at]
    exact this.lay _ _
  · exact h
theorem MS.write_sim (m : MS) (c : Int) (s : Bool) (q o v : Int) : (MS.write { m with c := c } s q o v).ns = (m.write s q o v).ns ∧ (MS.write { m with c := c } s q o v).P = (m.write s q o v).P := by
  unfold MS.write
  rw [show MS.at { m with c := c } s q = m.at s q from rfl]
  split
  · exact ⟨rfl, rfl⟩
  · split <;> exact ⟨rfl, rfl⟩
theorem MS.zero_sim (m : MS) (c : Int) (s : Bool) (q : Int) : (MS.zero { m with c := c } s q).ns = (m.zero s q).ns ∧ (MS.zero { m with c := c } s q).P = (m.zero s q).P := by
  unfold MS.zero
  rw [show MS.at { m with c := c } s q = m.at s q from rfl]
  split <;> exact ⟨rfl, rfl⟩
theorem DS.Sim.write {d e : DS} (h : DS.Sim d e) (s : Bool) (q o v : Int) : DS.Sim { d with m := d.m.write s q o v } { e with m := e.m.write s q o v } := by
  rw [h.wc]
  have := MS.write_sim d.m e.m.c s q o v
  exact ⟨rfl, rfl, this.1, this.2⟩
theorem DS.Sim.wr {d e : DS} (h : DS.Sim d e) (q o v : Int) : DS.Sim (d.wr q o v) (e.wr q o v) := h.write true q o v
theorem DS.Sim.wipe {d e : DS} (h : DS.Sim d e) (q : Int) : DS.Sim (d.wipe q) (e.wipe q) := by
  rw [h.wc]
  have := MS.zero_sim d.m e.m.c true q
  exact ⟨rfl, rfl, this.1, this.2⟩
theorem DS.Sim.own {d e : DS} (h : DS.Sim d e) (s q k : Int) : e.own s q k = d.own s q k := by unfold DS.own; rw [h.ent]
theorem DS.Sim.preE {d e : DS} (h : DS.Sim d e) (s : Int) : e.preE s = d.preE s := by unfold DS.preE; rw [h.entE, h.ent]
theorem DS.Sim.fst {d e : DS} (h : DS.Sim d e) (s : Int) : e.fst s = d.fst s := h.word _ _ _
theorem DS.Sim.folE {d e : DS} (h : DS.Sim d e) (s : Int) : e.folE s = d.folE s := by unfold DS.folE; rw [h.preE, h.fst, h.own]
theorem DS.Sim.w1 {d e : DS} (h : DS.Sim d e) (s va : Int) : e.w1 s va = d.w1 s va := by unfold DS.w1; rw [h.fst, h.word]
theorem DS.Sim.isS {d e : DS} (h : DS.Sim d e) (s w : Int) : e.isS s w = d.isS s w := by unfold DS.isS; rw [h.own]
theorem DS.Sim.fndE {d e : DS} (h : DS.Sim d e) (s va : Int) : e.fndE s va = d.fndE s va := by unfold DS.fndE; rw [h.folE, h.w1, h.isS]
theorem DS.Sim.w2 {d e : DS} (h : DS.Sim d e) (s va : Int) : e.w2 s va = d.w2 s va := by unfold DS.w2; rw [h.w1, h.word]
theorem DS.Sim.slotE {d e : DS} (h : DS.Sim d e) (s va : Int) : e.slotE s va = d.slotE s va := by unfold DS.slotE; rw [h.fndE, h.w2]
theorem DS.Sim.putE {d e : DS} (h : DS.Sim d e) (s va : Int) (m : Mp) : e.putE s va m = d.putE s va m := by unfold DS.putE; rw [h.fndE, h.w2]
theorem DS.Sim.addE {d e : DS} (h : DS.Sim d e) (s i q : Int) : e.addE s i q = d.addE s i q := by unfold DS.addE; rw [h.folE, h.entE, h.own, h.fst, h.word]
theorem DS.Sim.rd (d : DS) (pg off : Int) : DS.Sim d (d.rd pg off) := DS.Sim.read d true pg off
theorem DS.Sim.folD (d : DS) (s : Int) : DS.Sim d (d.folD s) := by
  unfold DS.folD
  split
  · exact .rd _ _ _
  · exact .refl _
theorem DS.Sim.fndD (d : DS) (s va : Int) : DS.Sim d (d.fndD s va) := by
  unfold DS.fndD
  split
  · exact .folD _ _
  · split
    · exact .folD _ _
    · exact (DS.Sim.folD _ _).trans (.rd _ _ _)
theorem DS.Sim.look (d : DS) (s va : Int) : DS.Sim d (d.look s va) := by
  unfold DS.look
  split
  · exact (DS.Sim.fndD _ _ _).trans (.rd _ _ _)
  · exact .fndD _ _ _
def DS.putS (d : DS) (s va : Int) (m : Mp) : DS := if d.putE s va m = 0 then d.wr (pf (d.w1 s va)) (spJ va) m.enc else d
def DS.addS (d : DS) (s i q : Int) : DS := if d.addE s i q = 0 then d.wr (d.fst s) i (fW q) else d
theorem DS.Sim.put (d : DS) (s va : Int) (m : Mp) : DS.Sim (d.putS s va m) (d.put s va m) := by
  unfold DS.putS DS.put DS.putE
  by_cases h1 : d.fndE s va = 0
  · simp only [if_pos h1]
    unfold DS.tn filW filE
    by_cases h2 : d.w2 s va = 0
    · simp only [if_pos h2]
      split
      · exact ((DS.Sim.fndD d s va).trans (.rd _ _ _)).wr _ _ _
      · exact (DS.Sim.fndD d s va).trans (.rd _ _ _)
    · simp only [if_neg h2, if_neg (show ¬ (140 : Int) = 0 by decide)]
      exact (DS.Sim.fndD d s va).trans (.rd _ _ _)
  · simp only [if_neg h1]
    exact .fndD d s va
theorem DS.Sim.add (d : DS) (s i q : Int) : DS.Sim (d.addS s i q) (d.add s i q) := by
  unfold DS.addS DS.add DS.addE
  by_cases h1 : d.folE s = 0
  · by_cases h2 : 0 ≤ i ∧ i < 256
    · by_cases h3 : d.entE q = 0
      · by_cases h4 : d.own s q 4 = true
        · simp only [if_pos h1, if_pos h2, if_pos h3, if_pos h4, if_pos (show d.folE s = 0 ∧ (0 ≤ i ∧ i < 256) ∧ d.entE q = 0 ∧ d.own s q 4 = true from ⟨h1, h2, h3, h4⟩)]
          unfold DS.tn filW filE
          by_cases h5 : d.m.word true (d.fst s) i = 0
          · simp only [if_pos h5]
            split
            · exact ((DS.Sim.folD d s).trans (.rd _ _ _)).wr _ _ _
            · exact (DS.Sim.folD d s).trans (.rd _ _ _)
          · simp only [if_neg h5, if_neg (show ¬ (140 : Int) = 0 by decide)]
            exact (DS.Sim.folD d s).trans (.rd _ _ _)
        · simp only [if_pos h1, if_pos h2, if_pos h3, if_neg h4, if_neg (show ¬ (124 : Int) = 0 by decide), if_neg (show ¬ (d.folE s = 0 ∧ (0 ≤ i ∧ i < 256) ∧ d.entE q = 0 ∧ d.own s q 4 = true) from fun h => h4 h.2.2.2)]
          exact .folD d s
      · simp only [if_pos h1, if_pos h2, if_neg h3, if_neg (show ¬ (d.folE s = 0 ∧ (0 ≤ i ∧ i < 256) ∧ d.entE q = 0 ∧ d.own s q 4 = true) from fun h => h3 h.2.2.1)]
        exact .folD d s
    · simp only [if_pos h1, if_neg h2, if_neg (show ¬ (4 : Int) = 0 by decide), if_neg (show ¬ (d.folE s = 0 ∧ (0 ≤ i ∧ i < 256) ∧ d.entE q = 0 ∧ d.own s q 4 = true) from fun h => h2 h.2.1)]
      exact .folD d s
  · simp only [if_neg h1, if_neg (show ¬ (d.folE s = 0 ∧ (0 ≤ i ∧ i < 256) ∧ d.entE q = 0 ∧ d.own s q 4 = true) from fun h => h1 h.1)]
    exact .folD d s
theorem DS.Sim.putS {d e : DS} (h : DS.Sim d e) (s va : Int) (m : Mp) : DS.Sim (d.putS s va m) (e.putS s va m) := by
  unfold DS.putS
  rw [h.putE, h.w1]
  split
  · exact h.wr _ _ _
  · exact h
theorem DS.Sim.addS {d e : DS} (h : DS.Sim d e) (s i q : Int) : DS.Sim (d.addS s i q) (e.addS s i q) := by
  unfold DS.addS
  rw [h.addE, h.fst]
  split
  · exact h.wr _ _ _
  · exact h
end Go.Proofs.YtgbpbfnpeeciaaaGreat
