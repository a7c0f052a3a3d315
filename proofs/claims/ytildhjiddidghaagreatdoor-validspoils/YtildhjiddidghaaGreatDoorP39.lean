import Derived.Test.YtildhjiddidghaaGreatDoorP38
namespace Go.Proofs.YtildhjiddidghaaGreatDoor
open Go.RowKit
set_option maxHeartbeats 4000000
set_option maxRecDepth 100000
theorem at_sec (m : MS) (k : Nat) (hk : k < m.ns) : m.at true (k : Int) = some k := by
  unfold MS.at
  rw [if_pos (by omega), if_pos rfl, if_pos (by omega)]
  simp
theorem in_nat (j : Nat) (hj : j < 1024) : In (j : Int) := ⟨by omega, by omega⟩
theorem MS.word_nat (m : MS) (k j : Nat) (hk : k < m.ns) (hj : j < 1024) : m.word true (k : Int) (j : Int) = wd (m.p k) j := by
  unfold MS.word
  rw [at_sec m k hk]
  simp only [if_pos (in_nat j hj)]
  simp
theorem MS.word_write (m : MS) (h0 : m.ns ≤ m.P.length) (hf : ∀ k, k < m.P.length → (m.p k).length = 1024) (k off q j : Nat) (v : Int) (hk : k < m.ns) (ho : off < 1024) (hq : q < m.ns) (hj : j < 1024) :
    (m.write true (k : Int) (off : Int) v).word true (q : Int) (j : Int) = if k = q ∧ off = j then v else m.word true (q : Int) (j : Int) := by
  rw [MS.word_nat _ q j (by rw [MS.write_ns]; exact hq) hj, MS.word_nat m q j hq hj]
  unfold MS.write
  rw [at_sec m k hk]
  simp only [if_pos (in_nat off ho)]
  show wd ((MS.mk m.ns (m.P.set k ((m.p k).set (off : Int).toNat v)) (m.tick 1).c).p q) j = _
  rw [MS.p_set]
  by_cases e : k = q
  · subst e
    rw [if_pos ⟨rfl, by omega⟩, wd_set2, hf k (by omega)]
    simp [hj]
  · rw [if_neg (fun h => e h.1), if_neg (fun h => e h.1)]
def dFr : DS := { DS.begun 2 0 with m := (DS.begun 2 0).m.write true 1 5 9 }
end Go.Proofs.YtildhjiddidghaaGreatDoor
