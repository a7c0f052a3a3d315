/- find. -/
import Derived.Test.YtajkhkaidjjioaaMb
namespace Go.Proofs.Ytajkhkaidjjioaa
open Go.RowKit
theorem find_any (w : World) (f : Fp) (m : MS) (h : Mem w f m) (s : Bool) (p : Int) :
    Calls Try.prog 95 #[ptr f.gm, fr s p] w fun x w' => x = .returned (pv f (m.at s p)) ∧ Below w.heap.size w w' := by
  have hX := h.on (below_one w (.cells #[.bool s, .int .i64 p] 54))
  have hB := hid (below_one w (.cells #[.bool s, .int .i64 p] 54))
  have c0 := hX.cel.cell 0
  have c1 := hX.cel.cell 1
  have H := hid hX
  have h1 := h.ns0; have h2 := h.most
  clear h hX
  simp only [List.getElem?_cons_zero, List.getElem?_cons_succ] at c0 c1
  have HN : Hid (p < 0 ∨ (((if s then m.ns else m.P.length - m.ns) : Nat) : Int) ≤ p → m.at s p = none) := by
    intro hh; unfold MS.at; cases s <;> simp at hh ⊢ <;> omega
  have HS : Hid (s = true → 0 ≤ p → p < (m.ns : Int) → m.at s p = some p.toNat) := by
    intro hs a b; unfold MS.at; rw [if_pos a, if_pos hs, if_pos b]
  have HI : Hid (s = false → 0 ≤ p → p < ((m.P.length - m.ns : Nat) : Int) → m.at s p = some (m.ns + p.toNat)) := by
    intro hs a b; unfold MS.at; rw [if_pos a, if_neg (by simp [hs]), if_pos b]
  generalize m.at s p = r at *
  cases s
  · by_cases hp : p < 0 ∨ ((m.P.length - m.ns : Nat) : Int) ≤ p
    · have hr := HN.out (by simpa using hp)
      clear HN HS HI
      subst hr
      simp only [ptr, fr, pv] at *
      go_enter Try.func95, Try.ntmps95
      rcases hp with hp | hp
      all_goals go_wp2_with fail
      all_goals go_ret
      all_goals exact ⟨rfl, hB.out⟩
    · have q0 : 0 ≤ p := by omega
      have q1 : p < ((m.P.length - m.ns : Nat) : Int) := by omega
      have hr := HI.out rfl q0 q1
      clear HN HS HI hp
      subst hr
      have cc := H.out.insAt p.toNat (by omega)
      simp only [ptr, fr, pv] at *
      go_enter Try.func95, Try.ntmps95
      go_wp2_with fail
      all_goals go_ret
      all_goals exact ⟨rfl, hB.out⟩
  · by_cases hp : p < 0 ∨ (m.ns : Int) ≤ p
    · have hr := HN.out (by simpa using hp)
      clear HN HS HI
      subst hr
      simp only [ptr, fr, pv] at *
      go_enter Try.func95, Try.ntmps95
      rcases hp with hp | hp
      all_goals go_wp2_with fail
      all_goals go_ret
      all_goals exact ⟨rfl, hB.out⟩
    · have q0 : 0 ≤ p := by omega
      have q1 : p < (m.ns : Int) := by omega
      have hr := HS.out rfl q0 q1
      clear HN HS HI hp
      subst hr
      have cc := H.out.secAt p.toNat (by omega)
      simp only [ptr, fr, pv] at *
      go_enter Try.func95, Try.ntmps95
      go_wp2_with fail
      all_goals go_ret
      all_goals exact ⟨rfl, hB.out⟩
end Go.Proofs.Ytajkhkaidjjioaa
