import Derived.Test.YtbjinmlelchmgaaGreatDoorP10
import Derived.Test.YtbjinmlelchmgaaGreatDoorP01
namespace Go.Proofs.YtbjinmlelchmgaaGreatDoor
open Go.RowKit
set_option maxRecDepth 20000 in
set_option maxHeartbeats 1000000 in
theorem same_any (W : World) (a1 a2 : Option Addr) (n p1 p2 : Nat) (l : List (List UInt8)) (hl : l.length = n) (hn : n ≤ 1000000000) (h1 : StrsAt W a1 l) (h2 : StrsAt W a2 l) :
    Calls Tryz.prog 26 #[.slice a1 n p1, .slice a2 n p2] W fun e w' => e = .returned (.bool true) ∧ Below W.heap.size W w' := by
  have b1 : (n : Int) ≤ 1000000000 := by omega
  have H1 : Hid (StrsAt W a1 l) := h1
  have H2 : Hid (StrsAt W a2 l) := h2
  have HLN : Hid (l.length = n) := hl
  clear h1 h2 hl
  go_enter Tryz.func26, Tryz.ntmps26
  go_wp2_with fail
  go_loopw [5] (fun i wr => ∃ k : Nat, k ≤ n ∧ i = .int .i64 k ∧ Below W.heap.size W wr) (fun i _ => n - (intOf i).toNat)
  case atStart => exact ⟨0, Nat.zero_le _, rfl, Below.refl _ _⟩
  case round =>
    obtain ⟨k, hk, rfl, hbl⟩ := hrel
    by_cases hlt : k < n
    · have c1 : (k : Int) < (n : Int) := by omega
      have hkl : k < l.length := by rw [HLN.out]; exact hlt
      rcases H1.out with h0 | ⟨b1, o1, rfl, hb1, hc1⟩
      · rw [h0] at hkl; simp at hkl
      rcases H2.out with h0 | ⟨b2, o2, rfl, hb2, hc2⟩
      · rw [h0] at hkl; simp at hkl
      have d1 := hc1 k hkl
      have d2 := hc2 k hkl
      rw [← hbl.cell (p := ⟨b1, o1 + k, none⟩) hb1] at d1
      rw [← hbl.cell (p := ⟨b2, o2 + k, none⟩) hb2] at d2
      generalize l[k] = x at *
      clear hc1 hc2 hkl
      have z0 : (0 : Int) ≤ (k : Int) := by omega
      have d3 : wr.drew.cell? ⟨b1, o1 + k, none⟩ = some (.string ⟨x.toArray⟩) := d1
      have d4 : wr.drew.cell? ⟨b2, o2 + k, none⟩ = some (.string ⟨x.toArray⟩) := d2
      go_wp2_with fail
      refine wp_region_held_drew (S := fun x => x = wr.drew) (by kernel_rfl) rfl (fun hHeld => ?_)
      refine tk 0 ⟨some 17, .move (.tmp 0), 24, "law.go:61", #[], none⟩ (.slice (some ⟨b1, o1, none⟩) n p1) ?_ (hy := Or.inl ⟨by rfl, by intro w hSw; subst hSw; go_simp⟩)
      simp only [Act.put, List.setIfInBounds_toArray, List.set_cons_zero, List.set_cons_succ]
      refine tk 1 ⟨some 18, .move (.tmp 5), 3, "law.go:61", #[], none⟩ (.int .i64 (k : Int)) ?_ (hy := Or.inl ⟨by rfl, by intro w hSw; subst hSw; go_simp⟩)
      simp only [Act.put, List.setIfInBounds_toArray, List.set_cons_zero, List.set_cons_succ]
      refine tk 2 ⟨some 19, .indexAddr 24 (.tmp 17) (.tmp 18), 0, "law.go:61", #[⟨0, .data⟩, ⟨1, .data⟩], none⟩ (.pointer (some ⟨b1, o1 + k, none⟩)) ?_ (hy := Or.inl ⟨by rfl, by intro w hSw; subst hSw; go_simp⟩)
      simp only [Act.put, List.setIfInBounds_toArray, List.set_cons_zero, List.set_cons_succ]
      refine tk 3 ⟨some 20, .load 9 (.tmp 19), 9, "law.go:61", #[⟨2, .data⟩], none⟩ (.string ⟨x.toArray⟩) ?_ (hy := Or.inl ⟨by rfl, by intro w hSw; subst hSw; go_simp⟩)
      simp only [Act.put, List.setIfInBounds_toArray, List.set_cons_zero, List.set_cons_succ]
      refine tk 4 ⟨some 21, .move (.tmp 1), 24, "law.go:61", #[], none⟩ (.slice (some ⟨b2, o2, none⟩) n p2) ?_ (hy := Or.inl ⟨by rfl, by intro w hSw; subst hSw; go_simp⟩)
      simp only [Act.put, List.setIfInBounds_toArray, List.set_cons_zero, List.set_cons_succ]
      refine tk 5 ⟨some 22, .move (.tmp 5), 3, "law.go:61", #[], none⟩ (.int .i64 (k : Int)) ?_ (hy := Or.inl ⟨by rfl, by intro w hSw; subst hSw; go_simp⟩)
      simp only [Act.put, List.setIfInBounds_toArray, List.set_cons_zero, List.set_cons_succ]
      refine tk 6 ⟨some 23, .indexAddr 24 (.tmp 21) (.tmp 22), 0, "law.go:61", #[⟨4, .data⟩, ⟨5, .data⟩], none⟩ (.pointer (some ⟨b2, o2 + k, none⟩)) ?_ (hy := Or.inl ⟨by rfl, by intro w hSw; subst hSw; go_simp⟩)
      simp only [Act.put, List.setIfInBounds_toArray, List.set_cons_zero, List.set_cons_succ]
      refine tk 7 ⟨some 24, .load 9 (.tmp 23), 9, "law.go:61", #[⟨6, .data⟩], none⟩ (.string ⟨x.toArray⟩) ?_ (hy := Or.inl ⟨by rfl, by intro w hSw; subst hSw; go_simp⟩)
      simp only [Act.put, List.setIfInBounds_toArray, List.set_cons_zero, List.set_cons_succ]
      refine tk 8 ⟨some 25, .binOp .neq 9 (.tmp 20) (.tmp 24) 9, 4, "law.go:61", #[⟨3, .data⟩, ⟨7, .data⟩], none⟩ (.bool false) ?_ (hy := Or.inl ⟨by rfl, by intro w hSw; subst hSw; go_simp⟩)
      simp only [Act.put, List.setIfInBounds_toArray, List.set_cons_zero, List.set_cons_succ]
      refine wpAnyH_done (by kernel_rfl) ?_ _
      clear hHeld d1 d2 d3 d4
      go_wp2_with fail
      go_roundw
      case measure => simp [intOf]; omega
      case rel => exact ⟨k + 1, by omega, by go_num, hbl.drew⟩
    · obtain rfl : k = n := by omega
      go_wp2_with fail
      go_ret
      exact ⟨rfl, hbl⟩
end Go.Proofs.YtbjinmlelchmgaaGreatDoor
