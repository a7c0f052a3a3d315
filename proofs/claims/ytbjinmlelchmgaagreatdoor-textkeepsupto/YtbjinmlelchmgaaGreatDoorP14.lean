import Derived.Test.YtbjinmlelchmgaaGreatDoorP11
import Derived.Test.YtbjinmlelchmgaaGreatDoorP01
import Derived.Test.YtbjinmlelchmgaaGreatDoorP13
import Derived.Shelf.Strings.BuilderK
import Derived.Shelf.Strings.Trim
import Derived.Shelf.Strings.AsciiSet
import Derived.Shelf.Strings.Repeat
import Derived.Test.YtbjinmlelchmgaaGreatDoorProg
import Derived.Lib.SplitLaws
namespace Go.Proofs.YtbjinmlelchmgaaGreatDoor
open Go.RowKit
def WdsAt (w : World) (ao : Option Addr) (l : List T.Wd) : Prop := l = [] ∨ ∃ b o, ao = some ⟨b, o, none⟩ ∧ b < w.heap.size ∧ ∀ i (h : i < l.length), w.cell? ⟨b, o + i * 3, none⟩ = some (.string ⟨l[i].text.toArray⟩) ∧ w.cell? ⟨b, o + i * 3 + 1, none⟩ = some (.bool l[i].quoted) ∧ w.cell? ⟨b, o + i * 3 + 2, none⟩ = some (.int .i64 (l[i].col : Int))
set_option maxRecDepth 20000 in
set_option maxHeartbeats 2000000 in
theorem sameWords_any (W : World) (a1 a2 : Option Addr) (n p1 p2 : Nat) (l : List T.Wd) (hl : l.length = n) (hn : n ≤ 1000000000) (h1 : WdsAt W a1 l) (h2 : WdsAt W a2 l) :
    Calls Tryz.prog 27 #[.slice a1 n p1, .slice a2 n p2] W fun e w' => e = .returned (.bool true) ∧ Below W.heap.size W w' := by
  have b1 : (n : Int) ≤ 1000000000 := by omega
  have H1 : Hid (WdsAt W a1 l) := h1
  have H2 : Hid (WdsAt W a2 l) := h2
  have HLN : Hid (l.length = n) := hl
  clear h1 h2 hl
  go_enter Tryz.func27, Tryz.ntmps27
  go_wp2_with fail
  go_loopw [5] (fun i wr => ∃ k : Nat, k ≤ n ∧ i = .int .i64 k ∧ Below W.heap.size W wr) (fun i _ => n - (intOf i).toNat)
  case atStart => exact ⟨0, Nat.zero_le _, rfl, Below.refl _ _⟩
  case round =>
    obtain ⟨k, hk, rfl, hbl⟩ := hrel
    by_cases hlt : k < n
    · have c1 : (k : Int) < (n : Int) := by omega
      have hkl : k < l.length := by rw [HLN.out]; exact hlt
      rcases H1.out with h0 | ⟨b1, o1, rfl, hb1, hc1⟩
      · rw [h0] at hkl; simp at hkl
      rcases H2.out with h0 | ⟨b2, o2, rfl, hb2, hc2⟩
      · rw [h0] at hkl; simp at hkl
      obtain ⟨d1, d2, d3⟩ := hc1 k hkl
      obtain ⟨e1, e2, e3⟩ := hc2 k hkl
      rw [← hbl.cell (p := ⟨b1, _, none⟩) hb1] at d1 d2 d3
      rw [← hbl.cell (p := ⟨b2, _, none⟩) hb2] at e1 e2 e3
      generalize l[k] = wd at *
      obtain ⟨x, y, z⟩ := wd
      simp only at d1 d2 d3 e1 e2 e3
      clear hc1 hc2 hkl
      have z0 : (0 : Int) ≤ (k : Int) := by omega
      have d4 : wr.drew.cell? ⟨b1, o1 + k * 3, none⟩ = some (.string ⟨x.toArray⟩) := d1
      have d5 : wr.drew.cell? ⟨b1, o1 + k * 3 + 1, none⟩ = some (.bool y) := d2
      have d6 : wr.drew.cell? ⟨b1, o1 + k * 3 + 2, none⟩ = some (.int .i64 (z : Int)) := d3
      have e4 : wr.drew.cell? ⟨b2, o2 + k * 3, none⟩ = some (.string ⟨x.toArray⟩) := e1
      have e5 : wr.drew.cell? ⟨b2, o2 + k * 3 + 1, none⟩ = some (.bool y) := e2
      have e6 : wr.drew.cell? ⟨b2, o2 + k * 3 + 2, none⟩ = some (.int .i64 (z : Int)) := e3
      go_wp2_with fail
      refine wp_region_held_drew (S := fun x => x = wr.drew) (by kernel_rfl) rfl (fun hHeld => ?_)
      refine tk 0 ⟨some 17, .move (.tmp 0), 25, "law.go:74", #[], none⟩ (.slice (some ⟨b1, o1, none⟩) n p1) ?_ (hy := Or.inl ⟨by rfl, by intro w hSw; subst hSw; go_simp⟩)
      simp only [Act.put, List.setIfInBounds_toArray, List.set_cons_zero, List.set_cons_succ]
      refine tk 1 ⟨some 18, .move (.tmp 5), 3, "law.go:74", #[], none⟩ (.int .i64 (k : Int)) ?_ (hy := Or.inl ⟨by rfl, by intro w hSw; subst hSw; go_simp⟩)
      simp only [Act.put, List.setIfInBounds_toArray, List.set_cons_zero, List.set_cons_succ]
      refine tk 2 ⟨some 19, .indexAddr 25 (.tmp 17) (.tmp 18), 0, "law.go:74", #[⟨0, .data⟩, ⟨1, .data⟩], none⟩ (.pointer (some ⟨b1, o1 + k * 3, none⟩)) ?_ (hy := Or.inl ⟨by rfl, by intro w hSw; subst hSw; go_simp⟩)
      simp only [Act.put, List.setIfInBounds_toArray, List.set_cons_zero, List.set_cons_succ]
      refine tk 3 ⟨some 20, .fieldAddr 61 (.tmp 19) 0, 0, "law.go:74", #[⟨2, .data⟩], none⟩ (.pointer (some ⟨b1, o1 + k * 3, none⟩)) ?_ (hy := Or.inl ⟨by rfl, by intro w hSw; subst hSw; go_simp⟩)
      simp only [Act.put, List.setIfInBounds_toArray, List.set_cons_zero, List.set_cons_succ]
      refine tk 4 ⟨some 21, .load 9 (.tmp 20), 9, "law.go:74", #[⟨3, .data⟩], none⟩ (.string ⟨x.toArray⟩) ?_ (hy := Or.inl ⟨by rfl, by intro w hSw; subst hSw; go_simp⟩)
      simp only [Act.put, List.setIfInBounds_toArray, List.set_cons_zero, List.set_cons_succ]
      refine tk 5 ⟨some 22, .move (.tmp 1), 51, "law.go:74", #[], none⟩ (.slice (some ⟨b2, o2, none⟩) n p2) ?_ (hy := Or.inl ⟨by rfl, by intro w hSw; subst hSw; go_simp⟩)
      simp only [Act.put, List.setIfInBounds_toArray, List.set_cons_zero, List.set_cons_succ]
      refine tk 6 ⟨some 23, .move (.tmp 5), 3, "law.go:74", #[], none⟩ (.int .i64 (k : Int)) ?_ (hy := Or.inl ⟨by rfl, by intro w hSw; subst hSw; go_simp⟩)
      simp only [Act.put, List.setIfInBounds_toArray, List.set_cons_zero, List.set_cons_succ]
      refine tk 7 ⟨some 24, .indexAddr 51 (.tmp 22) (.tmp 23), 0, "law.go:74", #[⟨5, .data⟩, ⟨6, .data⟩], none⟩ (.pointer (some ⟨b2, o2 + k * 3, none⟩)) ?_ (hy := Or.inl ⟨by rfl, by intro w hSw; subst hSw; go_simp⟩)
      simp only [Act.put, List.setIfInBounds_toArray, List.set_cons_zero, List.set_cons_succ]
      refine tk 8 ⟨some 25, .fieldAddr 87 (.tmp 24) 0, 0, "law.go:74", #[⟨7, .data⟩], none⟩ (.pointer (some ⟨b2, o2 + k * 3, none⟩)) ?_ (hy := Or.inl ⟨by rfl, by intro w hSw; subst hSw; go_simp⟩)
      simp only [Act.put, List.setIfInBounds_toArray, List.set_cons_zero, List.set_cons_succ]
      refine tk 9 ⟨some 26, .load 9 (.tmp 25), 9, "law.go:74", #[⟨8, .data⟩], none⟩ (.string ⟨x.toArray⟩) ?_ (hy := Or.inl ⟨by rfl, by intro w hSw; subst hSw; go_simp⟩)
      simp only [Act.put, List.setIfInBounds_toArray, List.set_cons_zero, List.set_cons_succ]
      refine tk 10 ⟨some 27, .binOp .neq 9 (.tmp 21) (.tmp 26) 9, 4, "law.go:74", #[⟨4, .data⟩, ⟨9, .data⟩], none⟩ (.bool false) ?_ (hy := Or.inl ⟨by rfl, by intro w hSw; subst hSw; go_simp⟩)
      simp only [Act.put, List.setIfInBounds_toArray, List.set_cons_zero, List.set_cons_succ]
      refine tk 11 ⟨some 28, .move (.tmp 27), 4, "law.go:74", #[⟨10, .data⟩], none⟩ (.bool false) ?_ (hy := Or.inl ⟨by rfl, by intro w hSw; subst hSw; go_simp⟩)
      simp only [Act.put, List.setIfInBounds_toArray, List.set_cons_zero, List.set_cons_succ]
      refine tk 12 ⟨some 29, .move (.tmp 0), 25, "law.go:74", #[⟨11, .guard⟩], some (11, false)⟩ (.slice (some ⟨b1, o1, none⟩) n p1) ?_ (hy := Or.inl ⟨by rfl, by intro w hSw; subst hSw; go_simp⟩)
      simp only [Act.put, List.setIfInBounds_toArray, List.set_cons_zero, List.set_cons_succ]
      refine tk 13 ⟨some 30, .move (.tmp 5), 3, "law.go:74", #[⟨11, .guard⟩], some (11, false)⟩ (.int .i64 (k : Int)) ?_ (hy := Or.inl ⟨by rfl, by intro w hSw; subst hSw; go_simp⟩)
      simp only [Act.put, List.setIfInBounds_toArray, List.set_cons_zero, List.set_cons_succ]
      refine tk 14 ⟨some 31, .indexAddr 25 (.tmp 29) (.tmp 30), 0, "law.go:74", #[⟨12, .data⟩, ⟨13, .data⟩, ⟨11, .guard⟩], some (11, false)⟩ (.pointer (some ⟨b1, o1 + k * 3, none⟩)) ?_ (hy := Or.inl ⟨by rfl, by intro w hSw; subst hSw; go_simp⟩)
      simp only [Act.put, List.setIfInBounds_toArray, List.set_cons_zero, List.set_cons_succ]
      refine tk 15 ⟨some 32, .fieldAddr 61 (.tmp 31) 1, 0, "law.go:74", #[⟨14, .data⟩, ⟨11, .guard⟩], some (11, false)⟩ (.pointer (some ⟨b1, o1 + k * 3 + 1, none⟩)) ?_ (hy := Or.inl ⟨by rfl, by intro w hSw; subst hSw; go_simp⟩)
      simp only [Act.put, List.setIfInBounds_toArray, List.set_cons_zero, List.set_cons_succ]
      refine tk 16 ⟨some 33, .load 4 (.tmp 32), 4, "law.go:74", #[⟨15, .data⟩, ⟨11, .guard⟩], some (11, false)⟩ (.bool y) ?_ (hy := Or.inl ⟨by rfl, by intro w hSw; subst hSw; go_simp⟩)
      simp only [Act.put, List.setIfInBounds_toArray, List.set_cons_zero, List.set_cons_succ]
      refine tk 17 ⟨some 34, .move (.tmp 1), 51, "law.go:74", #[⟨11, .guard⟩], some (11, false)⟩ (.slice (some ⟨b2, o2, none⟩) n p2) ?_ (hy := Or.inl ⟨by rfl, by intro w hSw; subst hSw; go_simp⟩)
      simp only [Act.put, List.setIfInBounds_toArray, List.set_cons_zero, List.set_cons_succ]
      refine tk 18 ⟨some 35, .move (.tmp 5), 3, "law.go:74", #[⟨11, .guard⟩], some (11, false)⟩ (.int .i64 (k : Int)) ?_ (hy := Or.inl ⟨by rfl, by intro w hSw; subst hSw; go_simp⟩)
      simp only [Act.put, List.setIfInBounds_toArray, List.set_cons_zero, List.set_cons_succ]
      refine tk 19 ⟨some 36, .indexAddr 51 (.tmp 34) (.tmp 35), 0, "law.go:74", #[⟨17, .data⟩, ⟨18, .data⟩, ⟨11, .guard⟩], some (11, false)⟩ (.pointer (some ⟨b2, o2 + k * 3, none⟩)) ?_ (hy := Or.inl ⟨by rfl, by intro w hSw; subst hSw; go_simp⟩)
      simp only [Act.put, List.setIfInBounds_toArray, List.set_cons_zero, List.set_cons_succ]
      refine tk 20 ⟨some 37, .fieldAddr 87 (.tmp 36) 1, 0, "law.go:74", #[⟨19, .data⟩, ⟨11, .guard⟩], some (11, false)⟩ (.pointer (some ⟨b2, o2 + k * 3 + 1, none⟩)) ?_ (hy := Or.inl ⟨by rfl, by intro w hSw; subst hSw; go_simp⟩)
      simp only [Act.put, List.setIfInBounds_toArray, List.set_cons_zero, List.set_cons_succ]
      refine tk 21 ⟨some 38, .load 4 (.tmp 37), 4, "law.go:74", #[⟨20, .data⟩, ⟨11, .guard⟩], some (11, false)⟩ (.bool y) ?_ (hy := Or.inl ⟨by rfl, by intro w hSw; subst hSw; go_simp⟩)
      simp only [Act.put, List.setIfInBounds_toArray, List.set_cons_zero, List.set_cons_succ]
      refine tk 22 ⟨some 39, .binOp .neq 4 (.tmp 33) (.tmp 38) 4, 4, "law.go:74", #[⟨16, .data⟩, ⟨21, .data⟩, ⟨11, .guard⟩], some (11, false)⟩ (.bool false) ?_ (hy := Or.inl ⟨by rfl, by intro w hSw; subst hSw; go_simp⟩)
      simp only [Act.put, List.setIfInBounds_toArray, List.set_cons_zero, List.set_cons_succ]
      refine tk 23 ⟨some 40, .pick (.tmp 28) (.const (.bool true)) (.tmp 39), 4, "law.go:74", #[⟨11, .data⟩, ⟨22, .data⟩], none⟩ (.bool false) ?_ (hy := Or.inl ⟨by rfl, by intro w hSw; subst hSw; go_simp⟩)
      simp only [Act.put, List.setIfInBounds_toArray, List.set_cons_zero, List.set_cons_succ]
      refine tk 24 ⟨some 41, .move (.tmp 40), 4, "law.go:74", #[⟨23, .data⟩, ⟨11, .chain⟩], none⟩ (.bool false) ?_ (hy := Or.inl ⟨by rfl, by intro w hSw; subst hSw; go_simp⟩)
      simp only [Act.put, List.setIfInBounds_toArray, List.set_cons_zero, List.set_cons_succ]
      refine tk 25 ⟨some 42, .move (.tmp 0), 25, "law.go:74", #[⟨24, .guard⟩], some (24, false)⟩ (.slice (some ⟨b1, o1, none⟩) n p1) ?_ (hy := Or.inl ⟨by rfl, by intro w hSw; subst hSw; go_simp⟩)
      simp only [Act.put, List.setIfInBounds_toArray, List.set_cons_zero, List.set_cons_succ]
      refine tk 26 ⟨some 43, .move (.tmp 5), 3, "law.go:74", #[⟨24, .guard⟩], some (24, false)⟩ (.int .i64 (k : Int)) ?_ (hy := Or.inl ⟨by rfl, by intro w hSw; subst hSw; go_simp⟩)
      simp only [Act.put, List.setIfInBounds_toArray, List.set_cons_zero, List.set_cons_succ]
      refine tk 27 ⟨some 44, .indexAddr 25 (.tmp 42) (.tmp 43), 0, "law.go:74", #[⟨25, .data⟩, ⟨26, .data⟩, ⟨24, .guard⟩], some (24, false)⟩ (.pointer (some ⟨b1, o1 + k * 3, none⟩)) ?_ (hy := Or.inl ⟨by rfl, by intro w hSw; subst hSw; go_simp⟩)
      simp only [Act.put, List.setIfInBounds_toArray, List.set_cons_zero, List.set_cons_succ]
      refine tk 28 ⟨some 45, .fieldAddr 61 (.tmp 44) 2, 0, "law.go:74", #[⟨27, .data⟩, ⟨24, .guard⟩], some (24, false)⟩ (.pointer (some ⟨b1, o1 + k * 3 + 2, none⟩)) ?_ (hy := Or.inl ⟨by rfl, by intro w hSw; subst hSw; go_simp⟩)
      simp only [Act.put, List.setIfInBounds_toArray, List.set_cons_zero, List.set_cons_succ]
      refine tk 29 ⟨some 46, .load 3 (.tmp 45), 3, "law.go:74", #[⟨28, .data⟩, ⟨24, .guard⟩], some (24, false)⟩ (.int .i64 (z : Int)) ?_ (hy := Or.inl ⟨by rfl, by intro w hSw; subst hSw; go_simp⟩)
      simp only [Act.put, List.setIfInBounds_toArray, List.set_cons_zero, List.set_cons_succ]
      refine tk 30 ⟨some 47, .move (.tmp 1), 51, "law.go:74", #[⟨24, .guard⟩], some (24, false)⟩ (.slice (some ⟨b2, o2, none⟩) n p2) ?_ (hy := Or.inl ⟨by rfl, by intro w hSw; subst hSw; go_simp⟩)
      simp only [Act.put, List.setIfInBounds_toArray, List.set_cons_zero, List.set_cons_succ]
      refine tk 31 ⟨some 48, .move (.tmp 5), 3, "law.go:74", #[⟨24, .guard⟩], some (24, false)⟩ (.int .i64 (k : Int)) ?_ (hy := Or.inl ⟨by rfl, by intro w hSw; subst hSw; go_simp⟩)
      simp only [Act.put, List.setIfInBounds_toArray, List.set_cons_zero, List.set_cons_succ]
      refine tk 32 ⟨some 49, .indexAddr 51 (.tmp 47) (.tmp 48), 0, "law.go:74", #[⟨30, .data⟩, ⟨31, .data⟩, ⟨24, .guard⟩], some (24, false)⟩ (.pointer (some ⟨b2, o2 + k * 3, none⟩)) ?_ (hy := Or.inl ⟨by rfl, by intro w hSw; subst hSw; go_simp⟩)
      simp only [Act.put, List.setIfInBounds_toArray, List.set_cons_zero, List.set_cons_succ]
      refine tk 33 ⟨some 50, .fieldAddr 87 (.tmp 49) 2, 0, "law.go:74", #[⟨32, .data⟩, ⟨24, .guard⟩], some (24, false)⟩ (.pointer (some ⟨b2, o2 + k * 3 + 2, none⟩)) ?_ (hy := Or.inl ⟨by rfl, by intro w hSw; subst hSw; go_simp⟩)
      simp only [Act.put, List.setIfInBounds_toArray, List.set_cons_zero, List.set_cons_succ]
      refine tk 34 ⟨some 51, .load 3 (.tmp 50), 3, "law.go:74", #[⟨33, .data⟩, ⟨24, .guard⟩], some (24, false)⟩ (.int .i64 (z : Int)) ?_ (hy := Or.inl ⟨by rfl, by intro w hSw; subst hSw; go_simp⟩)
      simp only [Act.put, List.setIfInBounds_toArray, List.set_cons_zero, List.set_cons_succ]
      refine tk 35 ⟨some 52, .binOp .neq 3 (.tmp 46) (.tmp 51) 3, 4, "law.go:74", #[⟨29, .data⟩, ⟨34, .data⟩, ⟨24, .guard⟩], some (24, false)⟩ (.bool false) ?_ (hy := Or.inl ⟨by rfl, by intro w hSw; subst hSw; go_simp⟩)
      simp only [Act.put, List.setIfInBounds_toArray, List.set_cons_zero, List.set_cons_succ]
      refine tk 36 ⟨some 53, .pick (.tmp 41) (.const (.bool true)) (.tmp 52), 4, "law.go:74", #[⟨24, .data⟩, ⟨35, .data⟩], none⟩ (.bool false) ?_ (hy := Or.inl ⟨by rfl, by intro w hSw; subst hSw; go_simp⟩)
      simp only [Act.put, List.setIfInBounds_toArray, List.set_cons_zero, List.set_cons_succ]
      refine wpAnyH_done (by kernel_rfl) ?_ _
      clear hHeld d1 d2 d3 d4 d5 d6 e1 e2 e3 e4 e5 e6
      go_wp2_with fail
      go_roundw
      case measure => simp [intOf]; omega
      case rel => exact ⟨k + 1, by omega, by go_num, hbl.drew⟩
    · obtain rfl : k = n := by omega
      go_wp2_with fail
      go_ret
      exact ⟨rfl, hbl⟩
end Go.Proofs.YtbjinmlelchmgaaGreatDoor
namespace Go.Proofs
open Go.Shelf

def Tryz.lays169_ren : Go.Shelf.Ren := ⟨fun | 169 => 56 | n => n, fun | 70 => 90 | 9 => 9 | 0 => 0 | 72 => 92 | 37 => 26 | 127 => 115 | 3 => 3 | 5 => 5 | n => n, fun | n => n⟩
theorem Tryz.lays169 : Go.Proofs.Lays.n169 Tryz.prog Tryz.lays169_ren := {
  mixed := by kernel_rfl
  f169 := Tryz.func56.trans (congrArg some (by kernel_rfl))
  t0 := Tryz.underlying0
  a0 := Tryz.isAgg0
  z0 := Tryz.sizeOf0
  v0 := Tryz.zeroValue0
  t3 := Tryz.underlying3
  a3 := Tryz.isAgg3
  z3 := Tryz.sizeOf3
  v3 := Tryz.zeroValue3
  t9 := Tryz.underlying9
  a9 := Tryz.isAgg9
  z9 := Tryz.sizeOf9
  v9 := Tryz.zeroValue9
  t37 := Tryz.underlying26
  a37 := Tryz.isAgg26
  z37 := Tryz.sizeOf26
  v37 := Tryz.zeroValue26
  t70 := Tryz.underlying90
  a70 := Tryz.isAgg90
  z70 := Tryz.sizeOf90
  v70 := Tryz.zeroValue90
  t72 := Tryz.underlying92
  a72 := Tryz.isAgg92
  z72 := Tryz.sizeOf92
  v72 := Tryz.zeroValue92
  t127 := Tryz.underlying115
  a127 := Tryz.isAgg115
  z127 := Tryz.sizeOf115
  v127 := Tryz.zeroValue115 }
theorem Tryz.Builder_Extra_169 : Builder.Extra Tryz.prog Tryz.lays169_ren := {
  sizeBuilder := by kernel_rfl
  liesBuilder := by kernel_rfl
  t5 := Tryz.underlying5
  a5 := Tryz.isAgg5
  z5 := Tryz.sizeOf5
  v5 := Tryz.zeroValue5
  infoByte := by kernel_rfl
  cellsByte := by kernel_rfl
  sizeByte := by kernel_rfl
  neB5 := by decide }
def Tryz.lays162_ren : Go.Shelf.Ren := ⟨fun | 162 => 88 | 232 => 103 | 227 => 104 | 234 => 105 | 236 => 106 | 228 => 120 | 271 => 121 | 151 => 122 | 120 => 128 | 197 => 100 | 152 => 129 | 260 => 115 | 137 => 130 | 119 => 131 | 224 => 118 | 225 => 117 | 217 => 116 | 266 => 126 | n => n, fun | 9 => 9 | 4 => 4 | 3 => 3 | 5 => 5 | 117 => 138 | 116 => 137 | 0 => 0 | 124 => 141 | 21 => 21 | 105 => 68 | 46 => 84 | 119 => 155 | 139 => 158 | 138 => 157 | n => n, fun | 3 => 2 | 4 => 3 | n => n⟩
theorem Tryz.lays162 : Go.Proofs.Lays.n162 Tryz.prog Tryz.lays162_ren := {
  mixed := by kernel_rfl
  f119 := Tryz.func131.trans (congrArg some (by kernel_rfl))
  f120 := Tryz.func128.trans (congrArg some (by kernel_rfl))
  f137 := Tryz.func130.trans (congrArg some (by kernel_rfl))
  f151 := Tryz.func122.trans (congrArg some (by kernel_rfl))
  f152 := Tryz.func129.trans (congrArg some (by kernel_rfl))
  f162 := Tryz.func88.trans (congrArg some (by kernel_rfl))
  f197 := Tryz.func100.trans (congrArg some (by kernel_rfl))
  f217 := Tryz.func116.trans (congrArg some (by kernel_rfl))
  f224 := Tryz.func118.trans (congrArg some (by kernel_rfl))
  f225 := Tryz.func117.trans (congrArg some (by kernel_rfl))
  f227 := Tryz.func104.trans (congrArg some (by kernel_rfl))
  f228 := Tryz.func120.trans (congrArg some (by kernel_rfl))
  f232 := Tryz.func103.trans (congrArg some (by kernel_rfl))
  f234 := Tryz.func105.trans (congrArg some (by kernel_rfl))
  f236 := Tryz.func106.trans (congrArg some (by kernel_rfl))
  f260 := Tryz.func115.trans (congrArg some (by kernel_rfl))
  f266 := Tryz.func126.trans (congrArg some (by kernel_rfl))
  f271 := Tryz.func121.trans (congrArg some (by kernel_rfl))
  t0 := Tryz.underlying0
  a0 := Tryz.isAgg0
  z0 := Tryz.sizeOf0
  v0 := Tryz.zeroValue0
  t3 := Tryz.underlying3
  a3 := Tryz.isAgg3
  z3 := Tryz.sizeOf3
  v3 := Tryz.zeroValue3
  t4 := Tryz.underlying4
  a4 := Tryz.isAgg4
  z4 := Tryz.sizeOf4
  v4 := Tryz.zeroValue4
  t5 := Tryz.underlying5
  a5 := Tryz.isAgg5
  z5 := Tryz.sizeOf5
  v5 := Tryz.zeroValue5
  t9 := Tryz.underlying9
  a9 := Tryz.isAgg9
  z9 := Tryz.sizeOf9
  v9 := Tryz.zeroValue9
  t21 := Tryz.underlying21
  a21 := Tryz.isAgg21
  z21 := Tryz.sizeOf21
  v21 := Tryz.zeroValue21
  t46 := Tryz.underlying84
  a46 := Tryz.isAgg84
  z46 := Tryz.sizeOf84
  v46 := Tryz.zeroValue84
  t105 := Tryz.underlying68
  a105 := Tryz.isAgg68
  z105 := Tryz.sizeOf68
  v105 := Tryz.zeroValue68
  t116 := Tryz.underlying137
  a116 := Tryz.isAgg137
  z116 := Tryz.sizeOf137
  t117 := Tryz.underlying138
  a117 := Tryz.isAgg138
  z117 := Tryz.sizeOf138
  v117 := Tryz.zeroValue138
  t119 := Tryz.underlying155
  a119 := Tryz.isAgg155
  z119 := Tryz.sizeOf155
  t124 := Tryz.underlying141
  a124 := Tryz.isAgg141
  z124 := Tryz.sizeOf141
  v124 := Tryz.zeroValue141
  t138 := Tryz.underlying157
  a138 := Tryz.isAgg157
  z138 := Tryz.sizeOf157
  v138 := Tryz.zeroValue157
  t139 := Tryz.underlying158
  a139 := Tryz.isAgg158
  z139 := Tryz.sizeOf158
  v139 := Tryz.zeroValue158
  g3 := by kernel_rfl
  g4 := by kernel_rfl }
open Go.RowKit in
theorem Tryz.strings_TrimRight_one (s : ByteArray) (c : UInt8) (hc : c.toNat < 128) (w : World) (hs : s.size ≤ 9223372036854775807) :
    Calls Tryz.prog 88 #[.string s, .string ⟨#[c]⟩] w fun e w' => e = .returned (.string ⟨(Lib.trimRightB s.data.toList c).toArray⟩) ∧ w' = w := Any.strings_TrimRight_one Tryz.lays162 s c hc w hs
open Go.RowKit in
theorem Tryz.Builder_String_any_k (B b : Nat) (l : List UInt8) (w : World) (h : Lib.IsBuilderF 92 5 B b (Lib.byteCells l) w) (hBw : B ≤ w.heap.size) :
    Calls Tryz.prog 56 #[.pointer (some ⟨b, 0, none⟩)] w fun e w' => e = .returned (.string ⟨l.toArray⟩) ∧ (Lib.IsBuilderF 92 5 B b (Lib.byteCells l) w' ∧ Below B w w' ∧ Lib.OthersKept 5 (some b) w w') := Any.Builder_String_any_k Tryz.lays169 Tryz.Builder_Extra_169 B b l w h hBw
def Tryz.lays105_ren : Go.Shelf.Ren := ⟨fun | 105 => 77 | 212 => 89 | 99 => 90 | 165 => 91 | 166 => 76 | 170 => 92 | 169 => 56 | 263 => 107 | 264 => 108 | 206 => 98 | 240 => 78 | 241 => 109 | 276 => 93 | 277 => 123 | n => n, fun | 9 => 9 | 3 => 3 | 4 => 4 | 20 => 20 | 0 => 0 | 46 => 84 | 109 => 122 | 5 => 5 | 72 => 92 | 76 => 113 | 51 => 31 | 146 => 142 | 53 => 101 | 148 => 144 | 70 => 90 | 37 => 26 | 75 => 95 | 127 => 115 | 164 => 127 | 80 => 97 | n => n, fun | n => n⟩
theorem Tryz.lays105 : Go.Proofs.Lays.n105 Tryz.prog Tryz.lays105_ren := {
  mixed := by kernel_rfl
  f99 := Tryz.func90.trans (congrArg some (by kernel_rfl))
  f105 := Tryz.func77.trans (congrArg some (by kernel_rfl))
  f165 := Tryz.func91.trans (congrArg some (by kernel_rfl))
  f166 := Tryz.func76.trans (congrArg some (by kernel_rfl))
  f169 := Tryz.func56.trans (congrArg some (by kernel_rfl))
  f170 := Tryz.func92.trans (congrArg some (by kernel_rfl))
  f206 := Tryz.func98.trans (congrArg some (by kernel_rfl))
  f212 := Tryz.func89.trans (congrArg some (by kernel_rfl))
  f240 := Tryz.func78.trans (congrArg some (by kernel_rfl))
  f241 := Tryz.func109.trans (congrArg some (by kernel_rfl))
  f263 := Tryz.func107.trans (congrArg some (by kernel_rfl))
  f264 := Tryz.func108.trans (congrArg some (by kernel_rfl))
  f276 := Tryz.func93.trans (congrArg some (by kernel_rfl))
  f277 := Tryz.func123.trans (congrArg some (by kernel_rfl))
  t0 := Tryz.underlying0
  a0 := Tryz.isAgg0
  z0 := Tryz.sizeOf0
  v0 := Tryz.zeroValue0
  t3 := Tryz.underlying3
  a3 := Tryz.isAgg3
  z3 := Tryz.sizeOf3
  v3 := Tryz.zeroValue3
  t4 := Tryz.underlying4
  a4 := Tryz.isAgg4
  z4 := Tryz.sizeOf4
  v4 := Tryz.zeroValue4
  t5 := Tryz.underlying5
  a5 := Tryz.isAgg5
  z5 := Tryz.sizeOf5
  v5 := Tryz.zeroValue5
  t9 := Tryz.underlying9
  a9 := Tryz.isAgg9
  z9 := Tryz.sizeOf9
  v9 := Tryz.zeroValue9
  t20 := Tryz.underlying20
  a20 := Tryz.isAgg20
  z20 := Tryz.sizeOf20
  v20 := Tryz.zeroValue20
  t37 := Tryz.underlying26
  a37 := Tryz.isAgg26
  z37 := Tryz.sizeOf26
  v37 := Tryz.zeroValue26
  t46 := Tryz.underlying84
  a46 := Tryz.isAgg84
  z46 := Tryz.sizeOf84
  v46 := Tryz.zeroValue84
  t51 := Tryz.underlying31
  a51 := Tryz.isAgg31
  z51 := Tryz.sizeOf31
  v51 := Tryz.zeroValue31
  t53 := Tryz.underlying101
  a53 := Tryz.isAgg101
  z53 := Tryz.sizeOf101
  v53 := Tryz.zeroValue101
  t70 := Tryz.underlying90
  a70 := Tryz.isAgg90
  z70 := Tryz.sizeOf90
  v70 := Tryz.zeroValue90
  t72 := Tryz.underlying92
  a72 := Tryz.isAgg92
  z72 := Tryz.sizeOf92
  v72 := Tryz.zeroValue92
  t75 := Tryz.underlying95
  a75 := Tryz.isAgg95
  z75 := Tryz.sizeOf95
  v75 := Tryz.zeroValue95
  t76 := Tryz.underlying113
  a76 := Tryz.isAgg113
  z76 := Tryz.sizeOf113
  v76 := Tryz.zeroValue113
  t109 := Tryz.underlying122
  a109 := Tryz.isAgg122
  z109 := Tryz.sizeOf122
  v109 := Tryz.zeroValue122
  t127 := Tryz.underlying115
  a127 := Tryz.isAgg115
  z127 := Tryz.sizeOf115
  v127 := Tryz.zeroValue115
  t146 := Tryz.underlying142
  a146 := Tryz.isAgg142
  z146 := Tryz.sizeOf142
  v146 := Tryz.zeroValue142
  t148 := Tryz.underlying144
  a148 := Tryz.isAgg144
  z148 := Tryz.sizeOf144
  v148 := Tryz.zeroValue144
  t164 := Tryz.underlying127
  a164 := Tryz.isAgg127
  z164 := Tryz.sizeOf127
  v164 := Tryz.zeroValue127 }
theorem Tryz.Builder_Extra_105 : Builder.Extra Tryz.prog Tryz.lays105_ren := {
  sizeBuilder := by kernel_rfl
  liesBuilder := by kernel_rfl
  t5 := Tryz.underlying5
  a5 := Tryz.isAgg5
  z5 := Tryz.sizeOf5
  v5 := Tryz.zeroValue5
  infoByte := by kernel_rfl
  cellsByte := by kernel_rfl
  sizeByte := by kernel_rfl
  neB5 := by decide }
open Go.RowKit Go.Lib in
theorem Tryz.strings_Repeat (s : ByteArray) (c : Nat) (w : World) (hc : c ≤ 9223372036854775807) (hlen : s.size * c ≤ 140737488355328) :
    Calls Tryz.prog 77 #[.string s, .int .i64 c] w fun e w' => e = .returned (.string ⟨(Lib.repeatL s.data.toList c).toArray⟩) ∧ Below w.heap.size w w' := Any.strings_Repeat Tryz.lays105 Tryz.Builder_Extra_105 s c w hc hlen
open Go.RowKit in
theorem Tryz.Builder_WriteString_k (B b : Nat) (bs : List Value) (s : ByteArray) (w : World) (h : Lib.IsBuilderF 92 5 B b bs w) (hlen : bs.length + s.size ≤ 140737488355328) (hBw : B ≤ w.heap.size) :
    Calls Tryz.prog 76 #[.pointer (some ⟨b, 0, none⟩), .string s] w fun e w' => e = .returned (.tuple #[.int .i64 s.size, .nilIface]) ∧ (Lib.BuilderAtF 92 5 B b (.pointer (some ⟨b, 0, none⟩)) (bs ++ Lib.strCells s) w' ∧ Below B w w' ∧ Lib.OthersKept 5 (some b) w w') :=
  Any.Builder_WriteString_k { Tryz.lays105 with } Tryz.Builder_Extra_105 B b bs s w h hlen hBw
def Tryz.lays167_ren : Go.Shelf.Ren := ⟨fun | 167 => 55 | 240 => 78 | 276 => 93 | n => n, fun | 0 => 0 | 4 => 4 | 5 => 5 | 9 => 9 | 20 => 20 | 37 => 26 | 70 => 90 | 72 => 92 | 75 => 95 | 164 => 127 | 80 => 97 | n => n, fun | n => n⟩
theorem Tryz.lays167 : Go.Proofs.Lays.n167 Tryz.prog Tryz.lays167_ren := {
  mixed := by kernel_rfl
  f167 := Tryz.func55.trans (congrArg some (by kernel_rfl))
  f240 := Tryz.func78.trans (congrArg some (by kernel_rfl))
  f276 := Tryz.func93.trans (congrArg some (by kernel_rfl))
  t0 := Tryz.underlying0
  a0 := Tryz.isAgg0
  z0 := Tryz.sizeOf0
  v0 := Tryz.zeroValue0
  t4 := Tryz.underlying4
  a4 := Tryz.isAgg4
  z4 := Tryz.sizeOf4
  v4 := Tryz.zeroValue4
  t5 := Tryz.underlying5
  a5 := Tryz.isAgg5
  z5 := Tryz.sizeOf5
  v5 := Tryz.zeroValue5
  t9 := Tryz.underlying9
  a9 := Tryz.isAgg9
  z9 := Tryz.sizeOf9
  v9 := Tryz.zeroValue9
  t20 := Tryz.underlying20
  a20 := Tryz.isAgg20
  z20 := Tryz.sizeOf20
  v20 := Tryz.zeroValue20
  t37 := Tryz.underlying26
  a37 := Tryz.isAgg26
  z37 := Tryz.sizeOf26
  v37 := Tryz.zeroValue26
  t70 := Tryz.underlying90
  a70 := Tryz.isAgg90
  z70 := Tryz.sizeOf90
  v70 := Tryz.zeroValue90
  t72 := Tryz.underlying92
  a72 := Tryz.isAgg92
  z72 := Tryz.sizeOf92
  v72 := Tryz.zeroValue92
  t75 := Tryz.underlying95
  a75 := Tryz.isAgg95
  z75 := Tryz.sizeOf95
  v75 := Tryz.zeroValue95
  t164 := Tryz.underlying127
  a164 := Tryz.isAgg127
  z164 := Tryz.sizeOf127
  v164 := Tryz.zeroValue127 }
theorem Tryz.Builder_Extra_167 : Builder.Extra Tryz.prog Tryz.lays167_ren := {
  sizeBuilder := by kernel_rfl
  liesBuilder := by kernel_rfl
  t5 := Tryz.underlying5
  a5 := Tryz.isAgg5
  z5 := Tryz.sizeOf5
  v5 := Tryz.zeroValue5
  infoByte := by kernel_rfl
  cellsByte := by kernel_rfl
  sizeByte := by kernel_rfl
  neB5 := by decide }
open Go.RowKit in
theorem Tryz.Builder_WriteByte_k (B b : Nat) (bs : List Value) (c : Int) (w : World) (h : Lib.IsBuilderF 92 5 B b bs w) (hlen : bs.length + 1 ≤ 140737488355328) (hBw : B ≤ w.heap.size) :
    Calls Tryz.prog 55 #[.pointer (some ⟨b, 0, none⟩), .int .u8 c] w fun e w' => e = .returned .nilIface ∧ (Lib.BuilderAtF 92 5 B b (.pointer (some ⟨b, 0, none⟩)) (bs ++ [.int .u8 c]) w' ∧ Below B w w' ∧ Lib.OthersKept 5 (some b) w w') :=
  Any.Builder_WriteByte_k Tryz.lays167 Tryz.Builder_Extra_167 B b bs c w h hlen hBw
end Go.Proofs
namespace Go.Proofs.YtbjinmlelchmgaaGreatDoor
namespace T
open Go.Lib
def cutL : List UInt8 → List (List UInt8)
  | [] => [[]]
  | c :: t => if c = 10 then [] :: cutL t else match cutL t with
    | h :: r => (c :: h) :: r
    | [] => [[c]]
theorem cutL_ne (l : List UInt8) : cutL l ≠ [] := by
  cases l with
  | nil => simp [cutL]
  | cons c t =>
    simp only [cutL]
    split
    · simp
    · split <;> simp
theorem splitK_cut (l : List UInt8) : splitK [10] 0 (count l [10]) l = cutL l := by
  induction l with
  | nil => rw [count_miss (by simp [index])]; rfl
  | cons c t ih =>
    by_cases hc : c = 10
    · subst hc
      have hix : index (10 :: t) [10] = ((0 : Nat) : Int) := by rw [index]; simp [List.isPrefixOf]
      rw [count_cons_eq, Nat.add_comm 1, splitK, hix]
      simp only [cutL, if_true]
      rw [← ih]
      simp
    · have hp : ([10] : List UInt8).isPrefixOf (c :: t) = false := by simp [List.isPrefixOf, Ne.symm hc]
      have hix : index (c :: t) [10] = if index t [10] == -1 then -1 else index t [10] + 1 := by rw [index, hp]; simp
      rw [count_cons_ne c 10 t hc]
      simp only [cutL, if_neg hc]
      by_cases hm : index t [10] = -1
      · rw [count_miss hm] at ih ⊢
        rw [← ih]
        rfl
      · have hge := index_ge t [10]
        obtain ⟨j, hj⟩ : ∃ j : Nat, index t [10] = j := ⟨(index t [10]).toNat, by omega⟩
        have hix' : index (c :: t) [10] = ((j + 1 : Nat) : Int) := by rw [hix, if_neg (fun e => hm (beq_iff_eq.1 e)), hj]; omega
        have hcnt := count_hit (s := t) (sub := [10]) (by simp) hj
        obtain ⟨k, hk⟩ : ∃ k, count t [10] = k + 1 := ⟨count (t.drop (j + [10].length)) [10], by rw [hcnt]; omega⟩
        rw [hk] at ih ⊢
        rw [splitK, hj] at ih
        rw [splitK, hix']
        have n1 : ¬ ((j : Int) == -1) = true := by first | (simp; done) | (simp; omega)
        have n2 : ¬ (((j + 1 : Nat) : Int) == -1) = true := by first | (simp; done) | (simp; omega)
        rw [if_neg n1] at ih
        rw [if_neg n2, ← ih]
        simp
def lines (l : List UInt8) : List (List UInt8) := if (cutL l).getLast (cutL_ne l) = [] then (cutL l).dropLast else cutL l
theorem cutL_append (l m : List UInt8) (h : ∀ c ∈ l, c ≠ 10) : cutL (l ++ m) = match cutL m with
    | x :: r => (l ++ x) :: r
    | [] => [l] := by
  induction l with
  | nil => cases hm : cutL m with
    | nil => exact absurd hm (cutL_ne m)
    | cons x r => simp [hm]
  | cons c t ih =>
    have ih' := ih (fun x hx => h x (by simp [hx]))
    simp only [List.cons_append, cutL, if_neg (h c (by simp)), ih']
    cases hm : cutL m with
    | nil => exact absurd hm (cutL_ne m)
    | cons x r => simp
theorem cutL_line (l m : List UInt8) (h : ∀ c ∈ l, c ≠ 10) : cutL (l ++ 10 :: m) = l :: cutL m := by
  rw [cutL_append l _ h]; simp [cutL]
theorem cutL_last (l : List UInt8) (h : ∀ c ∈ l, c ≠ 10) : cutL l = [l] := by
  have := cutL_append l [] h
  simpa [cutL] using this
end T
end Go.Proofs.YtbjinmlelchmgaaGreatDoor
