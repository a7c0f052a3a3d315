/- The law's padded (30), same (26) at two lists that say the same. -/
import Derived.Test.YtbjinmlelchmgaaGreatDoorRfG
namespace Go.Proofs.YtbjinmlelchmgaaGreatDoor
open Go.RowKit
set_option maxRecDepth 20000 in
set_option maxHeartbeats 1000000 in
theorem padded_any (W : World) (s : ByteArray) (n : Int) (hs : s.size ≤ 1000000000) :
    Calls Tryz.prog 30 #[.string s, .int .i64 n] W fun e w' => e = .returned (.string ⟨(s.data.toList ++ List.replicate (min n.toNat 65540) 97).toArray⟩) ∧ Below W.heap.size W w' := by
  obtain ⟨i0, hi, hz0, hz1, hz2⟩ := info_parts Tryz.info5
  obtain ⟨N, hN⟩ : ∃ N : Nat, min n.toNat 65540 = N := ⟨_, rfl⟩
  rw [hN]
  have HL : Hid (s.data.toList.length ≤ 1000000000) := hid (by rw [size_list]; exact hs)
  have HSS : Hid (s.size ≤ 1000000000) := hs
  clear hs
  go_enter Tryz.func30, Tryz.ntmps30
  go_wp2_with (first | (at_builtin; refine wpList_append_text rfl _ _ 26 9 rfl i0 Tryz.underlying26 Tryz.underlying9 hi hz0 hz1 hz2 _ _ rfl (HB.start W) _ rfl (by have := HSS.out; simp; omega) ?_; intro v1 w1 F1))
  rw [List.nil_append] at F1
  have HF1 : Hid (HB W w1 v1 s.data.toList) := F1
  clear F1
  go_loopw [5, 6] (fun v i wr => ∃ k : Nat, k ≤ N ∧ i = .int .i64 k ∧ HB W wr v (s.data.toList ++ List.replicate k 97)) (fun _ i _ => N - (intOf i).toNat)
  case atStart => exact ⟨0, Nat.zero_le _, rfl, by simpa using HF1.out⟩
  case round =>
    obtain ⟨k, hk, rfl, F⟩ := hrel
    have HF : Hid (HB W wr u5 (s.data.toList ++ List.replicate k 97)) := F
    have c0 : (k : Int) ≤ 65540 := by omega
    clear F HF1
    by_cases hlt : k < N
    · have c1 : (k : Int) < n := by omega
      have c2 : (k : Int) < 65540 := by omega
      have HL2 : Hid ((s.data.toList ++ List.replicate k 97).length + 1 ≤ 140737488355328) := hid (by have := HL.out; rw [List.length_append, List.length_replicate]; omega)
      go_wp2_with (first | (at_builtin; refine wpList_append_bytes rfl _ _ _ rfl i0 Tryz.underlying26 hi hz0 hz1 hz2 _ _ rfl (HF.out.alloc _) _ _ _ [97] rfl rfl (cells_new _ _ _ _ rfl) HL2.out ?_; intro v2 w2 F2))
      go_roundw
      case measure => simp [intOf]; omega
      case rel => exact ⟨k + 1, by omega, by go_num, by rw [List.replicate_succ', ← List.append_assoc]; exact F2⟩
    · obtain rfl : k = N := by omega
      obtain ⟨q, hq⟩ : ∃ q, s.data.toList ++ List.replicate k 97 = q := ⟨_, rfl⟩
      rw [hq] at HF
      have HQ : Hid (s.data.toList ++ List.replicate k 97 = q) := hq
      obtain ⟨ar, cr, rfl, hcv⟩ := HF.out.conv
      have hbl := HF.out.below
      clear hq HF HL
      by_cases h1 : (k : Int) < n
      · have c2 : ((k : Int) < 65540) = False := eq_false (by omega)
        clear hN hk hlt c0
        go_wp2_with fail
        go_ret
        exact ⟨by rw [HQ.out]; rfl, hbl⟩
      · have c1 : n ≤ (k : Int) := by omega
        clear hN hk hlt c0 h1
        go_wp2_with fail
        go_ret
        exact ⟨by rw [HQ.out]; rfl, hbl⟩
set_option maxRecDepth 20000 in
set_option maxHeartbeats 1000000 in
theorem same_any (W : World) (a1 a2 : Option Addr) (n p1 p2 : Nat) (l : List (List UInt8)) (hl : l.length = n) (hn : n ≤ 1000000000) (h1 : StrsAt W a1 l) (h2 : StrsAt W a2 l) :
    Calls Tryz.prog 26 #[.slice a1 n p1, .slice a2 n p2] W fun e w' => e = .returned (.bool true) ∧ Below W.heap.size W w' := by
  have b1 : (n : Int) ≤ 1000000000 := by omega
  have H1 : Hid (StrsAt W a1 l) := h1
  have H2 : Hid (StrsAt W a2 l) := h2
  have HLN : Hid (l.length = n) := hl
  clear h1 h2 hl
  go_enter Tryz.func26, Tryz.ntmps26
  go_wp2_with fail
  go_loopw [5] (fun i wr => ∃ k : Nat, k ≤ n ∧ i = .int .i64 k ∧ Below W.heap.size W wr) (fun i _ => n - (intOf i).toNat)
  case atStart => exact ⟨0, Nat.zero_le _, rfl, Below.refl _ _⟩
  case round =>
    obtain ⟨k, hk, rfl, hbl⟩ := hrel
    by_cases hlt : k < n
    · have c1 : (k : Int) < (n : Int) := by omega
      have hkl : k < l.length := by rw [HLN.out]; exact hlt
      rcases H1.out with h0 | ⟨b1, o1, rfl, hb1, hc1⟩
      · rw [h0] at hkl; simp at hkl
      rcases H2.out with h0 | ⟨b2, o2, rfl, hb2, hc2⟩
      · rw [h0] at hkl; simp at hkl
      have d1 := hc1 k hkl
      have d2 := hc2 k hkl
      rw [← hbl.cell (p := ⟨b1, o1 + k, none⟩) hb1] at d1
      rw [← hbl.cell (p := ⟨b2, o2 + k, none⟩) hb2] at d2
      generalize l[k] = x at *
      clear hc1 hc2 hkl
      have z0 : (0 : Int) ≤ (k : Int) := by omega
      have d3 : wr.drew.cell? ⟨b1, o1 + k, none⟩ = some (.string ⟨x.toArray⟩) := d1
      have d4 : wr.drew.cell? ⟨b2, o2 + k, none⟩ = some (.string ⟨x.toArray⟩) := d2
      go_wp2_with fail
      refine wp_region_held_drew (S := fun x => x = wr.drew) (by kernel_rfl) rfl (fun hHeld => ?_)
      refine wpAnyH_take (i := 0) (oi := { dst := some 17, op := Op.move (Operand.tmp 0), type := 24, pos := "law.go:61", after := #[], guard := none }) (v := .slice (some ⟨b1, o1, none⟩) n p1) rfl (by kernel_rfl) (by kernel_rfl) (by kernel_rfl) (fun _ _ _ h => h) (Or.inl ⟨by rfl, by intro w hSw; subst hSw; go_simp⟩) (by assumption) ?_
      simp only [Act.put, List.setIfInBounds_toArray, List.set_cons_zero, List.set_cons_succ]
      refine wpAnyH_take (i := 1) (oi := { dst := some 18, op := Op.move (Operand.tmp 5), type := 3, pos := "law.go:61", after := #[], guard := none }) (v := .int .i64 (k : Int)) rfl (by kernel_rfl) (by kernel_rfl) (by kernel_rfl) (fun _ _ _ h => h) (Or.inl ⟨by rfl, by intro w hSw; subst hSw; go_simp⟩) (by assumption) ?_
      simp only [Act.put, List.setIfInBounds_toArray, List.set_cons_zero, List.set_cons_succ]
      refine wpAnyH_take (i := 2) (oi := { dst := some 19, op := Op.indexAddr 24 (Operand.tmp 17) (Operand.tmp 18), type := 0, pos := "law.go:61", after := #[{ on := 0, ground := Ground.data }, { on := 1, ground := Ground.data }], guard := none }) (v := .pointer (some ⟨b1, o1 + k, none⟩)) rfl (by kernel_rfl) (by kernel_rfl) (by kernel_rfl) (fun _ _ _ h => h) (Or.inl ⟨by rfl, by intro w hSw; subst hSw; go_simp⟩) (by assumption) ?_
      simp only [Act.put, List.setIfInBounds_toArray, List.set_cons_zero, List.set_cons_succ]
      refine wpAnyH_take (i := 3) (oi := { dst := some 20, op := Op.load 9 (Operand.tmp 19), type := 9, pos := "law.go:61", after := #[{ on := 2, ground := Ground.data }], guard := none }) (v := .string ⟨x.toArray⟩) rfl (by kernel_rfl) (by kernel_rfl) (by kernel_rfl) (fun _ _ _ h => h) (Or.inl ⟨by rfl, by intro w hSw; subst hSw; go_simp⟩) (by assumption) ?_
      simp only [Act.put, List.setIfInBounds_toArray, List.set_cons_zero, List.set_cons_succ]
      refine wpAnyH_take (i := 4) (oi := { dst := some 21, op := Op.move (Operand.tmp 1), type := 24, pos := "law.go:61", after := #[], guard := none }) (v := .slice (some ⟨b2, o2, none⟩) n p2) rfl (by kernel_rfl) (by kernel_rfl) (by kernel_rfl) (fun _ _ _ h => h) (Or.inl ⟨by rfl, by intro w hSw; subst hSw; go_simp⟩) (by assumption) ?_
      simp only [Act.put, List.setIfInBounds_toArray, List.set_cons_zero, List.set_cons_succ]
      refine wpAnyH_take (i := 5) (oi := { dst := some 22, op := Op.move (Operand.tmp 5), type := 3, pos := "law.go:61", after := #[], guard := none }) (v := .int .i64 (k : Int)) rfl (by kernel_rfl) (by kernel_rfl) (by kernel_rfl) (fun _ _ _ h => h) (Or.inl ⟨by rfl, by intro w hSw; subst hSw; go_simp⟩) (by assumption) ?_
      simp only [Act.put, List.setIfInBounds_toArray, List.set_cons_zero, List.set_cons_succ]
      refine wpAnyH_take (i := 6) (oi := { dst := some 23, op := Op.indexAddr 24 (Operand.tmp 21) (Operand.tmp 22), type := 0, pos := "law.go:61", after := #[{ on := 4, ground := Ground.data }, { on := 5, ground := Ground.data }], guard := none }) (v := .pointer (some ⟨b2, o2 + k, none⟩)) rfl (by kernel_rfl) (by kernel_rfl) (by kernel_rfl) (fun _ _ _ h => h) (Or.inl ⟨by rfl, by intro w hSw; subst hSw; go_simp⟩) (by assumption) ?_
      simp only [Act.put, List.setIfInBounds_toArray, List.set_cons_zero, List.set_cons_succ]
      refine wpAnyH_take (i := 7) (oi := { dst := some 24, op := Op.load 9 (Operand.tmp 23), type := 9, pos := "law.go:61", after := #[{ on := 6, ground := Ground.data }], guard := none }) (v := .string ⟨x.toArray⟩) rfl (by kernel_rfl) (by kernel_rfl) (by kernel_rfl) (fun _ _ _ h => h) (Or.inl ⟨by rfl, by intro w hSw; subst hSw; go_simp⟩) (by assumption) ?_
      simp only [Act.put, List.setIfInBounds_toArray, List.set_cons_zero, List.set_cons_succ]
      refine wpAnyH_take (i := 8) (oi := { dst := some 25, op := Op.binOp BinOp.neq 9 (Operand.tmp 20) (Operand.tmp 24) 9, type := 4, pos := "law.go:61", after := #[{ on := 3, ground := Ground.data }, { on := 7, ground := Ground.data }], guard := none }) (v := .bool false) rfl (by kernel_rfl) (by kernel_rfl) (by kernel_rfl) (fun _ _ _ h => h) (Or.inl ⟨by rfl, by intro w hSw; subst hSw; go_simp⟩) (by assumption) ?_
      simp only [Act.put, List.setIfInBounds_toArray, List.set_cons_zero, List.set_cons_succ]
      refine wpAnyH_done (by kernel_rfl) ?_ _
      clear hHeld d1 d2 d3 d4
      go_wp2_with fail
      go_roundw
      case measure => simp [intOf]; omega
      case rel => exact ⟨k + 1, by omega, by go_num, hbl.drew⟩
    · obtain rfl : k = n := by omega
      go_wp2_with fail
      go_ret
      exact ⟨rfl, hbl⟩
end Go.Proofs.YtbjinmlelchmgaaGreatDoor
