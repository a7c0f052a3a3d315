/- AsmPrints (3). -/
import Derived.Test.YtncnogndopgknaaDoorAp7
namespace Go.Proofs.YtncnogndopgknaaDoor
open Go.RowKit
/-- All tables, the program's and the document's. -/
structure TA (W : World) : Prop where
  p : TB W
  r : TR W
theorem TA.on {W w : World} (h : TA W) (hb : Below W.heap.size W w) : TA w := ⟨h.p.on hb, h.r.on hb⟩
set_option maxRecDepth 40000 in
set_option maxHeartbeats 2000000 in
/-- What stands behind the append. -/
theorem prints_any (W : World) (hT : TA W) (ao : Option Addr) (n c : Nat) (hnil : ao = none → n = 0 ∧ c = 0) (ws : List Nat) (hl : ws.length = n) (hn : n * 4 ≤ 140737488351232) (hat : AtW W ao ws) (hw : ∀ x ∈ ws, x < 4294967296) (base : Int) :
    Calls Tryd.prog 3 #[.slice ao n c, .int .u32 base] W fun e w' => e = .returned (.bool true) ∧ Below W.heap.size W w' := by
  obtain ⟨i0, hi, hz0, hz1, hz2⟩ := info_parts Tryd.info23
  have HT : Hid (∀ x, Below W.heap.size W x → TA x) := hid (fun x hx => hT.on hx)
  have HA : Hid (AtW W ao ws) := hat
  have HLN : Hid (ws.length = n) := hl
  have HW : Hid (∀ x ∈ ws, x < 4294967296) := hw
  have b1 : (n : Int) ≤ 35184372088832 := by omega
  obtain ⟨pt, hpt⟩ : ∃ pt, A.prt ws = pt := ⟨_, rfl⟩
  obtain ⟨pe, hpe⟩ : ∃ pe, A.prtE ws = pe := ⟨_, rfl⟩
  have HP4 : Hid (∀ x ao' c', Below W.heap.size W x → AtW x ao' ws → Calls Tryd.prog 4 #[.slice ao' n c', .int .u32 base] x fun e w' => e = .returned (.tuple #[.string ⟨pt.toArray⟩, .int .i64 pe]) ∧ Below x.heap.size x w') := hid (fun x ao' c' hx ha => by rw [← hpt, ← hpe]; exact print_any x (HT.out x hx).p ao' n c' ws hl ha hw base)
  have HP5 : Hid (∀ x, Below W.heap.size W x → Calls Tryd.prog 5 #[.slice ao n c, .int .u32 base] x fun e w' => e = .returned (.tuple #[.string ⟨pt.toArray⟩, .int .i64 pe]) ∧ Below x.heap.size x w') := hid (fun x hx => by rw [← hpt, ← hpe]; exact rprint_any x (HT.out x hx).r ao n c ws hl (hat.on hx) hw base)
  have HLB : Hid (∀ x, Below W.heap.size W x → Calls Tryd.prog 7 #[.int .u32 1409351679] x fun e w' => e = .returned (.string ⟨#[98, 32, 97, 108, 32, 45, 49]⟩) ∧ Below x.heap.size x w') := hid (fun x hx => by have := line_any x (HT.out x hx).p 1409351679 (by decide) (by decide); rw [lin_b] at this; exact this)
  have H7 : Hid (∀ x u, Below W.heap.size W x → u < 4294967296 → Calls Tryd.prog 7 #[.int .u32 ((u : Nat) : Int)] x fun e w' => e = .returned (.string ⟨(A.lin (u : Nat) []).toArray⟩) ∧ Below x.heap.size x w') := hid (fun x u hx hu => line_any x (HT.out x hx).p u (by omega) (by omega))
  have H8 : Hid (∀ x u, Below W.heap.size W x → u < 4294967296 → Calls Tryd.prog 8 #[.int .u32 ((u : Nat) : Int)] x fun e w' => e = .returned (.string ⟨(A.lin (u : Nat) []).toArray⟩) ∧ Below x.heap.size x w') := hid (fun x u hx hu => rline_any x (HT.out x hx).r u (by omega) (by omega))
  clear hT hat hl hw hpt hpe
  cases ao with
  | none =>
    obtain ⟨rfl, rfl⟩ := hnil rfl
    go_enter Tryd.func3, Tryd.ntmps3
    go_wp2_with (first
      | (at_builtin; refine wpList_append_own_none rfl _ _ 22 rfl W.heap.size 23 i0 1 Tryd.underlying22 hi (.slice none 0 0) 0 [] rfl (World.ownsRow_nil _ _ 23 1) rfl ?_)
      | (go_at_call 4; refine (HP4.out _ _ _ (Below.refl _ _) HA.out).mono ?_; rintro e w4 ⟨rfl, hb4⟩)
      | (go_at_call 5; refine (HP5.out _ hb4).mono ?_; rintro e w5 ⟨rfl, hb5⟩; have hb45 := below_on hb4 hb5)
      | (go_at_call 6; refine (numbers_any _).mono ?_; rintro e w6 ⟨rfl, rfl⟩))
    go_loopw [10] (fun i wr => i = .int .i64 0 ∧ wr = w5) (fun _ _ => 0)
    case atStart => exact ⟨rfl, rfl⟩
    case round =>
      obtain ⟨rfl, rfl⟩ := hrel
      go_wp2_with (go_at_call 7; refine (HLB.out _ hb45).mono ?_; rintro e w7 ⟨rfl, hb7⟩)
      go_ret
      exact ⟨rfl, below_on hb45 hb7⟩
  | some ad =>
    obtain ⟨b, o, spot⟩ := ad
    have HCJ : Hid (∀ j u, (u32s ws)[j]? = some u → W.cell? ((⟨b, o, spot⟩ : Addr).add j) = some u) := hid (by
      intro j u hu
      rcases HA.out with h0 | ⟨b', o', e, hb, hc⟩
      · rw [h0] at hu; simp [u32s] at hu
      · injection e with e
        injection e with e1 e2 e3
        subst e1 e2 e3
        rw [Addr.add_mid]
        have hj : j < ws.length := by
          rcases Nat.lt_or_ge j ws.length with h | h
          · exact h
          · simp [u32s, List.getElem?_eq_none h] at hu
        rw [hc j hj, ← hu]
        simp [u32s, hj])
    clear hnil
    go_enter Tryd.func3, Tryd.ntmps3
    go_wp2_with (first
      | (at_builtin; refine wpList_append_words rfl _ _ 22 rfl i0 Tryd.underlying22 hi hz0 hz1 hz2 rfl (Below.refl _ W) _ _ _ ws rfl HLN.out HCJ.out (by omega) ?_; intro v1 w1 ho1 hb1; obtain ⟨a1, c1, rfl, hat1⟩ := own_at ho1 HLN.out; clear ho1)
      | (go_at_call 4; refine (HP4.out _ _ _ hb1 hat1).mono ?_; rintro e w4 ⟨rfl, hb4⟩; have hb14 := below_on hb1 hb4)
      | (go_at_call 5; refine (HP5.out _ hb14).mono ?_; rintro e w5 ⟨rfl, hb5⟩; have hb45 := below_on hb14 hb5)
      | (go_at_call 6; refine (numbers_any _).mono ?_; rintro e w6 ⟨rfl, rfl⟩))
    have HB5 : Hid (Below W.heap.size W w5) := hb45
    clear hb1 hb4 hb5 hb14 hb45 hat1 HCJ HP4 HP5
    go_loopw [10] (fun i wr => ∃ k : Nat, k ≤ n ∧ k ≤ 64 ∧ i = .int .i64 k ∧ Hid (Below W.heap.size W wr)) (fun i _ => n - (intOf i).toNat)
    case atStart => exact ⟨0, Nat.zero_le _, Nat.zero_le _, rfl, HB5⟩
    case round =>
      clear HB5
      obtain ⟨k, hk, hk64, rfl, HB⟩ := hrel
      by_cases hlt : k < n
      · have d1 : (k : Int) < (n : Int) := by omega
        by_cases hl64 : k < 64
        · have d2 : (k : Int) < 64 := by omega
          have hkl : k < ws.length := by rw [HLN.out]; exact hlt
          rcases HA.out with h0 | ⟨b', o', e, hb, hc⟩
          · rw [h0] at hkl; simp at hkl
          injection e with e
          injection e with e1 e2 e3
          subst e1 e2 e3
          obtain ⟨u, hu⟩ : ∃ u, ws[k] = u := ⟨_, rfl⟩
          have HU : Hid (∀ x, Below W.heap.size W x → x.cell? ⟨b, o + k, none⟩ = some (.int .u32 (u : Int))) := hid (fun x hx => by rw [hx.cell (p := ⟨b, o + k, none⟩) hb, hc k hkl, hu])
          have hu2 : u < 4294967296 := by rw [← hu]; exact HW.out _ (List.getElem_mem _)
          have H71 : Hid (∀ x, Below W.heap.size W x → Calls Tryd.prog 7 #[.int .u32 (u : Int)] x fun e w' => e = .returned (.string ⟨(A.lin (u : Nat) []).toArray⟩) ∧ Below x.heap.size x w') := hid (fun x hx => H7.out x u hx hu2)
          have H81 : Hid (∀ x, Below W.heap.size W x → Calls Tryd.prog 8 #[.int .u32 (u : Int)] x fun e w' => e = .returned (.string ⟨(A.lin (u : Nat) []).toArray⟩) ∧ Below x.heap.size x w') := hid (fun x hx => H8.out x u hx hu2)
          generalize A.lin (u : Nat) [] = ln at *
          have k0 : 0 ≤ (k : Int) := by omega
          clear hc hkl hu hu2 H7 H8
          go_wp2_with fail
          refine wp_region_held_drew (S := fun x => Below W.heap.size W x) (by kernel_rfl) (below_on HB.out (Below.refl _ _).drew) (fun hHeld => ?_)
          refine wpAnyH_take (i := 0) (oi := { dst := some 48, op := Op.move (Operand.tmp 0), type := 22, pos := "law.go:74", after := #[], guard := none }) (v := .slice (some ⟨b, o, none⟩) n c) rfl (by kernel_rfl) (by kernel_rfl) (by kernel_rfl) (fun _ _ _ h => h) (Or.inl ⟨by rfl, by intro w hSw; go_simp⟩) (by assumption) ?_
          simp only [Act.put, List.setIfInBounds_toArray, List.set_cons_zero, List.set_cons_succ]
          refine wpAnyH_take (i := 1) (oi := { dst := some 49, op := Op.move (Operand.tmp 10), type := 3, pos := "law.go:74", after := #[], guard := none }) (v := .int .i64 (k : Int)) rfl (by kernel_rfl) (by kernel_rfl) (by kernel_rfl) (fun _ _ _ h => h) (Or.inl ⟨by rfl, by intro w hSw; go_simp⟩) (by assumption) ?_
          simp only [Act.put, List.setIfInBounds_toArray, List.set_cons_zero, List.set_cons_succ]
          refine wpAnyH_take (i := 2) (oi := { dst := some 50, op := Op.indexAddr 22 (Operand.tmp 48) (Operand.tmp 49), type := 0, pos := "law.go:74", after := #[{ on := 0, ground := Ground.data }, { on := 1, ground := Ground.data }], guard := none }) (v := .pointer (some ⟨b, o + k, none⟩)) rfl (by kernel_rfl) (by kernel_rfl) (by kernel_rfl) (fun _ _ _ h => h) (Or.inl ⟨by rfl, by intro w hSw; go_simp⟩) (by assumption) ?_
          simp only [Act.put, List.setIfInBounds_toArray, List.set_cons_zero, List.set_cons_succ]
          refine wpAnyH_take (i := 3) (oi := { dst := some 51, op := Op.load 23 (Operand.tmp 50), type := 23, pos := "law.go:74", after := #[{ on := 2, ground := Ground.data }], guard := none }) (v := .int .u32 (u : Int)) rfl (by kernel_rfl) (by kernel_rfl) (by kernel_rfl) (fun _ _ _ h => h) (Or.inl ⟨by rfl, by intro w hSw; have hcc := HU.out w hSw; go_simp⟩) (by assumption) ?_
          simp only [Act.put, List.setIfInBounds_toArray, List.set_cons_zero, List.set_cons_succ]
          refine wpAnyH_take (i := 5) (oi := { dst := some 53, op := Op.move (Operand.tmp 0), type := 22, pos := "law.go:74", after := #[], guard := none }) (v := .slice (some ⟨b, o, none⟩) n c) rfl (by kernel_rfl) (by kernel_rfl) (by kernel_rfl) (fun _ _ _ h => h) (Or.inl ⟨by rfl, by intro w hSw; go_simp⟩) (by assumption) ?_
          simp only [Act.put, List.setIfInBounds_toArray, List.set_cons_zero, List.set_cons_succ]
          refine wpAnyH_take (i := 6) (oi := { dst := some 54, op := Op.move (Operand.tmp 10), type := 3, pos := "law.go:74", after := #[], guard := none }) (v := .int .i64 (k : Int)) rfl (by kernel_rfl) (by kernel_rfl) (by kernel_rfl) (fun _ _ _ h => h) (Or.inl ⟨by rfl, by intro w hSw; go_simp⟩) (by assumption) ?_
          simp only [Act.put, List.setIfInBounds_toArray, List.set_cons_zero, List.set_cons_succ]
          refine wpAnyH_take (i := 7) (oi := { dst := some 55, op := Op.indexAddr 22 (Operand.tmp 53) (Operand.tmp 54), type := 0, pos := "law.go:74", after := #[{ on := 5, ground := Ground.data }, { on := 6, ground := Ground.data }], guard := none }) (v := .pointer (some ⟨b, o + k, none⟩)) rfl (by kernel_rfl) (by kernel_rfl) (by kernel_rfl) (fun _ _ _ h => h) (Or.inl ⟨by rfl, by intro w hSw; go_simp⟩) (by assumption) ?_
          simp only [Act.put, List.setIfInBounds_toArray, List.set_cons_zero, List.set_cons_succ]
          refine wpAnyH_take (i := 8) (oi := { dst := some 56, op := Op.load 23 (Operand.tmp 55), type := 23, pos := "law.go:74", after := #[{ on := 7, ground := Ground.data }], guard := none }) (v := .int .u32 (u : Int)) rfl (by kernel_rfl) (by kernel_rfl) (by kernel_rfl) (fun _ _ _ h => h) (Or.inl ⟨by rfl, by intro w hSw; have hcc := HU.out w hSw; go_simp⟩) (by assumption) ?_
          simp only [Act.put, List.setIfInBounds_toArray, List.set_cons_zero, List.set_cons_succ]
          refine wpAnyH_ready (rs := [4]) (by kernel_rfl) (by simp) (AllReadyH.cons (o := { dst := some 52, op := Op.call { callee := Callee.value (Operand.func 7), args := #[Operand.tmp 51], argTypes := #[23] }, type := 9, pos := "law.go:74", after := #[{ on := 3, ground := Ground.data }], guard := none }) rfl (fun KQ hK => ?_) AllReadyH.nil)
          go_simp
          refine (H71.out _ (below_on HB.out (Below.refl _ _).drew)).mono ?_
          rintro e y1 ⟨rfl, hc1⟩
          have HY1 : Hid (Below W.heap.size W y1) := hid (below_on (below_on HB.out (Below.refl _ _).drew) hc1)
          clear hc1
          go_wp2_with fail
          refine hK.out _ _ HY1.out (fun hHeld => ?_)
          clear hK KQ
          try simp only [Act.put, List.setIfInBounds_toArray, List.set_cons_zero, List.set_cons_succ]
          refine wpAnyH_ready (rs := [9]) (by kernel_rfl) (by simp) (AllReadyH.cons (o := { dst := some 57, op := Op.call { callee := Callee.value (Operand.func 8), args := #[Operand.tmp 56], argTypes := #[23] }, type := 9, pos := "law.go:74", after := #[{ on := 8, ground := Ground.data }, { on := 4, ground := Ground.chain }], guard := none }) rfl (fun KQ hK => ?_) AllReadyH.nil)
          go_simp
          refine (H81.out _ HY1.out).mono ?_
          rintro e y2 ⟨rfl, hc2⟩
          have HY2 : Hid (Below W.heap.size W y2) := hid (below_on HY1.out hc2)
          clear hc2
          go_wp2_with fail
          refine hK.out _ _ HY2.out (fun hHeld => ?_)
          clear hK KQ
          try simp only [Act.put, List.setIfInBounds_toArray, List.set_cons_zero, List.set_cons_succ]
          refine wpAnyH_take (i := 10) (oi := { dst := some 58, op := Op.binOp BinOp.neq 9 (Operand.tmp 52) (Operand.tmp 57) 9, type := 4, pos := "law.go:74", after := #[{ on := 4, ground := Ground.data }, { on := 9, ground := Ground.data }], guard := none }) (v := .bool false) rfl (by kernel_rfl) (by kernel_rfl) (by kernel_rfl) (fun _ _ _ h => h) (Or.inl ⟨by rfl, by intro w hSw; go_simp⟩) (by assumption) ?_
          simp only [Act.put, List.setIfInBounds_toArray, List.set_cons_zero, List.set_cons_succ]
          refine wpAnyH_done (by kernel_rfl) ?_ _
          clear hHeld
          go_wp2_with fail
          go_roundw
          case measure => simp [intOf] <;> omega
          case rel => exact ⟨k + 1, by omega, by omega, by go_num, HY2⟩
        · obtain rfl : k = 64 := by omega
          clear H7 H8 hl64
          go_wp2_with (go_at_call 7; refine (HLB.out _ HB.out).mono ?_; rintro e w7 ⟨rfl, hb7⟩)
          go_ret
          exact ⟨rfl, below_on HB.out hb7⟩
      · obtain rfl : k = n := by omega
        have d1 : ¬ ((k : Int) < (k : Int)) := by omega
        clear H7 H8 hlt
        go_wp2_with (go_at_call 7; refine (HLB.out _ HB.out).mono ?_; rintro e w7 ⟨rfl, hb7⟩)
        go_ret
        exact ⟨rfl, below_on HB.out hb7⟩
end Go.Proofs.YtncnogndopgknaaDoor
