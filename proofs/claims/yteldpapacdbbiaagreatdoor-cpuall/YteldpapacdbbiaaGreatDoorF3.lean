/- The law's agree 16. -/
import Derived.Test.YteldpapacdbbiaaGreatDoorF2
import Derived.Test.YteldpapacdbbiaaGreatDoorRfN0N1N2N3N4
namespace Go.Proofs.YteldpapacdbbiaaGreatDoor
open Go.RowKit
set_option maxHeartbeats 8000000
set_option maxRecDepth 100000
theorem minsecure_any (w : World) (f : Fp) (m : MS) (h : Mem w f m) :
    Calls Tryz.prog 34 #[ptr f.gm] w fun x w' => x = .returned (.int .i64 ((m.P.length - m.ns : Nat) : Int)) ∧ w = w' := by
  have c1 : w.cell? ⟨f.gm, 1, none⟩ = some (.slice (some ⟨f.gi, 0, none⟩) (m.P.length - m.ns) (m.P.length - m.ns)) := h.cel.cell 1
  clear h
  generalize m.P.length - m.ns = k at *
  simp only [ptr] at *
  go_enter Tryz.func34, Tryz.ntmps34
  go_wp2_with fail
  go_ret
  exact ⟨rfl, rfl⟩
theorem msecure_any (w : World) (f : Fp) (m : MS) (h : Mem w f m) :
    Calls Tryz.prog 35 #[ptr f.gm] w fun x w' => x = .returned (.int .i64 (m.ns : Int)) ∧ w = w' := by
  have c1 : w.cell? ⟨f.gm, 0, none⟩ = some (.slice (some ⟨f.gs, 0, none⟩) m.ns m.ns) := h.cel.cell 0
  clear h
  generalize m.ns = k at *
  simp only [ptr] at *
  go_enter Tryz.func35, Tryz.ntmps35
  go_wp2_with fail
  go_ret
  exact ⟨rfl, rfl⟩
theorem agree_any (W : World) (fa : Fp) (r : Rf) (m : MS) (hA : Mem W fa m) (hR : RMem W r m) :
    Calls Tryz.prog 16 #[ptr fa.gm, ptr r.g] W fun e W' => e = .returned (.bool true) ∧ Below W.heap.size W W' := by
  have HA := hid hA
  have HR := hid hR
  have HMt := hid (meter_any W fa m hA)
  have HRt := hid (rmeter_any W r m hR)
  have HIn := hid (fun x (hb : Below W.heap.size W x) => minsecure_any x fa m (hA.on hb))
  have HSe := hid (fun x (hb : Below W.heap.size W x) => msecure_any x fa m (hA.on hb))
  have HP := hid (fun x (hb : Below W.heap.size W x) (s : Bool) (p off : Int) => peek_any x fa m (hA.on hb) s p off)
  have HQ := hid (fun x (hb : Below W.heap.size W x) (s : Bool) (p off : Int) => rpeek_any x r m (hR.on hb) s p off)
  have HDc := hid (fun x s p => doc_any x s p)
  have n1 : ((m.P.length - m.ns : Nat) : Int) ≤ 128 := by have := hA.most; omega
  have n2 : (m.ns : Int) ≤ 128 := by have := hA.most; have := hA.ns0; omega
  clear hA hR HA HR
  unfold ptr fr at *
  generalize m.P.length - m.ns = ni at *
  generalize m.ns = ns at *
  generalize fa.gm = ga at *
  generalize r.g = gr at *
  have HB0 : Hid (Below W.heap.size W W) := hid (Below.refl _ _)
  go_enter Tryz.func16, Tryz.ntmps16
  go_wp2_with (first | (go_at_call 11; refine HMt.out.mono ?_; rintro e w1 ⟨rfl, rfl⟩) | (go_at_call 12; refine HRt.out.mono ?_; rintro e w1 ⟨rfl, rfl⟩))
  clear HMt HRt
  go_loopw [5] (fun i wr => ∃ j : Nat, j ≤ 2 ∧ i = .int .i64 (j : Int) ∧ Hid (Below w1.heap.size w1 wr)) (fun i _ => 2 - (intOf i).toNat)
  case atStart => exact ⟨0, Nat.zero_le _, rfl, HB0⟩
  case round =>
    obtain ⟨j, hj, rfl, HB⟩ := hrel
    clear HB0
    have hj3 : j = 0 ∨ j = 1 ∨ j = 2 := by omega
    clear hj
    rcases hj3 with rfl | rfl | rfl
    · rw [show ((0 : Nat) : Int) = 0 from rfl] at *
      go_upto_region 9 with (first | (go_at_call 34; refine (HIn.out _ HB.out).mono ?_; rintro e w2 ⟨rfl, rfl⟩) | (go_at_call 35; refine (HSe.out _ HB.out).mono ?_; rintro e w2 ⟨rfl, rfl⟩))
      go_wp2_with fail
      go_loopw [7] (fun i w7 => ∃ p : Nat, p ≤ ns ∧ i = .int .i64 (p : Int) ∧ Hid (Below w1.heap.size w1 w7)) (fun i _ => ns - (intOf i).toNat)
      case atStart => exact ⟨0, Nat.zero_le _, rfl, HB⟩
      case round =>
        obtain ⟨p, hp, rfl, HB2⟩ := hrel
        by_cases hlt : p < ns
        · have q1 : (p : Int) < (ns : Int) := by omega
          go_wp2_with fail
          go_loopw [8] (fun i w8 => ∃ t : Nat, t ≤ 1024 ∧ i = .int .i64 (t : Int) ∧ Hid (Below w1.heap.size w1 w8)) (fun i _ => 1024 - (intOf i).toNat)
          case atStart => exact ⟨0, Nat.zero_le _, rfl, HB2⟩
          case round =>
            obtain ⟨t, ht, rfl, HB3⟩ := hrel
            by_cases htl : t < 1024
            · have t1 : (t : Int) < 1024 := by omega
              have HA := hid (below_on HB3.out (below_one wr (.cells #[.bool true, .int .i64 (p : Int)] 59)))
              have HC := hid (Cel.new wr 59 [.bool true, .int .i64 (p : Int)])
              go_upto_region 16 with fail
              generalize hX6 : wr.alloc _ = x6 at *
              clear hX6
              generalize wr.heap.size = g9 at *
              have HD := hid (And.intro (HC.out.on (Below.refl _ _).drew) (below_on HA.out (Below.refl _ _).drew))
              refine wp_region_held_drew (S := fun x => Cel x g9 59 [.bool true, .int .i64 (p : Int)]) (by kernel_rfl) HD.out.1 (fun hHeld => ?_)
              refine wpAnyH_take (i := 0) (oi := { dst := some 38, op := Op.move (Operand.tmp 0), type := 29, pos := "law.go:92", after := #[], guard := none }) (v := .pointer (some ⟨ga, 0, none⟩)) rfl (by kernel_rfl) (by kernel_rfl) (by kernel_rfl) (fun _ _ _ h => h) (Or.inl ⟨by rfl, by intro w hSw; go_simp⟩) (by assumption) ?_
              simp only [Act.put, List.setIfInBounds_toArray, List.set_cons_zero, List.set_cons_succ]
              refine wpAnyH_take (i := 1) (oi := { dst := some 39, op := Op.load 59 (Operand.tmp 9), type := 59, pos := "law.go:92", after := #[], guard := none }) (v := .agg #[.bool true, .int .i64 (p : Int)]) rfl (by kernel_rfl) (by kernel_rfl) (by kernel_rfl) (fun _ _ _ h => h) (Or.inl ⟨by rfl, by intro w hSw; have h0 := Cel.cell hSw 0; have h1 := Cel.cell hSw 1; simp only [List.getElem?_cons_zero, List.getElem?_cons_succ] at h0 h1; go_simp⟩) (by assumption) ?_
              simp only [Act.put, List.setIfInBounds_toArray, List.set_cons_zero, List.set_cons_succ]
              refine wpAnyH_take (i := 2) (oi := { dst := some 40, op := Op.move (Operand.tmp 8), type := 3, pos := "law.go:92", after := #[], guard := none }) (v := .int .i64 (t : Int)) rfl (by kernel_rfl) (by kernel_rfl) (by kernel_rfl) (fun _ _ _ h => h) (Or.inl ⟨by rfl, by intro w hSw; go_simp⟩) (by assumption) ?_
              simp only [Act.put, List.setIfInBounds_toArray, List.set_cons_zero, List.set_cons_succ]
              refine wpAnyH_take (i := 4) (oi := { dst := some 42, op := Op.move (Operand.tmp 1), type := 32, pos := "law.go:92", after := #[], guard := none }) (v := .pointer (some ⟨gr, 0, none⟩)) rfl (by kernel_rfl) (by kernel_rfl) (by kernel_rfl) (fun _ _ _ h => h) (Or.inl ⟨by rfl, by intro w hSw; go_simp⟩) (by assumption) ?_
              simp only [Act.put, List.setIfInBounds_toArray, List.set_cons_zero, List.set_cons_succ]
              refine wpAnyH_take (i := 5) (oi := { dst := some 43, op := Op.load 59 (Operand.tmp 9), type := 59, pos := "law.go:92", after := #[], guard := none }) (v := .agg #[.bool true, .int .i64 (p : Int)]) rfl (by kernel_rfl) (by kernel_rfl) (by kernel_rfl) (fun _ _ _ h => h) (Or.inl ⟨by rfl, by intro w hSw; have h0 := Cel.cell hSw 0; have h1 := Cel.cell hSw 1; simp only [List.getElem?_cons_zero, List.getElem?_cons_succ] at h0 h1; go_simp⟩) (by assumption) ?_
              simp only [Act.put, List.setIfInBounds_toArray, List.set_cons_zero, List.set_cons_succ]
              refine wpAnyH_take (i := 7) (oi := { dst := some 45, op := Op.move (Operand.tmp 8), type := 3, pos := "law.go:92", after := #[], guard := none }) (v := .int .i64 (t : Int)) rfl (by kernel_rfl) (by kernel_rfl) (by kernel_rfl) (fun _ _ _ h => h) (Or.inl ⟨by rfl, by intro w hSw; go_simp⟩) (by assumption) ?_
              simp only [Act.put, List.setIfInBounds_toArray, List.set_cons_zero, List.set_cons_succ]
              refine wpAnyH_ready (rs := [3]) (by kernel_rfl) (by simp) (AllReadyH.cons (o := { dst := some 41, op := Op.call { callee := Callee.value (Operand.func 36), args := #[Operand.tmp 38, Operand.tmp 39, Operand.tmp 40], argTypes := #[29, 59, 3] }, type := 23, pos := "law.go:92", after := #[{ on := 0, ground := Ground.data }, { on := 1, ground := Ground.data }, { on := 2, ground := Ground.data }], guard := none }) rfl (fun KQ hK => ?_) AllReadyH.nil)
              go_simp
              refine (HP.out _ HD.out.2 true _ _).mono ?_
              rintro e w3 ⟨rfl, hb3⟩
              have H3 := hid (And.intro (HD.out.1.on hb3) (below_on HD.out.2 hb3))
              clear hb3
              go_wp2_with fail
              refine hK.out _ _ H3.out.1 (fun hHeld => ?_)
              clear hK KQ
              try simp only [Act.put, List.setIfInBounds_toArray, List.set_cons_zero, List.set_cons_succ]
              refine wpAnyH_ready (rs := [6]) (by kernel_rfl) (by simp) (AllReadyH.cons (o := { dst := some 44, op := Op.call { callee := Callee.value (Operand.func 23), args := #[Operand.tmp 43], argTypes := #[59] }, type := 68, pos := "law.go:92", after := #[{ on := 5, ground := Ground.data }, { on := 3, ground := Ground.chain }], guard := none }) rfl (fun KQ hK => ?_) AllReadyH.nil)
              go_simp
              refine (HDc.out _ true _).mono ?_
              rintro e w4 ⟨rfl, hb4⟩
              have H4 := hid (And.intro (H3.out.1.on hb4) (below_on H3.out.2 hb4))
              clear hb4
              go_wp2_with fail
              refine hK.out _ _ H4.out.1 (fun hHeld => ?_)
              clear hK KQ
              try simp only [Act.put, List.setIfInBounds_toArray, List.set_cons_zero, List.set_cons_succ]
              refine wpAnyH_ready (rs := [8]) (by kernel_rfl) (by simp) (AllReadyH.cons (o := { dst := some 46, op := Op.call { callee := Callee.value (Operand.func 37), args := #[Operand.tmp 42, Operand.tmp 44, Operand.tmp 45], argTypes := #[32, 68, 3] }, type := 23, pos := "law.go:92", after := #[{ on := 4, ground := Ground.data }, { on := 6, ground := Ground.data }, { on := 7, ground := Ground.data }, { on := 6, ground := Ground.chain }], guard := none }) rfl (fun KQ hK => ?_) AllReadyH.nil)
              go_simp
              refine (HQ.out _ H4.out.2 true _ _).mono ?_
              rintro e w5 ⟨rfl, hb5⟩
              have H5 := hid (And.intro (H4.out.1.on hb5) (below_on H4.out.2 hb5))
              clear hb5
              go_wp2_with fail
              refine hK.out _ _ H5.out.1 (fun hHeld => ?_)
              clear hK KQ
              try simp only [Act.put, List.setIfInBounds_toArray, List.set_cons_zero, List.set_cons_succ]
              refine wpAnyH_take (i := 9) (oi := { dst := some 47, op := Op.binOp BinOp.neq 23 (Operand.tmp 41) (Operand.tmp 46) 23, type := 4, pos := "law.go:92", after := #[{ on := 3, ground := Ground.data }, { on := 8, ground := Ground.data }], guard := none }) (v := .bool false) rfl (by kernel_rfl) (by kernel_rfl) (by kernel_rfl) (fun _ _ _ h => h) (Or.inl ⟨by rfl, by intro w hSw; go_simp⟩) (by assumption) ?_
              simp only [Act.put, List.setIfInBounds_toArray, List.set_cons_zero, List.set_cons_succ]
              refine wpAnyH_done (by kernel_rfl) ?_ _
              go_wp2_with fail
              go_roundw
              case measure => simp [intOf] <;> omega
              case rel => exact ⟨t + 1, by omega, by simp, hid H5.out.2⟩
            · have htn : t = 1024 := by omega
              subst htn
              rw [show ((1024 : Nat) : Int) = 1024 from rfl] at *
              go_wp2_with fail
              go_roundw
              case measure => simp [intOf] <;> omega
              case rel => exact ⟨p + 1, by omega, by simp, HB3⟩
        · have hpn : p = ns := by omega
          subst hpn
          go_wp2_with fail
          go_roundw
          case measure => simp [intOf] <;> omega
          case rel => exact ⟨1, by omega, by simp, HB2⟩
    · rw [show ((1 : Nat) : Int) = 1 from rfl] at *
      go_upto_region 9 with (first | (go_at_call 34; refine (HIn.out _ HB.out).mono ?_; rintro e w2 ⟨rfl, rfl⟩) | (go_at_call 35; refine (HSe.out _ HB.out).mono ?_; rintro e w2 ⟨rfl, rfl⟩))
      go_wp2_with fail
      go_loopw [7] (fun i w7 => ∃ p : Nat, p ≤ ni ∧ i = .int .i64 (p : Int) ∧ Hid (Below w1.heap.size w1 w7)) (fun i _ => ni - (intOf i).toNat)
      case atStart => exact ⟨0, Nat.zero_le _, rfl, HB⟩
      case round =>
        obtain ⟨p, hp, rfl, HB2⟩ := hrel
        by_cases hlt : p < ni
        · have q1 : (p : Int) < (ni : Int) := by omega
          go_wp2_with fail
          go_loopw [8] (fun i w8 => ∃ t : Nat, t ≤ 1024 ∧ i = .int .i64 (t : Int) ∧ Hid (Below w1.heap.size w1 w8)) (fun i _ => 1024 - (intOf i).toNat)
          case atStart => exact ⟨0, Nat.zero_le _, rfl, HB2⟩
          case round =>
            obtain ⟨t, ht, rfl, HB3⟩ := hrel
            by_cases htl : t < 1024
            · have t1 : (t : Int) < 1024 := by omega
              have HA := hid (below_on HB3.out (below_one wr (.cells #[.bool false, .int .i64 (p : Int)] 59)))
              have HC := hid (Cel.new wr 59 [.bool false, .int .i64 (p : Int)])
              go_upto_region 16 with fail
              generalize hX6 : wr.alloc _ = x6 at *
              clear hX6
              generalize wr.heap.size = g9 at *
              have HD := hid (And.intro (HC.out.on (Below.refl _ _).drew) (below_on HA.out (Below.refl _ _).drew))
              refine wp_region_held_drew (S := fun x => Cel x g9 59 [.bool false, .int .i64 (p : Int)]) (by kernel_rfl) HD.out.1 (fun hHeld => ?_)
              refine wpAnyH_take (i := 0) (oi := { dst := some 38, op := Op.move (Operand.tmp 0), type := 29, pos := "law.go:92", after := #[], guard := none }) (v := .pointer (some ⟨ga, 0, none⟩)) rfl (by kernel_rfl) (by kernel_rfl) (by kernel_rfl) (fun _ _ _ h => h) (Or.inl ⟨by rfl, by intro w hSw; go_simp⟩) (by assumption) ?_
              simp only [Act.put, List.setIfInBounds_toArray, List.set_cons_zero, List.set_cons_succ]
              refine wpAnyH_take (i := 1) (oi := { dst := some 39, op := Op.load 59 (Operand.tmp 9), type := 59, pos := "law.go:92", after := #[], guard := none }) (v := .agg #[.bool false, .int .i64 (p : Int)]) rfl (by kernel_rfl) (by kernel_rfl) (by kernel_rfl) (fun _ _ _ h => h) (Or.inl ⟨by rfl, by intro w hSw; have h0 := Cel.cell hSw 0; have h1 := Cel.cell hSw 1; simp only [List.getElem?_cons_zero, List.getElem?_cons_succ] at h0 h1; go_simp⟩) (by assumption) ?_
              simp only [Act.put, List.setIfInBounds_toArray, List.set_cons_zero, List.set_cons_succ]
              refine wpAnyH_take (i := 2) (oi := { dst := some 40, op := Op.move (Operand.tmp 8), type := 3, pos := "law.go:92", after := #[], guard := none }) (v := .int .i64 (t : Int)) rfl (by kernel_rfl) (by kernel_rfl) (by kernel_rfl) (fun _ _ _ h => h) (Or.inl ⟨by rfl, by intro w hSw; go_simp⟩) (by assumption) ?_
              simp only [Act.put, List.setIfInBounds_toArray, List.set_cons_zero, List.set_cons_succ]
              refine wpAnyH_take (i := 4) (oi := { dst := some 42, op := Op.move (Operand.tmp 1), type := 32, pos := "law.go:92", after := #[], guard := none }) (v := .pointer (some ⟨gr, 0, none⟩)) rfl (by kernel_rfl) (by kernel_rfl) (by kernel_rfl) (fun _ _ _ h => h) (Or.inl ⟨by rfl, by intro w hSw; go_simp⟩) (by assumption) ?_
              simp only [Act.put, List.setIfInBounds_toArray, List.set_cons_zero, List.set_cons_succ]
              refine wpAnyH_take (i := 5) (oi := { dst := some 43, op := Op.load 59 (Operand.tmp 9), type := 59, pos := "law.go:92", after := #[], guard := none }) (v := .agg #[.bool false, .int .i64 (p : Int)]) rfl (by kernel_rfl) (by kernel_rfl) (by kernel_rfl) (fun _ _ _ h => h) (Or.inl ⟨by rfl, by intro w hSw; have h0 := Cel.cell hSw 0; have h1 := Cel.cell hSw 1; simp only [List.getElem?_cons_zero, List.getElem?_cons_succ] at h0 h1; go_simp⟩) (by assumption) ?_
              simp only [Act.put, List.setIfInBounds_toArray, List.set_cons_zero, List.set_cons_succ]
              refine wpAnyH_take (i := 7) (oi := { dst := some 45, op := Op.move (Operand.tmp 8), type := 3, pos := "law.go:92", after := #[], guard := none }) (v := .int .i64 (t : Int)) rfl (by kernel_rfl) (by kernel_rfl) (by kernel_rfl) (fun _ _ _ h => h) (Or.inl ⟨by rfl, by intro w hSw; go_simp⟩) (by assumption) ?_
              simp only [Act.put, List.setIfInBounds_toArray, List.set_cons_zero, List.set_cons_succ]
              refine wpAnyH_ready (rs := [3]) (by kernel_rfl) (by simp) (AllReadyH.cons (o := { dst := some 41, op := Op.call { callee := Callee.value (Operand.func 36), args := #[Operand.tmp 38, Operand.tmp 39, Operand.tmp 40], argTypes := #[29, 59, 3] }, type := 23, pos := "law.go:92", after := #[{ on := 0, ground := Ground.data }, { on := 1, ground := Ground.data }, { on := 2, ground := Ground.data }], guard := none }) rfl (fun KQ hK => ?_) AllReadyH.nil)
              go_simp
              refine (HP.out _ HD.out.2 false _ _).mono ?_
              rintro e w3 ⟨rfl, hb3⟩
              have H3 := hid (And.intro (HD.out.1.on hb3) (below_on HD.out.2 hb3))
              clear hb3
              go_wp2_with fail
              refine hK.out _ _ H3.out.1 (fun hHeld => ?_)
              clear hK KQ
              try simp only [Act.put, List.setIfInBounds_toArray, List.set_cons_zero, List.set_cons_succ]
              refine wpAnyH_ready (rs := [6]) (by kernel_rfl) (by simp) (AllReadyH.cons (o := { dst := some 44, op := Op.call { callee := Callee.value (Operand.func 23), args := #[Operand.tmp 43], argTypes := #[59] }, type := 68, pos := "law.go:92", after := #[{ on := 5, ground := Ground.data }, { on := 3, ground := Ground.chain }], guard := none }) rfl (fun KQ hK => ?_) AllReadyH.nil)
              go_simp
              refine (HDc.out _ false _).mono ?_
              rintro e w4 ⟨rfl, hb4⟩
              have H4 := hid (And.intro (H3.out.1.on hb4) (below_on H3.out.2 hb4))
              clear hb4
              go_wp2_with fail
              refine hK.out _ _ H4.out.1 (fun hHeld => ?_)
              clear hK KQ
              try simp only [Act.put, List.setIfInBounds_toArray, List.set_cons_zero, List.set_cons_succ]
              refine wpAnyH_ready (rs := [8]) (by kernel_rfl) (by simp) (AllReadyH.cons (o := { dst := some 46, op := Op.call { callee := Callee.value (Operand.func 37), args := #[Operand.tmp 42, Operand.tmp 44, Operand.tmp 45], argTypes := #[32, 68, 3] }, type := 23, pos := "law.go:92", after := #[{ on := 4, ground := Ground.data }, { on := 6, ground := Ground.data }, { on := 7, ground := Ground.data }, { on := 6, ground := Ground.chain }], guard := none }) rfl (fun KQ hK => ?_) AllReadyH.nil)
              go_simp
              refine (HQ.out _ H4.out.2 false _ _).mono ?_
              rintro e w5 ⟨rfl, hb5⟩
              have H5 := hid (And.intro (H4.out.1.on hb5) (below_on H4.out.2 hb5))
              clear hb5
              go_wp2_with fail
              refine hK.out _ _ H5.out.1 (fun hHeld => ?_)
              clear hK KQ
              try simp only [Act.put, List.setIfInBounds_toArray, List.set_cons_zero, List.set_cons_succ]
              refine wpAnyH_take (i := 9) (oi := { dst := some 47, op := Op.binOp BinOp.neq 23 (Operand.tmp 41) (Operand.tmp 46) 23, type := 4, pos := "law.go:92", after := #[{ on := 3, ground := Ground.data }, { on := 8, ground := Ground.data }], guard := none }) (v := .bool false) rfl (by kernel_rfl) (by kernel_rfl) (by kernel_rfl) (fun _ _ _ h => h) (Or.inl ⟨by rfl, by intro w hSw; go_simp⟩) (by assumption) ?_
              simp only [Act.put, List.setIfInBounds_toArray, List.set_cons_zero, List.set_cons_succ]
              refine wpAnyH_done (by kernel_rfl) ?_ _
              go_wp2_with fail
              go_roundw
              case measure => simp [intOf] <;> omega
              case rel => exact ⟨t + 1, by omega, by simp, hid H5.out.2⟩
            · have htn : t = 1024 := by omega
              subst htn
              rw [show ((1024 : Nat) : Int) = 1024 from rfl] at *
              go_wp2_with fail
              go_roundw
              case measure => simp [intOf] <;> omega
              case rel => exact ⟨p + 1, by omega, by simp, HB3⟩
        · have hpn : p = ni := by omega
          subst hpn
          go_wp2_with fail
          go_roundw
          case measure => simp [intOf] <;> omega
          case rel => exact ⟨2, by omega, by simp, HB2⟩
    · go_wp2_with fail
      go_ret
      exact ⟨rfl, HB.out⟩
end Go.Proofs.YteldpapacdbbiaaGreatDoor
