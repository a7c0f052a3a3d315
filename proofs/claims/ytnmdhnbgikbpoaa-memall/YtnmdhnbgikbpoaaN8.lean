/- The document's Same 47. -/
import Derived.Test.YtnmdhnbgikbpoaaN7
import Derived.Test.YtnmdhnbgikbpoaaK3
import Derived.Deep.DeepCutAuto
namespace Go.Proofs.Ytnmdhnbgikbpoaa
open Go.RowKit
theorem same_eq {m m' : MS} (h : m.ns ≤ m.P.length) (h' : m'.ns ≤ m'.P.length) : m.same m' = decide (m.ns = m'.ns ∧ m.P = m'.P) := by
  unfold MS.same
  rw [Bool.eq_iff_iff]
  simp only [Bool.and_eq_true, decide_eq_true_eq]
  constructor
  · rintro ⟨a, b⟩
    have l := congrArg List.length a
    rw [List.length_take, List.length_take] at l
    have e : m.ns = m'.ns := by omega
    refine ⟨e, ?_⟩
    rw [← List.take_append_drop m.ns m.P, a, b, List.take_append_drop]
  · rintro ⟨a, b⟩; rw [a, b]; exact ⟨rfl, rfl⟩
theorem wd_cell {w : World} {g : Nat} {L : List Int} (h : Cel w g 32 (u32s L)) (hL : L.length = 1024) (j : Nat) (hj : j < 1024) : w.cell? ⟨g, j, none⟩ = some (.int .u32 (wd L j)) := by
  rw [h.cell j, u32s, List.getElem?_map, List.getElem?_eq_getElem (by omega)]
  simp [wd, List.getD_eq_getElem?_getD, List.getElem?_eq_getElem (show j < L.length by omega)]
set_option maxRecDepth 40000 in
set_option maxHeartbeats 8000000 in
theorem rsame_any (w : World) (r : Rf) (m : MS) (h : RMem w r m) (r' : Rf) (m' : MS) (h' : RMem w r' m') :
    Calls Try.prog 47 #[ptr r.g, ptr r'.g] w fun x w' => x = .returned (.bool (m.same m')) ∧ Below w.heap.size w w' := by
  rw [same_eq h.ns0 h'.ns0]
  have n1 := h.most
  have n2 := h'.most
  have n3 := h.ns0
  have n4 := h'.ns0
  have q1 : (m.P.length : Int) ≤ 128 := by omega
  have q2 : (m'.P.length : Int) ≤ 128 := by omega
  have HX : Hid (∀ x, Below w.heap.size w x → x.cell? ⟨r.g, 0, none⟩ = some (.slice (some ⟨r.gp, 0, none⟩) m.P.length r.cap) ∧ x.cell? ⟨r.g, 1, none⟩ = some (.int .i64 (m.ns : Int))) := hid (fun x hx => ⟨(h.on hx).cel.cell 0, (h.on hx).cel.cell 1⟩)
  have HY : Hid (∀ x, Below w.heap.size w x → x.cell? ⟨r'.g, 0, none⟩ = some (.slice (some ⟨r'.gp, 0, none⟩) m'.P.length r'.cap) ∧ x.cell? ⟨r'.g, 1, none⟩ = some (.int .i64 (m'.ns : Int))) := hid (fun x hx => ⟨(h'.on hx).cel.cell 0, (h'.on hx).cel.cell 1⟩)
  have H := hid h
  have H' := hid h'
  clear h h' n3 n4
  simp only [ptr]
  by_cases e1 : m.ns = m'.ns
  · by_cases e2 : m.P.length = m'.P.length
    · have HD : Hid (decide (m.ns = m'.ns ∧ m.P = m'.P) = decide (m.P = m'.P)) := hid (by simp [e1])
      rw [HD.out]
      have z1 : (m.ns : Int) = (m'.ns : Int) := by omega
      have z2 : (m.P.length : Int) = (m'.P.length : Int) := by omega
      have E2 := hid e2
      have HN : Hid (∀ j, m.p j ≠ m'.p j → decide (m.P = m'.P) = false) := hid (fun j hne => by rw [decide_eq_false_iff_not]; intro e; exact hne (by unfold MS.p; rw [e]))
      have HE : Hid ((∀ j, j < m.P.length → m.p j = m'.p j) → decide (m.P = m'.P) = true) := hid (fun hh => by rw [decide_eq_true_eq]; exact list_ext_zp e2 (fun j hj => hh j hj))
      generalize decide (m.P = m'.P) = res at *
      clear HD
      go_enter Try.func47, Try.ntmps47
      go_wp2_with fail
      refine wp_region_held_drew (S := fun x => Below w.heap.size w x) (by kernel_rfl) ((Below.refl _ _).drew) (fun hHeld => ?_)
      refine wpAnyH_take (i := 0) (oi := { dst := some 9, op := Op.move (Operand.tmp 0), type := 64, pos := "ref.go:191", after := #[], guard := none }) (v := .pointer (some ⟨r.g, 0, none⟩)) rfl (by kernel_rfl) (by kernel_rfl) (by kernel_rfl) (fun _ _ _ h => h) (Or.inl ⟨by rfl, by intro w hSw; go_simp⟩) (by assumption) ?_
      simp only [Act.put, List.setIfInBounds_toArray, List.set_cons_zero, List.set_cons_succ]
      refine wpAnyH_take (i := 1) (oi := { dst := some 10, op := Op.nilCheck (Operand.tmp 9), type := 0, pos := "ref.go:191", after := #[{ on := 0, ground := Ground.data }], guard := none }) (v := .pointer (some ⟨r.g, 0, none⟩)) rfl (by kernel_rfl) (by kernel_rfl) (by kernel_rfl) (fun _ _ _ h => h) (Or.inl ⟨by rfl, by intro w hSw; go_simp⟩) (by assumption) ?_
      simp only [Act.put, List.setIfInBounds_toArray, List.set_cons_zero, List.set_cons_succ]
      refine wpAnyH_take (i := 2) (oi := { dst := some 11, op := Op.fieldAddr 105 (Operand.tmp 10) 1, type := 0, pos := "ref.go:191", after := #[{ on := 1, ground := Ground.data }], guard := none }) (v := .pointer (some ⟨r.g, 1, none⟩)) rfl (by kernel_rfl) (by kernel_rfl) (by kernel_rfl) (fun _ _ _ h => h) (Or.inl ⟨by rfl, by intro w hSw; go_simp⟩) (by assumption) ?_
      simp only [Act.put, List.setIfInBounds_toArray, List.set_cons_zero, List.set_cons_succ]
      refine wpAnyH_take (i := 3) (oi := { dst := some 12, op := Op.load 3 (Operand.tmp 11), type := 3, pos := "ref.go:191", after := #[{ on := 2, ground := Ground.data }], guard := none }) (v := .int .i64 (m.ns : Int)) rfl (by kernel_rfl) (by kernel_rfl) (by kernel_rfl) (fun _ _ _ h => h) (Or.inl ⟨by rfl, by intro w hSw; have hcc := (HX.out w hSw).2; go_simp⟩) (by assumption) ?_
      simp only [Act.put, List.setIfInBounds_toArray, List.set_cons_zero, List.set_cons_succ]
      refine wpAnyH_take (i := 4) (oi := { dst := some 13, op := Op.move (Operand.tmp 1), type := 64, pos := "ref.go:191", after := #[], guard := none }) (v := .pointer (some ⟨r'.g, 0, none⟩)) rfl (by kernel_rfl) (by kernel_rfl) (by kernel_rfl) (fun _ _ _ h => h) (Or.inl ⟨by rfl, by intro w hSw; go_simp⟩) (by assumption) ?_
      simp only [Act.put, List.setIfInBounds_toArray, List.set_cons_zero, List.set_cons_succ]
      refine wpAnyH_take (i := 5) (oi := { dst := some 14, op := Op.nilCheck (Operand.tmp 13), type := 0, pos := "ref.go:191", after := #[{ on := 4, ground := Ground.data }], guard := none }) (v := .pointer (some ⟨r'.g, 0, none⟩)) rfl (by kernel_rfl) (by kernel_rfl) (by kernel_rfl) (fun _ _ _ h => h) (Or.inl ⟨by rfl, by intro w hSw; go_simp⟩) (by assumption) ?_
      simp only [Act.put, List.setIfInBounds_toArray, List.set_cons_zero, List.set_cons_succ]
      refine wpAnyH_take (i := 6) (oi := { dst := some 15, op := Op.fieldAddr 105 (Operand.tmp 14) 1, type := 0, pos := "ref.go:191", after := #[{ on := 5, ground := Ground.data }], guard := none }) (v := .pointer (some ⟨r'.g, 1, none⟩)) rfl (by kernel_rfl) (by kernel_rfl) (by kernel_rfl) (fun _ _ _ h => h) (Or.inl ⟨by rfl, by intro w hSw; go_simp⟩) (by assumption) ?_
      simp only [Act.put, List.setIfInBounds_toArray, List.set_cons_zero, List.set_cons_succ]
      refine wpAnyH_take (i := 7) (oi := { dst := some 16, op := Op.load 3 (Operand.tmp 15), type := 3, pos := "ref.go:191", after := #[{ on := 6, ground := Ground.data }], guard := none }) (v := (.int .i64 (m'.ns : Int))) rfl (by kernel_rfl) (by kernel_rfl) (by kernel_rfl) (fun _ _ _ h => h) (Or.inl ⟨by rfl, by intro w hSw; have hcc := (HY.out w hSw).2; go_simp⟩) (by assumption) ?_
      simp only [Act.put, List.setIfInBounds_toArray, List.set_cons_zero, List.set_cons_succ]
      refine wpAnyH_take (i := 8) (oi := { dst := some 17, op := Op.binOp BinOp.neq 3 (Operand.tmp 12) (Operand.tmp 16) 3, type := 4, pos := "ref.go:191", after := #[{ on := 3, ground := Ground.data }, { on := 7, ground := Ground.data }], guard := none }) (v := .bool false) rfl (by kernel_rfl) (by kernel_rfl) (by kernel_rfl) (fun _ _ _ h => h) (Or.inl ⟨by rfl, by intro w hSw; go_simp⟩) (by assumption) ?_
      simp only [Act.put, List.setIfInBounds_toArray, List.set_cons_zero, List.set_cons_succ]
      refine wpAnyH_take (i := 9) (oi := { dst := some 18, op := Op.move (Operand.tmp 17), type := 4, pos := "ref.go:191", after := #[{ on := 8, ground := Ground.data }], guard := none }) (v := .bool false) rfl (by kernel_rfl) (by kernel_rfl) (by kernel_rfl) (fun _ _ _ h => h) (Or.inl ⟨by rfl, by intro w hSw; go_simp⟩) (by assumption) ?_
      simp only [Act.put, List.setIfInBounds_toArray, List.set_cons_zero, List.set_cons_succ]
      refine wpAnyH_take (i := 10) (oi := { dst := some 19, op := Op.move (Operand.tmp 0), type := 64, pos := "ref.go:191", after := #[{ on := 9, ground := Ground.guard }], guard := some (9, false) }) (v := .pointer (some ⟨r.g, 0, none⟩)) rfl (by kernel_rfl) (by kernel_rfl) (by kernel_rfl) (fun _ _ _ h => h) (Or.inl ⟨by rfl, by intro w hSw; go_simp⟩) (by assumption) ?_
      simp only [Act.put, List.setIfInBounds_toArray, List.set_cons_zero, List.set_cons_succ]
      refine wpAnyH_take (i := 11) (oi := { dst := some 20, op := Op.nilCheck (Operand.tmp 19), type := 0, pos := "ref.go:191", after := #[{ on := 10, ground := Ground.data }, { on := 9, ground := Ground.guard }], guard := some (9, false) }) (v := .pointer (some ⟨r.g, 0, none⟩)) rfl (by kernel_rfl) (by kernel_rfl) (by kernel_rfl) (fun _ _ _ h => h) (Or.inl ⟨by rfl, by intro w hSw; go_simp⟩) (by assumption) ?_
      simp only [Act.put, List.setIfInBounds_toArray, List.set_cons_zero, List.set_cons_succ]
      refine wpAnyH_take (i := 12) (oi := { dst := some 21, op := Op.fieldAddr 105 (Operand.tmp 20) 0, type := 0, pos := "ref.go:191", after := #[{ on := 11, ground := Ground.data }, { on := 9, ground := Ground.guard }], guard := some (9, false) }) (v := .pointer (some ⟨r.g, 0, none⟩)) rfl (by kernel_rfl) (by kernel_rfl) (by kernel_rfl) (fun _ _ _ h => h) (Or.inl ⟨by rfl, by intro w hSw; go_simp⟩) (by assumption) ?_
      simp only [Act.put, List.setIfInBounds_toArray, List.set_cons_zero, List.set_cons_succ]
      refine wpAnyH_take (i := 13) (oi := { dst := some 22, op := Op.load 66 (Operand.tmp 21), type := 66, pos := "ref.go:191", after := #[{ on := 12, ground := Ground.data }, { on := 9, ground := Ground.guard }], guard := some (9, false) }) (v := .slice (some ⟨r.gp, 0, none⟩) m.P.length r.cap) rfl (by kernel_rfl) (by kernel_rfl) (by kernel_rfl) (fun _ _ _ h => h) (Or.inl ⟨by rfl, by intro w hSw; have hcc := (HX.out w hSw).1; go_simp⟩) (by assumption) ?_
      simp only [Act.put, List.setIfInBounds_toArray, List.set_cons_zero, List.set_cons_succ]
      refine wpAnyH_take (i := 14) (oi := { dst := some 23, op := Op.call { callee := Callee.builtin Builtin.len, args := #[Operand.tmp 22], argTypes := #[66] }, type := 3, pos := "ref.go:191", after := #[{ on := 13, ground := Ground.data }, { on := 9, ground := Ground.guard }], guard := some (9, false) }) (v := .int .i64 (m.P.length : Int)) rfl (by kernel_rfl) (by kernel_rfl) (by kernel_rfl) (fun _ _ _ h => h) (Or.inl ⟨by rfl, by intro w hSw; go_simp⟩) (by assumption) ?_
      simp only [Act.put, List.setIfInBounds_toArray, List.set_cons_zero, List.set_cons_succ]
      refine wpAnyH_take (i := 15) (oi := { dst := some 24, op := Op.move (Operand.tmp 1), type := 64, pos := "ref.go:191", after := #[{ on := 9, ground := Ground.guard }], guard := some (9, false) }) (v := .pointer (some ⟨r'.g, 0, none⟩)) rfl (by kernel_rfl) (by kernel_rfl) (by kernel_rfl) (fun _ _ _ h => h) (Or.inl ⟨by rfl, by intro w hSw; go_simp⟩) (by assumption) ?_
      simp only [Act.put, List.setIfInBounds_toArray, List.set_cons_zero, List.set_cons_succ]
      refine wpAnyH_take (i := 16) (oi := { dst := some 25, op := Op.nilCheck (Operand.tmp 24), type := 0, pos := "ref.go:191", after := #[{ on := 15, ground := Ground.data }, { on := 9, ground := Ground.guard }], guard := some (9, false) }) (v := .pointer (some ⟨r'.g, 0, none⟩)) rfl (by kernel_rfl) (by kernel_rfl) (by kernel_rfl) (fun _ _ _ h => h) (Or.inl ⟨by rfl, by intro w hSw; go_simp⟩) (by assumption) ?_
      simp only [Act.put, List.setIfInBounds_toArray, List.set_cons_zero, List.set_cons_succ]
      refine wpAnyH_take (i := 17) (oi := { dst := some 26, op := Op.fieldAddr 105 (Operand.tmp 25) 0, type := 0, pos := "ref.go:191", after := #[{ on := 16, ground := Ground.data }, { on := 9, ground := Ground.guard }], guard := some (9, false) }) (v := .pointer (some ⟨r'.g, 0, none⟩)) rfl (by kernel_rfl) (by kernel_rfl) (by kernel_rfl) (fun _ _ _ h => h) (Or.inl ⟨by rfl, by intro w hSw; go_simp⟩) (by assumption) ?_
      simp only [Act.put, List.setIfInBounds_toArray, List.set_cons_zero, List.set_cons_succ]
      refine wpAnyH_take (i := 18) (oi := { dst := some 27, op := Op.load 66 (Operand.tmp 26), type := 66, pos := "ref.go:191", after := #[{ on := 17, ground := Ground.data }, { on := 9, ground := Ground.guard }], guard := some (9, false) }) (v := (.slice (some ⟨r'.gp, 0, none⟩) m'.P.length r'.cap)) rfl (by kernel_rfl) (by kernel_rfl) (by kernel_rfl) (fun _ _ _ h => h) (Or.inl ⟨by rfl, by intro w hSw; have hcc := (HY.out w hSw).1; go_simp⟩) (by assumption) ?_
      simp only [Act.put, List.setIfInBounds_toArray, List.set_cons_zero, List.set_cons_succ]
      refine wpAnyH_take (i := 19) (oi := { dst := some 28, op := Op.call { callee := Callee.builtin Builtin.len, args := #[Operand.tmp 27], argTypes := #[66] }, type := 3, pos := "ref.go:191", after := #[{ on := 18, ground := Ground.data }, { on := 9, ground := Ground.guard }], guard := some (9, false) }) (v := (.int .i64 (m'.P.length : Int))) rfl (by kernel_rfl) (by kernel_rfl) (by kernel_rfl) (fun _ _ _ h => h) (Or.inl ⟨by rfl, by intro w hSw; go_simp⟩) (by assumption) ?_
      simp only [Act.put, List.setIfInBounds_toArray, List.set_cons_zero, List.set_cons_succ]
      refine wpAnyH_take (i := 20) (oi := { dst := some 29, op := Op.binOp BinOp.neq 3 (Operand.tmp 23) (Operand.tmp 28) 3, type := 4, pos := "ref.go:191", after := #[{ on := 14, ground := Ground.data }, { on := 19, ground := Ground.data }, { on := 9, ground := Ground.guard }], guard := some (9, false) }) (v := .bool false) rfl (by kernel_rfl) (by kernel_rfl) (by kernel_rfl) (fun _ _ _ h => h) (Or.inl ⟨by rfl, by intro w hSw; go_simp⟩) (by assumption) ?_
      simp only [Act.put, List.setIfInBounds_toArray, List.set_cons_zero, List.set_cons_succ]
      refine wpAnyH_take (i := 21) (oi := { dst := some 30, op := Op.pick (Operand.tmp 18) (Operand.const (Value.bool true)) (Operand.tmp 29), type := 4, pos := "ref.go:191", after := #[{ on := 9, ground := Ground.data }, { on := 20, ground := Ground.data }], guard := none }) (v := .bool false) rfl (by kernel_rfl) (by kernel_rfl) (by kernel_rfl) (fun _ _ _ h => h) (Or.inl ⟨by rfl, by intro w hSw; go_simp⟩) (by assumption) ?_
      simp only [Act.put, List.setIfInBounds_toArray, List.set_cons_zero, List.set_cons_succ]
      refine wpAnyH_done (by kernel_rfl) ?_ _
      clear hHeld
      have HB0 := hid ((Below.refl w.heap.size w).drew)
      clear z1 z2 e1 e2
      generalize w.drew = X at *
      go_wp2_with fail
      go_loopw [5, 6, 7, 8] (fun i _ _ _ wr => ∃ j : Nat, j ≤ m.P.length ∧ i = .int .i64 (j : Int) ∧ Hid (∀ k, k < j → m.p k = m'.p k) ∧ Hid (Below w.heap.size w wr)) (fun i _ _ _ _ => m.P.length - (intOf i).toNat)
      case atStart => exact ⟨0, Nat.zero_le _, rfl, hid (fun k hk => by omega), HB0⟩
      case round =>
        obtain ⟨j, hj, rfl, HT, HB⟩ := hrel
        clear HB0
        have y0 := (HX.out wr HB.out).1
        by_cases hlt : j < m.P.length
        · have c1 : (j : Int) < (m.P.length : Int) := by omega
          have c2 : (j : Int) < (m'.P.length : Int) := by have := E2.out; omega
          have j1 : (j : Int) ≤ 128 := by omega
          have y1 := (H.out.on HB.out).cellAt j hlt
          have y2 := (H'.out.on HB.out).cellAt j (by have := E2.out; omega)
          have y3 := (HY.out wr HB.out).1
          have HW1 := hid (rwhole_any wr r m (H.out.on HB.out) j hlt)
          have HLa := hid (H.out.pg j hlt).1
          have HLb := hid (H'.out.pg j (by have := E2.out; omega)).1
          have HSTEP : Hid (m.p j = m'.p j → ∀ k, k < j + 1 → m.p k = m'.p k) := hid (fun he k hk => by
            by_cases e : k = j
            · rw [e]; exact he
            · exact HT.out k (by omega))
          have HNJ : Hid (m.p j ≠ m'.p j → res = false) := hid (HN.out j)
          have HW2 : Hid (∀ x, Below w.heap.size w x → Calls Try.prog 61 #[ptr r'.g, .int .i64 (j : Int)] x fun y x' => ∃ g, y = .returned (.slice (some ⟨g, 0, none⟩) 1024 1024) ∧ NewL x x' g (m'.p j)) := hid (fun x hx => rwhole_any x r' m' (H'.out.on hx) j (by have := E2.out; omega))
          simp only [ptr] at HW1 HW2
          have pa := (H.out.on HB.out).pg j hlt
          have pb := (H'.out.on HB.out).pg j (by have := E2.out; omega)
          generalize m.p j = La at *
          generalize m'.p j = Lb at *
          have key : (r.v j = .slice none 0 0 ∧ r'.v j = .slice none 0 0 ∧ La = Lb) ∨ (∃ b cap, r.v j = .slice (some ⟨b, 0, none⟩) 1024 cap) ∨ (r.v j = .slice none 0 0 ∧ ∃ b cap, r'.v j = .slice (some ⟨b, 0, none⟩) 1024 cap) := by
            rcases pa.2 with ⟨a1, a2⟩ | ⟨b, cap, cur, a1, _, _⟩
            · rcases pb.2 with ⟨b1, b2⟩ | ⟨b, cap, cur, b1, _, _⟩
              · exact .inl ⟨a1, b1, a2.trans b2.symm⟩
              · exact .inr (.inr ⟨a1, b, cap, b1⟩)
            · exact .inr (.inl ⟨b, cap, a1⟩)
          clear pa pb
          rcases key with ⟨a1, b1, hab⟩ | key
          · rw [a1] at y1
            rw [b1] at y2
            have HS2 := hid (HSTEP.out hab)
            clear a1 b1 hab HW1 HW2 HNJ HSTEP HLa HLb
            go_wp2_with fail
            go_roundw
            case measure => simp [intOf] <;> omega
            case rel => exact ⟨j + 1, by omega, by go_num, HS2, HB⟩
          · have key2 : (∃ v1, v1 = r.v j ∧ ((∃ b cap, v1 = .slice (some ⟨b, 0, none⟩) 1024 cap) ∨ (v1 = .slice none 0 0 ∧ ∃ b cap, r'.v j = .slice (some ⟨b, 0, none⟩) 1024 cap))) := ⟨_, rfl, key⟩
            clear key2
            go_upto_region 6 with fail
            go_cut [59] from 40 to 59 (fun x w1 => w1 = wr ∧ x = .bool false)
            case first =>
              rcases key with ⟨b, cap, a1⟩ | ⟨a1, b, cap, b1⟩
              · rw [a1] at y1
                clear a1
                go_wp2_with fail
                go_meet
                exact ⟨rfl, rfl⟩
              · rw [a1] at y1
                rw [b1] at y2
                clear a1 b1
                go_wp2_with fail
                go_meet
                exact ⟨rfl, rfl⟩
            case rest =>
              obtain ⟨rfl, rfl⟩ := hcut
              clear key y1 y2 y3 y0
              go_wp2_with fail
              refine HW1.out.mono ?_
              rintro x w2 ⟨ga, rfl, hna⟩
              have HNA := hid hna
              have HB2 := hid (below_on HB.out hna.below)
              clear hna HW1
              go_wp2_with fail
              refine (HW2.out _ HB2.out).mono ?_
              rintro x w3 ⟨gb, rfl, hnb⟩
              have HCA := hid (HNA.out.cel.on hnb.below)
              have HCB := hid hnb.cel
              have HB3 := hid (below_on HB2.out hnb.below)
              clear hnb HW2 HNA HB2
              go_wp2_with fail
              go_loopw [8] (fun i wr => ∃ o : Nat, o ≤ 1024 ∧ i = .int .i64 (o : Int) ∧ Hid (∀ k, k < o → wd La k = wd Lb k) ∧ Hid (Below w3.heap.size w3 wr)) (fun i _ => 1024 - (intOf i).toNat)
              case atStart => exact ⟨0, Nat.zero_le _, rfl, hid (fun k hk => by omega), hid (Below.refl _ _)⟩
              case round =>
                obtain ⟨o, ho, rfl, HT2, HB4⟩ := hrel
                by_cases hlo : o < 1024
                · have d2 : (o : Int) < 1024 := by omega
                  have HZA : Hid (∀ x, Below wr.heap.size wr x → x.cell? ⟨ga, o, none⟩ = some (.int .u32 (wd La o))) := hid (fun x hx => wd_cell (HCA.out.on (below_on HB4.out hx)) HLa.out o hlo)
                  have HZB : Hid (∀ x, Below wr.heap.size wr x → x.cell? ⟨gb, o, none⟩ = some (.int .u32 (wd Lb o))) := hid (fun x hx => wd_cell (HCB.out.on (below_on HB4.out hx)) HLb.out o hlo)
                  have HE2 : Hid (wd La o = wd Lb o → ∀ k, k < o + 1 → wd La k = wd Lb k) := hid (fun he k hk => by
                    by_cases e : k = o
                    · rw [e]; exact he
                    · exact HT2.out k (by omega))
                  have HN2 : Hid (wd La o ≠ wd Lb o → res = false) := hid (fun he => HNJ.out (fun e => he (by rw [e])))
                  generalize wd La o = u1 at *
                  generalize wd Lb o = u2 at *
                  by_cases he : u1 = u2
                  · have HE3 := hid (HE2.out he)
                    subst he
                    clear HE2 HN2
                    go_wp2_with fail
                    refine wp_region_held_drew (S := fun x => Below wr.heap.size wr x) (by kernel_rfl) ((Below.refl _ _).drew) (fun hHeld => ?_)
                    refine wpAnyH_take (i := 0) (oi := { dst := some 70, op := Op.move (Operand.tmp 6), type := 24, pos := "ref.go:201", after := #[], guard := none }) (v := .slice (some ⟨ga, 0, none⟩) 1024 1024) rfl (by kernel_rfl) (by kernel_rfl) (by kernel_rfl) (fun _ _ _ h => h) (Or.inl ⟨by rfl, by intro w hSw; go_simp⟩) (by assumption) ?_
                    simp only [Act.put, List.setIfInBounds_toArray, List.set_cons_zero, List.set_cons_succ]
                    refine wpAnyH_take (i := 1) (oi := { dst := some 71, op := Op.move (Operand.tmp 8), type := 3, pos := "ref.go:201", after := #[], guard := none }) (v := .int .i64 (o : Int)) rfl (by kernel_rfl) (by kernel_rfl) (by kernel_rfl) (fun _ _ _ h => h) (Or.inl ⟨by rfl, by intro w hSw; go_simp⟩) (by assumption) ?_
                    simp only [Act.put, List.setIfInBounds_toArray, List.set_cons_zero, List.set_cons_succ]
                    refine wpAnyH_take (i := 2) (oi := { dst := some 72, op := Op.indexAddr 24 (Operand.tmp 70) (Operand.tmp 71), type := 0, pos := "ref.go:201", after := #[{ on := 0, ground := Ground.data }, { on := 1, ground := Ground.data }], guard := none }) (v := .pointer (some ⟨ga, o, none⟩)) rfl (by kernel_rfl) (by kernel_rfl) (by kernel_rfl) (fun _ _ _ h => h) (Or.inl ⟨by rfl, by intro w hSw; go_simp⟩) (by assumption) ?_
                    simp only [Act.put, List.setIfInBounds_toArray, List.set_cons_zero, List.set_cons_succ]
                    refine wpAnyH_take (i := 3) (oi := { dst := some 73, op := Op.load 32 (Operand.tmp 72), type := 32, pos := "ref.go:201", after := #[{ on := 2, ground := Ground.data }], guard := none }) (v := .int .u32 u1) rfl (by kernel_rfl) (by kernel_rfl) (by kernel_rfl) (fun _ _ _ h => h) (Or.inl ⟨by rfl, by intro w hSw; have hcc := HZA.out w hSw; go_simp⟩) (by assumption) ?_
                    simp only [Act.put, List.setIfInBounds_toArray, List.set_cons_zero, List.set_cons_succ]
                    refine wpAnyH_take (i := 4) (oi := { dst := some 74, op := Op.move (Operand.tmp 7), type := 24, pos := "ref.go:201", after := #[], guard := none }) (v := .slice (some ⟨gb, 0, none⟩) 1024 1024) rfl (by kernel_rfl) (by kernel_rfl) (by kernel_rfl) (fun _ _ _ h => h) (Or.inl ⟨by rfl, by intro w hSw; go_simp⟩) (by assumption) ?_
                    simp only [Act.put, List.setIfInBounds_toArray, List.set_cons_zero, List.set_cons_succ]
                    refine wpAnyH_take (i := 5) (oi := { dst := some 75, op := Op.move (Operand.tmp 8), type := 3, pos := "ref.go:201", after := #[], guard := none }) (v := .int .i64 (o : Int)) rfl (by kernel_rfl) (by kernel_rfl) (by kernel_rfl) (fun _ _ _ h => h) (Or.inl ⟨by rfl, by intro w hSw; go_simp⟩) (by assumption) ?_
                    simp only [Act.put, List.setIfInBounds_toArray, List.set_cons_zero, List.set_cons_succ]
                    refine wpAnyH_take (i := 6) (oi := { dst := some 76, op := Op.indexAddr 24 (Operand.tmp 74) (Operand.tmp 75), type := 0, pos := "ref.go:201", after := #[{ on := 4, ground := Ground.data }, { on := 5, ground := Ground.data }], guard := none }) (v := .pointer (some ⟨gb, o, none⟩)) rfl (by kernel_rfl) (by kernel_rfl) (by kernel_rfl) (fun _ _ _ h => h) (Or.inl ⟨by rfl, by intro w hSw; go_simp⟩) (by assumption) ?_
                    simp only [Act.put, List.setIfInBounds_toArray, List.set_cons_zero, List.set_cons_succ]
                    refine wpAnyH_take (i := 7) (oi := { dst := some 77, op := Op.load 32 (Operand.tmp 76), type := 32, pos := "ref.go:201", after := #[{ on := 6, ground := Ground.data }], guard := none }) (v := .int .u32 u1) rfl (by kernel_rfl) (by kernel_rfl) (by kernel_rfl) (fun _ _ _ h => h) (Or.inl ⟨by rfl, by intro w hSw; have hcc := HZB.out w hSw; go_simp⟩) (by assumption) ?_
                    simp only [Act.put, List.setIfInBounds_toArray, List.set_cons_zero, List.set_cons_succ]
                    refine wpAnyH_take (i := 8) (oi := { dst := some 78, op := Op.binOp BinOp.neq 32 (Operand.tmp 73) (Operand.tmp 77) 32, type := 4, pos := "ref.go:201", after := #[{ on := 3, ground := Ground.data }, { on := 7, ground := Ground.data }], guard := none }) (v := .bool false) rfl (by kernel_rfl) (by kernel_rfl) (by kernel_rfl) (fun _ _ _ h => h) (Or.inl ⟨by rfl, by intro w hSw; go_simp⟩) (by assumption) ?_
                    simp only [Act.put, List.setIfInBounds_toArray, List.set_cons_zero, List.set_cons_succ]
                    refine wpAnyH_done (by kernel_rfl) ?_ _
                    clear hHeld
                    have HB5 : Hid (Below w3.heap.size w3 wr.drew) := hid (below_on HB4.out (Below.refl _ _).drew)
                    clear HZA HZB
                    generalize wr.drew = w6 at *
                    go_wp2_with fail
                    go_roundw
                    case measure => simp [intOf] <;> omega
                    case rel => exact ⟨o + 1, by omega, by go_num, HE3, HB5⟩
                  · have HN3 := hid (HN2.out he)
                    clear HE2 HN2
                    go_wp2_with fail
                    refine wp_region_held_drew (S := fun x => Below wr.heap.size wr x) (by kernel_rfl) ((Below.refl _ _).drew) (fun hHeld => ?_)
                    refine wpAnyH_take (i := 0) (oi := { dst := some 70, op := Op.move (Operand.tmp 6), type := 24, pos := "ref.go:201", after := #[], guard := none }) (v := .slice (some ⟨ga, 0, none⟩) 1024 1024) rfl (by kernel_rfl) (by kernel_rfl) (by kernel_rfl) (fun _ _ _ h => h) (Or.inl ⟨by rfl, by intro w hSw; go_simp⟩) (by assumption) ?_
                    simp only [Act.put, List.setIfInBounds_toArray, List.set_cons_zero, List.set_cons_succ]
                    refine wpAnyH_take (i := 1) (oi := { dst := some 71, op := Op.move (Operand.tmp 8), type := 3, pos := "ref.go:201", after := #[], guard := none }) (v := .int .i64 (o : Int)) rfl (by kernel_rfl) (by kernel_rfl) (by kernel_rfl) (fun _ _ _ h => h) (Or.inl ⟨by rfl, by intro w hSw; go_simp⟩) (by assumption) ?_
                    simp only [Act.put, List.setIfInBounds_toArray, List.set_cons_zero, List.set_cons_succ]
                    refine wpAnyH_take (i := 2) (oi := { dst := some 72, op := Op.indexAddr 24 (Operand.tmp 70) (Operand.tmp 71), type := 0, pos := "ref.go:201", after := #[{ on := 0, ground := Ground.data }, { on := 1, ground := Ground.data }], guard := none }) (v := .pointer (some ⟨ga, o, none⟩)) rfl (by kernel_rfl) (by kernel_rfl) (by kernel_rfl) (fun _ _ _ h => h) (Or.inl ⟨by rfl, by intro w hSw; go_simp⟩) (by assumption) ?_
                    simp only [Act.put, List.setIfInBounds_toArray, List.set_cons_zero, List.set_cons_succ]
                    refine wpAnyH_take (i := 3) (oi := { dst := some 73, op := Op.load 32 (Operand.tmp 72), type := 32, pos := "ref.go:201", after := #[{ on := 2, ground := Ground.data }], guard := none }) (v := .int .u32 u1) rfl (by kernel_rfl) (by kernel_rfl) (by kernel_rfl) (fun _ _ _ h => h) (Or.inl ⟨by rfl, by intro w hSw; have hcc := HZA.out w hSw; go_simp⟩) (by assumption) ?_
                    simp only [Act.put, List.setIfInBounds_toArray, List.set_cons_zero, List.set_cons_succ]
                    refine wpAnyH_take (i := 4) (oi := { dst := some 74, op := Op.move (Operand.tmp 7), type := 24, pos := "ref.go:201", after := #[], guard := none }) (v := .slice (some ⟨gb, 0, none⟩) 1024 1024) rfl (by kernel_rfl) (by kernel_rfl) (by kernel_rfl) (fun _ _ _ h => h) (Or.inl ⟨by rfl, by intro w hSw; go_simp⟩) (by assumption) ?_
                    simp only [Act.put, List.setIfInBounds_toArray, List.set_cons_zero, List.set_cons_succ]
                    refine wpAnyH_take (i := 5) (oi := { dst := some 75, op := Op.move (Operand.tmp 8), type := 3, pos := "ref.go:201", after := #[], guard := none }) (v := .int .i64 (o : Int)) rfl (by kernel_rfl) (by kernel_rfl) (by kernel_rfl) (fun _ _ _ h => h) (Or.inl ⟨by rfl, by intro w hSw; go_simp⟩) (by assumption) ?_
                    simp only [Act.put, List.setIfInBounds_toArray, List.set_cons_zero, List.set_cons_succ]
                    refine wpAnyH_take (i := 6) (oi := { dst := some 76, op := Op.indexAddr 24 (Operand.tmp 74) (Operand.tmp 75), type := 0, pos := "ref.go:201", after := #[{ on := 4, ground := Ground.data }, { on := 5, ground := Ground.data }], guard := none }) (v := .pointer (some ⟨gb, o, none⟩)) rfl (by kernel_rfl) (by kernel_rfl) (by kernel_rfl) (fun _ _ _ h => h) (Or.inl ⟨by rfl, by intro w hSw; go_simp⟩) (by assumption) ?_
                    simp only [Act.put, List.setIfInBounds_toArray, List.set_cons_zero, List.set_cons_succ]
                    refine wpAnyH_take (i := 7) (oi := { dst := some 77, op := Op.load 32 (Operand.tmp 76), type := 32, pos := "ref.go:201", after := #[{ on := 6, ground := Ground.data }], guard := none }) (v := .int .u32 u2) rfl (by kernel_rfl) (by kernel_rfl) (by kernel_rfl) (fun _ _ _ h => h) (Or.inl ⟨by rfl, by intro w hSw; have hcc := HZB.out w hSw; go_simp⟩) (by assumption) ?_
                    simp only [Act.put, List.setIfInBounds_toArray, List.set_cons_zero, List.set_cons_succ]
                    refine wpAnyH_take (i := 8) (oi := { dst := some 78, op := Op.binOp BinOp.neq 32 (Operand.tmp 73) (Operand.tmp 77) 32, type := 4, pos := "ref.go:201", after := #[{ on := 3, ground := Ground.data }, { on := 7, ground := Ground.data }], guard := none }) (v := .bool true) rfl (by kernel_rfl) (by kernel_rfl) (by kernel_rfl) (fun _ _ _ h => h) (Or.inl ⟨by rfl, by intro w hSw; go_simp⟩) (by assumption) ?_
                    simp only [Act.put, List.setIfInBounds_toArray, List.set_cons_zero, List.set_cons_succ]
                    refine wpAnyH_done (by kernel_rfl) ?_ _
                    clear hHeld
                    have HB5 : Hid (Below w3.heap.size w3 wr.drew) := hid (below_on HB4.out (Below.refl _ _).drew)
                    clear HZA HZB
                    generalize wr.drew = w6 at *
                    go_wp2_with fail
                    go_ret
                    exact ⟨ret_bool HN3.out.symm, below_on HB3.out HB5.out⟩
                · obtain rfl : o = 1024 := by omega
                  have HAB : La = Lb := by
                    have a1 := HLa.out
                    have a2 := HLb.out
                    exact list_ext_wd (a1.trans a2.symm) (fun k hk => HT2.out k (by omega))
                  have HS2 := hid (HSTEP.out HAB)
                  clear HT2
                  have HB5 := hid (below_on HB3.out HB4.out)
                  go_wp2_with fail
                  go_roundw
                  case measure => simp [intOf] <;> omega
                  case rel => exact ⟨j + 1, by omega, by go_num, HS2, HB5⟩
        · obtain rfl : j = m.P.length := by omega
          have HR := HE.out HT.out
          subst HR
          go_wp2_with fail
          go_ret
          exact ⟨rfl, HB.out⟩
    · have HD : Hid (decide (m.ns = m'.ns ∧ m.P = m'.P) = false) := hid (by rw [decide_eq_false_iff_not]; rintro ⟨_, e⟩; exact e2 (by rw [e]))
      rw [HD.out]
      have z1 : (m.ns : Int) = (m'.ns : Int) := by omega
      have z2 : ((m.P.length : Int) = (m'.P.length : Int)) = False := by simp; omega
      go_enter Try.func47, Try.ntmps47
      go_wp2_with fail
      refine wp_region_held_drew (S := fun x => Below w.heap.size w x) (by kernel_rfl) ((Below.refl _ _).drew) (fun hHeld => ?_)
      refine wpAnyH_take (i := 0) (oi := { dst := some 9, op := Op.move (Operand.tmp 0), type := 64, pos := "ref.go:191", after := #[], guard := none }) (v := .pointer (some ⟨r.g, 0, none⟩)) rfl (by kernel_rfl) (by kernel_rfl) (by kernel_rfl) (fun _ _ _ h => h) (Or.inl ⟨by rfl, by intro w hSw; go_simp⟩) (by assumption) ?_
      simp only [Act.put, List.setIfInBounds_toArray, List.set_cons_zero, List.set_cons_succ]
      refine wpAnyH_take (i := 1) (oi := { dst := some 10, op := Op.nilCheck (Operand.tmp 9), type := 0, pos := "ref.go:191", after := #[{ on := 0, ground := Ground.data }], guard := none }) (v := .pointer (some ⟨r.g, 0, none⟩)) rfl (by kernel_rfl) (by kernel_rfl) (by kernel_rfl) (fun _ _ _ h => h) (Or.inl ⟨by rfl, by intro w hSw; go_simp⟩) (by assumption) ?_
      simp only [Act.put, List.setIfInBounds_toArray, List.set_cons_zero, List.set_cons_succ]
      refine wpAnyH_take (i := 2) (oi := { dst := some 11, op := Op.fieldAddr 105 (Operand.tmp 10) 1, type := 0, pos := "ref.go:191", after := #[{ on := 1, ground := Ground.data }], guard := none }) (v := .pointer (some ⟨r.g, 1, none⟩)) rfl (by kernel_rfl) (by kernel_rfl) (by kernel_rfl) (fun _ _ _ h => h) (Or.inl ⟨by rfl, by intro w hSw; go_simp⟩) (by assumption) ?_
      simp only [Act.put, List.setIfInBounds_toArray, List.set_cons_zero, List.set_cons_succ]
      refine wpAnyH_take (i := 3) (oi := { dst := some 12, op := Op.load 3 (Operand.tmp 11), type := 3, pos := "ref.go:191", after := #[{ on := 2, ground := Ground.data }], guard := none }) (v := .int .i64 (m.ns : Int)) rfl (by kernel_rfl) (by kernel_rfl) (by kernel_rfl) (fun _ _ _ h => h) (Or.inl ⟨by rfl, by intro w hSw; have hcc := (HX.out w hSw).2; go_simp⟩) (by assumption) ?_
      simp only [Act.put, List.setIfInBounds_toArray, List.set_cons_zero, List.set_cons_succ]
      refine wpAnyH_take (i := 4) (oi := { dst := some 13, op := Op.move (Operand.tmp 1), type := 64, pos := "ref.go:191", after := #[], guard := none }) (v := .pointer (some ⟨r'.g, 0, none⟩)) rfl (by kernel_rfl) (by kernel_rfl) (by kernel_rfl) (fun _ _ _ h => h) (Or.inl ⟨by rfl, by intro w hSw; go_simp⟩) (by assumption) ?_
      simp only [Act.put, List.setIfInBounds_toArray, List.set_cons_zero, List.set_cons_succ]
      refine wpAnyH_take (i := 5) (oi := { dst := some 14, op := Op.nilCheck (Operand.tmp 13), type := 0, pos := "ref.go:191", after := #[{ on := 4, ground := Ground.data }], guard := none }) (v := .pointer (some ⟨r'.g, 0, none⟩)) rfl (by kernel_rfl) (by kernel_rfl) (by kernel_rfl) (fun _ _ _ h => h) (Or.inl ⟨by rfl, by intro w hSw; go_simp⟩) (by assumption) ?_
      simp only [Act.put, List.setIfInBounds_toArray, List.set_cons_zero, List.set_cons_succ]
      refine wpAnyH_take (i := 6) (oi := { dst := some 15, op := Op.fieldAddr 105 (Operand.tmp 14) 1, type := 0, pos := "ref.go:191", after := #[{ on := 5, ground := Ground.data }], guard := none }) (v := .pointer (some ⟨r'.g, 1, none⟩)) rfl (by kernel_rfl) (by kernel_rfl) (by kernel_rfl) (fun _ _ _ h => h) (Or.inl ⟨by rfl, by intro w hSw; go_simp⟩) (by assumption) ?_
      simp only [Act.put, List.setIfInBounds_toArray, List.set_cons_zero, List.set_cons_succ]
      refine wpAnyH_take (i := 7) (oi := { dst := some 16, op := Op.load 3 (Operand.tmp 15), type := 3, pos := "ref.go:191", after := #[{ on := 6, ground := Ground.data }], guard := none }) (v := (.int .i64 (m'.ns : Int))) rfl (by kernel_rfl) (by kernel_rfl) (by kernel_rfl) (fun _ _ _ h => h) (Or.inl ⟨by rfl, by intro w hSw; have hcc := (HY.out w hSw).2; go_simp⟩) (by assumption) ?_
      simp only [Act.put, List.setIfInBounds_toArray, List.set_cons_zero, List.set_cons_succ]
      refine wpAnyH_take (i := 8) (oi := { dst := some 17, op := Op.binOp BinOp.neq 3 (Operand.tmp 12) (Operand.tmp 16) 3, type := 4, pos := "ref.go:191", after := #[{ on := 3, ground := Ground.data }, { on := 7, ground := Ground.data }], guard := none }) (v := .bool false) rfl (by kernel_rfl) (by kernel_rfl) (by kernel_rfl) (fun _ _ _ h => h) (Or.inl ⟨by rfl, by intro w hSw; go_simp⟩) (by assumption) ?_
      simp only [Act.put, List.setIfInBounds_toArray, List.set_cons_zero, List.set_cons_succ]
      refine wpAnyH_take (i := 9) (oi := { dst := some 18, op := Op.move (Operand.tmp 17), type := 4, pos := "ref.go:191", after := #[{ on := 8, ground := Ground.data }], guard := none }) (v := .bool false) rfl (by kernel_rfl) (by kernel_rfl) (by kernel_rfl) (fun _ _ _ h => h) (Or.inl ⟨by rfl, by intro w hSw; go_simp⟩) (by assumption) ?_
      simp only [Act.put, List.setIfInBounds_toArray, List.set_cons_zero, List.set_cons_succ]
      refine wpAnyH_take (i := 10) (oi := { dst := some 19, op := Op.move (Operand.tmp 0), type := 64, pos := "ref.go:191", after := #[{ on := 9, ground := Ground.guard }], guard := some (9, false) }) (v := .pointer (some ⟨r.g, 0, none⟩)) rfl (by kernel_rfl) (by kernel_rfl) (by kernel_rfl) (fun _ _ _ h => h) (Or.inl ⟨by rfl, by intro w hSw; go_simp⟩) (by assumption) ?_
      simp only [Act.put, List.setIfInBounds_toArray, List.set_cons_zero, List.set_cons_succ]
      refine wpAnyH_take (i := 11) (oi := { dst := some 20, op := Op.nilCheck (Operand.tmp 19), type := 0, pos := "ref.go:191", after := #[{ on := 10, ground := Ground.data }, { on := 9, ground := Ground.guard }], guard := some (9, false) }) (v := .pointer (some ⟨r.g, 0, none⟩)) rfl (by kernel_rfl) (by kernel_rfl) (by kernel_rfl) (fun _ _ _ h => h) (Or.inl ⟨by rfl, by intro w hSw; go_simp⟩) (by assumption) ?_
      simp only [Act.put, List.setIfInBounds_toArray, List.set_cons_zero, List.set_cons_succ]
      refine wpAnyH_take (i := 12) (oi := { dst := some 21, op := Op.fieldAddr 105 (Operand.tmp 20) 0, type := 0, pos := "ref.go:191", after := #[{ on := 11, ground := Ground.data }, { on := 9, ground := Ground.guard }], guard := some (9, false) }) (v := .pointer (some ⟨r.g, 0, none⟩)) rfl (by kernel_rfl) (by kernel_rfl) (by kernel_rfl) (fun _ _ _ h => h) (Or.inl ⟨by rfl, by intro w hSw; go_simp⟩) (by assumption) ?_
      simp only [Act.put, List.setIfInBounds_toArray, List.set_cons_zero, List.set_cons_succ]
      refine wpAnyH_take (i := 13) (oi := { dst := some 22, op := Op.load 66 (Operand.tmp 21), type := 66, pos := "ref.go:191", after := #[{ on := 12, ground := Ground.data }, { on := 9, ground := Ground.guard }], guard := some (9, false) }) (v := .slice (some ⟨r.gp, 0, none⟩) m.P.length r.cap) rfl (by kernel_rfl) (by kernel_rfl) (by kernel_rfl) (fun _ _ _ h => h) (Or.inl ⟨by rfl, by intro w hSw; have hcc := (HX.out w hSw).1; go_simp⟩) (by assumption) ?_
      simp only [Act.put, List.setIfInBounds_toArray, List.set_cons_zero, List.set_cons_succ]
      refine wpAnyH_take (i := 14) (oi := { dst := some 23, op := Op.call { callee := Callee.builtin Builtin.len, args := #[Operand.tmp 22], argTypes := #[66] }, type := 3, pos := "ref.go:191", after := #[{ on := 13, ground := Ground.data }, { on := 9, ground := Ground.guard }], guard := some (9, false) }) (v := .int .i64 (m.P.length : Int)) rfl (by kernel_rfl) (by kernel_rfl) (by kernel_rfl) (fun _ _ _ h => h) (Or.inl ⟨by rfl, by intro w hSw; go_simp⟩) (by assumption) ?_
      simp only [Act.put, List.setIfInBounds_toArray, List.set_cons_zero, List.set_cons_succ]
      refine wpAnyH_take (i := 15) (oi := { dst := some 24, op := Op.move (Operand.tmp 1), type := 64, pos := "ref.go:191", after := #[{ on := 9, ground := Ground.guard }], guard := some (9, false) }) (v := .pointer (some ⟨r'.g, 0, none⟩)) rfl (by kernel_rfl) (by kernel_rfl) (by kernel_rfl) (fun _ _ _ h => h) (Or.inl ⟨by rfl, by intro w hSw; go_simp⟩) (by assumption) ?_
      simp only [Act.put, List.setIfInBounds_toArray, List.set_cons_zero, List.set_cons_succ]
      refine wpAnyH_take (i := 16) (oi := { dst := some 25, op := Op.nilCheck (Operand.tmp 24), type := 0, pos := "ref.go:191", after := #[{ on := 15, ground := Ground.data }, { on := 9, ground := Ground.guard }], guard := some (9, false) }) (v := .pointer (some ⟨r'.g, 0, none⟩)) rfl (by kernel_rfl) (by kernel_rfl) (by kernel_rfl) (fun _ _ _ h => h) (Or.inl ⟨by rfl, by intro w hSw; go_simp⟩) (by assumption) ?_
      simp only [Act.put, List.setIfInBounds_toArray, List.set_cons_zero, List.set_cons_succ]
      refine wpAnyH_take (i := 17) (oi := { dst := some 26, op := Op.fieldAddr 105 (Operand.tmp 25) 0, type := 0, pos := "ref.go:191", after := #[{ on := 16, ground := Ground.data }, { on := 9, ground := Ground.guard }], guard := some (9, false) }) (v := .pointer (some ⟨r'.g, 0, none⟩)) rfl (by kernel_rfl) (by kernel_rfl) (by kernel_rfl) (fun _ _ _ h => h) (Or.inl ⟨by rfl, by intro w hSw; go_simp⟩) (by assumption) ?_
      simp only [Act.put, List.setIfInBounds_toArray, List.set_cons_zero, List.set_cons_succ]
      refine wpAnyH_take (i := 18) (oi := { dst := some 27, op := Op.load 66 (Operand.tmp 26), type := 66, pos := "ref.go:191", after := #[{ on := 17, ground := Ground.data }, { on := 9, ground := Ground.guard }], guard := some (9, false) }) (v := (.slice (some ⟨r'.gp, 0, none⟩) m'.P.length r'.cap)) rfl (by kernel_rfl) (by kernel_rfl) (by kernel_rfl) (fun _ _ _ h => h) (Or.inl ⟨by rfl, by intro w hSw; have hcc := (HY.out w hSw).1; go_simp⟩) (by assumption) ?_
      simp only [Act.put, List.setIfInBounds_toArray, List.set_cons_zero, List.set_cons_succ]
      refine wpAnyH_take (i := 19) (oi := { dst := some 28, op := Op.call { callee := Callee.builtin Builtin.len, args := #[Operand.tmp 27], argTypes := #[66] }, type := 3, pos := "ref.go:191", after := #[{ on := 18, ground := Ground.data }, { on := 9, ground := Ground.guard }], guard := some (9, false) }) (v := (.int .i64 (m'.P.length : Int))) rfl (by kernel_rfl) (by kernel_rfl) (by kernel_rfl) (fun _ _ _ h => h) (Or.inl ⟨by rfl, by intro w hSw; go_simp⟩) (by assumption) ?_
      simp only [Act.put, List.setIfInBounds_toArray, List.set_cons_zero, List.set_cons_succ]
      refine wpAnyH_take (i := 20) (oi := { dst := some 29, op := Op.binOp BinOp.neq 3 (Operand.tmp 23) (Operand.tmp 28) 3, type := 4, pos := "ref.go:191", after := #[{ on := 14, ground := Ground.data }, { on := 19, ground := Ground.data }, { on := 9, ground := Ground.guard }], guard := some (9, false) }) (v := .bool true) rfl (by kernel_rfl) (by kernel_rfl) (by kernel_rfl) (fun _ _ _ h => h) (Or.inl ⟨by rfl, by intro w hSw; go_simp⟩) (by assumption) ?_
      simp only [Act.put, List.setIfInBounds_toArray, List.set_cons_zero, List.set_cons_succ]
      refine wpAnyH_take (i := 21) (oi := { dst := some 30, op := Op.pick (Operand.tmp 18) (Operand.const (Value.bool true)) (Operand.tmp 29), type := 4, pos := "ref.go:191", after := #[{ on := 9, ground := Ground.data }, { on := 20, ground := Ground.data }], guard := none }) (v := .bool true) rfl (by kernel_rfl) (by kernel_rfl) (by kernel_rfl) (fun _ _ _ h => h) (Or.inl ⟨by rfl, by intro w hSw; go_simp⟩) (by assumption) ?_
      simp only [Act.put, List.setIfInBounds_toArray, List.set_cons_zero, List.set_cons_succ]
      refine wpAnyH_done (by kernel_rfl) ?_ _
      clear hHeld
      go_wp2_with fail
      go_ret
      exact ⟨rfl, (Below.refl _ _).drew⟩
  · have HD : Hid (decide (m.ns = m'.ns ∧ m.P = m'.P) = false) := hid (by rw [decide_eq_false_iff_not]; rintro ⟨e, _⟩; exact e1 e)
    rw [HD.out]
    have z1 : ((m.ns : Int) = (m'.ns : Int)) = False := by simp; omega
    go_enter Try.func47, Try.ntmps47
    go_wp2_with fail
    refine wp_region_held_drew (S := fun x => Below w.heap.size w x) (by kernel_rfl) ((Below.refl _ _).drew) (fun hHeld => ?_)
    refine wpAnyH_take (i := 0) (oi := { dst := some 9, op := Op.move (Operand.tmp 0), type := 64, pos := "ref.go:191", after := #[], guard := none }) (v := .pointer (some ⟨r.g, 0, none⟩)) rfl (by kernel_rfl) (by kernel_rfl) (by kernel_rfl) (fun _ _ _ h => h) (Or.inl ⟨by rfl, by intro w hSw; go_simp⟩) (by assumption) ?_
    simp only [Act.put, List.setIfInBounds_toArray, List.set_cons_zero, List.set_cons_succ]
    refine wpAnyH_take (i := 1) (oi := { dst := some 10, op := Op.nilCheck (Operand.tmp 9), type := 0, pos := "ref.go:191", after := #[{ on := 0, ground := Ground.data }], guard := none }) (v := .pointer (some ⟨r.g, 0, none⟩)) rfl (by kernel_rfl) (by kernel_rfl) (by kernel_rfl) (fun _ _ _ h => h) (Or.inl ⟨by rfl, by intro w hSw; go_simp⟩) (by assumption) ?_
    simp only [Act.put, List.setIfInBounds_toArray, List.set_cons_zero, List.set_cons_succ]
    refine wpAnyH_take (i := 2) (oi := { dst := some 11, op := Op.fieldAddr 105 (Operand.tmp 10) 1, type := 0, pos := "ref.go:191", after := #[{ on := 1, ground := Ground.data }], guard := none }) (v := .pointer (some ⟨r.g, 1, none⟩)) rfl (by kernel_rfl) (by kernel_rfl) (by kernel_rfl) (fun _ _ _ h => h) (Or.inl ⟨by rfl, by intro w hSw; go_simp⟩) (by assumption) ?_
    simp only [Act.put, List.setIfInBounds_toArray, List.set_cons_zero, List.set_cons_succ]
    refine wpAnyH_take (i := 3) (oi := { dst := some 12, op := Op.load 3 (Operand.tmp 11), type := 3, pos := "ref.go:191", after := #[{ on := 2, ground := Ground.data }], guard := none }) (v := .int .i64 (m.ns : Int)) rfl (by kernel_rfl) (by kernel_rfl) (by kernel_rfl) (fun _ _ _ h => h) (Or.inl ⟨by rfl, by intro w hSw; have hcc := (HX.out w hSw).2; go_simp⟩) (by assumption) ?_
    simp only [Act.put, List.setIfInBounds_toArray, List.set_cons_zero, List.set_cons_succ]
    refine wpAnyH_take (i := 4) (oi := { dst := some 13, op := Op.move (Operand.tmp 1), type := 64, pos := "ref.go:191", after := #[], guard := none }) (v := .pointer (some ⟨r'.g, 0, none⟩)) rfl (by kernel_rfl) (by kernel_rfl) (by kernel_rfl) (fun _ _ _ h => h) (Or.inl ⟨by rfl, by intro w hSw; go_simp⟩) (by assumption) ?_
    simp only [Act.put, List.setIfInBounds_toArray, List.set_cons_zero, List.set_cons_succ]
    refine wpAnyH_take (i := 5) (oi := { dst := some 14, op := Op.nilCheck (Operand.tmp 13), type := 0, pos := "ref.go:191", after := #[{ on := 4, ground := Ground.data }], guard := none }) (v := .pointer (some ⟨r'.g, 0, none⟩)) rfl (by kernel_rfl) (by kernel_rfl) (by kernel_rfl) (fun _ _ _ h => h) (Or.inl ⟨by rfl, by intro w hSw; go_simp⟩) (by assumption) ?_
    simp only [Act.put, List.setIfInBounds_toArray, List.set_cons_zero, List.set_cons_succ]
    refine wpAnyH_take (i := 6) (oi := { dst := some 15, op := Op.fieldAddr 105 (Operand.tmp 14) 1, type := 0, pos := "ref.go:191", after := #[{ on := 5, ground := Ground.data }], guard := none }) (v := .pointer (some ⟨r'.g, 1, none⟩)) rfl (by kernel_rfl) (by kernel_rfl) (by kernel_rfl) (fun _ _ _ h => h) (Or.inl ⟨by rfl, by intro w hSw; go_simp⟩) (by assumption) ?_
    simp only [Act.put, List.setIfInBounds_toArray, List.set_cons_zero, List.set_cons_succ]
    refine wpAnyH_take (i := 7) (oi := { dst := some 16, op := Op.load 3 (Operand.tmp 15), type := 3, pos := "ref.go:191", after := #[{ on := 6, ground := Ground.data }], guard := none }) (v := (.int .i64 (m'.ns : Int))) rfl (by kernel_rfl) (by kernel_rfl) (by kernel_rfl) (fun _ _ _ h => h) (Or.inl ⟨by rfl, by intro w hSw; have hcc := (HY.out w hSw).2; go_simp⟩) (by assumption) ?_
    simp only [Act.put, List.setIfInBounds_toArray, List.set_cons_zero, List.set_cons_succ]
    refine wpAnyH_take (i := 8) (oi := { dst := some 17, op := Op.binOp BinOp.neq 3 (Operand.tmp 12) (Operand.tmp 16) 3, type := 4, pos := "ref.go:191", after := #[{ on := 3, ground := Ground.data }, { on := 7, ground := Ground.data }], guard := none }) (v := .bool true) rfl (by kernel_rfl) (by kernel_rfl) (by kernel_rfl) (fun _ _ _ h => h) (Or.inl ⟨by rfl, by intro w hSw; go_simp⟩) (by assumption) ?_
    simp only [Act.put, List.setIfInBounds_toArray, List.set_cons_zero, List.set_cons_succ]
    refine wpAnyH_take (i := 9) (oi := { dst := some 18, op := Op.move (Operand.tmp 17), type := 4, pos := "ref.go:191", after := #[{ on := 8, ground := Ground.data }], guard := none }) (v := .bool true) rfl (by kernel_rfl) (by kernel_rfl) (by kernel_rfl) (fun _ _ _ h => h) (Or.inl ⟨by rfl, by intro w hSw; go_simp⟩) (by assumption) ?_
    simp only [Act.put, List.setIfInBounds_toArray, List.set_cons_zero, List.set_cons_succ]
    refine wpAnyH_take (i := 10) (oi := { dst := some 19, op := Op.move (Operand.tmp 0), type := 64, pos := "ref.go:191", after := #[{ on := 9, ground := Ground.guard }], guard := some (9, false) }) (v := undef) rfl (by kernel_rfl) (by kernel_rfl) (by kernel_rfl) (fun _ _ _ h => h) (Or.inr ⟨by rfl, rfl⟩) (by assumption) ?_
    simp only [Act.put, List.setIfInBounds_toArray, List.set_cons_zero, List.set_cons_succ]
    refine wpAnyH_take (i := 11) (oi := { dst := some 20, op := Op.nilCheck (Operand.tmp 19), type := 0, pos := "ref.go:191", after := #[{ on := 10, ground := Ground.data }, { on := 9, ground := Ground.guard }], guard := some (9, false) }) (v := undef) rfl (by kernel_rfl) (by kernel_rfl) (by kernel_rfl) (fun _ _ _ h => h) (Or.inr ⟨by rfl, rfl⟩) (by assumption) ?_
    simp only [Act.put, List.setIfInBounds_toArray, List.set_cons_zero, List.set_cons_succ]
    refine wpAnyH_take (i := 12) (oi := { dst := some 21, op := Op.fieldAddr 105 (Operand.tmp 20) 0, type := 0, pos := "ref.go:191", after := #[{ on := 11, ground := Ground.data }, { on := 9, ground := Ground.guard }], guard := some (9, false) }) (v := undef) rfl (by kernel_rfl) (by kernel_rfl) (by kernel_rfl) (fun _ _ _ h => h) (Or.inr ⟨by rfl, rfl⟩) (by assumption) ?_
    simp only [Act.put, List.setIfInBounds_toArray, List.set_cons_zero, List.set_cons_succ]
    refine wpAnyH_take (i := 13) (oi := { dst := some 22, op := Op.load 66 (Operand.tmp 21), type := 66, pos := "ref.go:191", after := #[{ on := 12, ground := Ground.data }, { on := 9, ground := Ground.guard }], guard := some (9, false) }) (v := undef) rfl (by kernel_rfl) (by kernel_rfl) (by kernel_rfl) (fun _ _ _ h => h) (Or.inr ⟨by rfl, rfl⟩) (by assumption) ?_
    simp only [Act.put, List.setIfInBounds_toArray, List.set_cons_zero, List.set_cons_succ]
    refine wpAnyH_take (i := 14) (oi := { dst := some 23, op := Op.call { callee := Callee.builtin Builtin.len, args := #[Operand.tmp 22], argTypes := #[66] }, type := 3, pos := "ref.go:191", after := #[{ on := 13, ground := Ground.data }, { on := 9, ground := Ground.guard }], guard := some (9, false) }) (v := undef) rfl (by kernel_rfl) (by kernel_rfl) (by kernel_rfl) (fun _ _ _ h => h) (Or.inr ⟨by rfl, rfl⟩) (by assumption) ?_
    simp only [Act.put, List.setIfInBounds_toArray, List.set_cons_zero, List.set_cons_succ]
    refine wpAnyH_take (i := 15) (oi := { dst := some 24, op := Op.move (Operand.tmp 1), type := 64, pos := "ref.go:191", after := #[{ on := 9, ground := Ground.guard }], guard := some (9, false) }) (v := undef) rfl (by kernel_rfl) (by kernel_rfl) (by kernel_rfl) (fun _ _ _ h => h) (Or.inr ⟨by rfl, rfl⟩) (by assumption) ?_
    simp only [Act.put, List.setIfInBounds_toArray, List.set_cons_zero, List.set_cons_succ]
    refine wpAnyH_take (i := 16) (oi := { dst := some 25, op := Op.nilCheck (Operand.tmp 24), type := 0, pos := "ref.go:191", after := #[{ on := 15, ground := Ground.data }, { on := 9, ground := Ground.guard }], guard := some (9, false) }) (v := undef) rfl (by kernel_rfl) (by kernel_rfl) (by kernel_rfl) (fun _ _ _ h => h) (Or.inr ⟨by rfl, rfl⟩) (by assumption) ?_
    simp only [Act.put, List.setIfInBounds_toArray, List.set_cons_zero, List.set_cons_succ]
    refine wpAnyH_take (i := 17) (oi := { dst := some 26, op := Op.fieldAddr 105 (Operand.tmp 25) 0, type := 0, pos := "ref.go:191", after := #[{ on := 16, ground := Ground.data }, { on := 9, ground := Ground.guard }], guard := some (9, false) }) (v := undef) rfl (by kernel_rfl) (by kernel_rfl) (by kernel_rfl) (fun _ _ _ h => h) (Or.inr ⟨by rfl, rfl⟩) (by assumption) ?_
    simp only [Act.put, List.setIfInBounds_toArray, List.set_cons_zero, List.set_cons_succ]
    refine wpAnyH_take (i := 18) (oi := { dst := some 27, op := Op.load 66 (Operand.tmp 26), type := 66, pos := "ref.go:191", after := #[{ on := 17, ground := Ground.data }, { on := 9, ground := Ground.guard }], guard := some (9, false) }) (v := undef) rfl (by kernel_rfl) (by kernel_rfl) (by kernel_rfl) (fun _ _ _ h => h) (Or.inr ⟨by rfl, rfl⟩) (by assumption) ?_
    simp only [Act.put, List.setIfInBounds_toArray, List.set_cons_zero, List.set_cons_succ]
    refine wpAnyH_take (i := 19) (oi := { dst := some 28, op := Op.call { callee := Callee.builtin Builtin.len, args := #[Operand.tmp 27], argTypes := #[66] }, type := 3, pos := "ref.go:191", after := #[{ on := 18, ground := Ground.data }, { on := 9, ground := Ground.guard }], guard := some (9, false) }) (v := undef) rfl (by kernel_rfl) (by kernel_rfl) (by kernel_rfl) (fun _ _ _ h => h) (Or.inr ⟨by rfl, rfl⟩) (by assumption) ?_
    simp only [Act.put, List.setIfInBounds_toArray, List.set_cons_zero, List.set_cons_succ]
    refine wpAnyH_take (i := 20) (oi := { dst := some 29, op := Op.binOp BinOp.neq 3 (Operand.tmp 23) (Operand.tmp 28) 3, type := 4, pos := "ref.go:191", after := #[{ on := 14, ground := Ground.data }, { on := 19, ground := Ground.data }, { on := 9, ground := Ground.guard }], guard := some (9, false) }) (v := undef) rfl (by kernel_rfl) (by kernel_rfl) (by kernel_rfl) (fun _ _ _ h => h) (Or.inr ⟨by rfl, rfl⟩) (by assumption) ?_
    simp only [Act.put, List.setIfInBounds_toArray, List.set_cons_zero, List.set_cons_succ]
    refine wpAnyH_take (i := 21) (oi := { dst := some 30, op := Op.pick (Operand.tmp 18) (Operand.const (Value.bool true)) (Operand.tmp 29), type := 4, pos := "ref.go:191", after := #[{ on := 9, ground := Ground.data }, { on := 20, ground := Ground.data }], guard := none }) (v := .bool true) rfl (by kernel_rfl) (by kernel_rfl) (by kernel_rfl) (fun _ _ _ h => h) (Or.inl ⟨by rfl, by intro w hSw; go_simp⟩) (by assumption) ?_
    simp only [Act.put, List.setIfInBounds_toArray, List.set_cons_zero, List.set_cons_succ]
    refine wpAnyH_done (by kernel_rfl) ?_ _
    clear hHeld
    go_wp2_with fail
    go_ret
    exact ⟨rfl, (Below.refl _ _).drew⟩
end Go.Proofs.Ytnmdhnbgikbpoaa
