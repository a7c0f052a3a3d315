/- among 21. -/
import Derived.Test.YteldpapacdbbiaaDoorD1
namespace Go.Proofs.YteldpapacdbbiaaDoor
open Go.RowKit
set_option maxHeartbeats 8000000
set_option maxRecDepth 100000
attribute [-simp] Tryd.isAgg26 Tryd.sizeOf26 Tryd.isAgg24 Tryd.isAgg28 Tryd.sizeOf28
theorem among_any (W w : World) (v : Value) (L : List Pl) (h : Hp W w v L) (hl : L.length ≤ 100) (s : Bool) (p o : Int) :
    Calls Tryd.prog 21 #[v, .agg (plc s p o).toArray] w fun e w' => e = .returned (.bool (decide ((s, p, o) ∈ L))) ∧ Below w.heap.size w w' := by
  have HC := hid (Cel.new w 48 (plc s p o))
  have HB := hid (below_one w (.cells (plc s p o).toArray 48))
  have HH := hid h
  obtain ⟨ao, cp, hv⟩ := h.form
  subst hv
  have hl' : (L.length : Int) ≤ 100 := by omega
  clear h hl
  simp only [plc] at HC HB ⊢
  go_enter Tryd.func21, Tryd.ntmps21
  go_upto_region 1 with fail
  generalize hX : World.alloc _ _ = X at *
  clear hX
  generalize hg3 : w.heap.size = g3 at *
  go_wp2_with fail
  go_loopw [5] (fun i wr => ∃ j : Nat, j ≤ L.length ∧ i = .int .i64 (j : Int) ∧ Hid (Below g3 w wr ∧ Cel wr g3 48 (plc s p o) ∧ ∀ t (ht : t < L.length), t < j → L[t] ≠ (s, p, o))) (fun i _ => L.length - (intOf i).toNat)
  case atStart => exact ⟨0, Nat.zero_le _, rfl, hid ⟨HB.out, HC.out, fun t _ h => absurd h (by omega)⟩⟩
  case round =>
    obtain ⟨j, hj, rfl, HQ⟩ := hrel
    clear HB HC
    by_cases hlt : j < L.length
    · have q1 : (j : Int) < (L.length : Int) := by omega
      obtain ⟨g, cap, hv, hgl, hcell⟩ := HH.out.at (by omega)
      cases hv
      obtain ⟨k0, k1, k2⟩ := hcell j hlt
      have HE : Hid (wr.cell? ⟨g, j * 3, none⟩ = some (.bool (L[j]).1) ∧ wr.cell? ⟨g, j * 3 + 1, none⟩ = some (.int .i64 (L[j]).2.1) ∧ wr.cell? ⟨g, j * 3 + 2, none⟩ = some (.int .i64 (L[j]).2.2)) := hid ⟨(HQ.out.1.cell (p := ⟨g, j * 3, none⟩) (by rw [hg3] at hgl; exact hgl)).trans k0, (HQ.out.1.cell (p := ⟨g, j * 3 + 1, none⟩) (by rw [hg3] at hgl; exact hgl)).trans k1, (HQ.out.1.cell (p := ⟨g, j * 3 + 2, none⟩) (by rw [hg3] at hgl; exact hgl)).trans k2⟩
      clear k0 k1 k2 hcell
      have HNx : Hid (L[j] ≠ (s, p, o) → ∀ t (ht : t < L.length), t < j + 1 → L[t] ≠ (s, p, o)) := hid (fun hne t ht h => by
        by_cases e : t = j
        · subst e; exact hne
        · exact HQ.out.2.2 t ht (by omega))
      have HIn : Hid (L[j] = (s, p, o) → (s, p, o) ∈ L) := hid (fun h => h ▸ List.getElem_mem hlt)
      generalize hx : L[j] = x at *
      obtain ⟨xa, xb, xc⟩ := x
      simp only at HE
      go_upto_region 4 with fail
      by_cases e1 : (xa, xb, xc) = (s, p, o)
      · have hin := HIn.out e1
        simp only [Prod.mk.injEq] at e1
        obtain ⟨rfl, rfl, rfl⟩ := e1
        have HD : Hid ((wr.drew.cell? ⟨g, j * 3, none⟩ = some (.bool xa) ∧ wr.drew.cell? ⟨g, j * 3 + 1, none⟩ = some (.int .i64 xb) ∧ wr.drew.cell? ⟨g, j * 3 + 2, none⟩ = some (.int .i64 xc)) ∧ Cel wr.drew g3 48 (plc xa xb xc)) := hid ⟨HE.out, HQ.out.2.1.on (Below.refl _ _).drew⟩
        clear HE
        refine wp_region_held_drew (S := fun x => (x.cell? ⟨g, j * 3, none⟩ = some (.bool xa) ∧ x.cell? ⟨g, j * 3 + 1, none⟩ = some (.int .i64 xb) ∧ x.cell? ⟨g, j * 3 + 2, none⟩ = some (.int .i64 xc)) ∧ Cel x g3 48 (plc xa xb xc)) (by kernel_rfl) HD.out (fun hHeld => ?_)
        refine wpAnyH_take (i := 0) (oi := { dst := some 12, op := Op.move (Operand.tmp 0), type := 62, pos := "outright.go:83", after := #[], guard := none }) (v := .slice (some ⟨g, 0, none⟩) L.length cp) rfl (by kernel_rfl) (by kernel_rfl) (by kernel_rfl) (fun _ _ _ h => h) (Or.inl ⟨by rfl, by intro w hSw; go_simp⟩) (by assumption) ?_
        simp only [Act.put, List.setIfInBounds_toArray, List.set_cons_zero, List.set_cons_succ]
        refine wpAnyH_take (i := 1) (oi := { dst := some 13, op := Op.move (Operand.tmp 5), type := 3, pos := "outright.go:83", after := #[], guard := none }) (v := .int .i64 (j : Int)) rfl (by kernel_rfl) (by kernel_rfl) (by kernel_rfl) (fun _ _ _ h => h) (Or.inl ⟨by rfl, by intro w hSw; go_simp⟩) (by assumption) ?_
        simp only [Act.put, List.setIfInBounds_toArray, List.set_cons_zero, List.set_cons_succ]
        refine wpAnyH_take (i := 2) (oi := { dst := some 14, op := Op.indexAddr 62 (Operand.tmp 12) (Operand.tmp 13), type := 0, pos := "outright.go:83", after := #[{ on := 0, ground := Ground.data }, { on := 1, ground := Ground.data }], guard := none }) (v := .pointer (some ⟨g, j * 3, none⟩)) rfl (by kernel_rfl) (by kernel_rfl) (by kernel_rfl) (fun _ _ _ h => h) (Or.inl ⟨by rfl, by intro w hSw; go_simp⟩) (by assumption) ?_
        simp only [Act.put, List.setIfInBounds_toArray, List.set_cons_zero, List.set_cons_succ]
        refine wpAnyH_take (i := 3) (oi := { dst := some 15, op := Op.load 48 (Operand.tmp 14), type := 48, pos := "outright.go:83", after := #[{ on := 2, ground := Ground.data }], guard := none }) (v := .agg #[.bool xa, .int .i64 xb, .int .i64 xc]) rfl (by kernel_rfl) (by kernel_rfl) (by kernel_rfl) (fun _ _ _ h => h) (Or.inl ⟨by rfl, by intro w hSw; obtain ⟨h0, h1, h2⟩ := hSw.1; go_simp⟩) (by assumption) ?_
        simp only [Act.put, List.setIfInBounds_toArray, List.set_cons_zero, List.set_cons_succ]
        refine wpAnyH_take (i := 4) (oi := { dst := some 16, op := Op.load 48 (Operand.tmp 3), type := 48, pos := "outright.go:83", after := #[], guard := none }) (v := .agg #[.bool xa, .int .i64 xb, .int .i64 xc]) rfl (by kernel_rfl) (by kernel_rfl) (by kernel_rfl) (fun _ _ _ h => h) (Or.inl ⟨by rfl, by intro w hSw; have h0 := Cel.cell hSw.2 0; have h1 := Cel.cell hSw.2 1; have h2 := Cel.cell hSw.2 2; simp only [plc, List.getElem?_cons_zero, List.getElem?_cons_succ] at h0 h1 h2; go_simp⟩) (by assumption) ?_
        simp only [Act.put, List.setIfInBounds_toArray, List.set_cons_zero, List.set_cons_succ]
        refine wpAnyH_take (i := 5) (oi := { dst := some 17, op := Op.binOp BinOp.eql 48 (Operand.tmp 15) (Operand.tmp 16) 48, type := 4, pos := "outright.go:83", after := #[{ on := 3, ground := Ground.data }, { on := 4, ground := Ground.data }], guard := none }) (v := .bool true) rfl (by kernel_rfl) (by kernel_rfl) (by kernel_rfl) (fun _ _ _ h => h) (Or.inl ⟨by rfl, by intro w hSw; go_simp⟩) (by assumption) ?_
        simp only [Act.put, List.setIfInBounds_toArray, List.set_cons_zero, List.set_cons_succ]
        refine wpAnyH_done (by kernel_rfl) ?_ _
        go_wp2_with fail
        go_returns
        exact ⟨by first | rfl | (rw [decide_eq_true hin]; rfl), by first | exact HQ.out.1.drew | (rw [hg3]; exact HQ.out.1.drew)⟩
      · have HNe := hid (HNx.out e1)
        have HNd : Hid (xa = s → xb = p → ¬ xc = o) := hid (fun a1 a2 a3 => e1 (by rw [a1, a2, a3]))
        clear e1 HNx HIn
        have HD : Hid ((wr.drew.cell? ⟨g, j * 3, none⟩ = some (.bool xa) ∧ wr.drew.cell? ⟨g, j * 3 + 1, none⟩ = some (.int .i64 xb) ∧ wr.drew.cell? ⟨g, j * 3 + 2, none⟩ = some (.int .i64 xc)) ∧ Cel wr.drew g3 48 (plc s p o)) := hid ⟨HE.out, HQ.out.2.1.on (Below.refl _ _).drew⟩
        clear HE
        refine wp_region_held_drew (S := fun x => (x.cell? ⟨g, j * 3, none⟩ = some (.bool xa) ∧ x.cell? ⟨g, j * 3 + 1, none⟩ = some (.int .i64 xb) ∧ x.cell? ⟨g, j * 3 + 2, none⟩ = some (.int .i64 xc)) ∧ Cel x g3 48 (plc s p o)) (by kernel_rfl) HD.out (fun hHeld => ?_)
        refine wpAnyH_take (i := 0) (oi := { dst := some 12, op := Op.move (Operand.tmp 0), type := 62, pos := "outright.go:83", after := #[], guard := none }) (v := .slice (some ⟨g, 0, none⟩) L.length cp) rfl (by kernel_rfl) (by kernel_rfl) (by kernel_rfl) (fun _ _ _ h => h) (Or.inl ⟨by rfl, by intro w hSw; go_simp⟩) (by assumption) ?_
        simp only [Act.put, List.setIfInBounds_toArray, List.set_cons_zero, List.set_cons_succ]
        refine wpAnyH_take (i := 1) (oi := { dst := some 13, op := Op.move (Operand.tmp 5), type := 3, pos := "outright.go:83", after := #[], guard := none }) (v := .int .i64 (j : Int)) rfl (by kernel_rfl) (by kernel_rfl) (by kernel_rfl) (fun _ _ _ h => h) (Or.inl ⟨by rfl, by intro w hSw; go_simp⟩) (by assumption) ?_
        simp only [Act.put, List.setIfInBounds_toArray, List.set_cons_zero, List.set_cons_succ]
        refine wpAnyH_take (i := 2) (oi := { dst := some 14, op := Op.indexAddr 62 (Operand.tmp 12) (Operand.tmp 13), type := 0, pos := "outright.go:83", after := #[{ on := 0, ground := Ground.data }, { on := 1, ground := Ground.data }], guard := none }) (v := .pointer (some ⟨g, j * 3, none⟩)) rfl (by kernel_rfl) (by kernel_rfl) (by kernel_rfl) (fun _ _ _ h => h) (Or.inl ⟨by rfl, by intro w hSw; go_simp⟩) (by assumption) ?_
        simp only [Act.put, List.setIfInBounds_toArray, List.set_cons_zero, List.set_cons_succ]
        refine wpAnyH_take (i := 3) (oi := { dst := some 15, op := Op.load 48 (Operand.tmp 14), type := 48, pos := "outright.go:83", after := #[{ on := 2, ground := Ground.data }], guard := none }) (v := .agg #[.bool xa, .int .i64 xb, .int .i64 xc]) rfl (by kernel_rfl) (by kernel_rfl) (by kernel_rfl) (fun _ _ _ h => h) (Or.inl ⟨by rfl, by intro w hSw; obtain ⟨h0, h1, h2⟩ := hSw.1; go_simp⟩) (by assumption) ?_
        simp only [Act.put, List.setIfInBounds_toArray, List.set_cons_zero, List.set_cons_succ]
        refine wpAnyH_take (i := 4) (oi := { dst := some 16, op := Op.load 48 (Operand.tmp 3), type := 48, pos := "outright.go:83", after := #[], guard := none }) (v := .agg #[.bool s, .int .i64 p, .int .i64 o]) rfl (by kernel_rfl) (by kernel_rfl) (by kernel_rfl) (fun _ _ _ h => h) (Or.inl ⟨by rfl, by intro w hSw; have h0 := Cel.cell hSw.2 0; have h1 := Cel.cell hSw.2 1; have h2 := Cel.cell hSw.2 2; simp only [plc, List.getElem?_cons_zero, List.getElem?_cons_succ] at h0 h1 h2; go_simp⟩) (by assumption) ?_
        simp only [Act.put, List.setIfInBounds_toArray, List.set_cons_zero, List.set_cons_succ]
        refine wpAnyH_take (i := 5) (oi := { dst := some 17, op := Op.binOp BinOp.eql 48 (Operand.tmp 15) (Operand.tmp 16) 48, type := 4, pos := "outright.go:83", after := #[{ on := 3, ground := Ground.data }, { on := 4, ground := Ground.data }], guard := none }) (v := .bool false) rfl (by kernel_rfl) (by kernel_rfl) (by kernel_rfl) (fun _ _ _ h => h) (Or.inl ⟨by rfl, by intro w hSw; go_simp; exact HNd.out⟩) (by assumption) ?_
        simp only [Act.put, List.setIfInBounds_toArray, List.set_cons_zero, List.set_cons_succ]
        refine wpAnyH_done (by kernel_rfl) ?_ _
        go_wp2_with fail
        go_roundw
        case measure => simp [intOf] <;> omega
        case rel => exact ⟨j + 1, by omega, by simp, hid ⟨HQ.out.1.drew, HQ.out.2.1.on (Below.refl _ _).drew, HNe.out⟩⟩
    · have hjn : j = L.length := by omega
      subst hjn
      have hni : (s, p, o) ∉ L := fun hm => by
        obtain ⟨t, ht, he⟩ := List.mem_iff_getElem.1 hm
        exact HQ.out.2.2 t ht ht he
      go_wp2_with fail
      go_returns
      exact ⟨by first | rfl | (rw [decide_eq_false hni]; rfl), by first | exact HQ.out.1 | (rw [hg3]; exact HQ.out.1)⟩
end Go.Proofs.YteldpapacdbbiaaDoor
