/- The law's step 29 that clones, over a bench that is not full yet. -/
import Derived.Test.YtnmdhnbgikbpoaaQ10
namespace Go.Proofs.Ytnmdhnbgikbpoaa
open Go.RowKit
set_option maxRecDepth 40000 in
set_option maxHeartbeats 4000000 in
theorem clone_raw {wr : World} {gb : Nat} {cs : List Value} (h : Cel wr gb 68 cs) (h9 : cs.length = 9) (i j : Nat) (hi : i < 4) (hj : j < 4) (hij : i ≠ j) (fj : Fp) (rj : Rf) (m : MS) (hf : Mem wr fj m) (hr : RMem wr rj m) (hp : 0 < m.P.length) (c1 : cs[j]? = some (.pointer (some ⟨fj.gm, 0, none⟩))) (c2 : cs[4 + j]? = some (.pointer (some ⟨rj.g, 0, none⟩))) :
    Calls Try.prog 29 #[.pointer (some ⟨gb, 0, none⟩), .agg #[.int .i64 10, .int .i64 (i : Int), .int .i64 (j : Int), .bool false, .int .i64 0, .bool false, .int .i64 0, .int .i64 0, .int .u32 0, .slice none 0 0]] wr fun x w' => x = .returned (.bool true) ∧ ButL [gb] wr w' ∧ ∃ fn rn, Pair wr w' fn rn m ∧ Cel w' gb 68 ((cs.set i (ptr fn.gm)).set (4 + i) (ptr rn.g)) := by
  have i4 : (i : Int) < 4 := by omega
  have j4 : (j : Int) < 4 := by omega
  obtain ⟨qa, hqa⟩ : ∃ qa : List Value, qa = [.int .i64 10, .int .i64 (i : Int), .int .i64 (j : Int), .bool false, .int .i64 0, .bool false, .int .i64 0, .int .i64 0, .int .u32 0, .slice none 0 0] := ⟨_, rfl⟩
  have CB := Cel.new wr 72 qa
  have y0 : (wr.alloc (.cells qa.toArray 72)).cell? ⟨wr.heap.size, 0, none⟩ = some (.int .i64 10) := by rw [CB.cell 0, hqa]; rfl
  have y1 : (wr.alloc (.cells qa.toArray 72)).cell? ⟨wr.heap.size, 1, none⟩ = some (.int .i64 (i : Int)) := by rw [CB.cell 1, hqa]; rfl
  have y2 : (wr.alloc (.cells qa.toArray 72)).cell? ⟨wr.heap.size, 2, none⟩ = some (.int .i64 (j : Int)) := by rw [CB.cell 2, hqa]; rfl
  have HB0 := hid (below_one wr (.cells qa.toArray 72))
  have H := hid (h.on HB0.out)
  have HF := hid (hf.on HB0.out)
  have HR := hid (hr.on HB0.out)
  have H9 := hid h9
  have HP := hid hp
  have C1 := hid c1
  have C2 := hid c2
  have HIJ := hid hij
  have EI : Hid ((i : Int) % 4 = (i : Int)) := hid (by omega)
  have EJ : Hid ((j : Int) % 4 = (j : Int)) := hid (by omega)
  rw [← hqa]
  clear h h9 hf hr hp c1 c2 CB hqa hij
  generalize hqq : qa.toArray = qv at *
  clear hqq
  go_enter Try.func29, Try.ntmps29
  go_wp2_with fail
  refine (slot_any _ _).mono ?_
  rintro x wk ⟨rfl, rfl⟩
  rw [EI.out]
  go_wp2_with fail
  refine (slot_any _ _).mono ?_
  rintro x wk ⟨rfl, rfl⟩
  rw [EJ.out]
  generalize hX : wr.alloc _ = X at *
  clear hX
  generalize hg3 : wr.heap.size = g3 at *
  have HG3 := hid hg3
  clear hg3
  go_wp2_with fail
  refine wp_region_held_drew (S := fun _ => True) (by kernel_rfl) trivial (fun hHeld => ?_)
  refine wpAnyH_take (i := 0) (oi := { dst := some 137, op := Op.move (Operand.tmp 0), type := 62, pos := "law.go:196", after := #[], guard := none }) (v := .pointer (some ⟨gb, 0, none⟩)) rfl (by kernel_rfl) (by kernel_rfl) (by kernel_rfl) (fun _ _ _ h => h) (Or.inl ⟨by rfl, by intro w hSw; go_simp⟩) (by assumption) ?_
  simp only [Act.put, List.setIfInBounds_toArray, List.set_cons_zero, List.set_cons_succ]
  refine wpAnyH_take (i := 1) (oi := { dst := some 138, op := Op.move (Operand.tmp 5), type := 3, pos := "law.go:196", after := #[], guard := none }) (v := .int .i64 (i : Int)) rfl (by kernel_rfl) (by kernel_rfl) (by kernel_rfl) (fun _ _ _ h => h) (Or.inl ⟨by rfl, by intro w hSw; go_simp⟩) (by assumption) ?_
  simp only [Act.put, List.setIfInBounds_toArray, List.set_cons_zero, List.set_cons_succ]
  refine wpAnyH_take (i := 2) (oi := { dst := some 139, op := Op.move (Operand.tmp 0), type := 62, pos := "law.go:196", after := #[], guard := none }) (v := .pointer (some ⟨gb, 0, none⟩)) rfl (by kernel_rfl) (by kernel_rfl) (by kernel_rfl) (fun _ _ _ h => h) (Or.inl ⟨by rfl, by intro w hSw; go_simp⟩) (by assumption) ?_
  simp only [Act.put, List.setIfInBounds_toArray, List.set_cons_zero, List.set_cons_succ]
  refine wpAnyH_take (i := 3) (oi := { dst := some 140, op := Op.move (Operand.tmp 6), type := 3, pos := "law.go:196", after := #[], guard := none }) (v := .int .i64 (j : Int)) rfl (by kernel_rfl) (by kernel_rfl) (by kernel_rfl) (fun _ _ _ h => h) (Or.inl ⟨by rfl, by intro w hSw; go_simp⟩) (by assumption) ?_
  simp only [Act.put, List.setIfInBounds_toArray, List.set_cons_zero, List.set_cons_succ]
  refine wpAnyH_take (i := 4) (oi := { dst := some 141, op := Op.nilCheck (Operand.tmp 139), type := 0, pos := "law.go:196", after := #[{ on := 2, ground := Ground.data }], guard := none }) (v := .pointer (some ⟨gb, 0, none⟩)) rfl (by kernel_rfl) (by kernel_rfl) (by kernel_rfl) (fun _ _ _ h => h) (Or.inl ⟨by rfl, by intro w hSw; go_simp⟩) (by assumption) ?_
  simp only [Act.put, List.setIfInBounds_toArray, List.set_cons_zero, List.set_cons_succ]
  refine wpAnyH_take (i := 5) (oi := { dst := some 142, op := Op.fieldAddr 68 (Operand.tmp 141) 0, type := 0, pos := "law.go:196", after := #[{ on := 4, ground := Ground.data }], guard := none }) (v := .pointer (some ⟨gb, 0, none⟩)) rfl (by kernel_rfl) (by kernel_rfl) (by kernel_rfl) (fun _ _ _ h => h) (Or.inl ⟨by rfl, by intro w hSw; go_simp⟩) (by assumption) ?_
  simp only [Act.put, List.setIfInBounds_toArray, List.set_cons_zero, List.set_cons_succ]
  refine wpAnyH_take (i := 6) (oi := { dst := some 143, op := Op.indexAddr 63 (Operand.tmp 142) (Operand.tmp 140), type := 0, pos := "law.go:196", after := #[{ on := 5, ground := Ground.data }, { on := 3, ground := Ground.data }], guard := none }) (v := .pointer (some ⟨gb, j, none⟩)) rfl (by kernel_rfl) (by kernel_rfl) (by kernel_rfl) (fun _ _ _ h => h) (Or.inl ⟨by rfl, by intro w hSw; go_simp⟩) (by assumption) ?_
  simp only [Act.put, List.setIfInBounds_toArray, List.set_cons_zero, List.set_cons_succ]
  refine wpAnyH_take (i := 9) (oi := { dst := some 146, op := Op.nilCheck (Operand.tmp 137), type := 0, pos := "law.go:196", after := #[{ on := 0, ground := Ground.data }], guard := none }) (v := .pointer (some ⟨gb, 0, none⟩)) rfl (by kernel_rfl) (by kernel_rfl) (by kernel_rfl) (fun _ _ _ h => h) (Or.inl ⟨by rfl, by intro w hSw; go_simp⟩) (by assumption) ?_
  simp only [Act.put, List.setIfInBounds_toArray, List.set_cons_zero, List.set_cons_succ]
  refine wpAnyH_take (i := 10) (oi := { dst := some 147, op := Op.fieldAddr 68 (Operand.tmp 146) 0, type := 0, pos := "law.go:196", after := #[{ on := 9, ground := Ground.data }], guard := none }) (v := .pointer (some ⟨gb, 0, none⟩)) rfl (by kernel_rfl) (by kernel_rfl) (by kernel_rfl) (fun _ _ _ h => h) (Or.inl ⟨by rfl, by intro w hSw; go_simp⟩) (by assumption) ?_
  simp only [Act.put, List.setIfInBounds_toArray, List.set_cons_zero, List.set_cons_succ]
  refine wpAnyH_ready (rs := [7]) (by kernel_rfl) (by simp) (AllReadyH.cons (o := { dst := some 144, op := Op.load 25 (Operand.tmp 143), type := 25, pos := "law.go:196", after := #[{ on := 6, ground := Ground.data }], guard := none }) rfl (fun KQ hK => ?_) AllReadyH.nil)
  (have hcc := (H.out.on (Below.refl _ _).drew).cell j; rw [C1.out] at hcc; go_simp)
  refine hK.out _ _ trivial (fun hHeld => ?_)
  clear hK KQ
  try simp only [Act.put, List.setIfInBounds_toArray, List.set_cons_zero, List.set_cons_succ]
  refine wpAnyH_ready (rs := [8]) (by kernel_rfl) (by simp) (AllReadyH.cons (o := { dst := some 145, op := Op.call { callee := Callee.value (Operand.func 25), args := #[Operand.tmp 144], argTypes := #[25] }, type := 25, pos := "law.go:196", after := #[{ on := 7, ground := Ground.data }], guard := none }) rfl (fun KQ hK => ?_) AllReadyH.nil)
  go_simp
  refine (clone_any _ fj m (HF.out.on (Below.refl _ _).drew)).mono ?_
  rintro x wA ⟨fn, rfl, hn⟩
  simp only [ptr]
  have cA := (H.out.on (Below.refl _ _).drew).on hn.below
  obtain ⟨o1, ho1⟩ : ∃ o, wA.cell? ⟨gb, i, none⟩ = some o := ⟨cs[i]'(by have := H9.out; omega), by rw [cA.cell i, List.getElem?_eq_getElem]⟩
  have of1 := cA.free i
  go_wp2_with fail
  refine hK.out _ _ trivial (fun hHeld => ?_)
  clear hK KQ
  try simp only [Act.put, List.setIfInBounds_toArray, List.set_cons_zero, List.set_cons_succ]
  refine wpAnyH_take (i := 11) (oi := { dst := some 148, op := Op.indexAddr 63 (Operand.tmp 147) (Operand.tmp 138), type := 0, pos := "law.go:196", after := #[{ on := 10, ground := Ground.data }, { on := 1, ground := Ground.data }, { on := 0, ground := Ground.phase }, { on := 1, ground := Ground.phase }, { on := 2, ground := Ground.phase }, { on := 3, ground := Ground.phase }, { on := 4, ground := Ground.phase }, { on := 5, ground := Ground.phase }, { on := 6, ground := Ground.phase }, { on := 7, ground := Ground.phase }, { on := 8, ground := Ground.phase }], guard := none }) (v := .pointer (some ⟨gb, i, none⟩)) rfl (by kernel_rfl) (by kernel_rfl) (by kernel_rfl) (fun _ _ _ h => h) (Or.inl ⟨by rfl, by intro w hSw; go_simp⟩) (by assumption) ?_
  simp only [Act.put, List.setIfInBounds_toArray, List.set_cons_zero, List.set_cons_succ]
  refine wpAnyH_ready (rs := [12]) (by kernel_rfl) (by simp) (AllReadyH.cons (o := { dst := none, op := Op.store 25 (Operand.tmp 148) (Operand.tmp 145), type := 0, pos := "law.go:196", after := #[{ on := 11, ground := Ground.data }, { on := 8, ground := Ground.data }, { on := 8, ground := Ground.chain }, { on := 0, ground := Ground.phase }, { on := 1, ground := Ground.phase }, { on := 2, ground := Ground.phase }, { on := 3, ground := Ground.phase }, { on := 4, ground := Ground.phase }, { on := 5, ground := Ground.phase }, { on := 6, ground := Ground.phase }, { on := 7, ground := Ground.phase }, { on := 8, ground := Ground.phase }], guard := none }) rfl (fun KQ hK => ?_) AllReadyH.nil)
  go_simp
  refine hK.out _ _ trivial (fun hHeld => ?_)
  clear hK KQ
  try simp only [Act.put]
  refine wpAnyH_done (by kernel_rfl) ?_ _
  clear hHeld
  have HN := hid hn
  have CA := hid (cA.setCell i (.pointer (some ⟨fn.gm, 0, none⟩)))
  have CA0 := hid cA
  have HBX := hid (below_on ((Below.refl _ _).drew : Below X.heap.size X X.drew) hn.below)
  clear hn cA ho1 of1 y0 y1 y2
  go_wp2_with fail
  have RX : Hid (RMem (wA.setCell ⟨gb, i, none⟩ (.pointer (some ⟨fn.gm, 0, none⟩))) rj m) := hid ((HR.out.on HBX.out).frame (ButL.setCell (G := [gb]) wA gb i _ (by simp)) (fun k hk => by rw [List.mem_singleton]; intro e; subst e; exact (HR.out.on HBX.out).no CA0.out.tyAt (by decide) (by decide) (by decide) hk))
  have FX : Hid (Mem (wA.setCell ⟨gb, i, none⟩ (.pointer (some ⟨fn.gm, 0, none⟩))) fn m) := hid (HN.out.mem.frame (ButL.setCell (G := [gb]) wA gb i _ (by simp)) (fun k hk => by rw [List.mem_singleton]; intro e; subst e; exact HN.out.mem.no CA0.out.tyAt (by decide) (by decide) (by decide) hk))
  have BX1 : Hid (ButL [gb] wr (wA.setCell ⟨gb, i, none⟩ (.pointer (some ⟨fn.gm, 0, none⟩)))) := hid ((ButL.of (HG3.out ▸ below_to HB0.out (HG3.out ▸ HB0.out.size) HBX.out)).trans (.setCell _ _ _ _ (by simp)))
  have C2' : Hid ((cs.set i (.pointer (some ⟨fn.gm, 0, none⟩)))[4 + j]? = some (.pointer (some ⟨rj.g, 0, none⟩))) := hid (by rw [List.getElem?_set_ne (by omega)]; exact C2.out)
  have FN : Hid (∀ k ∈ fn.all, wr.heap.size ≤ k) := hid (fun k hk => by have h1 := HN.out.new k hk; have h2 := HB0.out.size; have h3 := HG3.out; have h4 : X.drew.heap.size = X.heap.size := rfl; omega)
  generalize wA.setCell _ _ = Y at *
  refine wp_region_held_drew (S := fun _ => True) (by kernel_rfl) trivial (fun hHeld => ?_)
  refine wpAnyH_take (i := 0) (oi := { dst := some 149, op := Op.move (Operand.tmp 0), type := 62, pos := "law.go:197", after := #[], guard := none }) (v := .pointer (some ⟨gb, 0, none⟩)) rfl (by kernel_rfl) (by kernel_rfl) (by kernel_rfl) (fun _ _ _ h => h) (Or.inl ⟨by rfl, by intro w hSw; go_simp⟩) (by assumption) ?_
  simp only [Act.put, List.setIfInBounds_toArray, List.set_cons_zero, List.set_cons_succ]
  refine wpAnyH_take (i := 1) (oi := { dst := some 150, op := Op.move (Operand.tmp 5), type := 3, pos := "law.go:197", after := #[], guard := none }) (v := .int .i64 (i : Int)) rfl (by kernel_rfl) (by kernel_rfl) (by kernel_rfl) (fun _ _ _ h => h) (Or.inl ⟨by rfl, by intro w hSw; go_simp⟩) (by assumption) ?_
  simp only [Act.put, List.setIfInBounds_toArray, List.set_cons_zero, List.set_cons_succ]
  refine wpAnyH_take (i := 2) (oi := { dst := some 151, op := Op.move (Operand.tmp 0), type := 62, pos := "law.go:197", after := #[], guard := none }) (v := .pointer (some ⟨gb, 0, none⟩)) rfl (by kernel_rfl) (by kernel_rfl) (by kernel_rfl) (fun _ _ _ h => h) (Or.inl ⟨by rfl, by intro w hSw; go_simp⟩) (by assumption) ?_
  simp only [Act.put, List.setIfInBounds_toArray, List.set_cons_zero, List.set_cons_succ]
  refine wpAnyH_take (i := 3) (oi := { dst := some 152, op := Op.move (Operand.tmp 6), type := 3, pos := "law.go:197", after := #[], guard := none }) (v := .int .i64 (j : Int)) rfl (by kernel_rfl) (by kernel_rfl) (by kernel_rfl) (fun _ _ _ h => h) (Or.inl ⟨by rfl, by intro w hSw; go_simp⟩) (by assumption) ?_
  simp only [Act.put, List.setIfInBounds_toArray, List.set_cons_zero, List.set_cons_succ]
  refine wpAnyH_take (i := 4) (oi := { dst := some 153, op := Op.nilCheck (Operand.tmp 151), type := 0, pos := "law.go:197", after := #[{ on := 2, ground := Ground.data }], guard := none }) (v := .pointer (some ⟨gb, 0, none⟩)) rfl (by kernel_rfl) (by kernel_rfl) (by kernel_rfl) (fun _ _ _ h => h) (Or.inl ⟨by rfl, by intro w hSw; go_simp⟩) (by assumption) ?_
  simp only [Act.put, List.setIfInBounds_toArray, List.set_cons_zero, List.set_cons_succ]
  refine wpAnyH_take (i := 5) (oi := { dst := some 154, op := Op.fieldAddr 68 (Operand.tmp 153) 1, type := 0, pos := "law.go:197", after := #[{ on := 4, ground := Ground.data }], guard := none }) (v := .pointer (some ⟨gb, 4, none⟩)) rfl (by kernel_rfl) (by kernel_rfl) (by kernel_rfl) (fun _ _ _ h => h) (Or.inl ⟨by rfl, by intro w hSw; go_simp⟩) (by assumption) ?_
  simp only [Act.put, List.setIfInBounds_toArray, List.set_cons_zero, List.set_cons_succ]
  refine wpAnyH_take (i := 6) (oi := { dst := some 155, op := Op.indexAddr 65 (Operand.tmp 154) (Operand.tmp 152), type := 0, pos := "law.go:197", after := #[{ on := 5, ground := Ground.data }, { on := 3, ground := Ground.data }], guard := none }) (v := .pointer (some ⟨gb, 4 + j, none⟩)) rfl (by kernel_rfl) (by kernel_rfl) (by kernel_rfl) (fun _ _ _ h => h) (Or.inl ⟨by rfl, by intro w hSw; go_simp⟩) (by assumption) ?_
  simp only [Act.put, List.setIfInBounds_toArray, List.set_cons_zero, List.set_cons_succ]
  refine wpAnyH_take (i := 9) (oi := { dst := some 158, op := Op.nilCheck (Operand.tmp 149), type := 0, pos := "law.go:197", after := #[{ on := 0, ground := Ground.data }], guard := none }) (v := .pointer (some ⟨gb, 0, none⟩)) rfl (by kernel_rfl) (by kernel_rfl) (by kernel_rfl) (fun _ _ _ h => h) (Or.inl ⟨by rfl, by intro w hSw; go_simp⟩) (by assumption) ?_
  simp only [Act.put, List.setIfInBounds_toArray, List.set_cons_zero, List.set_cons_succ]
  refine wpAnyH_take (i := 10) (oi := { dst := some 159, op := Op.fieldAddr 68 (Operand.tmp 158) 1, type := 0, pos := "law.go:197", after := #[{ on := 9, ground := Ground.data }], guard := none }) (v := .pointer (some ⟨gb, 4, none⟩)) rfl (by kernel_rfl) (by kernel_rfl) (by kernel_rfl) (fun _ _ _ h => h) (Or.inl ⟨by rfl, by intro w hSw; go_simp⟩) (by assumption) ?_
  simp only [Act.put, List.setIfInBounds_toArray, List.set_cons_zero, List.set_cons_succ]
  refine wpAnyH_ready (rs := [7]) (by kernel_rfl) (by simp) (AllReadyH.cons (o := { dst := some 156, op := Op.load 64 (Operand.tmp 155), type := 64, pos := "law.go:197", after := #[{ on := 6, ground := Ground.data }], guard := none }) rfl (fun KQ hK => ?_) AllReadyH.nil)
  (have hcc := (CA.out.on (Below.refl _ _).drew).cell (4 + j); rw [C2'.out] at hcc; go_simp)
  refine hK.out _ _ trivial (fun hHeld => ?_)
  clear hK KQ
  try simp only [Act.put, List.setIfInBounds_toArray, List.set_cons_zero, List.set_cons_succ]
  refine wpAnyH_ready (rs := [8]) (by kernel_rfl) (by simp) (AllReadyH.cons (o := { dst := some 157, op := Op.call { callee := Callee.value (Operand.func 46), args := #[Operand.tmp 156], argTypes := #[64] }, type := 64, pos := "law.go:197", after := #[{ on := 7, ground := Ground.data }], guard := none }) rfl (fun KQ hK => ?_) AllReadyH.nil)
  go_simp
  refine (rclone_any _ rj m (RX.out.on (Below.refl _ _).drew) HP.out).mono ?_
  rintro x wB ⟨rn, rfl, hn⟩
  simp only [ptr]
  have cB := (CA.out.on (Below.refl _ _).drew).on hn.below
  obtain ⟨o1, ho1⟩ : ∃ o, wB.cell? ⟨gb, 4 + i, none⟩ = some o := ⟨(cs.set i (.pointer (some ⟨fn.gm, 0, none⟩)))[4 + i]'(by rw [List.length_set]; have := H9.out; omega), by rw [cB.cell (4 + i), List.getElem?_eq_getElem]⟩
  have of1 := cB.free (4 + i)
  go_wp2_with fail
  refine hK.out _ _ trivial (fun hHeld => ?_)
  clear hK KQ
  try simp only [Act.put, List.setIfInBounds_toArray, List.set_cons_zero, List.set_cons_succ]
  refine wpAnyH_take (i := 11) (oi := { dst := some 160, op := Op.indexAddr 65 (Operand.tmp 159) (Operand.tmp 150), type := 0, pos := "law.go:197", after := #[{ on := 10, ground := Ground.data }, { on := 1, ground := Ground.data }, { on := 0, ground := Ground.phase }, { on := 1, ground := Ground.phase }, { on := 2, ground := Ground.phase }, { on := 3, ground := Ground.phase }, { on := 4, ground := Ground.phase }, { on := 5, ground := Ground.phase }, { on := 6, ground := Ground.phase }, { on := 7, ground := Ground.phase }, { on := 8, ground := Ground.phase }], guard := none }) (v := .pointer (some ⟨gb, 4 + i, none⟩)) rfl (by kernel_rfl) (by kernel_rfl) (by kernel_rfl) (fun _ _ _ h => h) (Or.inl ⟨by rfl, by intro w hSw; go_simp⟩) (by assumption) ?_
  simp only [Act.put, List.setIfInBounds_toArray, List.set_cons_zero, List.set_cons_succ]
  refine wpAnyH_ready (rs := [12]) (by kernel_rfl) (by simp) (AllReadyH.cons (o := { dst := none, op := Op.store 64 (Operand.tmp 160) (Operand.tmp 157), type := 0, pos := "law.go:197", after := #[{ on := 11, ground := Ground.data }, { on := 8, ground := Ground.data }, { on := 8, ground := Ground.chain }, { on := 0, ground := Ground.phase }, { on := 1, ground := Ground.phase }, { on := 2, ground := Ground.phase }, { on := 3, ground := Ground.phase }, { on := 4, ground := Ground.phase }, { on := 5, ground := Ground.phase }, { on := 6, ground := Ground.phase }, { on := 7, ground := Ground.phase }, { on := 8, ground := Ground.phase }], guard := none }) rfl (fun KQ hK => ?_) AllReadyH.nil)
  go_simp
  refine hK.out _ _ trivial (fun hHeld => ?_)
  clear hK KQ
  try simp only [Act.put]
  refine wpAnyH_done (by kernel_rfl) ?_ _
  clear hHeld
  have HBY := hid (below_on ((Below.refl _ _).drew : Below Y.heap.size Y Y.drew) hn.below)
  have PR : Hid (Pair wr wB fn rn m) := hid ⟨FX.out.on HBY.out, hn.mem, HP.out, FN.out, fun k hk => by have h1 := hn.new k hk; have h2 := BX1.out.size; have h4 : Y.drew.heap.size = Y.heap.size := rfl; omega⟩
  have PR2 := hid (PR.out.set cB (4 + i) (.pointer (some ⟨rn.g, 0, none⟩)))
  have CF := hid (cB.setCell (4 + i) (.pointer (some ⟨rn.g, 0, none⟩)))
  have BF := hid ((BX1.out.on HBY.out).trans (.setCell wB gb (4 + i) (.pointer (some ⟨rn.g, 0, none⟩)) (by simp)))
  have yz : (wB.setCell ⟨gb, 4 + i, none⟩ (.pointer (some ⟨rn.g, 0, none⟩))).cell? ⟨gb, i, none⟩ = some (.pointer (some ⟨fn.gm, 0, none⟩)) := by rw [CF.out.cell i, List.getElem?_set_ne (by omega), List.getElem?_set_self (by have := H9.out; omega)]
  clear hn cB ho1 of1
  generalize wB.setCell _ _ = Z at *
  go_wp2_with fail
  go_ret
  exact ⟨rfl, BF.out, fn, rn, PR2.out, CF.out⟩
end Go.Proofs.Ytnmdhnbgikbpoaa
