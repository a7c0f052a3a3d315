/- The document's one (57). -/
import Derived.Test.YtbjinmlelchmgaaGreatDoorRf1RfE
import Derived.Test.YtbjinmlelchmgaaGreatDoorQuo
import Derived.Deep.RegionHeld3
namespace Go.Proofs.YtbjinmlelchmgaaGreatDoor
open Go.RowKit
theorem dig_ext : ∀ n < 16, dig16.extract n (n + 1) = ⟨#[T.hexD n]⟩ := by decide +kernel
theorem one_cell (c : UInt8) (j : Nat) (h : j < [c].length) : (Lib.byteCells [c])[j]? = some (.int .u8 ([c][j].toNat : Int)) := by
  have h0 : j = 0 := by simpa using h
  subst h0
  rfl
theorem dig_app (a b : UInt8) : (⟨#[92, 120]⟩ : ByteArray) ++ ⟨#[a]⟩ ++ ⟨#[b]⟩ = ⟨#[92, 120, a, b]⟩ := by rfl
theorem wrap_sm (x : Int) (h0 : 0 ≤ x) (h1 : x ≤ 1000000000000) : IntKind.i64.wrap x = x := by
  simp [IntKind.wrap, IntKind.signed, IntKind.bits]
  split <;> omega
theorem one_any (c : UInt8) (w : World) : Calls Tryz.prog 57 #[.int .u8 (c.toNat : Int)] w fun e w' => e = .returned (.string ⟨(T.one c).toArray⟩) ∧ Below w.heap.size w w' := by
  have hc := c.toNat_lt
  have HP := hid (rplain_any c w)
  cases hi : T.itself c with
  | true =>
    rw [hi] at HP
    have HR : Hid ((⟨#[c]⟩ : ByteArray) = ⟨(T.one c).toArray⟩) := hid (by rw [T.one_itself hi])
    have hcv := run_convert_bytes_back (P := Tryz.prog) (w.alloc (.cells #[.int .u8 (c.toNat : Int)] 5)) 26 9 5 ⟨w.heap.size, 0, none⟩ 1 [c] Tryz.underlying26 Tryz.underlying5 Tryz.underlying9 (fun j hj => cells_new w 5 #[.int .u8 (c.toNat : Int)] [c] rfl j _ (one_cell c j hj))
    simp only [List.length_cons, List.length_nil, Nat.zero_add] at hcv
    clear hc hi
    go_enter Tryz.func57, Tryz.ntmps57
    go_wp2_with (go_at_call 74; refine HP.out.mono ?_; rintro e w1 ⟨rfl, rfl⟩)
    go_ret
    exact ⟨congrArg (fun x => Ending.returned (.string x)) HR.out, (Below.refl _ _).alloc (Nat.le_refl _) _⟩
  | false =>
    rw [hi] at HP
    obtain ⟨p, hp⟩ : ∃ p, c.toNat / 16 = p := ⟨_, rfl⟩
    obtain ⟨q, hq⟩ : ∃ q, c.toNat % 16 = q := ⟨_, rfl⟩
    have HR : Hid ((⟨#[92, 120, T.hexD p, T.hexD q]⟩ : ByteArray) = ⟨(T.one c).toArray⟩) := hid (by unfold T.one; rw [hi, hp, hq]; rfl)
    have e1 : (c.toNat : Int) / 16 = (p : Int) := by omega
    have e2 : (c.toNat : Int) % 16 = (q : Int) := by omega
    have p1 : (p : Int) < 16 := by omega
    have q1 : (q : Int) < 16 := by omega
    have x1 : (⟨#[48, 49, 50, 51, 52, 53, 54, 55, 56, 57, 97, 98, 99, 100, 101, 102]⟩ : ByteArray).extract p (p + 1) = ⟨#[T.hexD p]⟩ := dig_ext p (by omega)
    have x2 : (⟨#[48, 49, 50, 51, 52, 53, 54, 55, 56, 57, 97, 98, 99, 100, 101, 102]⟩ : ByteArray).extract q (q + 1) = ⟨#[T.hexD q]⟩ := dig_ext q (by omega)
    have x3 := dig_app (T.hexD p) (T.hexD q)
    have c0 : (0 : Int) ≤ c.toNat := by omega
    have c1 : (c.toNat : Int) < 256 := by omega
    have w1 := wrap_sm (p : Int) (by omega) (by omega)
    have w2 := wrap_sm ((p : Int) + 1) (by omega) (by omega)
    have w3 := wrap_sm (q : Int) (by omega) (by omega)
    have w4 := wrap_sm ((q : Int) + 1) (by omega) (by omega)
    have t1 : ((p : Int) + 1).toNat = p + 1 := by omega
    have t2 : ((q : Int) + 1).toNat = q + 1 := by omega
    have a1 : 0 ≤ (p : Int) + 1 := by omega
    have a2 : (p : Int) + 1 ≤ 16 := by omega
    have a3 : (p : Int) ≤ (p : Int) + 1 := by omega
    have a4 : 0 ≤ (q : Int) + 1 := by omega
    have a5 : (q : Int) + 1 ≤ 16 := by omega
    have a6 : (q : Int) ≤ (q : Int) + 1 := by omega
    have e3 : (c.toNat : Int).tmod 16 = (q : Int) := by rw [Int.tmod_eq_emod_of_nonneg c0]; exact e2
    clear hc hi hp hq
    go_enter Tryz.func57, Tryz.ntmps57
    go_wp2_with (go_at_call 74; refine HP.out.mono ?_; rintro e w1 ⟨rfl, rfl⟩)
    refine wp_region_held_drew (S := fun x => Below w.heap.size w x) (by kernel_rfl) ((Below.refl _ _).drew) (fun hHeld => ?_)
    refine wpAnyH_take (i := 0) (oi := { dst := some 11, op := Op.move (Operand.tmp 3), type := 3, pos := "ref.go:61", after := #[], guard := none }) (v := .int .i64 (c.toNat : Int)) rfl (by kernel_rfl) (by kernel_rfl) (by kernel_rfl) (fun _ _ _ h => h) (Or.inl ⟨by rfl, by intro w hSw; go_simp⟩) (by assumption) ?_
    simp only [Act.put, List.setIfInBounds_toArray, List.set_cons_zero, List.set_cons_succ]
    refine wpAnyH_take (i := 1) (oi := { dst := some 12, op := Op.binOp BinOp.quo 3 (Operand.tmp 11) (Operand.const (Value.int IntKind.i64 16)) 3, type := 3, pos := "ref.go:61", after := #[{ on := 0, ground := Ground.data }], guard := none }) (v := .int .i64 (p : Int)) rfl (by kernel_rfl) (by kernel_rfl) (by kernel_rfl) (fun _ _ _ h => h) (Or.inl ⟨by rfl, by intro w hSw; go_simp⟩) (by assumption) ?_
    simp only [Act.put, List.setIfInBounds_toArray, List.set_cons_zero, List.set_cons_succ]
    refine wpAnyH_take (i := 2) (oi := { dst := some 13, op := Op.move (Operand.tmp 3), type := 3, pos := "ref.go:61", after := #[], guard := none }) (v := .int .i64 (c.toNat : Int)) rfl (by kernel_rfl) (by kernel_rfl) (by kernel_rfl) (fun _ _ _ h => h) (Or.inl ⟨by rfl, by intro w hSw; go_simp⟩) (by assumption) ?_
    simp only [Act.put, List.setIfInBounds_toArray, List.set_cons_zero, List.set_cons_succ]
    refine wpAnyH_take (i := 3) (oi := { dst := some 14, op := Op.binOp BinOp.quo 3 (Operand.tmp 13) (Operand.const (Value.int IntKind.i64 16)) 3, type := 3, pos := "ref.go:61", after := #[{ on := 2, ground := Ground.data }], guard := none }) (v := .int .i64 (p : Int)) rfl (by kernel_rfl) (by kernel_rfl) (by kernel_rfl) (fun _ _ _ h => h) (Or.inl ⟨by rfl, by intro w hSw; go_simp⟩) (by assumption) ?_
    simp only [Act.put, List.setIfInBounds_toArray, List.set_cons_zero, List.set_cons_succ]
    refine wpAnyH_take (i := 4) (oi := { dst := some 15, op := Op.binOp BinOp.add 3 (Operand.tmp 14) (Operand.const (Value.int IntKind.i64 1)) 3, type := 3, pos := "ref.go:61", after := #[{ on := 3, ground := Ground.data }], guard := none }) (v := .int .i64 ((p : Int) + 1)) rfl (by kernel_rfl) (by kernel_rfl) (by kernel_rfl) (fun _ _ _ h => h) (Or.inl ⟨by rfl, by intro w hSw; go_simp⟩) (by assumption) ?_
    simp only [Act.put, List.setIfInBounds_toArray, List.set_cons_zero, List.set_cons_succ]
    refine wpAnyH_take (i := 5) (oi := { dst := some 16, op := Op.slice 9 (Operand.const (Value.string { data := #[48, 49, 50, 51, 52, 53, 54, 55, 56, 57, 97, 98, 99, 100, 101, 102] })) (some (Operand.tmp 12)) (some (Operand.tmp 15)) none, type := 9, pos := "ref.go:61", after := #[{ on := 1, ground := Ground.data }, { on := 4, ground := Ground.data }], guard := none }) (v := .string ⟨#[T.hexD p]⟩) rfl (by kernel_rfl) (by kernel_rfl) (by kernel_rfl) (fun _ _ _ h => h) (Or.inl ⟨by rfl, by intro w hSw; go_simp⟩) (by assumption) ?_
    simp only [Act.put, List.setIfInBounds_toArray, List.set_cons_zero, List.set_cons_succ]
    refine wpAnyH_take (i := 6) (oi := { dst := some 17, op := Op.binOp BinOp.add 9 (Operand.const (Value.string { data := #[92, 120] })) (Operand.tmp 16) 9, type := 9, pos := "ref.go:61", after := #[{ on := 5, ground := Ground.data }], guard := none }) (v := .string (⟨#[92, 120]⟩ ++ ⟨#[T.hexD p]⟩)) rfl (by kernel_rfl) (by kernel_rfl) (by kernel_rfl) (fun _ _ _ h => h) (Or.inl ⟨by rfl, by intro w hSw; go_simp⟩) (by assumption) ?_
    simp only [Act.put, List.setIfInBounds_toArray, List.set_cons_zero, List.set_cons_succ]
    refine wpAnyH_take (i := 7) (oi := { dst := some 18, op := Op.move (Operand.tmp 3), type := 3, pos := "ref.go:61", after := #[], guard := none }) (v := .int .i64 (c.toNat : Int)) rfl (by kernel_rfl) (by kernel_rfl) (by kernel_rfl) (fun _ _ _ h => h) (Or.inl ⟨by rfl, by intro w hSw; go_simp⟩) (by assumption) ?_
    simp only [Act.put, List.setIfInBounds_toArray, List.set_cons_zero, List.set_cons_succ]
    refine wpAnyH_take (i := 8) (oi := { dst := some 19, op := Op.binOp BinOp.rem 3 (Operand.tmp 18) (Operand.const (Value.int IntKind.i64 16)) 3, type := 3, pos := "ref.go:61", after := #[{ on := 7, ground := Ground.data }], guard := none }) (v := .int .i64 (q : Int)) rfl (by kernel_rfl) (by kernel_rfl) (by kernel_rfl) (fun _ _ _ h => h) (Or.inl ⟨by rfl, by intro w hSw; go_simp⟩) (by assumption) ?_
    simp only [Act.put, List.setIfInBounds_toArray, List.set_cons_zero, List.set_cons_succ]
    refine wpAnyH_take (i := 9) (oi := { dst := some 20, op := Op.move (Operand.tmp 3), type := 3, pos := "ref.go:61", after := #[], guard := none }) (v := .int .i64 (c.toNat : Int)) rfl (by kernel_rfl) (by kernel_rfl) (by kernel_rfl) (fun _ _ _ h => h) (Or.inl ⟨by rfl, by intro w hSw; go_simp⟩) (by assumption) ?_
    simp only [Act.put, List.setIfInBounds_toArray, List.set_cons_zero, List.set_cons_succ]
    refine wpAnyH_take (i := 10) (oi := { dst := some 21, op := Op.binOp BinOp.rem 3 (Operand.tmp 20) (Operand.const (Value.int IntKind.i64 16)) 3, type := 3, pos := "ref.go:61", after := #[{ on := 9, ground := Ground.data }], guard := none }) (v := .int .i64 (q : Int)) rfl (by kernel_rfl) (by kernel_rfl) (by kernel_rfl) (fun _ _ _ h => h) (Or.inl ⟨by rfl, by intro w hSw; go_simp⟩) (by assumption) ?_
    simp only [Act.put, List.setIfInBounds_toArray, List.set_cons_zero, List.set_cons_succ]
    refine wpAnyH_take (i := 11) (oi := { dst := some 22, op := Op.binOp BinOp.add 3 (Operand.tmp 21) (Operand.const (Value.int IntKind.i64 1)) 3, type := 3, pos := "ref.go:61", after := #[{ on := 10, ground := Ground.data }], guard := none }) (v := .int .i64 ((q : Int) + 1)) rfl (by kernel_rfl) (by kernel_rfl) (by kernel_rfl) (fun _ _ _ h => h) (Or.inl ⟨by rfl, by intro w hSw; go_simp⟩) (by assumption) ?_
    simp only [Act.put, List.setIfInBounds_toArray, List.set_cons_zero, List.set_cons_succ]
    refine wpAnyH_take (i := 12) (oi := { dst := some 23, op := Op.slice 9 (Operand.const (Value.string { data := #[48, 49, 50, 51, 52, 53, 54, 55, 56, 57, 97, 98, 99, 100, 101, 102] })) (some (Operand.tmp 19)) (some (Operand.tmp 22)) none, type := 9, pos := "ref.go:61", after := #[{ on := 8, ground := Ground.data }, { on := 11, ground := Ground.data }], guard := none }) (v := .string ⟨#[T.hexD q]⟩) rfl (by kernel_rfl) (by kernel_rfl) (by kernel_rfl) (fun _ _ _ h => h) (Or.inl ⟨by rfl, by intro w hSw; go_simp⟩) (by assumption) ?_
    simp only [Act.put, List.setIfInBounds_toArray, List.set_cons_zero, List.set_cons_succ]
    refine wpAnyH_take (i := 13) (oi := { dst := some 24, op := Op.binOp BinOp.add 9 (Operand.tmp 17) (Operand.tmp 23) 9, type := 9, pos := "ref.go:61", after := #[{ on := 6, ground := Ground.data }, { on := 12, ground := Ground.data }], guard := none }) (v := .string ⟨#[92, 120, T.hexD p, T.hexD q]⟩) rfl (by kernel_rfl) (by kernel_rfl) (by kernel_rfl) (fun _ _ _ h => h) (Or.inl ⟨by rfl, by intro w hSw; go_simp⟩) (by assumption) ?_
    simp only [Act.put, List.setIfInBounds_toArray, List.set_cons_zero, List.set_cons_succ]
    refine wpAnyH_ready (rs := [14]) (by kernel_rfl) (by simp) (AllReadyH.cons (o := { dst := some 2, op := Op.assign (Operand.tmp 24), type := 9, pos := "ref.go:61", after := #[{ on := 13, ground := Ground.data }, { on := 0, ground := Ground.phase }, { on := 1, ground := Ground.phase }, { on := 2, ground := Ground.phase }, { on := 3, ground := Ground.phase }, { on := 4, ground := Ground.phase }, { on := 5, ground := Ground.phase }, { on := 6, ground := Ground.phase }, { on := 7, ground := Ground.phase }, { on := 8, ground := Ground.phase }, { on := 9, ground := Ground.phase }, { on := 10, ground := Ground.phase }, { on := 11, ground := Ground.phase }, { on := 12, ground := Ground.phase }, { on := 13, ground := Ground.phase }], guard := none }) rfl (fun KQ hK => ?_) AllReadyH.nil)
    go_simp
    refine hK.out _ _ ((Below.refl _ _).drew) (fun hHeld => ?_)
    clear hK KQ
    try simp only [Act.put, List.setIfInBounds_toArray, List.set_cons_zero, List.set_cons_succ]
    refine wpAnyH_done (by kernel_rfl) ?_ _
    clear hHeld
    go_wp2_with fail
    go_ret
    exact ⟨congrArg (fun x => Ending.returned (.string x)) HR.out, (Below.refl _ _).drew⟩
end Go.Proofs.YtbjinmlelchmgaaGreatDoor
