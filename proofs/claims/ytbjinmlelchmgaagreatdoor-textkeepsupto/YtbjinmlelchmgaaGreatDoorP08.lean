import Derived.Test.YtbjinmlelchmgaaGreatDoorP07
import Derived.Test.YtbjinmlelchmgaaGreatDoorP01
import Derived.Test.YtbjinmlelchmgaaGreatDoorP05
import Derived.Deep.RegionHeld3
import Derived.Laws.BitsAllLaws
import Derived.Lib.AppendZeros
namespace Go.Proofs.YtbjinmlelchmgaaGreatDoor
open Go.RowKit
theorem dig_ext : ∀ n < 16, dig16.extract n (n + 1) = ⟨#[T.hexD n]⟩ := by decide +kernel
theorem one_cell (c : UInt8) (j : Nat) (h : j < [c].length) : (Lib.byteCells [c])[j]? = some (.int .u8 ([c][j].toNat : Int)) := by
  have h0 : j = 0 := by simpa using h
  subst h0
  rfl
theorem dig_app (a b : UInt8) : (⟨#[92, 120]⟩ : ByteArray) ++ ⟨#[a]⟩ ++ ⟨#[b]⟩ = ⟨#[92, 120, a, b]⟩ := by rfl
theorem wrap_sm (x : Int) (h0 : 0 ≤ x) (h1 : x ≤ 1000000000000) : IntKind.i64.wrap x = x := by
  simp [IntKind.wrap, IntKind.signed, IntKind.bits]
  split <;> omega
theorem one_any (c : UInt8) (w : World) : Calls Tryz.prog 57 #[.int .u8 (c.toNat : Int)] w fun e w' => e = .returned (.string ⟨(T.one c).toArray⟩) ∧ Below w.heap.size w w' := by
  have hc := c.toNat_lt
  have HP := hid (rplain_any c w)
  cases hi : T.itself c with
  | true =>
    rw [hi] at HP
    have HR : Hid ((⟨#[c]⟩ : ByteArray) = ⟨(T.one c).toArray⟩) := hid (by rw [T.one_itself hi])
    have hcv := run_convert_bytes_back (P := Tryz.prog) (w.alloc (.cells #[.int .u8 (c.toNat : Int)] 5)) 26 9 5 ⟨w.heap.size, 0, none⟩ 1 [c] Tryz.underlying26 Tryz.underlying5 Tryz.underlying9 (fun j hj => cells_new w 5 #[.int .u8 (c.toNat : Int)] [c] rfl j _ (one_cell c j hj))
    simp only [List.length_cons, List.length_nil, Nat.zero_add] at hcv
    clear hc hi
    go_enter Tryz.func57, Tryz.ntmps57
    go_wp2_with (go_at_call 74; refine HP.out.mono ?_; rintro e w1 ⟨rfl, rfl⟩)
    go_ret
    exact ⟨congrArg (fun x => Ending.returned (.string x)) HR.out, (Below.refl _ _).alloc (Nat.le_refl _) _⟩
  | false =>
    rw [hi] at HP
    obtain ⟨p, hp⟩ : ∃ p, c.toNat / 16 = p := ⟨_, rfl⟩
    obtain ⟨q, hq⟩ : ∃ q, c.toNat % 16 = q := ⟨_, rfl⟩
    have HR : Hid ((⟨#[92, 120, T.hexD p, T.hexD q]⟩ : ByteArray) = ⟨(T.one c).toArray⟩) := hid (by unfold T.one; rw [hi, hp, hq]; rfl)
    have e1 : (c.toNat : Int) / 16 = (p : Int) := by omega
    have e2 : (c.toNat : Int) % 16 = (q : Int) := by omega
    have p1 : (p : Int) < 16 := by omega
    have q1 : (q : Int) < 16 := by omega
    have x1 : (⟨#[48, 49, 50, 51, 52, 53, 54, 55, 56, 57, 97, 98, 99, 100, 101, 102]⟩ : ByteArray).extract p (p + 1) = ⟨#[T.hexD p]⟩ := dig_ext p (by omega)
    have x2 : (⟨#[48, 49, 50, 51, 52, 53, 54, 55, 56, 57, 97, 98, 99, 100, 101, 102]⟩ : ByteArray).extract q (q + 1) = ⟨#[T.hexD q]⟩ := dig_ext q (by omega)
    have x3 := dig_app (T.hexD p) (T.hexD q)
    have c0 : (0 : Int) ≤ c.toNat := by omega
    have c1 : (c.toNat : Int) < 256 := by omega
    have w1 := wrap_sm (p : Int) (by omega) (by omega)
    have w2 := wrap_sm ((p : Int) + 1) (by omega) (by omega)
    have w3 := wrap_sm (q : Int) (by omega) (by omega)
    have w4 := wrap_sm ((q : Int) + 1) (by omega) (by omega)
    have t1 : ((p : Int) + 1).toNat = p + 1 := by omega
    have t2 : ((q : Int) + 1).toNat = q + 1 := by omega
    have a1 : 0 ≤ (p : Int) + 1 := by omega
    have a2 : (p : Int) + 1 ≤ 16 := by omega
    have a3 : (p : Int) ≤ (p : Int) + 1 := by omega
    have a4 : 0 ≤ (q : Int) + 1 := by omega
    have a5 : (q : Int) + 1 ≤ 16 := by omega
    have a6 : (q : Int) ≤ (q : Int) + 1 := by omega
    have e3 : (c.toNat : Int).tmod 16 = (q : Int) := by rw [Int.tmod_eq_emod_of_nonneg c0]; exact e2
    clear hc hi hp hq
    go_enter Tryz.func57, Tryz.ntmps57
    go_wp2_with (go_at_call 74; refine HP.out.mono ?_; rintro e w1 ⟨rfl, rfl⟩)
    refine wp_region_held_drew (S := fun x => Below w.heap.size w x) (by kernel_rfl) ((Below.refl _ _).drew) (fun hHeld => ?_)
    refine tk 0 ⟨some 11, .move (.tmp 3), 3, "ref.go:61", #[], none⟩ (.int .i64 (c.toNat : Int)) ?_
    simp only [Act.put, List.setIfInBounds_toArray, List.set_cons_zero, List.set_cons_succ]
    refine tk 1 ⟨some 12, .binOp .quo 3 (.tmp 11) (.const (.int .i64 16)) 3, 3, "ref.go:61", #[⟨0, .data⟩], none⟩ (.int .i64 (p : Int)) ?_
    simp only [Act.put, List.setIfInBounds_toArray, List.set_cons_zero, List.set_cons_succ]
    refine tk 2 ⟨some 13, .move (.tmp 3), 3, "ref.go:61", #[], none⟩ (.int .i64 (c.toNat : Int)) ?_
    simp only [Act.put, List.setIfInBounds_toArray, List.set_cons_zero, List.set_cons_succ]
    refine tk 3 ⟨some 14, .binOp .quo 3 (.tmp 13) (.const (.int .i64 16)) 3, 3, "ref.go:61", #[⟨2, .data⟩], none⟩ (.int .i64 (p : Int)) ?_
    simp only [Act.put, List.setIfInBounds_toArray, List.set_cons_zero, List.set_cons_succ]
    refine tk 4 ⟨some 15, .binOp .add 3 (.tmp 14) (.const (.int .i64 1)) 3, 3, "ref.go:61", #[⟨3, .data⟩], none⟩ (.int .i64 ((p : Int) + 1)) ?_
    simp only [Act.put, List.setIfInBounds_toArray, List.set_cons_zero, List.set_cons_succ]
    refine tk 5 ⟨some 16, .slice 9 (.const (.string { data := #[48, 49, 50, 51, 52, 53, 54, 55, 56, 57, 97, 98, 99, 100, 101, 102] })) (some (.tmp 12)) (some (.tmp 15)) none, 9, "ref.go:61", #[⟨1, .data⟩, ⟨4, .data⟩], none⟩ (.string ⟨#[T.hexD p]⟩) ?_
    simp only [Act.put, List.setIfInBounds_toArray, List.set_cons_zero, List.set_cons_succ]
    refine tk 6 ⟨some 17, .binOp .add 9 (.const (.string { data := #[92, 120] })) (.tmp 16) 9, 9, "ref.go:61", #[⟨5, .data⟩], none⟩ (.string (⟨#[92, 120]⟩ ++ ⟨#[T.hexD p]⟩)) ?_
    simp only [Act.put, List.setIfInBounds_toArray, List.set_cons_zero, List.set_cons_succ]
    refine tk 7 ⟨some 18, .move (.tmp 3), 3, "ref.go:61", #[], none⟩ (.int .i64 (c.toNat : Int)) ?_
    simp only [Act.put, List.setIfInBounds_toArray, List.set_cons_zero, List.set_cons_succ]
    refine tk 8 ⟨some 19, .binOp .rem 3 (.tmp 18) (.const (.int .i64 16)) 3, 3, "ref.go:61", #[⟨7, .data⟩], none⟩ (.int .i64 (q : Int)) ?_
    simp only [Act.put, List.setIfInBounds_toArray, List.set_cons_zero, List.set_cons_succ]
    refine tk 9 ⟨some 20, .move (.tmp 3), 3, "ref.go:61", #[], none⟩ (.int .i64 (c.toNat : Int)) ?_
    simp only [Act.put, List.setIfInBounds_toArray, List.set_cons_zero, List.set_cons_succ]
    refine tk 10 ⟨some 21, .binOp .rem 3 (.tmp 20) (.const (.int .i64 16)) 3, 3, "ref.go:61", #[⟨9, .data⟩], none⟩ (.int .i64 (q : Int)) ?_
    simp only [Act.put, List.setIfInBounds_toArray, List.set_cons_zero, List.set_cons_succ]
    refine tk 11 ⟨some 22, .binOp .add 3 (.tmp 21) (.const (.int .i64 1)) 3, 3, "ref.go:61", #[⟨10, .data⟩], none⟩ (.int .i64 ((q : Int) + 1)) ?_
    simp only [Act.put, List.setIfInBounds_toArray, List.set_cons_zero, List.set_cons_succ]
    refine tk 12 ⟨some 23, .slice 9 (.const (.string { data := #[48, 49, 50, 51, 52, 53, 54, 55, 56, 57, 97, 98, 99, 100, 101, 102] })) (some (.tmp 19)) (some (.tmp 22)) none, 9, "ref.go:61", #[⟨8, .data⟩, ⟨11, .data⟩], none⟩ (.string ⟨#[T.hexD q]⟩) ?_
    simp only [Act.put, List.setIfInBounds_toArray, List.set_cons_zero, List.set_cons_succ]
    refine tk 13 ⟨some 24, .binOp .add 9 (.tmp 17) (.tmp 23) 9, 9, "ref.go:61", #[⟨6, .data⟩, ⟨12, .data⟩], none⟩ (.string ⟨#[92, 120, T.hexD p, T.hexD q]⟩) ?_
    simp only [Act.put, List.setIfInBounds_toArray, List.set_cons_zero, List.set_cons_succ]
    refine wpAnyH_ready (rs := [14]) (by kernel_rfl) (by simp) (AllReadyH.cons (o := ⟨some 2, .assign (.tmp 24), 9, "ref.go:61", #[⟨13, .data⟩, ⟨0, .phase⟩, ⟨1, .phase⟩, ⟨2, .phase⟩, ⟨3, .phase⟩, ⟨4, .phase⟩, ⟨5, .phase⟩, ⟨6, .phase⟩, ⟨7, .phase⟩, ⟨8, .phase⟩, ⟨9, .phase⟩, ⟨10, .phase⟩, ⟨11, .phase⟩, ⟨12, .phase⟩, ⟨13, .phase⟩], none⟩) rfl (fun KQ hK => ?_) AllReadyH.nil)
    go_simp
    refine hK.out _ _ ((Below.refl _ _).drew) (fun hHeld => ?_)
    clear hK KQ
    try simp only [Act.put, List.setIfInBounds_toArray, List.set_cons_zero, List.set_cons_succ]
    refine wpAnyH_done (by kernel_rfl) ?_ _
    clear hHeld
    go_wp2_with fail
    go_ret
    exact ⟨congrArg (fun x => Ending.returned (.string x)) HR.out, (Below.refl _ _).drew⟩
end Go.Proofs.YtbjinmlelchmgaaGreatDoor
namespace Go.Proofs.YtbjinmlelchmgaaGreatDoor
open Go.RowKit
namespace T
def hexT8 (w : Nat) (t : Nat) : List UInt8 := (List.range t).map fun i => hexD (w / 16 ^ (7 - i) % 16)
def hexed8 (w : Nat) : List UInt8 := [48, 120] ++ hexT8 w 8
end T
theorem HB.made (W : World) (C : Array Value) (l : List UInt8) (hC : C = (Lib.byteCells l).toArray) (hl : l.length ≤ maxLen) : HB W (W.alloc (.cells C 5)) (.slice (some ⟨W.heap.size, 0, none⟩) l.length l.length) l := by
  subst hC
  refine ⟨⟨by simp [Lib.byteCells], .inr ⟨W.heap.size, l.length, _, rfl, Nat.le_refl _, heap_alloc_new W _, Nat.le_refl _, hl, by simp [Lib.byteCells], ?_⟩⟩, (Below.refl _ _).alloc (Nat.le_refl _) _⟩
  rw [Nat.mul_one, List.take_of_length_le (by simp [Lib.byteCells])]
end Go.Proofs.YtbjinmlelchmgaaGreatDoor
