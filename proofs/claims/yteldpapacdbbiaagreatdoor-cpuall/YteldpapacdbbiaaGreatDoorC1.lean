/- cpu's leaves: imm 48; word's Div 65, Left 66, Right 67, Arith 68; against 59. -/
import Derived.Test.YteldpapacdbbiaaGreatDoorW5W6W7
import Derived.Test.YteldpapacdbbiaaGreatDoorRLdRLc
import Derived.Test.YteldpapacdbbiaaGreatDoorIMat5
namespace Go.Proofs.YteldpapacdbbiaaGreatDoor
open Go.RowKit
set_option maxHeartbeats 4000000
set_option maxRecDepth 100000
attribute [-simp] Tryz.isAgg26 Tryz.sizeOf26 Tryz.isAgg24
abbrev Ins := I.Ins
def im (i : Ins) : Int := i.imm % 4294967296
theorem imm_any (W : World) (i : Ins) : Calls Tryz.prog 54 #[i.v] W fun e W' => e = .returned (.int .u32 (im i)) ∧ Below W.heap.size W W' := by
  obtain ⟨op, cond, a, b, c, imm⟩ := i
  simp only [I.Ins.v, im]
  go_enter Tryz.func54, Tryz.ntmps54
  go_wp2
  go_ret
  exact ⟨rfl, below_one _ _⟩
def dvV (a b : Int) : Int := if b = 0 then 4294967295 else a / b
theorem div_any (W : World) (a b : Int) (ha0 : 0 ≤ a) (ha : a < 4294967296) (hb0 : 0 ≤ b) (hb : b < 4294967296) :
    Calls Tryz.prog 82 #[.int .u32 a, .int .u32 b] W fun e W' => e = .returned (.int .u32 (dvV a b)) ∧ W = W' := by
  unfold dvV
  by_cases h : b = 0
  · subst h
    go_enter Tryz.func82, Tryz.ntmps82
    go_wp2
    go_ret
    exact ⟨rfl, rfl⟩
  · have h' : (b == 0) = false := by simpa using h
    go_enter Tryz.func82, Tryz.ntmps82
    go_wp2
    go_ret
    exact ⟨rfl, rfl⟩
theorem left_any (W : World) (a b : Int) (hb0 : 0 ≤ b) :
    Calls Tryz.prog 83 #[.int .u32 a, .int .u32 b] W fun e W' => e = .returned (.int .u32 (a * 2 ^ min b.toNat 32 % 4294967296)) ∧ W = W' := by
  go_enter Tryz.func83, Tryz.ntmps83
  go_wp2
  go_ret
  exact ⟨rfl, rfl⟩
theorem right_any (W : World) (a b : Int) (hb0 : 0 ≤ b) :
    Calls Tryz.prog 84 #[.int .u32 a, .int .u32 b] W fun e W' => e = .returned (.int .u32 (a / 2 ^ min b.toNat 32)) ∧ W = W' := by
  go_enter Tryz.func84, Tryz.ntmps84
  go_wp2
  go_ret
  exact ⟨rfl, rfl⟩
theorem arith_any (W : World) (a b : Int) (hb0 : 0 ≤ b) :
    Calls Tryz.prog 85 #[.int .u32 a, .int .u32 b] W fun e W' => e = .returned (.int .u32 (wrap32 a / 2 ^ min b.toNat 32 % 4294967296)) ∧ W = W' := by
  go_enter Tryz.func85, Tryz.ntmps85
  go_wp2
  go_ret
  exact ⟨rfl, rfl⟩
def rg (f : F) (k : Int) : Int := f.r k.toNat
/-- Registers are words, and so is the address. -/
structure F.U (f : F) : Prop where
  r : ∀ k, 0 ≤ f.r k ∧ f.r k < 4294967296
  p0 : 0 ≤ f.pc
  p1 : f.pc < 4294967296
/-- An instruction's registers are registers. -/
structure IOk (i : Ins) : Prop where
  a0 : 0 ≤ i.a
  a1 : i.a < 15
  b0 : 0 ≤ i.b
  b1 : i.b < 15
  c0 : 0 ≤ i.c
  c1 : i.c < 15
/-- A file and an instruction in their boxes. -/
structure FI (W x : World) (gf gi : Nat) (f : F) (i : Ins) : Prop where
  cf : Cel x gf 26 f.cs
  ci : Cel x gi 78 i.cs
  below : Below W.heap.size W x
theorem FI.on {W x x' : World} {gf gi : Nat} {f : F} {i : Ins} (h : FI W x gf gi f i) (hb : Below x.heap.size x x') : FI W x' gf gi f i := ⟨h.cf.on hb, h.ci.on hb, below_on h.below hb⟩
theorem FI.new (W : World) (f : F) (i : Ins) : FI W ((W.alloc (.cells f.cs.toArray 26)).alloc (.cells i.cs.toArray 78)) W.heap.size (W.heap.size + 1) f i := by
  have h := Cel.new (W.alloc (.cells f.cs.toArray 26)) 78 i.cs
  rw [World.size_alloc] at h
  exact ⟨(Cel.new W 26 f.cs).on (below_one _ _), h, below_on (below_one _ _) (below_one _ _)⟩
theorem cel6 {w : World} {g : Nat} {i : Ins} (h : Cel w g 78 i.cs) : w.cell? ⟨g, 0, none⟩ = some (.int .i64 i.op) ∧ w.cell? ⟨g, 1, none⟩ = some (.int .i64 i.cond) ∧ w.cell? ⟨g, 2, none⟩ = some (.int .i64 i.a) ∧ w.cell? ⟨g, 3, none⟩ = some (.int .i64 i.b) ∧ w.cell? ⟨g, 4, none⟩ = some (.int .i64 i.c) ∧ w.cell? ⟨g, 5, none⟩ = some (.int .i32 i.imm) :=
  ⟨h.cell 0, h.cell 1, h.cell 2, h.cell 3, h.cell 4, h.cell 5⟩
def ag (f : F) (i : Ins) : Int := if i.op = 20 then im i else rg f i.b
theorem FI.b {W x : World} {gf gi : Nat} {f : F} {i : Ins} (h : FI W x gf gi f i) (k : Int) (h0 : 0 ≤ k) (h1 : k < 15) : x.cell? ⟨gf, k.toNat, none⟩ = some (.int .u32 (rg f k)) := (h.cf.cell _).trans (f.at _ (by omega))
theorem against_any (W : World) (f : F) (i : Ins) (h : IOk i) : Calls Tryz.prog 52 #[f.v, i.v] W fun e W' => e = .returned (.int .u32 (ag f i)) ∧ Below W.heap.size W W' := by
  have HX := hid (FI.new W f i)
  have HI := hid (fun W => imm_any W i)
  obtain ⟨c0, c1, c2, c3, c4, c5⟩ := cel6 HX.out.ci
  have cb := HX.out.b i.b h.b0 h.b1
  have b0 := h.b0
  have b1 := h.b1
  unfold ag F.v
  generalize rg f i.b = rb at *
  generalize im i = v at *
  clear h
  obtain ⟨op, cond, a, b, c, imm⟩ := i
  simp only [I.Ins.v, I.Ins.cs] at *
  generalize f.cs.toArray = D at *
  by_cases h : op = 20
  · subst h
    rw [if_pos rfl]
    go_enter Tryz.func52, Tryz.ntmps52
    go_upto_region 1 with fail
    generalize hX : (W.alloc _).alloc _ = X at *
    clear hX
    go_wp2_with fail
    refine (HI.out _).mono ?_
    rintro e w' ⟨rfl, hb⟩
    have HB := hid (below_on HX.out.below hb)
    clear hb
    go_wp2_with fail
    go_ret
    exact ⟨rfl, HB.out⟩
  · rw [if_neg h]
    have h' : (op == 20) = false := by simpa using h
    clear h
    go_enter Tryz.func52, Tryz.ntmps52
    go_upto_region 1 with fail
    generalize hX : (W.alloc _).alloc _ = X at *
    clear hX
    go_wp2_with fail
    go_ret
    exact ⟨rfl, HX.out.below⟩
end Go.Proofs.YteldpapacdbbiaaGreatDoor
