/- regs: Flags (17). -/
import Derived.Test.YthpkodkilbcepaaLc
namespace Go.Proofs.Ythpkodkilbcepaa
open Go.RowKit
set_option maxHeartbeats 1000000
attribute [-simp] Try.isAgg27 Try.sizeOf27 Try.isAgg25 Try.sizeOf25 Try.isAgg23 Try.isAgg46 Try.sizeOf46
def flw (z n l : Bool) : Int := if z then 1 else (if n then 2 else 0) + (if l then 4 else 0)
def F.flags (f : F) : Int := flw f.z f.n f.l
def bv (b : Bool) (x : Int) : Int := if b then x else 0
theorem flags_eq (f : F) : bits .or .u32 (bits .or .u32 (bv f.stl.z 1) (bv f.stl.n 2)) (bv f.stl.l 4) = f.flags := by
  have h : ∀ z n l : Bool, bits .or .u32 (bits .or .u32 (bv (if z then true else z) 1) (bv (if z then false else n) 2)) (bv (if z then false else l) 4) = flw z n l := by decide
  have hh := h f.z f.n f.l
  have e1 : f.stl.z = if f.z then true else f.z := by unfold F.stl; split <;> rfl
  have e2 : f.stl.n = if f.z then false else f.n := by unfold F.stl; split <;> rfl
  have e3 : f.stl.l = if f.z then false else f.l := by unfold F.stl; split <;> rfl
  rw [e1, e2, e3]
  exact hh
theorem bit_q (W : World) (b : Bool) (x : Int) (k : Nat) : Calls Try.prog 24 #[.bool b, .int .u32 x] (W.drewN k) fun e w'' => e = .returned (.int .u32 (bv b x)) ∧ ∃ m, w'' = W.drewN m :=
  (bit_any _ b x).mono fun _ _ ⟨he, hm⟩ => ⟨he, k, hm.symm⟩
theorem flags_any (W : World) (f : F) : Calls Try.prog 17 #[f.v] W fun e W' => e = .returned (.int .u32 f.flags) ∧ Below W.heap.size W W' := by
  have HC := hid (Cel.new W 27 f.cs)
  have HB := hid (below_one W (.cells f.cs.toArray 27))
  unfold F.v
  generalize hc : f.cs.toArray = C at *
  clear hc
  go_enter Try.func17, Try.ntmps17
  go_upto_region 1 with fail
  generalize hX : W.alloc _ = X at *
  clear hX
  go_wp2_with (first | (refine wpList_load_f rfl _ rfl W.heap.size f rfl HC.out ?_) | fail)
  refine (settled_any _ _).mono ?_
  rintro e w1 ⟨rfl, hb1⟩
  have HC1 := hid (HC.out.on hb1)
  have HB1 := hid (below_on HB.out hb1)
  clear hb1
  go_wp2_with (refine wpList_store_f rfl _ _ rfl W.heap.size f f.stl rfl rfl HC1.out ?_; intro w2 hc2 hb2 hs2; have HC2 := hid hc2; have HB2 := hid (HB1.out.trans (hb2.below (B := W.heap.size) (by simp) HB1.out.size)); clear hc2 hb2 hs2)
  have FE := hid (flags_eq f)
  have y16 := (HC2.out.cell 16).trans f.stl.at16
  have y17 := (HC2.out.cell 17).trans f.stl.at17
  have y18 := (HC2.out.cell 18).trans f.stl.at18
  go_quiet (first | (go_at_call 24; exact bit_q _ _ _ _))
  go_wp2_with fail
  go_ret
  exact ⟨ret_int FE.out, below_drewN HB2.out _⟩
end Go.Proofs.Ythpkodkilbcepaa
