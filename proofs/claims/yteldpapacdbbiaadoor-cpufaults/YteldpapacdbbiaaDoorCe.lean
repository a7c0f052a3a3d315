/- CpuPieces 3. -/
import Derived.Test.YteldpapacdbbiaaDoorCd
namespace Go.Proofs.YteldpapacdbbiaaDoor
open Go.RowKit
set_option maxHeartbeats 8000000
set_option maxRecDepth 100000
attribute [-simp] Tryd.isAgg26 Tryd.sizeOf26 Tryd.isAgg24 Tryd.isAgg28 Tryd.sizeOf28
theorem T3.new {W X w1 w2 w3 w4 : World} {q : Mq} {fa fb fc : Fp} {m : MS} (hX : MB W X W.heap.size q) (hXs : X.heap.size = W.heap.size + 1) (h1 : NewMem X w1 fa m) (b2 : Below w1.heap.size w1 w2) (h3 : NewMem w2 w3 fb m) (h4 : NewMem w3 w4 fc m) : T3 W w4 w4.heap.size W.heap.size q fa fb fc m m m := by
  have sa := h1.mem.lt
  have s12 := b2.size
  have s23 := h3.below.size
  have s34 := h4.below.size
  have s01 := h1.below.size
  have sb := h3.mem.lt
  have sc := h4.mem.lt
  exact ⟨((h1.mem.on b2).on h3.below).on h4.below, h3.mem.on h4.below, h4.mem, (((hX.c.on h1.below).on b2).on h3.below).on h4.below, below_on (below_on (below_on (below_on hX.below h1.below) b2) h3.below) h4.below,
    fun k hk => by have := h1.new k hk; omega, fun k hk => by have := h3.new k hk; omega, fun k hk => by have := h4.new k hk; omega,
    fun k hk => by have := sa k hk; omega, fun k hk => by have := sb k hk; omega, fun k hk => sc k hk,
    fun k hk h => by have := sa k hk; have := h3.new k h; omega, fun k hk h => by have := sa k hk; have := h4.new k h; omega, fun k hk h => by have := sb k hk; have := h4.new k h; omega,
    fun h => by have := h1.new _ h; omega, fun h => by have := h3.new _ h; omega, fun h => by have := h4.new _ h; omega⟩
def md (x : Int) : Nat := (x % 200).toNat
theorem md_lt (x : Int) : (md x : Int) < 200 := by unfold md; omega
theorem md_eq (x : Int) : (x.tmod 200 + 200) % 200 = (md x : Int) := by
  unfold md
  have := Int.tmod_eq_emod (a := x) (b := 200)
  split at this <;> omega
theorem pieces_any (W : World) (hT : Tb W) (q : Mq) (bk off : Nat) (L : Nat → Ly) (hq : q.Ok W bk off L) (x y : Int) :
    Calls Tryd.prog 3 #[q.v, .int .i64 x, .int .i64 y] W fun e W' => e = .returned (.bool true) ∧ Below W.heap.size W W' := by
  have HC : Hid (MB W (W.alloc (.cells q.cs.toArray 28)) W.heap.size q) := hid ⟨Cel.new W 28 _, below_one _ _⟩
  have HXs : Hid ((W.alloc (.cells q.cs.toArray 28)).heap.size = W.heap.size + 1) := hid (by rw [World.size_alloc])
  have HMd := hid (made_any _ q bk off L (hq.on (below_one W (.cells q.cs.toArray 28))))
  have HT := hid hT
  have HU := hid hq.U
  have HF := hid hq.f
  have hx0 : -200 < x.tmod 200 ∧ x.tmod 200 < 200 := by have := Int.tmod_eq_emod (a := x) (b := 200); split at this <;> omega
  have hy0 : -200 < y.tmod 200 ∧ y.tmod 200 < 200 := by have := Int.tmod_eq_emod (a := y) (b := 200); split at this <;> omega
  have HEx := hid (md_eq x)
  have HEy := hid (md_eq y)
  have HLx := hid (md_lt x)
  have HLy := hid (md_lt y)
  obtain ⟨hx1, hx2⟩ := hx0
  obtain ⟨hy1, hy2⟩ := hy0
  have hx3 : 0 ≤ (x.tmod 200 + 200).tmod 200 := Int.tmod_nonneg _ (by omega)
  have hy3 : 0 ≤ (y.tmod 200 + 200).tmod 200 := Int.tmod_nonneg _ (by omega)
  clear hT hq
  generalize q.m L = m at *
  generalize md x = a at *
  generalize md y = b at *
  unfold ptr at HMd
  go_enter Tryd.func3, Tryd.ntmps3
  unfold Mq.v at *
  go_upto_region 1 with fail
  generalize hX : W.alloc _ = X at *
  clear hX
  go_upto_region 2 with (first | (refine wpList_load_q rfl _ rfl W.heap.size q rfl HC.out.c ?_) | (go_at_call 6; refine HMd.out.mono ?_; rintro e w1 ⟨fa, rfl, hm1⟩; have HM1 := hid hm1; clear hm1))
  have HAd := hid (adds_any w1 (HT.out.on (below_on HC.out.below HM1.out.below)))
  go_upto_region 6 with (go_at_call 7; refine HAd.out.mono ?_; rintro e w2 ⟨rfl, hb2⟩; have HB2 := hid hb2; have HCl := hid (clone_any w2 fa m (HM1.out.mem.on hb2)); clear hb2; unfold ptr at HCl)
  rw [HEx.out, HEy.out]
  clear hx1 hx2 hx3 hy1 hy2 hy3 HAd HMd
  go_upto_region 7 with (go_at_call 8; refine HCl.out.mono ?_; rintro e w3 ⟨fb, rfl, hm3⟩; have HM3 := hid hm3; have HCm := hid (clone_any w3 fa m ((HM1.out.mem.on HB2.out).on hm3.below)); clear hm3; unfold ptr at HCm)
  go_upto_region 8 with (go_at_call 8; refine HCm.out.mono ?_; rintro e w4 ⟨fc, rfl, hm4⟩; have H := hid (T3.new HC.out HXs.out HM1.out HB2.out HM3.out hm4); clear hm4)
  clear HCl HCm HM3 HM1 HB2 HC
  have HG3 : Hid (W.heap.size < w4.heap.size) := hid H.out.cq.lt
  have HBB : Hid (∃ B, B = w4.heap.size) := hid ⟨_, rfl⟩
  obtain ⟨B, hBe⟩ := HBB.out
  rw [← hBe] at H HG3
  have HBx := hid (Nat.le_of_eq hBe)
  clear hBe HBB
  have HR := hid (H.out.runB HT.out HU.out q.l q.f HF.out (a + b) (by have := HLx.out; have := HLy.out; omega))
  rw [Int.natCast_add] at HR
  have hu := rn_u q.l (a + b) 0 m q.f
  generalize hr : rn q.l (a + b) 0 m q.f = r at *
  have HRr := hid hr
  have hu1 : (r.u : Int) ≤ (a : Int) + (b : Int) := by omega
  clear hr hu
  unfold ptr at HR
  have ab1 : (a : Int) + (b : Int) < 400 := by have := HLx.out; have := HLy.out; omega
  have c3 : w4.cell? ⟨W.heap.size, 3, none⟩ = some (.int .i64 q.l) := H.out.cq.cell 3
  go_upto_region 9 with (first | (refine wpList_fa4 rfl _ rfl W.heap.size rfl ?_) | (refine wpList_load_qf rfl _ rfl W.heap.size q rfl H.out.cq ?_) | (go_at_call 9; refine HR.out.mono ?_; rintro e w5 ⟨rfl, ht5, hb5⟩; have H5 := hid ht5; have HB5 : Hid (B ≤ w5.heap.size) := hid (Nat.le_trans HBx.out hb5.size); have HT5 := hid (Two.new w5); simp only [zf, evc] at HT5; clear ht5 hb5 c3; unfold ROut.v) | (refine wpList_store_f rfl _ _ rfl w5.heap.size F.zero r.f rfl rfl HT5.out.c0 ?_; intro u5 hcu hbu hsu; have HU5 := hid (And.intro hcu hbu); have CU5 := hid (HT5.out.c1.but hbu (by simp)); clear hcu hbu hsu) | (refine wpList_store_st rfl 35 _ _ rfl (w5.heap.size + 1) (evc r.k r.a) rfl rfl CU5.out size35 rfl rfl ?_; intro v5 hcv hbv hsv; have HF5 := hid (HT5.out.fill (Nat.le_refl _) HU5.out.1 HU5.out.2 hcv hbv); clear hcv hbv hsv))
  try simp only [Act.put]
  have H6 := hid (H5.out.on HF5.out.below)
  have HV6 := hid (HF5.out.v2 HB5.out)
  have HB6 : Hid (B ≤ v5.heap.size) := hid (Nat.le_trans HB5.out HF5.out.below.size)
  clear H H5 HB5 HT5 HF5 HR HBx CU5 HU5
  go_upto_region 11 with (go_at_call 10; refine (num_any _ _).mono ?_; rintro e wn ⟨rfl, rfl⟩)
  exact pieces_t1 W _ HT.out B W.heap.size w5.heap.size q fa fb fc m a b HLx.out HLy.out HU.out HF.out r HRr.out H6.out HV6.out HB6.out (Nat.le_refl _) HG3.out _ ‹∀ (a : Act) (w : World), Code.wp Tryd.prog _ _ a w → _› _ _ _ _ _ _ _ _ _ _ _ _ _ _ _ _ _ _ _ _ _ _ _ _ _ _ _ _ _ _ _ _ _ _ _ _ _ _ _ _ _ _ _ _ _ _ _ _ _ _ _ _ _ _ _ _ _ _ _ _ _ _ _ _ _ _ _ _ _ _ _ _ _ _ _ _ _ _ _ _ _ _ _ _ _ _ _ _ _ _ _ _ _ _ _ _ _ _ _ _ _ _ _ _ _ _ _ _ _ _ _ _ _ _ _ _ _ _ _ _ _ _ _ _ _ _ _ _ _ _ _ _ _ _ _ _ _ _ _ _ _ _ _ _ _ _ _ _ _ _ _ _ _ _ _ _ _ _ _ _ _ _ _ _ _ _ _ _ _ _ _ _ _ _ _ _ _ _ _ _ _ _ _ _ _ _ _ _ _ _ _ _ _ _ _ _ _ _ _ _ _ _ _ _ _ _ _ _ _ _ _ _ _ _ _ _ _
end Go.Proofs.YteldpapacdbbiaaDoor
