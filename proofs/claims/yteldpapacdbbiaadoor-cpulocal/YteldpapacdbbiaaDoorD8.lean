/- CpuLocal 5: all of it. -/
import Derived.Test.YteldpapacdbbiaaDoorD7
namespace Go.Proofs.YteldpapacdbbiaaDoor
open Go.RowKit
set_option maxHeartbeats 8000000
set_option maxRecDepth 100000
attribute [-simp] Tryd.isAgg26 Tryd.sizeOf26 Tryd.isAgg24 Tryd.isAgg28 Tryd.sizeOf28

theorem T3.new2 {W X w1 w2 w3 w4 : World} {q : Mq} {fa fb fc : Fp} {m : MS} (hX : MB W X W.heap.size q) (hXs : W.heap.size < X.heap.size) (h1 : NewMem X w1 fa m) (b2 : Below w1.heap.size w1 w2) (h3 : NewMem w2 w3 fb m) (h4 : NewMem w3 w4 fc m) : T3 W w4 w4.heap.size W.heap.size q fa fb fc m m m := by
  have sa := h1.mem.lt
  have s12 := b2.size
  have s23 := h3.below.size
  have s34 := h4.below.size
  have s01 := h1.below.size
  have sb := h3.mem.lt
  have sc := h4.mem.lt
  exact ⟨((h1.mem.on b2).on h3.below).on h4.below, h3.mem.on h4.below, h4.mem, (((hX.c.on h1.below).on b2).on h3.below).on h4.below, below_on (below_on (below_on (below_on hX.below h1.below) b2) h3.below) h4.below,
    fun k hk => by have := h1.new k hk; omega, fun k hk => by have := h3.new k hk; omega, fun k hk => by have := h4.new k hk; omega,
    fun k hk => by have := sa k hk; omega, fun k hk => by have := sb k hk; omega, fun k hk => sc k hk,
    fun k hk h => by have := sa k hk; have := h3.new k h; omega, fun k hk h => by have := sa k hk; have := h4.new k h; omega, fun k hk h => by have := sb k hk; have := h4.new k h; omega,
    fun h => by have := h1.new _ h; omega, fun h => by have := h3.new _ h; omega, fun h => by have := h4.new _ h; omega⟩
theorem Ks.new {W X w1 w2 w3 x8 w4 w5 : World} {g4 : Nat} {fa fb fc : Fp} {m : MS} {ps : Bool} {pp po : Int} {v : Value} {RD : List Pl} {SS : Bool} {TT : Pl} (hX : Below W.heap.size W X) (hg : g4 < X.heap.size) (c4 : Cel X g4 48 (plc ps pp po)) (h1 : NewMem X w1 fa m) (b2 : Below w1.heap.size w1 w2) (hp : Hp w2 w3 v RD) (c8 : Cel x8 w3.heap.size 64 (rcs v SS TT.1 TT.2.1 TT.2.2)) (b8 : Below w3.heap.size w3 x8) (h3 : NewMem x8 w4 fb m) (h4 : NewMem w4 w5 fc m) : Ks W w5 g4 w3.heap.size fa fb fc ps pp po v RD SS TT := by
  have sa := h1.mem.lt
  have s1 := h1.below.size
  have s2 := b2.size
  have s3 := hp.below.size
  have s4 := b8.size
  have s5 := h3.below.size
  have l8 := c8.lt
  refine ⟨(((((c4.on h1.below).on b2).on hp.below).on b8).on h3.below).on h4.below, (c8.on h3.below).on h4.below, (((hp.base (below_on (below_on hX h1.below) b2)).on b8).on h3.below).on h4.below,
    ⟨fun h => by have := h1.new _ h; omega, fun h => by have := h3.new _ h; omega, fun h => by have := h4.new _ h; omega⟩, ⟨fun h => by have := sa _ h; omega, fun h => by have := h3.new _ h; omega, fun h => by have := h4.new _ h; omega⟩, fun b hv => ?_⟩
  obtain ⟨hb, cur, hh⟩ := hp.blk hv
  have hlt := (Array.getElem?_eq_some_iff.1 hh).1
  exact ⟨fun h => by have := sa _ h; omega, fun h => by have := h3.new _ h; omega, fun h => by have := h4.new _ h; omega⟩
theorem local_any (W : World) (hT : Tb W) (q : Mq) (bk off : Nat) (L : Nat → Ly) (hq : q.Ok W bk off L) (ps : Bool) (pp po vv : Int) (vv0 : 0 ≤ vv) (vv1 : vv < 4294967296) :
    Calls Tryd.prog 5 #[q.v, .agg (plc ps pp po).toArray, .int .u32 vv] W fun e W' => e = .returned (.bool true) ∧ Below W.heap.size W W' := by
  have HBX := hid (below_on (below_one W (.cells q.cs.toArray 28)) (below_one _ (.cells (plc ps pp po).toArray 48)))
  have HC : Hid (MB W ((W.alloc (.cells q.cs.toArray 28)).alloc (.cells (plc ps pp po).toArray 48)) W.heap.size q) := hid ⟨(Cel.new W 28 _).on (below_one _ _), HBX.out⟩
  have HC4 : Hid (Cel ((W.alloc (.cells q.cs.toArray 28)).alloc (.cells (plc ps pp po).toArray 48)) (W.heap.size + 1) 48 (plc ps pp po)) := hid (by
    have := Cel.new (W.alloc (.cells q.cs.toArray 28)) 48 (plc ps pp po)
    rwa [World.size_alloc] at this)
  have HXs : Hid (((W.alloc (.cells q.cs.toArray 28)).alloc (.cells (plc ps pp po).toArray 48)).heap.size = W.heap.size + 2) := hid (by rw [World.size_alloc, World.size_alloc])
  have HMd := hid (made_any _ q bk off L (hq.on HBX.out))
  have HT := hid hT
  have HU := hid hq.U
  have HF := hid hq.f
  have HCc := hid hq.c
  have HVv := hid (And.intro vv0 vv1)
  clear hT hq vv0 vv1
  generalize q.m L = m at *
  unfold ptr at HMd
  simp only [plc] at HBX HC HC4 HXs HMd ⊢
  go_enter Tryd.func5, Tryd.ntmps5
  unfold Mq.v at *
  go_upto_region 1 with fail
  generalize hX : (W.alloc _).alloc _ = X at *
  clear hX
  go_upto_region 2 with (first | (refine wpList_load_q rfl _ rfl W.heap.size q rfl HC.out.c ?_) | (go_at_call 6; refine HMd.out.mono ?_; rintro e w1 ⟨fa, rfl, hm1⟩; have HM1 := hid hm1; clear hm1))
  have HAd := hid (adds_any w1 (HT.out.on (below_on HC.out.below HM1.out.below)))
  go_upto_region 4 with (go_at_call 7; refine HAd.out.mono ?_; rintro e w2 ⟨rfl, hb2⟩; have HB2 := hid hb2; clear hb2)
  clear HAd HMd
  have HLr := hid (lreach_any w2 (HT.out.on (below_on (below_on HC.out.below HM1.out.below) HB2.out)) fa m (HM1.out.mem.on HB2.out) HU.out q.l q.f HF.out)
  have HQ2 : Hid (Cel w2 W.heap.size 28 q.cs) := hid ((HC.out.c.on HM1.out.below).on HB2.out)
  have c3 : w2.cell? ⟨W.heap.size, 3, none⟩ = some (.int .i64 q.l) := HQ2.out.cell 3
  unfold ptr at HLr
  simp only [rcs] at HLr
  go_upto_region 5 with (first | (refine wpList_fa4 rfl _ rfl W.heap.size rfl ?_) | (refine wpList_load_qf rfl _ rfl W.heap.size q rfl HQ2.out ?_) | (go_at_call 19; refine HLr.out.mono ?_; rintro e w3 ⟨v3, rfl, hp3⟩; have HP3 := hid hp3; clear hp3 c3; obtain ⟨ao, cp, hv3⟩ := HP3.out.form; subst hv3))
  have HC8 : Hid (Cel (w3.alloc (.cells #[.slice ao (rds m q.l q.f).length cp, .bool (stS m q.l q.f), .bool (stT m q.l q.f).1, .int .i64 (stT m q.l q.f).2.1, .int .i64 (stT m q.l q.f).2.2] 64)) w3.heap.size 64 (rcs (.slice ao (rds m q.l q.f).length cp) (stS m q.l q.f) (stT m q.l q.f).1 (stT m q.l q.f).2.1 (stT m q.l q.f).2.2)) := hid (Cel.new w3 64 _)
  have HB8 := hid (below_one w3 (.cells #[.slice ao (rds m q.l q.f).length cp, .bool (stS m q.l q.f), .bool (stT m q.l q.f).1, .int .i64 (stT m q.l q.f).2.1, .int .i64 (stT m q.l q.f).2.2] 64))
  generalize hX8 : World.alloc _ _ = X8 at *
  clear hX8 HLr HQ2
  have HB28 : Hid (Below w1.heap.size w1 X8) := hid (below_on (below_on HB2.out HP3.out.below) HB8.out)
  have HCl := hid (clone_any X8 fa m (HM1.out.mem.on HB28.out))
  unfold ptr at HCl
  go_upto_region 6 with (go_at_call 8; refine HCl.out.mono ?_; rintro e w4 ⟨fb, rfl, hm4⟩; have HM4 := hid hm4; have HCm := hid (clone_any w4 fa m ((HM1.out.mem.on HB28.out).on hm4.below)); clear hm4; unfold ptr at HCm)
  go_upto_region 7 with (go_at_call 8; refine HCm.out.mono ?_; rintro e w5 ⟨fc, rfl, hm5⟩; have H := hid (T3.new2 HC.out (by have := HXs.out; omega) HM1.out HB28.out HM4.out hm5); have HK := hid (Ks.new (TT := stT m q.l q.f) HBX.out (by have := HXs.out; omega) HC4.out HM1.out HB2.out HP3.out HC8.out HB8.out HM4.out hm5); clear hm5)
  clear HCl HCm HM4 HM1 HB2 HC HB28 HB8 HC8 HP3 HC4 HXs HBX
  have HBB : Hid (∃ B, B = w5.heap.size) := hid ⟨_, rfl⟩
  obtain ⟨B, hBe⟩ := HBB.out
  rw [← hBe] at H
  have HBx := hid (Nat.le_of_eq hBe)
  clear hBe HBB
  have HWr := hid (H.out.writeC ps pp po vv)
  have p0 := HK.out.c4.cell 0
  have p1 := HK.out.c4.cell 1
  have p2 := HK.out.c4.cell 2
  simp only [plc, List.getElem?_cons_zero, List.getElem?_cons_succ] at p0 p1 p2
  unfold ptr fr at HWr
  go_upto_region 8 with (go_at_call 20; refine HWr.out.mono ?_; rintro e w6 ⟨rfl, ht6, hb6⟩; have H6 := hid ht6; have HK6 := hid (HK.out.bc hb6 H.out.lc); have HB6 := hid (Nat.le_trans HBx.out hb6.size); clear ht6 hb6)
  clear p0 p1 p2 HWr H HK HBx
  have HMc := hid (meter_any w6 fc _ H6.out.c)
  unfold ptr at HMc
  go_upto_region 9 with (go_at_call 13; refine HMc.out.mono ?_; rintro e wq ⟨rfl, rfl⟩)
  exact local_t1 W _ HT.out B W.heap.size (W.heap.size + 1) w3.heap.size q fa fb fc m ps pp po vv HVv.out.1 HVv.out.2 _ H6.out HK6.out HU.out HF.out HB6.out HCc.out.1 HCc.out.2 _ ‹∀ (a : Act) (w : World), Code.wp Tryd.prog _ _ a w → _› _ _ _ _ _ _ _ _ _ _ _ _ _ _ _ _ _ _ _ _ _ _ _ _ _ _ _ _ _ _ _ _ _ _ _ _ _ _ _ _ _ _ _ _ _ _ _ _ _ _ _ _ _ _ _ _ _ _ _ _ _ _ _ _ _ _ _ _ _ _ _ _ _ _ _ _ _ _ _ _ _ _ _ _ _ _ _ _ _ _ _ _ _ _ _ _ _ _ _ _ _ _ _ _ _ _ _ _ _ _ _ _ _ _ _ _
end Go.Proofs.YteldpapacdbbiaaDoor
