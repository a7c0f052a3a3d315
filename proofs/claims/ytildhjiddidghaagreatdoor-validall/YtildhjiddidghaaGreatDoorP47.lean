import Derived.Test.YtildhjiddidghaaGreatDoorP46
import Derived.Test.YtildhjiddidghaaGreatDoorP29
import Derived.Test.YtildhjiddidghaaGreatDoorP30
import Derived.Test.YtildhjiddidghaaGreatDoorP01
namespace Go.Proofs.YtildhjiddidghaaGreatDoor
open Go.RowKit
set_option maxHeartbeats 8000000
set_option maxRecDepth 100000
def DS.oh (d : DS) (k q j : Nat) : Bool := (psE (d.w q j) == 0) && ((ps (d.w q j)).s && ((ps (d.w q j)).p.toNat == k))
theorem hit_same {d : DS} {k q j : Nat} (hk : k < d.m.ns) (ht : (d.at k).t = 5) (ho : (d.at q).o = (d.at k).o) : d.hit q j k = d.oh k q j := by
  unfold DS.hit DS.oh DS.isOf
  simp [hk, ht, ho]
theorem hit_other {d : DS} {k q j : Nat} (ho : (d.at q).o ≠ (d.at k).o) : d.hit q j k = false := by
  unfold DS.hit DS.isOf
  have : ((d.at k).o == (d.at q).o) = false := by simpa using fun e => ho e.symm
  simp [this]
theorem mc1_other {d : DS} {k q : Nat} (ho : (d.at q).o ≠ (d.at k).o) : ∀ j, d.mc1 q j k = 0
  | 0 => rfl
  | j + 1 => by
    show d.mc1 q j k + _ = 0
    rw [mc1_other ho j, hit_other ho]
    rfl
theorem mc_skip {d : DS} {k q : Nat} (hq : q < d.m.ns) (h : d.isOf q 4 (d.at k).o = false) : d.mc (q + 1) k = d.mc q k := by
  show d.mc q k + _ = _
  by_cases ht : (d.at q).t = 4
  · rw [if_pos ht, mc1_other]
    · rfl
    · intro e
      unfold DS.isOf at h
      simp [hq, ht, e] at h
  · rw [if_neg ht]
    rfl
theorem mc_take {d : DS} {k q : Nat} (h : d.isOf q 4 (d.at k).o = true) : d.mc (q + 1) k = d.mc q k + d.mc1 q 1024 k ∧ (d.at q).o = (d.at k).o := by
  unfold DS.isOf at h
  simp at h
  exact ⟨by show d.mc q k + _ = _; rw [if_pos h.2.1], h.2.2⟩
theorem once_d (w : World) (p : Rp) (d : DS) (h : RDB w p d) (hu : d.m.U) (k : Nat) (hk : k < d.m.ns) (ht : (d.at k).t = 5) :
    Calls Tryz.prog 135 #[ptr p.g, .int .i64 (k : Int)] w fun e w' => e = .returned (.bool (((d.mc d.m.ns k : Nat) : Int) == 1)) ∧ Below w.heap.size w w' := by
  have HV := hid h
  have HW : Hid (∀ (q : Nat) w (j : Nat), RDB w p d → Calls Tryz.prog 156 #[ptr p.g, .int .i64 (q : Int), .int .i64 (j : Int)] w fun e w' => e = .returned (.int .u32 (d.w q j)) ∧ Below w.heap.size w w') := hid (fun q w j h => word_d w p d h (q : Int) (j : Int))
  have HPs := hid (fun q j w => rps_any w (d.w q j) (hu.word true (q : Int) (j : Int)).1 (hu.word true (q : Int) (j : Int)).2)
  have HNat := hid (fun q j => ps_nat (u := d.w q j) (hu.word true (q : Int) (j : Int)).1)
  have HOf := hid (fun w h n => ofN_d w p d h n 4 (d.at k).o)
  have HRw := hid (fun w (h : RDB w p d) => And.intro h.c1 (h.row k hk).2.1)
  have HSk := hid (fun q hq h => mc_skip (d := d) (k := k) (q := q) hq h)
  have HTk := hid (fun q h => mc_take (d := d) (k := k) (q := q) h)
  have HHt := hid (fun q j ho => hit_same (d := d) (k := k) (q := q) (j := j) hk ht ho)
  have HM1 : Hid (∀ q j, d.mc1 q (j + 1) k = d.mc1 q j k + (if d.hit q j k = true then 1 else 0)) := hid (fun _ _ => rfl)
  have HM0 : Hid (∀ q, d.mc1 q 0 k = 0) := hid (fun _ => rfl)
  have HC0 : Hid (d.mc 0 k = 0) := hid rfl
  have HOh : Hid (∀ q j, d.oh k q j = ((psE (d.w q j) == 0) && ((ps (d.w q j)).s && ((ps (d.w q j)).p.toNat == k)))) := hid (fun _ _ => rfl)
  have HLe := hid (fun q => mc_le d k q)
  have HL1 := hid (fun q j => mc1_le d q k j)
  have n64 := h.ok.n64
  have HN := hid (And.intro hk n64)
  have q1 : (k : Int) < (d.m.ns : Int) := by omega
  clear h hu hk ht
  simp only [ptr] at *
  generalize (d.at k).o = ow at *
  generalize hn : d.m.ns = n at *
  clear hn
  go_enter Tryz.func135, Tryz.ntmps135
  go_upto_region 3 with fail
  go_loopw [5, 6] (fun t i wr => ∃ q : Nat, q ≤ n ∧ i = .int .i64 (q : Int) ∧ t = .int .i64 (d.mc q k : Int) ∧ Hid (Below w.heap.size w wr)) (fun _ i _ => n - (intOf i).toNat)
  case atStart => exact ⟨0, Nat.zero_le _, rfl, by rw [HC0.out]; rfl, hid (Below.refl _ _)⟩
  case round =>
    obtain ⟨q, hq, rfl, rfl, HQ⟩ := hrel
    have HVq := hid (HV.out.on HQ.out)
    obtain ⟨x1, x2⟩ := HRw.out _ HVq.out
    have hnn := HN.out
    have hle := HLe.out q
    by_cases hlt : q < n
    · have q2 : (q : Int) < (n : Int) := by omega
      have q3 : (q : Int) ≤ 64 := by omega
      have HJq := hid (And.intro hlt hnn.2)
      have HOq := hid (HOf.out _ HVq.out q)
      cases hz : d.isOf q 4 ow
      · rw [hz] at HOq
        have HE := hid (HSk.out q hlt hz)
        clear hz hlt hq hnn hle
        generalize d.mc q k = c at *
        go_wp2_with (go_at_call 158; refine HOq.out.mono ?_; rintro e wx ⟨rfl, hx⟩; subst wx)
        go_roundw
        case measure => have := HJq.out; simp [intOf] <;> omega
        case rel => exact ⟨q + 1, HJq.out.1, by simp, by rw [HE.out], hid HQ.out⟩
      · rw [hz] at HOq
        obtain ⟨e1, eo⟩ := HTk.out q hz
        have HE := hid e1
        have HHq := hid (fun j => HHt.out q j eo)
        clear hz hlt hq hnn e1 eo
        have HLq := hid hle
        clear hle
        generalize d.mc q k = c at *
        go_upto_region 7 with (go_at_call 158; refine HOq.out.mono ?_; rintro e wx ⟨rfl, hx⟩; subst wx)
        clear x1 x2 HOq
        go_loopw [5, 7] (fun t i wr => ∃ j : Nat, j ≤ 1024 ∧ i = .int .i64 (j : Int) ∧ t = .int .i64 ((c + d.mc1 q j k : Nat) : Int) ∧ Hid (Below w.heap.size w wr)) (fun _ i _ => 1024 - (intOf i).toNat)
        case atStart => exact ⟨0, Nat.zero_le _, rfl, by rw [HM0.out]; rfl, hid HQ.out⟩
        case round =>
          obtain ⟨j, hj, rfl, rfl, HQ2⟩ := hrel
          by_cases hlt : j < 1024
          · have q4 : (j : Int) < 1024 := by omega
            have HJ := hid hlt
            have HWj := hid (HW.out q · j ·)
            have HPj := hid (HPs.out q j)
            have HNj := hid (HNat.out q j)
            have HOj : Hid (d.mc1 q (j + 1) k = d.mc1 q j k + (if ((psE (d.w q j) == 0) && ((ps (d.w q j)).s && ((ps (d.w q j)).p.toNat == k))) = true then 1 else 0)) := hid (by rw [HM1.out, HHq.out, HOh.out])
            have l1 := HL1.out q j
            have l2 := HLq.out
            have l3 := HJq.out
            have lc : ((c + d.mc1 q j k : Nat) : Int) ≤ 100000 := by omega
            have lc0 : 0 ≤ ((c + d.mc1 q j k : Nat) : Int) := by omega
            clear hlt hj l1 l2 l3
            generalize d.w q j = u at *
            generalize d.mc1 q j k = m1 at *
            by_cases hu0 : u = 0
            · subst hu0
              have HO2 : Hid (d.mc1 q (j + 1) k = m1) := hid (by rw [HOj.out]; rfl)
              go_wp2_with (go_at_call 156; refine (HWj.out _ (HV.out.on HQ2.out)).mono ?_; rintro e w2 ⟨rfl, hb⟩; have B2 := hid (below_on HQ2.out hb); clear hb)
              go_roundw
              case measure => have := HJ.out; simp [intOf] <;> omega
              case rel => exact ⟨j + 1, HJ.out, by simp, congrArg (Value.int .i64) (by have := HO2.out; omega), hid B2.out⟩
            · have hu1 : (u == 0) = false := by simpa using hu0
              generalize psE u = pe at *
              generalize ps u = M at *
              obtain ⟨sb, pp, wr4, ex4⟩ := M
              have hNj : pp = ((pp.toNat : Nat) : Int) := HNj.out
              unfold Mp.v at HPj
              simp only at HPj HOj
              generalize pp.toNat = pn at *
              subst hNj
              clear hu0 HNj
              go_upto_region 12 with (first | (go_at_call 156; refine (HWj.out _ (HV.out.on HQ2.out)).mono ?_; rintro e w2 ⟨rfl, hb⟩; have B2 := hid (below_on HQ2.out hb); clear hb) | (go_at_call 160; refine (HPj.out _).mono ?_; rintro e w4 ⟨rfl, hb⟩; have B4 := hid (below_on B2.out hb); clear hb) | (refine wpList_store_st rfl 204 _ _ rfl w4.heap.size [.bool sb, .int .i64 (pn : Int), .bool wr4, .bool ex4] rfl rfl (Cel.new w4 204 [.bool false, .int .i64 0, .bool false, .bool false]) size204 rfl rfl ?_; intro w5 hc hb hs; have C5 := hid (And.intro hc (below_on B4.out ((below_one w4 _).trans (hb.below (by simp) (by simp))))); clear hc hb hs))
              clear B4 B2
              generalize w4.heap.size = g9 at *
              have x7 := C5.out.1.cell 0
              have x8 := C5.out.1.cell 1
              simp only [List.getElem?_cons_zero, List.getElem?_cons_succ] at x7 x8
              cases hp : (pe == 0)
              · have HO2 : Hid (d.mc1 q (j + 1) k = m1) := hid (by rw [HOj.out, hp]; rfl)
                go_wp2_with fail
                go_roundw
                case measure => have := HJ.out; simp [intOf] <;> omega
                case rel => exact ⟨j + 1, HJ.out, by simp, congrArg (Value.int .i64) (by have := HO2.out; omega), hid C5.out.2⟩
              · cases sb
                · have HO2 : Hid (d.mc1 q (j + 1) k = m1) := hid (by rw [HOj.out]; simp)
                  go_wp2_with fail
                  go_roundw
                  case measure => have := HJ.out; simp [intOf] <;> omega
                  case rel => exact ⟨j + 1, HJ.out, by simp, congrArg (Value.int .i64) (by have := HO2.out; omega), hid C5.out.2⟩
                · by_cases hpk : pn = k
                  · have HO2 : Hid (d.mc1 q (j + 1) k = m1 + 1) := hid (by rw [HOj.out, hp]; simp [hpk])
                    have hpk' : ((pn : Int) == (k : Int)) = true := by simp [hpk]
                    clear hpk
                    go_wp2_with fail
                    go_roundw
                    case measure => have := HJ.out; simp [intOf] <;> omega
                    case rel => exact ⟨j + 1, HJ.out, by simp, congrArg (Value.int .i64) (by have := HO2.out; omega), hid C5.out.2⟩
                  · have HO2 : Hid (d.mc1 q (j + 1) k = m1) := hid (by rw [HOj.out]; simp [hpk])
                    have hpk' : ((pn : Int) == (k : Int)) = false := by simp; omega
                    clear hpk
                    go_wp2_with fail
                    go_roundw
                    case measure => have := HJ.out; simp [intOf] <;> omega
                    case rel => exact ⟨j + 1, HJ.out, by simp, congrArg (Value.int .i64) (by have := HO2.out; omega), hid C5.out.2⟩
          · have hjn : j = 1024 := by omega
            subst hjn
            clear hlt hj
            generalize d.mc1 q 1024 k = m1 at *
            go_wp2_with fail
            go_roundw
            case measure => have := HJq.out; simp [intOf] <;> omega
            case rel => exact ⟨q + 1, HJq.out.1, by simp, by rw [HE.out], hid HQ2.out⟩
    · have hqn : q = n := by omega
      subst hqn
      clear hlt hq hnn hle x2
      generalize hcc : d.mc q k = c at *
      have HCC := hid hcc
      clear hcc
      go_wp2_with fail
      go_ret
      rw [HCC.out]
      exact ⟨rfl, HQ.out⟩
end Go.Proofs.YtildhjiddidghaaGreatDoor
namespace Go.Proofs.YtildhjiddidghaaGreatDoor.R
open Go.RowKit
set_option maxHeartbeats 4000000
set_option maxRecDepth 100000
attribute [-simp] Tryz.isAgg191 Tryz.sizeOf191 Tryz.isAgg207 Tryz.sizeOf207 Tryz.isAgg189
theorem rflagged_0 (W : World) (f : F) : Calls Tryz.prog 181 #[f.v, .int .u32 0] W fun e W' => e = .returned (.tuple #[(f.fl false false false).v, .int .i64 0]) ∧ Below W.heap.size W W' := by
  have hP := prep W 207 207 f
  have y16 := (hP.box.cell 16).trans f.at16
  have y17 := (hP.box.cell 17).trans f.at17
  have y18 := (hP.box.cell 18).trans f.at18
  have z16 := hP.box.free 16
  have z17 := hP.box.free 17
  have z18 := hP.box.free 18
  have HQ := hid (hP.set3 false false false)
  generalize f.fl false false false = f' at *
  clear hP
  unfold F.v
  generalize hc : f.cs.toArray = C at *
  clear hc
  go_enter Tryz.func181, Tryz.ntmps181
  go_upto_region 1 with fail
  generalize hX : (W.alloc _).alloc _ = X at *
  clear hX
  go_upto_region 6 with fail
  generalize hZ : World.setCell _ _ _ = Z at *
  clear hZ y16 y17 y18 z16 z17 z18
  go_wp2_with (first | (refine wpList_build_zero' rfl rfl ?_) | (refine wpList_load_g rfl _ rfl W.heap.size f' rfl HQ.out.box ?_) | (refine wpList_store_g rfl _ _ rfl (W.heap.size + 1) F.zero f' rfl rfl HQ.out.res ?_; intro w1 hc1 hb1 hs1; have HRR := hid (HQ.out.ret hc1 hb1); clear hc1 hb1 hs1))
  refine ret_st2 rfl rfl (W.heap.size + 1) _ rfl HRR.out.1 under25 rfl (by rw [size25]; simp [F.len]) ⟨rfl, HRR.out.2⟩
theorem rflagged_1 (W : World) (f : F) : Calls Tryz.prog 181 #[f.v, .int .u32 1] W fun e W' => e = .returned (.tuple #[(f.fl true false false).v, .int .i64 0]) ∧ Below W.heap.size W W' := by
  have hP := prep W 207 207 f
  have y16 := (hP.box.cell 16).trans f.at16
  have y17 := (hP.box.cell 17).trans f.at17
  have y18 := (hP.box.cell 18).trans f.at18
  have z16 := hP.box.free 16
  have z17 := hP.box.free 17
  have z18 := hP.box.free 18
  have HQ := hid (hP.set3 true false false)
  generalize f.fl true false false = f' at *
  clear hP
  unfold F.v
  generalize hc : f.cs.toArray = C at *
  clear hc
  go_enter Tryz.func181, Tryz.ntmps181
  go_upto_region 1 with fail
  generalize hX : (W.alloc _).alloc _ = X at *
  clear hX
  go_upto_region 6 with fail
  generalize hZ : World.setCell _ _ _ = Z at *
  clear hZ y16 y17 y18 z16 z17 z18
  go_wp2_with (first | (refine wpList_build_zero' rfl rfl ?_) | (refine wpList_load_g rfl _ rfl W.heap.size f' rfl HQ.out.box ?_) | (refine wpList_store_g rfl _ _ rfl (W.heap.size + 1) F.zero f' rfl rfl HQ.out.res ?_; intro w1 hc1 hb1 hs1; have HRR := hid (HQ.out.ret hc1 hb1); clear hc1 hb1 hs1))
  refine ret_st2 rfl rfl (W.heap.size + 1) _ rfl HRR.out.1 under25 rfl (by rw [size25]; simp [F.len]) ⟨rfl, HRR.out.2⟩
theorem rflagged_2 (W : World) (f : F) : Calls Tryz.prog 181 #[f.v, .int .u32 2] W fun e W' => e = .returned (.tuple #[(f.fl false true false).v, .int .i64 0]) ∧ Below W.heap.size W W' := by
  have hP := prep W 207 207 f
  have y16 := (hP.box.cell 16).trans f.at16
  have y17 := (hP.box.cell 17).trans f.at17
  have y18 := (hP.box.cell 18).trans f.at18
  have z16 := hP.box.free 16
  have z17 := hP.box.free 17
  have z18 := hP.box.free 18
  have HQ := hid (hP.set3 false true false)
  generalize f.fl false true false = f' at *
  clear hP
  unfold F.v
  generalize hc : f.cs.toArray = C at *
  clear hc
  go_enter Tryz.func181, Tryz.ntmps181
  go_upto_region 1 with fail
  generalize hX : (W.alloc _).alloc _ = X at *
  clear hX
  go_upto_region 6 with fail
  generalize hZ : World.setCell _ _ _ = Z at *
  clear hZ y16 y17 y18 z16 z17 z18
  go_wp2_with (first | (refine wpList_build_zero' rfl rfl ?_) | (refine wpList_load_g rfl _ rfl W.heap.size f' rfl HQ.out.box ?_) | (refine wpList_store_g rfl _ _ rfl (W.heap.size + 1) F.zero f' rfl rfl HQ.out.res ?_; intro w1 hc1 hb1 hs1; have HRR := hid (HQ.out.ret hc1 hb1); clear hc1 hb1 hs1))
  refine ret_st2 rfl rfl (W.heap.size + 1) _ rfl HRR.out.1 under25 rfl (by rw [size25]; simp [F.len]) ⟨rfl, HRR.out.2⟩
theorem rflagged_4 (W : World) (f : F) : Calls Tryz.prog 181 #[f.v, .int .u32 4] W fun e W' => e = .returned (.tuple #[(f.fl false false true).v, .int .i64 0]) ∧ Below W.heap.size W W' := by
  have hP := prep W 207 207 f
  have y16 := (hP.box.cell 16).trans f.at16
  have y17 := (hP.box.cell 17).trans f.at17
  have y18 := (hP.box.cell 18).trans f.at18
  have z16 := hP.box.free 16
  have z17 := hP.box.free 17
  have z18 := hP.box.free 18
  have HQ := hid (hP.set3 false false true)
  generalize f.fl false false true = f' at *
  clear hP
  unfold F.v
  generalize hc : f.cs.toArray = C at *
  clear hc
  go_enter Tryz.func181, Tryz.ntmps181
  go_upto_region 1 with fail
  generalize hX : (W.alloc _).alloc _ = X at *
  clear hX
  go_upto_region 6 with fail
  generalize hZ : World.setCell _ _ _ = Z at *
  clear hZ y16 y17 y18 z16 z17 z18
  go_wp2_with (first | (refine wpList_build_zero' rfl rfl ?_) | (refine wpList_load_g rfl _ rfl W.heap.size f' rfl HQ.out.box ?_) | (refine wpList_store_g rfl _ _ rfl (W.heap.size + 1) F.zero f' rfl rfl HQ.out.res ?_; intro w1 hc1 hb1 hs1; have HRR := hid (HQ.out.ret hc1 hb1); clear hc1 hb1 hs1))
  refine ret_st2 rfl rfl (W.heap.size + 1) _ rfl HRR.out.1 under25 rfl (by rw [size25]; simp [F.len]) ⟨rfl, HRR.out.2⟩
theorem rflagged_6 (W : World) (f : F) : Calls Tryz.prog 181 #[f.v, .int .u32 6] W fun e W' => e = .returned (.tuple #[(f.fl false true true).v, .int .i64 0]) ∧ Below W.heap.size W W' := by
  have hP := prep W 207 207 f
  have y16 := (hP.box.cell 16).trans f.at16
  have y17 := (hP.box.cell 17).trans f.at17
  have y18 := (hP.box.cell 18).trans f.at18
  have z16 := hP.box.free 16
  have z17 := hP.box.free 17
  have z18 := hP.box.free 18
  have HQ := hid (hP.set3 false true true)
  generalize f.fl false true true = f' at *
  clear hP
  unfold F.v
  generalize hc : f.cs.toArray = C at *
  clear hc
  go_enter Tryz.func181, Tryz.ntmps181
  go_upto_region 1 with fail
  generalize hX : (W.alloc _).alloc _ = X at *
  clear hX
  go_upto_region 6 with fail
  generalize hZ : World.setCell _ _ _ = Z at *
  clear hZ y16 y17 y18 z16 z17 z18
  go_wp2_with (first | (refine wpList_build_zero' rfl rfl ?_) | (refine wpList_load_g rfl _ rfl W.heap.size f' rfl HQ.out.box ?_) | (refine wpList_store_g rfl _ _ rfl (W.heap.size + 1) F.zero f' rfl rfl HQ.out.res ?_; intro w1 hc1 hb1 hs1; have HRR := hid (HQ.out.ret hc1 hb1); clear hc1 hb1 hs1))
  refine ret_st2 rfl rfl (W.heap.size + 1) _ rfl HRR.out.1 under25 rfl (by rw [size25]; simp [F.len]) ⟨rfl, HRR.out.2⟩
theorem rflagged_no (W : World) (f : F) (w : Int) (h : gw w = false) : Calls Tryz.prog 181 #[f.v, .int .u32 w] W fun e W' => e = .returned (.tuple #[F.zero.v, .int .i64 80]) ∧ Below W.heap.size W W' := by
  have hP := prep W 207 207 f
  have HQ := hid hP
  have e0 : (w != 0) = true := by simp [gw] at h; simp [h]
  have e1 : (w != 1) = true := by simp [gw] at h; simp [h]
  have e2 : (w != 2) = true := by simp [gw] at h; simp [h]
  have e4 : (w != 4) = true := by simp [gw] at h; simp [h]
  have e6 : (w != 6) = true := by simp [gw] at h; simp [h]
  clear hP h
  unfold F.v
  generalize hc : f.cs.toArray = C at *
  clear hc
  go_enter Tryz.func181, Tryz.ntmps181
  go_upto_region 1 with fail
  generalize hX : (W.alloc _).alloc _ = X at *
  clear hX
  go_wp2_with (first | (refine wpList_build_zero' rfl rfl ?_) | (refine wpList_load_g rfl _ rfl W.heap.size F.zero rfl HQ.out.box ?_) | (refine wpList_store_g rfl _ _ rfl (W.heap.size + 1) F.zero F.zero rfl rfl HQ.out.res ?_; intro w1 hc1 hb1 hs1; have HRR := hid (HQ.out.ret hc1 hb1); clear hc1 hb1 hs1))
  refine ret_st2 rfl rfl (W.heap.size + 1) _ rfl HRR.out.1 under25 rfl (by rw [size25]; simp [F.len]) ⟨rfl, HRR.out.2⟩
theorem rflagged_any (W : World) (f : F) (w : Int) : Calls Tryz.prog 181 #[f.v, .int .u32 w] W fun e W' => e = .returned (flaggedV f w) ∧ Below W.heap.size W W' := by
  unfold flaggedV F.flagged
  cases hg : gw w with
  | false => exact rflagged_no W f w hg
  | true =>
    have hx : w = 0 ∨ w = 1 ∨ w = 2 ∨ w = 4 ∨ w = 6 := by simpa [gw, Bool.or_eq_true, beq_iff_eq, or_assoc] using hg
    rcases hx with rfl | rfl | rfl | rfl | rfl
    · exact rflagged_0 W f
    · exact rflagged_1 W f
    · exact rflagged_2 W f
    · exact rflagged_4 W f
    · exact rflagged_6 W f
structure RU (W wr : World) (g o : Nat) (x : Nat → Int) (f : F) : Prop where
  res : Cel wr W.heap.size 207 F.zero.cs
  fil : Cel wr (W.heap.size + 1) 207 f.cs
  wds : W17 wr g o x
  below : Below W.heap.size W wr
theorem RU.on {W wr w' : World} {g o : Nat} {x : Nat → Int} {f : F} (h : RU W wr g o x f) (hb : Below wr.heap.size wr w') : RU W w' g o x f := ⟨h.res.on hb, h.fil.on hb, h.wds.on hb, below_on h.below hb⟩
theorem RU.set {W wr : World} {g o : Nat} {x : Nat → Int} {f f' : F} (hg : g < W.heap.size) (h : RU W wr g o x f) (j : Nat) (v : Value) (hs : f.cs.set j v = f'.cs) : RU W (wr.setCell ⟨W.heap.size + 1, j, none⟩ v) g o x f' := by
  have hb := ButL.setCell (G := [W.heap.size + 1]) wr (W.heap.size + 1) j v (by simp)
  have hB : Below W.heap.size wr _ := hb.below (by simp) h.below.size
  exact ⟨h.res.but hb (by rw [List.mem_singleton]; omega), by rw [← hs]; exact h.fil.setCell j v, ⟨Nat.lt_of_lt_of_le h.wds.lt hb.size, fun k hk => (hB.cell (p := ⟨g, o + k, none⟩) hg).trans (h.wds.at' k hk)⟩, h.below.trans hB⟩
def upk (x : Nat → Int) (k : Nat) (p : Int) : F := ⟨fun j => if j < k then x j else 0, p, false, false, false⟩
theorem upk_set (x : Nat → Int) (k : Nat) (hk : k < 15) : (upk x k 0).cs.set k (.int .u32 (x k)) = (upk x (k + 1) 0).cs := by
  rw [F.set _ k hk]
  apply F.cs_eq
  rw [F.same_iff]
  refine ⟨fun j _ => ?_, rfl, rfl, rfl, rfl⟩
  show (if j = k then x k else if j < k then x j else 0) = if j < k + 1 then x j else 0
  by_cases e : j = k
  · subst e; simp
  · rw [if_neg e]; by_cases h : j < k
    · rw [if_pos h, if_pos (by omega)]
    · rw [if_neg h, if_neg (by omega)]
theorem upk_pc (x : Nat → Int) (p : Int) : (upk x 15 0).cs.set 15 (.int .u32 p) = (up x p).cs := by
  rw [F.set15]
  apply F.cs_eq
  rw [F.same_iff]
  refine ⟨fun j hj => ?_, rfl, rfl, rfl, rfl⟩
  show (if j < 15 then x j else 0) = x j
  rw [if_pos hj]
theorem runpack_yes (W : World) (g o c : Nat) (x : Nat → Int) (hw : W17 W g o x) : Calls Tryz.prog 162 #[.slice (some ⟨g, o, none⟩) 17 c] W fun e W' => e = .returned (unpackV x) ∧ Below W.heap.size W W' := by
  have HL := hid hw.lt
  have c1 : Cel (W.alloc (.cells #[.int .u32 0, .int .u32 0, .int .u32 0, .int .u32 0, .int .u32 0, .int .u32 0, .int .u32 0, .int .u32 0, .int .u32 0, .int .u32 0, .int .u32 0, .int .u32 0, .int .u32 0, .int .u32 0, .int .u32 0, .int .u32 0, .bool false, .bool false, .bool false] 207)) W.heap.size 207 F.zero.cs := by rw [zc]; exact Cel.new W 207 F.zero.cs
  have c2 : Cel ((W.alloc (.cells #[.int .u32 0, .int .u32 0, .int .u32 0, .int .u32 0, .int .u32 0, .int .u32 0, .int .u32 0, .int .u32 0, .int .u32 0, .int .u32 0, .int .u32 0, .int .u32 0, .int .u32 0, .int .u32 0, .int .u32 0, .int .u32 0, .bool false, .bool false, .bool false] 207)).alloc (.cells #[.int .u32 0, .int .u32 0, .int .u32 0, .int .u32 0, .int .u32 0, .int .u32 0, .int .u32 0, .int .u32 0, .int .u32 0, .int .u32 0, .int .u32 0, .int .u32 0, .int .u32 0, .int .u32 0, .int .u32 0, .int .u32 0, .bool false, .bool false, .bool false] 207)) (W.alloc (.cells #[.int .u32 0, .int .u32 0, .int .u32 0, .int .u32 0, .int .u32 0, .int .u32 0, .int .u32 0, .int .u32 0, .int .u32 0, .int .u32 0, .int .u32 0, .int .u32 0, .int .u32 0, .int .u32 0, .int .u32 0, .int .u32 0, .bool false, .bool false, .bool false] 207)).heap.size 207 F.zero.cs := by rw [zc]; exact Cel.new (W.alloc (.cells F.zero.cs.toArray 207)) 207 F.zero.cs
  rw [show (W.alloc (Obj.cells #[.int .u32 0, .int .u32 0, .int .u32 0, .int .u32 0, .int .u32 0, .int .u32 0, .int .u32 0, .int .u32 0, .int .u32 0, .int .u32 0, .int .u32 0, .int .u32 0, .int .u32 0, .int .u32 0, .int .u32 0, .int .u32 0, .bool false, .bool false, .bool false] 207)).heap.size = W.heap.size + 1 by show (W.heap.push _).size = _; simp] at c2
  have HU : Hid (RU W ((W.alloc (.cells #[.int .u32 0, .int .u32 0, .int .u32 0, .int .u32 0, .int .u32 0, .int .u32 0, .int .u32 0, .int .u32 0, .int .u32 0, .int .u32 0, .int .u32 0, .int .u32 0, .int .u32 0, .int .u32 0, .int .u32 0, .int .u32 0, .bool false, .bool false, .bool false] 207)).alloc (.cells #[.int .u32 0, .int .u32 0, .int .u32 0, .int .u32 0, .int .u32 0, .int .u32 0, .int .u32 0, .int .u32 0, .int .u32 0, .int .u32 0, .int .u32 0, .int .u32 0, .int .u32 0, .int .u32 0, .int .u32 0, .int .u32 0, .bool false, .bool false, .bool false] 207)) g o x F.zero) := hid ⟨c1.on (below_one _ _), c2, hw.on (below_two _ _ _), below_two _ _ _⟩
  have HF := hid fun w => rflagged_any w (up x (x 15)) (x 16)
  obtain ⟨f', er, hf⟩ := flaggedV_form (up x (x 15)) (x 16)
  have HV : Hid (Value.tuple #[F.v f', .int .i64 er] = unpackV x) := hid hf.symm
  rw [hf] at HF
  clear c1 c2 hw hf
  go_enter Tryz.func162, Tryz.ntmps162
  go_upto_region 4 with fail
  generalize hX : (W.alloc _).alloc _ = X at *
  clear hX
  go_wp2_with fail
  go_loopw [5] (fun i wr => ∃ k : Nat, k ≤ 15 ∧ i = .int .i64 (k : Int) ∧ Hid (RU W wr g o x (upk x k 0))) (fun i _ => 15 - (intOf i).toNat)
  case atStart => exact ⟨0, by omega, rfl, HU⟩
  case round =>
    clear HU
    obtain ⟨k, hk, rfl, HI⟩ := hrel
    by_cases hlt : k < 15
    · have c1 : (k : Int) < 15 := by omega
      have c2 : (k : Int) < 17 := by omega
      have y0 := HI.out.wds.at' k (by omega)
      have y1 := (HI.out.fil.cell k).trans ((upk x k 0).at k hlt)
      have y2 := HI.out.fil.free k
      have HN := hid (HI.out.set HL.out k (.int .u32 (x k)) (upk_set x k hlt))
      clear HI
      go_wp2_with fail
      go_roundw
      case measure => simp [intOf] <;> omega
      case rel => exact ⟨k + 1, by omega, by go_num, HN⟩
    · obtain rfl : k = 15 := by omega
      have y0 := HI.out.wds.at' 15 (by omega)
      have y1 := (HI.out.fil.cell 15).trans (upk x 15 0).at15
      have y2 := HI.out.fil.free 15
      have HN := hid (HI.out.set HL.out 15 (.int .u32 (x 15)) (upk_pc x (x 15)))
      clear HI
      go_upto_region 9 with fail
      generalize hZ : World.setCell _ _ _ = Z at *
      clear hZ y0 y1 y2
      have HU := hid (HN.out.on (Below.refl _ _).drew)
      clear HN
      generalize hp : x 15 = p at *
      clear hp
      obtain ⟨q, HQ16⟩ : ∃ q, Hid (x 16 = q) := ⟨_, rfl⟩
      rw [HQ16.out] at HF
      refine wp_region_held_drew (S := fun x' => Cel x' (W.heap.size + 1) 207 (up x p).cs ∧ W17 x' g o x) (by kernel_rfl) ⟨HU.out.fil, HU.out.wds⟩ (fun hHeld => ?_)
      refine tk 0 (some 25) ((up x p).v) ?_ (hy := yieldsIf_load_mid (by rfl) 207 _ rfl (W.heap.size + 1) 0 rfl (up x p).cs _ (fun w hSw => hSw.1.range) under25 rfl (by rw [size25, F.len]))
      simp only [Act.put, tqA, tqZ, tqS]
      refine tk 1 (some 26) (.slice (some ⟨g, o, none⟩) 17 c) ?_
      simp only [Act.put, tqA, tqZ, tqS]
      refine tk 2 (some 27) (.pointer (some ⟨g, o + 16, none⟩)) ?_
      simp only [Act.put, tqA, tqZ, tqS]
      refine tk 3 (some 28) (.int .u32 q) ?_ (hy := Or.inl ⟨by rfl, by intro w hSw; have y := hSw.2.at' 16 (by decide); rw [HQ16.out] at y; go_simp⟩)
      simp only [Act.put, tqA, tqZ, tqS]
      refine wpAnyH_ready (rs := [4]) (by kernel_rfl) (by simp) (AllReadyH.cons (o := ⟨some 29, .call { callee := .value (.func 181), args := #[.tmp 25, .tmp 28], argTypes := #[207, 22] }, 208, "ref.go:114", #[⟨0, .data⟩, ⟨3, .data⟩], none⟩) rfl (fun KQ hK => ?_) AllReadyH.nil)
      go_simp
      refine (HF.out _).mono ?_
      rintro e w2 ⟨rfl, hb2⟩
      have HU3 := hid (HU.out.on hb2)
      clear hb2 HU
      go_wp2_with fail
      refine hK.out _ _ ⟨HU3.out.fil, HU3.out.wds⟩ (fun hHeld => ?_)
      clear hK KQ
      try simp only [Act.put, tqA, tqZ, tqS]
      refine tk 5 (some 30) f'.v ?_
      simp only [Act.put, tqA, tqZ, tqS]
      refine tk 6 (some 31) (.int .i64 er) ?_
      simp only [Act.put, tqA, tqZ, tqS]
      refine wpAnyH_ready (rs := [7]) (by kernel_rfl) (by simp) (AllReadyH.cons (o := ⟨none, .store 207 (.tmp 2) (.tmp 30), 0, "ref.go:114", #[⟨5, .data⟩, ⟨4, .chain⟩, ⟨0, .phase⟩, ⟨1, .phase⟩, ⟨2, .phase⟩, ⟨3, .phase⟩, ⟨4, .phase⟩, ⟨5, .phase⟩, ⟨6, .phase⟩], none⟩) rfl (fun KQ hK => ?_) AllReadyH.nil)
      rw [if_pos (by rfl)]
      refine wp_store_st 207 _ _ rfl W.heap.size f'.cs rfl rfl HU3.out.res (by rw [size25, F.len]) (by rw [F.len, F.len]) f'.all ?_
      have hb3 := ButL.setRow (G := [W.heap.size]) w2 W.heap.size f'.cs.toArray (by simp)
      have hB3 : Below W.heap.size w2 _ := hb3.below (by simp) HU3.out.below.size
      have HSU := hid (And.intro (HU3.out.fil.but hb3 (by rw [List.mem_singleton]; omega)) (show W17 (w2.setRow W.heap.size f'.cs.toArray) g o x from ⟨Nat.lt_of_lt_of_le HU3.out.wds.lt hb3.size, fun k hk => (hB3.cell (p := ⟨g, o + k, none⟩) HL.out).trans (HU3.out.wds.at' k hk)⟩))
      have HRR := hid (And.intro (HU3.out.res.set f'.cs) (HU3.out.below.trans hB3))
      clear hb3 hB3 HU3
      generalize hy : World.setRow _ W.heap.size _ = Y2 at *
      clear hy
      refine hK.out _ _ HSU.out (fun hHeld => ?_)
      clear hK KQ
      try simp only [Act.put]
      refine wpAnyH_ready (rs := [8]) (by kernel_rfl) (by simp) (AllReadyH.cons (o := ⟨some 3, .assign (.tmp 31), 3, "ref.go:114", #[⟨6, .data⟩, ⟨7, .chain⟩, ⟨0, .phase⟩, ⟨1, .phase⟩, ⟨2, .phase⟩, ⟨3, .phase⟩, ⟨4, .phase⟩, ⟨5, .phase⟩, ⟨6, .phase⟩, ⟨7, .phase⟩], none⟩) rfl (fun KQ hK => ?_) AllReadyH.nil)
      go_simp
      refine hK.out _ _ HSU.out (fun hHeld => ?_)
      clear hK KQ
      try simp only [Act.put, tqA, tqZ, tqS]
      refine wpAnyH_done (by kernel_rfl) ?_ _
      go_wp2_with fail
      refine ret_st2 rfl rfl W.heap.size _ rfl HRR.out.1 under25 rfl (by rw [size25]; simp [F.len]) ⟨congrArg _ HV.out, HRR.out.2⟩
end Go.Proofs.YtildhjiddidghaaGreatDoor.R
