/- The document's Compare (28), Holds (29), Flags (31), Flagged (30), Start (34). What the document's Step 9 leans on. -/
import Derived.Test.YteldpapacdbbiaaGreatDoorZ1Z3Z4E4
import Derived.Test.YteldpapacdbbiaaGreatDoorA0Ab
import Derived.Test.YteldpapacdbbiaaGreatDoorRBsRLb
import Derived.Test.YteldpapacdbbiaaGreatDoorRLdRLc
import Derived.Test.YteldpapacdbbiaaGreatDoorE8
import Derived.Test.YteldpapacdbbiaaGreatDoorC6
import Derived.Test.YteldpapacdbbiaaGreatDoorC7C8
import Derived.Test.YteldpapacdbbiaaGreatDoorIRde
namespace Go.Proofs.YteldpapacdbbiaaGreatDoor
open Go.RowKit
set_option maxHeartbeats 4000000
set_option maxRecDepth 100000
attribute [-simp] Tryz.isAgg26 Tryz.sizeOf26 Tryz.isAgg34 Tryz.sizeOf34 Tryz.isAgg24
theorem rcompare_any (W : World) (f : F) (a b : Int) (a0 : 0 ≤ a) (a1 : a < 4294967296) (b0 : 0 ≤ b) (b1 : b < 4294967296) : Calls Tryz.prog 32 #[f.v, .int .u32 a, .int .u32 b] W fun e W' => e = .returned (f.cmp a b).v ∧ Below W.heap.size W W' := by
  have hP := prep W 34 34 f
  have y16 := (hP.box.cell 16).trans f.at16
  have y17 := (hP.box.cell 17).trans f.at17
  have y18 := (hP.box.cell 18).trans f.at18
  have z16 := hP.box.free 16
  have z17 := hP.box.free 17
  have z18 := hP.box.free 18
  have HQ := hid (hP.set3 (a == b) (decide (wrap32 a < wrap32 b)) (decide (a < b)))
  rw [show f.fl (a == b) (decide (wrap32 a < wrap32 b)) (decide (a < b)) = f.cmp a b from rfl] at HQ
  generalize f.cmp a b = f' at *
  have SA := hid fun w => Z.signed_any w a a0 a1
  have SB := hid fun w => Z.signed_any w b b0 b1
  have e1 : wrap64 a = a := by unfold wrap64; omega
  have e2 : wrap64 b = b := by unfold wrap64; omega
  clear hP
  unfold F.v
  generalize hc : f.cs.toArray = C at *
  clear hc
  go_enter Tryz.func32, Tryz.ntmps32
  go_upto_region 1 with fail
  generalize hX : (W.alloc _).alloc _ = X at *
  clear hX
  go_wp2_with fail
  refine (SA.out _).mono ?_
  rintro e w' ⟨rfl, rfl⟩
  go_wp2_with fail
  refine (SB.out _).mono ?_
  rintro e w' ⟨rfl, rfl⟩
  go_upto_region 4 with fail
  generalize hZ : World.setCell _ _ _ = Z at *
  clear hZ y16 y17 y18 z16 z17 z18
  go_wp2_with (first | (refine wpList_load_g rfl _ rfl W.heap.size f' rfl HQ.out.box ?_) | (refine wpList_store_g rfl _ _ rfl (W.heap.size + 1) F.zero f' rfl rfl HQ.out.res ?_; intro w1 hc1 hb1 hs1; have HRR := hid (HQ.out.ret hc1 hb1); clear hc1 hb1 hs1))
  refine ret_st rfl rfl (W.heap.size + 1) _ rfl HRR.out.1 under25 rfl (by rw [size25]; simp [F.len]) ⟨rfl, HRR.out.2⟩
theorem rholds_any (W : World) (f : F) (c : Int) : Calls Tryz.prog 33 #[f.v, .int .i64 c] W fun e W' => e = .returned (.bool (hold c f.z f.n f.l)) ∧ Below W.heap.size W W' := by
  have c0 := Cel.new W 34 f.cs
  have y16 := (c0.cell 16).trans f.at16
  have y17 := (c0.cell 17).trans f.at17
  have y18 := (c0.cell 18).trans f.at18
  have HB := hid (below_one W (.cells f.cs.toArray 34))
  clear c0
  generalize f.z = z at *
  generalize f.n = n at *
  generalize f.l = l at *
  unfold F.v
  generalize hc : f.cs.toArray = C at *
  clear hc
  by_cases h0 : c = 0
  · subst h0
    go_enter Tryz.func33, Tryz.ntmps33
    go_wp2_with fail
    go_ret
    exact ⟨rfl, HB.out⟩
  by_cases h1 : c = 1
  · subst h1
    go_enter Tryz.func33, Tryz.ntmps33
    go_wp2_with fail
    go_ret
    exact ⟨rfl, HB.out⟩
  by_cases h2 : c = 2
  · subst h2
    go_enter Tryz.func33, Tryz.ntmps33
    go_wp2_with fail
    go_ret
    exact ⟨rfl, HB.out⟩
  by_cases h3 : c = 3
  · subst h3
    go_enter Tryz.func33, Tryz.ntmps33
    go_wp2_with fail
    go_ret
    exact ⟨rfl, HB.out⟩
  by_cases h4 : c = 4
  · subst h4
    go_enter Tryz.func33, Tryz.ntmps33
    go_wp2_with fail
    go_ret
    exact ⟨rfl, HB.out⟩
  by_cases h5 : c = 5
  · subst h5
    go_enter Tryz.func33, Tryz.ntmps33
    go_wp2_with fail
    go_ret
    exact ⟨rfl, HB.out⟩
  by_cases h6 : c = 6
  · subst h6
    go_enter Tryz.func33, Tryz.ntmps33
    go_wp2_with fail
    go_ret
    exact ⟨rfl, HB.out⟩
  have HH : Hid (hold c z n l = false) := hid (by unfold hold; rw [if_neg h0, if_neg h1, if_neg h2, if_neg h3, if_neg h4, if_neg h5, if_neg h6])
  rw [HH.out]
  go_enter Tryz.func33, Tryz.ntmps33
  go_wp2_with fail
  go_ret
  exact ⟨rfl, HB.out⟩
end Go.Proofs.YteldpapacdbbiaaGreatDoor
namespace Go.Proofs.YteldpapacdbbiaaGreatDoor
open Go.RowKit
set_option maxRecDepth 100000
theorem size85r : (Tryz.prog.info? 85).map (·.size) = some 6 := by kernel_rfl
theorem under85r : Tryz.prog.underlying 85 = some (.struct (Tryz.prog.fieldsOf 85)) := by kernel_rfl
theorem zg_eq : zg = .cells F.zero.cs.toArray 34 := by unfold zg; rw [zc]
theorem zg_new (w : World) : Cel (w.alloc zg) w.heap.size 34 F.zero.cs := by rw [zg_eq]; exact Cel.new w 34 F.zero.cs
theorem zg_but {w w' : World} {G : List Nat} (h : ButL G (w.alloc zg) w') : ButL G (w.alloc (.cells F.zero.cs.toArray 34)) w' := by rw [← zg_eq]; exact h
theorem M3.new (W : World) (r : Rf) (m : MS) (h : RMem W r m) (f : F) : RB W (((W.alloc (.cells f.cs.toArray 34)).alloc zg).alloc (.cells (evc 0 0).toArray 42)) r r m [(W.heap.size + 1 + 1, 42, evc 0 0), (W.heap.size + 1, 34, F.zero.cs), (W.heap.size, 34, f.cs)] := by
  rw [zg_eq]
  have h5 := (((RB.start h).box 34 f.cs).box 34 F.zero.cs).box 42 (evc 0 0)
  simp only [World.size_alloc] at h5
  exact h5
theorem rc_two {m : MS} {l pc : Int} (h : m.trE l pc 2 = 0) : m.rcW l pc 2 0 = m.fw l pc := by unfold MS.rcW MS.fw; rw [if_pos h, if_neg (by decide)]
theorem rm_two {m : MS} {l pc : Int} (h : m.trE l pc 2 = 0) : m.rcM l pc 2 0 = m.fm l pc := by unfold MS.rcM MS.fm; rw [if_pos h, if_neg (by decide)]
end Go.Proofs.YteldpapacdbbiaaGreatDoor
