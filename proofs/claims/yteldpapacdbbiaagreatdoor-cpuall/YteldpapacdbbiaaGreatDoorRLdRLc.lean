/- regs: question (21), Holds (10). regs: Compare (8), settled (24), question (21), Holds (10). -/
import Derived.Test.YteldpapacdbbiaaGreatDoorRLa
import Derived.Deep.DeepCutAuto
namespace Go.Proofs.YteldpapacdbbiaaGreatDoor
open Go.RowKit
set_option maxRecDepth 100000
set_option maxHeartbeats 1000000
attribute [-simp] Tryz.isAgg26 Tryz.sizeOf26 Tryz.isAgg24
def hold (c : Int) (z n l : Bool) : Bool := if c = 0 then true else if c = 1 then z else if c = 2 then !z else if c = 3 then n else if c = 4 then !n else if c = 5 then l else if c = 6 then !l else false
theorem clo35 (w : World) : Calls Tryz.prog 109 #[] w fun e w' => e = .returned (.bool true) ∧ w = w' := by
  go_enter Tryz.func109, Tryz.ntmps109
  go_wp2
  go_ret
  exact ⟨rfl, rfl⟩
theorem clo42 (w : World) : Calls Tryz.prog 116 #[] w fun e w' => e = .returned (.bool false) ∧ w = w' := by
  go_enter Tryz.func116, Tryz.ntmps116
  go_wp2
  go_ret
  exact ⟨rfl, rfl⟩
theorem clo36 (w : World) (g : Nat) (b : Bool) (h : w.cell? ⟨g, 0, none⟩ = some (.bool b)) : Calls Tryz.prog 110 #[.pointer (some ⟨g, 0, none⟩)] w fun e w' => e = .returned (.bool (b)) ∧ w = w' := by
  go_enter Tryz.func110, Tryz.ntmps110
  go_wp2
  go_ret
  exact ⟨rfl, rfl⟩
theorem clo37 (w : World) (g : Nat) (b : Bool) (h : w.cell? ⟨g, 0, none⟩ = some (.bool b)) : Calls Tryz.prog 111 #[.pointer (some ⟨g, 0, none⟩)] w fun e w' => e = .returned (.bool (!b)) ∧ w = w' := by
  go_enter Tryz.func111, Tryz.ntmps111
  go_wp2
  go_ret
  exact ⟨rfl, rfl⟩
theorem clo38 (w : World) (g : Nat) (b : Bool) (h : w.cell? ⟨g, 0, none⟩ = some (.bool b)) : Calls Tryz.prog 112 #[.pointer (some ⟨g, 0, none⟩)] w fun e w' => e = .returned (.bool (b)) ∧ w = w' := by
  go_enter Tryz.func112, Tryz.ntmps112
  go_wp2
  go_ret
  exact ⟨rfl, rfl⟩
theorem clo39 (w : World) (g : Nat) (b : Bool) (h : w.cell? ⟨g, 0, none⟩ = some (.bool b)) : Calls Tryz.prog 113 #[.pointer (some ⟨g, 0, none⟩)] w fun e w' => e = .returned (.bool (!b)) ∧ w = w' := by
  go_enter Tryz.func113, Tryz.ntmps113
  go_wp2
  go_ret
  exact ⟨rfl, rfl⟩
theorem clo40 (w : World) (g : Nat) (b : Bool) (h : w.cell? ⟨g, 0, none⟩ = some (.bool b)) : Calls Tryz.prog 114 #[.pointer (some ⟨g, 0, none⟩)] w fun e w' => e = .returned (.bool (b)) ∧ w = w' := by
  go_enter Tryz.func114, Tryz.ntmps114
  go_wp2
  go_ret
  exact ⟨rfl, rfl⟩
theorem clo41 (w : World) (g : Nat) (b : Bool) (h : w.cell? ⟨g, 0, none⟩ = some (.bool b)) : Calls Tryz.prog 115 #[.pointer (some ⟨g, 0, none⟩)] w fun e w' => e = .returned (.bool (!b)) ∧ w = w' := by
  go_enter Tryz.func115, Tryz.ntmps115
  go_wp2
  go_ret
  exact ⟨rfl, rfl⟩
theorem box3 (W : World) (z n l : Bool) : ∀ X, X = ((W.alloc (.cells #[.bool z] 4)).alloc (.cells #[.bool n] 4)).alloc (.cells #[.bool l] 4) → X.cell? ⟨W.heap.size, 0, none⟩ = some (.bool z) ∧ X.cell? ⟨W.heap.size + 1, 0, none⟩ = some (.bool n) ∧ X.cell? ⟨W.heap.size + 1 + 1, 0, none⟩ = some (.bool l) ∧ Below W.heap.size W X := by
  rintro X rfl
  have a1 : Cel (W.alloc (.cells #[.bool z] 4)) W.heap.size 4 [.bool z] := Cel.new W 4 [.bool z]
  have s1 : (W.alloc (.cells #[.bool z] 4)).heap.size = W.heap.size + 1 := by show (W.heap.push _).size = _; simp
  have b1 := below_one W (.cells #[.bool z] 4)
  generalize W.alloc (.cells #[.bool z] 4) = X1 at *
  have a2 : Cel (X1.alloc (.cells #[.bool n] 4)) X1.heap.size 4 [.bool n] := Cel.new X1 4 [.bool n]
  have s2 : (X1.alloc (.cells #[.bool n] 4)).heap.size = X1.heap.size + 1 := by show (X1.heap.push _).size = _; simp
  have b2 := below_one X1 (.cells #[.bool n] 4)
  generalize X1.alloc (.cells #[.bool n] 4) = X2 at *
  have a3 : Cel (X2.alloc (.cells #[.bool l] 4)) X2.heap.size 4 [.bool l] := Cel.new X2 4 [.bool l]
  have b3 := below_one X2 (.cells #[.bool l] 4)
  rw [s2, s1] at a3
  rw [s1] at a2
  exact ⟨((a1.on b2).on b3).cell 0, (a2.on b3).cell 0, a3.cell 0, below_on (below_on b1 b2) b3⟩
theorem quest0 (W : World) (z n l : Bool) : Calls Tryz.prog 102 #[.int .i64 0, .bool z, .bool n, .bool l] W fun e X => e = .returned (.func (.func 109) #[] #[]) ∧ X.cell? ⟨W.heap.size, 0, none⟩ = some (.bool z) ∧ X.cell? ⟨W.heap.size + 1, 0, none⟩ = some (.bool n) ∧ X.cell? ⟨W.heap.size + 1 + 1, 0, none⟩ = some (.bool l) ∧ Below W.heap.size W X := by
  have HB := hid (box3 W z n l)
  have hmf : ∀ (fn : Fn) (first cap : Array Value) (w : World), (Instr.makeFunc fn first cap).run Tryz.prog w = .ok (.func fn first cap) w := fun _ _ _ _ => rfl
  go_enter Tryz.func102, Tryz.ntmps102
  go_wp2
  go_ret
  exact ⟨rfl, HB.out _ rfl⟩
theorem quest1 (W : World) (z n l : Bool) : Calls Tryz.prog 102 #[.int .i64 1, .bool z, .bool n, .bool l] W fun e X => e = .returned (.func (.func 110) #[] #[.pointer (some ⟨W.heap.size, 0, none⟩)]) ∧ X.cell? ⟨W.heap.size, 0, none⟩ = some (.bool z) ∧ X.cell? ⟨W.heap.size + 1, 0, none⟩ = some (.bool n) ∧ X.cell? ⟨W.heap.size + 1 + 1, 0, none⟩ = some (.bool l) ∧ Below W.heap.size W X := by
  have HB := hid (box3 W z n l)
  have hmf : ∀ (fn : Fn) (first cap : Array Value) (w : World), (Instr.makeFunc fn first cap).run Tryz.prog w = .ok (.func fn first cap) w := fun _ _ _ _ => rfl
  go_enter Tryz.func102, Tryz.ntmps102
  go_wp2
  go_ret
  exact ⟨rfl, HB.out _ rfl⟩
theorem quest2 (W : World) (z n l : Bool) : Calls Tryz.prog 102 #[.int .i64 2, .bool z, .bool n, .bool l] W fun e X => e = .returned (.func (.func 111) #[] #[.pointer (some ⟨W.heap.size, 0, none⟩)]) ∧ X.cell? ⟨W.heap.size, 0, none⟩ = some (.bool z) ∧ X.cell? ⟨W.heap.size + 1, 0, none⟩ = some (.bool n) ∧ X.cell? ⟨W.heap.size + 1 + 1, 0, none⟩ = some (.bool l) ∧ Below W.heap.size W X := by
  have HB := hid (box3 W z n l)
  have hmf : ∀ (fn : Fn) (first cap : Array Value) (w : World), (Instr.makeFunc fn first cap).run Tryz.prog w = .ok (.func fn first cap) w := fun _ _ _ _ => rfl
  go_enter Tryz.func102, Tryz.ntmps102
  go_wp2
  go_ret
  exact ⟨rfl, HB.out _ rfl⟩
theorem quest3 (W : World) (z n l : Bool) : Calls Tryz.prog 102 #[.int .i64 3, .bool z, .bool n, .bool l] W fun e X => e = .returned (.func (.func 112) #[] #[.pointer (some ⟨W.heap.size + 1, 0, none⟩)]) ∧ X.cell? ⟨W.heap.size, 0, none⟩ = some (.bool z) ∧ X.cell? ⟨W.heap.size + 1, 0, none⟩ = some (.bool n) ∧ X.cell? ⟨W.heap.size + 1 + 1, 0, none⟩ = some (.bool l) ∧ Below W.heap.size W X := by
  have HB := hid (box3 W z n l)
  have hmf : ∀ (fn : Fn) (first cap : Array Value) (w : World), (Instr.makeFunc fn first cap).run Tryz.prog w = .ok (.func fn first cap) w := fun _ _ _ _ => rfl
  go_enter Tryz.func102, Tryz.ntmps102
  go_wp2
  go_ret
  exact ⟨rfl, HB.out _ rfl⟩
theorem quest4 (W : World) (z n l : Bool) : Calls Tryz.prog 102 #[.int .i64 4, .bool z, .bool n, .bool l] W fun e X => e = .returned (.func (.func 113) #[] #[.pointer (some ⟨W.heap.size + 1, 0, none⟩)]) ∧ X.cell? ⟨W.heap.size, 0, none⟩ = some (.bool z) ∧ X.cell? ⟨W.heap.size + 1, 0, none⟩ = some (.bool n) ∧ X.cell? ⟨W.heap.size + 1 + 1, 0, none⟩ = some (.bool l) ∧ Below W.heap.size W X := by
  have HB := hid (box3 W z n l)
  have hmf : ∀ (fn : Fn) (first cap : Array Value) (w : World), (Instr.makeFunc fn first cap).run Tryz.prog w = .ok (.func fn first cap) w := fun _ _ _ _ => rfl
  go_enter Tryz.func102, Tryz.ntmps102
  go_wp2
  go_ret
  exact ⟨rfl, HB.out _ rfl⟩
theorem quest5 (W : World) (z n l : Bool) : Calls Tryz.prog 102 #[.int .i64 5, .bool z, .bool n, .bool l] W fun e X => e = .returned (.func (.func 114) #[] #[.pointer (some ⟨W.heap.size + 1 + 1, 0, none⟩)]) ∧ X.cell? ⟨W.heap.size, 0, none⟩ = some (.bool z) ∧ X.cell? ⟨W.heap.size + 1, 0, none⟩ = some (.bool n) ∧ X.cell? ⟨W.heap.size + 1 + 1, 0, none⟩ = some (.bool l) ∧ Below W.heap.size W X := by
  have HB := hid (box3 W z n l)
  have hmf : ∀ (fn : Fn) (first cap : Array Value) (w : World), (Instr.makeFunc fn first cap).run Tryz.prog w = .ok (.func fn first cap) w := fun _ _ _ _ => rfl
  go_enter Tryz.func102, Tryz.ntmps102
  go_wp2
  go_ret
  exact ⟨rfl, HB.out _ rfl⟩
theorem quest6 (W : World) (z n l : Bool) : Calls Tryz.prog 102 #[.int .i64 6, .bool z, .bool n, .bool l] W fun e X => e = .returned (.func (.func 115) #[] #[.pointer (some ⟨W.heap.size + 1 + 1, 0, none⟩)]) ∧ X.cell? ⟨W.heap.size, 0, none⟩ = some (.bool z) ∧ X.cell? ⟨W.heap.size + 1, 0, none⟩ = some (.bool n) ∧ X.cell? ⟨W.heap.size + 1 + 1, 0, none⟩ = some (.bool l) ∧ Below W.heap.size W X := by
  have HB := hid (box3 W z n l)
  have hmf : ∀ (fn : Fn) (first cap : Array Value) (w : World), (Instr.makeFunc fn first cap).run Tryz.prog w = .ok (.func fn first cap) w := fun _ _ _ _ => rfl
  go_enter Tryz.func102, Tryz.ntmps102
  go_wp2
  go_ret
  exact ⟨rfl, HB.out _ rfl⟩
theorem quest7 (W : World) (c : Int) (h0 : ¬ c = 0) (h1 : ¬ c = 1) (h2 : ¬ c = 2) (h3 : ¬ c = 3) (h4 : ¬ c = 4) (h5 : ¬ c = 5) (h6 : ¬ c = 6) (z n l : Bool) : Calls Tryz.prog 102 #[.int .i64 c, .bool z, .bool n, .bool l] W fun e X => e = .returned (.func (.func 116) #[] #[]) ∧ X.cell? ⟨W.heap.size, 0, none⟩ = some (.bool z) ∧ X.cell? ⟨W.heap.size + 1, 0, none⟩ = some (.bool n) ∧ X.cell? ⟨W.heap.size + 1 + 1, 0, none⟩ = some (.bool l) ∧ Below W.heap.size W X := by
  have HB := hid (box3 W z n l)
  have hmf : ∀ (fn : Fn) (first cap : Array Value) (w : World), (Instr.makeFunc fn first cap).run Tryz.prog w = .ok (.func fn first cap) w := fun _ _ _ _ => rfl
  go_enter Tryz.func102, Tryz.ntmps102
  go_wp2
  go_ret
  exact ⟨rfl, HB.out _ rfl⟩
theorem holds_any (W : World) (f : F) (c : Int) : Calls Tryz.prog 87 #[f.v, .int .i64 c] W fun e W' => e = .returned (.bool (hold c f.z f.n f.l)) ∧ Below W.heap.size W W' := by
  have c0 := Cel.new W 26 f.cs
  have y16 := (c0.cell 16).trans f.at16
  have y17 := (c0.cell 17).trans f.at17
  have y18 := (c0.cell 18).trans f.at18
  have HB := hid (below_one W (.cells f.cs.toArray 26))
  have HZ : Hid ((W.alloc (.cells f.cs.toArray 26)).heap.size = W.heap.size + 1) := hid (by show (W.heap.push _).size = _; simp)
  clear c0
  generalize f.z = z at *
  generalize f.n = n at *
  generalize f.l = l at *
  unfold F.v
  generalize hc : f.cs.toArray = C at *
  clear hc
  by_cases h0 : c = 0
  · subst h0
    go_enter Tryz.func87, Tryz.ntmps87
    go_wp2_with fail
    refine (quest0 _ _ _ _).mono ?_
    rintro e X ⟨rfl, q1, q2, q3, hb⟩
    rw [HZ.out] at q1 q2 q3
    try rw [HZ.out]
    have HX := hid (below_on HB.out hb)
    clear hb
    go_wp2_with fail
    refine (clo35 _).mono ?_
    rintro e w' ⟨rfl, rfl⟩
    go_wp2_with fail
    go_ret
    exact ⟨rfl, HX.out⟩
  by_cases h1 : c = 1
  · subst h1
    go_enter Tryz.func87, Tryz.ntmps87
    go_wp2_with fail
    refine (quest1 _ _ _ _).mono ?_
    rintro e X ⟨rfl, q1, q2, q3, hb⟩
    rw [HZ.out] at q1 q2 q3
    try rw [HZ.out]
    have HX := hid (below_on HB.out hb)
    clear hb
    go_wp2_with fail
    refine (clo36 _ _ _ q1).mono ?_
    rintro e w' ⟨rfl, rfl⟩
    go_wp2_with fail
    go_ret
    exact ⟨rfl, HX.out⟩
  by_cases h2 : c = 2
  · subst h2
    go_enter Tryz.func87, Tryz.ntmps87
    go_wp2_with fail
    refine (quest2 _ _ _ _).mono ?_
    rintro e X ⟨rfl, q1, q2, q3, hb⟩
    rw [HZ.out] at q1 q2 q3
    try rw [HZ.out]
    have HX := hid (below_on HB.out hb)
    clear hb
    go_wp2_with fail
    refine (clo37 _ _ _ q1).mono ?_
    rintro e w' ⟨rfl, rfl⟩
    go_wp2_with fail
    go_ret
    exact ⟨rfl, HX.out⟩
  by_cases h3 : c = 3
  · subst h3
    go_enter Tryz.func87, Tryz.ntmps87
    go_wp2_with fail
    refine (quest3 _ _ _ _).mono ?_
    rintro e X ⟨rfl, q1, q2, q3, hb⟩
    rw [HZ.out] at q1 q2 q3
    try rw [HZ.out]
    have HX := hid (below_on HB.out hb)
    clear hb
    go_wp2_with fail
    refine (clo38 _ _ _ q2).mono ?_
    rintro e w' ⟨rfl, rfl⟩
    go_wp2_with fail
    go_ret
    exact ⟨rfl, HX.out⟩
  by_cases h4 : c = 4
  · subst h4
    go_enter Tryz.func87, Tryz.ntmps87
    go_wp2_with fail
    refine (quest4 _ _ _ _).mono ?_
    rintro e X ⟨rfl, q1, q2, q3, hb⟩
    rw [HZ.out] at q1 q2 q3
    try rw [HZ.out]
    have HX := hid (below_on HB.out hb)
    clear hb
    go_wp2_with fail
    refine (clo39 _ _ _ q2).mono ?_
    rintro e w' ⟨rfl, rfl⟩
    go_wp2_with fail
    go_ret
    exact ⟨rfl, HX.out⟩
  by_cases h5 : c = 5
  · subst h5
    go_enter Tryz.func87, Tryz.ntmps87
    go_wp2_with fail
    refine (quest5 _ _ _ _).mono ?_
    rintro e X ⟨rfl, q1, q2, q3, hb⟩
    rw [HZ.out] at q1 q2 q3
    try rw [HZ.out]
    have HX := hid (below_on HB.out hb)
    clear hb
    go_wp2_with fail
    refine (clo40 _ _ _ q3).mono ?_
    rintro e w' ⟨rfl, rfl⟩
    go_wp2_with fail
    go_ret
    exact ⟨rfl, HX.out⟩
  by_cases h6 : c = 6
  · subst h6
    go_enter Tryz.func87, Tryz.ntmps87
    go_wp2_with fail
    refine (quest6 _ _ _ _).mono ?_
    rintro e X ⟨rfl, q1, q2, q3, hb⟩
    rw [HZ.out] at q1 q2 q3
    try rw [HZ.out]
    have HX := hid (below_on HB.out hb)
    clear hb
    go_wp2_with fail
    refine (clo41 _ _ _ q3).mono ?_
    rintro e w' ⟨rfl, rfl⟩
    go_wp2_with fail
    go_ret
    exact ⟨rfl, HX.out⟩
  have HH : Hid (hold c z n l = false) := hid (by unfold hold; rw [if_neg h0, if_neg h1, if_neg h2, if_neg h3, if_neg h4, if_neg h5, if_neg h6])
  rw [HH.out]
  have HQ := hid fun (w : World) (z n l : Bool) => quest7 w c h0 h1 h2 h3 h4 h5 h6 z n l
  clear h0 h1 h2 h3 h4 h5 h6
  go_enter Tryz.func87, Tryz.ntmps87
  go_wp2_with fail
  refine (HQ.out _ _ _ _).mono ?_
  rintro e X ⟨rfl, q1, q2, q3, hb⟩
  rw [HZ.out] at q1 q2 q3
  try rw [HZ.out]
  have HX := hid (below_on HB.out hb)
  clear hb
  go_wp2_with fail
  refine (clo42 _).mono ?_
  rintro e w' ⟨rfl, rfl⟩
  go_wp2_with fail
  go_ret
  exact ⟨rfl, HX.out⟩
end Go.Proofs.YteldpapacdbbiaaGreatDoor
namespace Go.Proofs.YteldpapacdbbiaaGreatDoor
open Go.RowKit
set_option maxRecDepth 100000
set_option maxHeartbeats 1000000
attribute [-simp] Tryz.isAgg26 Tryz.sizeOf26 Tryz.isAgg24
def F.fl (f : F) (z n l : Bool) : F := { f with z := z, n := n, l := l }
def F.cmp (f : F) (a b : Int) : F := f.fl (a == b) (decide (wrap32 a < wrap32 b)) (decide (a < b))
theorem Prep.set3 {W X : World} {t u : TypeId} {f : F} (h : Prep W X t u f) (z n l : Bool) : Prep W (((X.setCell ⟨W.heap.size, 16, none⟩ (.bool z)).setCell ⟨W.heap.size, 17, none⟩ (.bool n)).setCell ⟨W.heap.size, 18, none⟩ (.bool l)) t u (f.fl z n l) :=
  ((h.set (f' := { f with z := z }) 16 (.bool z) (f.set16 z)).set (f' := { f with z := z, n := n }) 17 (.bool n) (F.set17 _ n)).set (f' := f.fl z n l) 18 (.bool l) (F.set18 _ l)
theorem Prep.set2 {W X : World} {t u : TypeId} {f : F} (h : Prep W X t u f) (n l : Bool) : Prep W ((X.setCell ⟨W.heap.size, 17, none⟩ (.bool n)).setCell ⟨W.heap.size, 18, none⟩ (.bool l)) t u (f.fl f.z n l) :=
  (h.set (f' := { f with n := n }) 17 (.bool n) (f.set17 n)).set (f' := f.fl f.z n l) 18 (.bool l) (F.set18 _ l)
theorem compare_any (W : World) (f : F) (a b : Int) : Calls Tryz.prog 51 #[f.v, .int .u32 a, .int .u32 b] W fun e W' => e = .returned (f.cmp a b).v ∧ Below W.heap.size W W' := by
  have hP := prep W 26 26 f
  have HP := hid hP
  have y16 := (hP.box.cell 16).trans f.at16
  have y17 := (hP.box.cell 17).trans f.at17
  have y18 := (hP.box.cell 18).trans f.at18
  have z16 := hP.box.free 16
  have z17 := hP.box.free 17
  have z18 := hP.box.free 18
  have HQ := hid (hP.set3 (a == b) (decide (wrap32 a < wrap32 b)) (decide (a < b)))
  rw [show f.fl (a == b) (decide (wrap32 a < wrap32 b)) (decide (a < b)) = f.cmp a b from rfl] at HQ
  generalize f.cmp a b = f' at *
  clear hP
  unfold F.v
  generalize hc : f.cs.toArray = C at *
  clear hc
  go_enter Tryz.func51, Tryz.ntmps51
  go_wp2_with fail
  refine (less_any _ _ _).mono ?_
  rintro e w' ⟨rfl, rfl⟩
  generalize hX : (W.alloc _).alloc _ = X at *
  clear hX
  go_wp2_with (first | (refine wpList_load_f rfl _ rfl W.heap.size f' rfl HQ.out.box ?_) | (refine wpList_store_f rfl _ _ rfl (W.heap.size + 1) F.zero f' rfl rfl HQ.out.res ?_; intro w1 hc1 hb1 hs1; have HRR := hid (HQ.out.ret hc1 hb1); clear hc1 hb1 hs1))
  refine ret_st rfl rfl (W.heap.size + 1) _ rfl HRR.out.1 under27 rfl (by rw [size27]; simp [F.len]) ⟨rfl, HRR.out.2⟩
def F.stl (f : F) : F := if f.z then f.fl true false false else f
end Go.Proofs.YteldpapacdbbiaaGreatDoor
