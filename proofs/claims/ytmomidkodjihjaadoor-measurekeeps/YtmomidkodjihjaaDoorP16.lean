import Derived.Test.YtmomidkodjihjaaDoorP15
import Derived.Test.YtmomidkodjihjaaDoorP01
namespace Go.Proofs.YtmomidkodjihjaaDoor
open Go.RowKit
open H
set_option maxHeartbeats 4000000
set_option maxRecDepth 100000
theorem run_append_k {V w : World} (ty : TypeId) {v : Value} {L : List Int} (H : Holds V w .u32 24 v L) (ad : Addr) (m c : Nat) (xs : List Int) (hl : xs.length = m) (hat : At w .u32 (some ad) xs) (hb : (L.length + m) * 4 ≤ 140737488355328) {g t : Nat} {cs : List Value} (hc : Cel w g t cs) (ht : t ≠ 24) :
    ∃ v' w', (Builtin.append_ #[22, 22] ty #[v, .slice (some ad) m c]).run Tryd.prog w = .ok v' w' ∧ Holds V w' .u32 24 v' (L ++ xs) ∧ Cel w' g t cs := by
  obtain ⟨i, hi, hz, hsize, hby⟩ := info_parts Tryd.info24
  obtain ⟨v', w', hr, h1, h2, _⟩ := run_append_own (P := Tryd.prog) w V.heap.size 22 ty 24 i (.int .u32 0) 1 4 Tryd.underlying22 hi hz hsize hby rfl (by decide) v L.length _ H.own ad m c (xs.map (Value.int .u32)) (by simp [hl]) hat.cells (ints_oneCell .u32 xs) (by unfold maxLen; omega) hb H.below.size
  refine ⟨v', w', hr, Holds.grow H.below (fun g hg => (H.own.lt g hg).1) h1 h2 (by simp [hl]) (by simp), ?_⟩
  refine (h2.block g hc.lt ?_).trans hc
  intro he
  rcases H.own.2 with ⟨rfl, _⟩ | ⟨gg, cap, cur, rfl, hg, hh, r⟩
  · cases he
  · have : gg = g := Option.some.inj he.symm
    subst this
    have h3 := hc.symm.trans hh
    have h4 := Option.some.inj h3
    injection h4 with _ h5
    exact ht h5
theorem wp_append_r {w w' : World} {o : Oper} {a : Act} {K : Act → World → Prop} {Q : Exit → Act → World → Prop} (s x : Operand) (ho : o.op = .call { callee := .builtin .append, args := #[s, x], argTypes := #[22, 22] }) (v : Value) (hs : a.eval s = v) (vx : Value) (hx : a.eval x = vx) {v' : Value}
    (hr : (Builtin.append_ #[22, 22] o.type #[v, vx]).run Tryd.prog w = .ok v' w') (h : K (a.put o.dst v') w') : o.wp Tryd.prog a w K Q := by
  unfold Oper.wp execOp
  simp only [ho, resolve, invoke, builtin, Sem.run_bind, Sem.run_pure, Result.andThen_ok, List.map_toArray, List.map_cons, List.map_nil, hs, hx, hr]
  exact h
theorem put_98 (V W : World) (av : Option Addr) (q cv : Nat) (L : List Int) (H : Holds V W .u32 24 (.slice av q cv) L) (hb : (L.length + 1025) * 4 ≤ 140737488355328) (a : Int) (ao : Option Addr) (c : Nat) (ws : List Int) (hw : ws.length = 1024) (hat : At V .u32 ao ws) :
    Calls Tryd.prog 98 #[.agg #[.int .u32 a, .slice ao 1024 c], .slice av q cv] W fun e W' => ∃ v', e = .returned v' ∧ Holds V W' .u32 24 v' (L ++ [a] ++ ws) := by
  obtain ⟨ad, rfl⟩ : ∃ ad, ao = some ad := by
    rcases hat with h0 | ⟨b, off, h1, _⟩
    · rw [h0] at hw; cases hw
    · exact ⟨_, h1⟩
  have X0 : Hid (Holds V (W.alloc (.cells #[.int .u32 a, .slice (some ad) 1024 c] 115)) .u32 24 (.slice av q cv) L ∧ Cel (W.alloc (.cells #[.int .u32 a, .slice (some ad) 1024 c] 115)) W.heap.size 115 [.int .u32 a, .slice (some ad) 1024 c]) := hid ⟨H.alloc _, heap_alloc_new _ _⟩
  have HA := hid hat
  have HL := hid hb
  have HW := hid hw
  have HG := hid H.below.size
  have HO : Hid (∀ g, (Value.slice av q cv).ownBlock = some g → g ≠ W.heap.size) := hid (fun g hg => by have := (H.own.lt g hg).2; omega)
  clear H hb hat hw
  go_enter Tryd.func98, Tryd.ntmps98
  go_upto_region 1 with fail
  generalize World.alloc _ _ = X at *
  generalize W.heap.size = gb at *
  have Y0 : Hid (Holds V X.drew .u32 24 (.slice av q cv) L ∧ Cel X.drew gb 115 [.int .u32 a, .slice (some ad) 1024 c]) := hid ⟨holds_drew X0.out.1, X0.out.2⟩
  clear X0
  refine wp_region_held_drew (S := fun w => Cel w gb 115 [.int .u32 a, .slice (some ad) 1024 c]) (by kernel_rfl) Y0.out.2 (fun hHeld => ?_)
  generalize World.drew _ = w0 at *
  refine tk 0 ⟨some 5, .move (.tmp 1), 22, "operation.go:27", #[], none⟩ (.slice av q cv) ?_
  simp only [Act.put, List.setIfInBounds_toArray, List.set_cons_zero, List.set_cons_succ]
  refine tk 1 ⟨some 6, .fieldAddr 115 (.tmp 2) 0, 0, "operation.go:27", #[], none⟩ (.pointer (some ⟨gb, 0, none⟩)) ?_
  simp only [Act.put, List.setIfInBounds_toArray, List.set_cons_zero, List.set_cons_succ]
  refine tk 2 ⟨some 7, .load 24 (.tmp 6), 24, "operation.go:27", #[⟨1, .data⟩], none⟩ (.int .u32 a) ?_ (hy := Or.inl ⟨by rfl, by intro w hSw; have hc := hSw.cell 0; simp only [List.getElem?_cons_zero] at hc; go_simp⟩)
  simp only [Act.put, List.setIfInBounds_toArray, List.set_cons_zero, List.set_cons_succ]
  refine tk 5 ⟨some 10, .fieldAddr 115 (.tmp 2) 1, 0, "operation.go:27", #[], none⟩ (.pointer (some ⟨gb, 1, none⟩)) ?_
  simp only [Act.put, List.setIfInBounds_toArray, List.set_cons_zero, List.set_cons_succ]
  refine tk 6 ⟨some 11, .load 22 (.tmp 10), 22, "operation.go:27", #[⟨5, .data⟩], none⟩ (.slice (some ad) 1024 c) ?_ (hy := Or.inl ⟨by rfl, by intro w hSw; have hc := hSw.cell 1; simp only [List.getElem?_cons_zero, List.getElem?_cons_succ] at hc; go_simp⟩)
  simp only [Act.put, List.setIfInBounds_toArray, List.set_cons_zero, List.set_cons_succ]
  refine wpAnyH_ready (rs := [3]) (by kernel_rfl) (by simp) (AllReadyH.cons (o := ⟨some 8, .buildSlice 22 1 #[(0, .tmp 7)], 22, "operation.go:27", #[⟨2, .data⟩], none⟩) rfl (fun KQ hK => ?_) AllReadyH.nil)
  go_simp
  have X1 : Hid (Holds V (w0.alloc (.cells #[.int .u32 a] 24)) .u32 24 (.slice av q cv) L ∧ Cel (w0.alloc (.cells #[.int .u32 a] 24)) gb 115 [.int .u32 a, .slice (some ad) 1024 c]) := hid ⟨Y0.out.1.alloc _, Y0.out.2.below (below_one w0 _) Y0.out.2.lt⟩
  have HS := hid (at_one w0 a)
  clear Y0
  generalize World.alloc _ _ = w1 at *
  generalize w0.heap.size = g1 at *
  refine hK.out _ _ X1.out.2 (fun hHeld => ?_)
  clear hK KQ
  try simp only [Act.put, List.setIfInBounds_toArray, List.set_cons_zero, List.set_cons_succ]
  refine wpAnyH_ready (rs := [4]) (by kernel_rfl) (by simp) (AllReadyH.cons (o := ⟨some 9, .call { callee := .builtin .append, args := #[.tmp 5, .tmp 8], argTypes := #[22, 22] }, 22, "operation.go:27", #[⟨0, .data⟩, ⟨3, .data⟩], none⟩) rfl (fun KQ hK => ?_) AllReadyH.nil)
  rw [if_pos (by rfl)]
  obtain ⟨v2, w2, hr, hh, hk⟩ := run_append_k _ X1.out.1 _ 1 1 [a] rfl HS.out (by have := HL.out; omega) X1.out.2 (by decide)
  refine wp_append_r _ _ rfl _ rfl _ rfl hr ?_
  have X2 := hid (And.intro hh hk)
  clear hr hh hk X1 HS
  refine hK.out _ _ X2.out.2 (fun hHeld => ?_)
  clear hK KQ
  try simp only [Act.put, List.setIfInBounds_toArray, List.set_cons_zero, List.set_cons_succ]
  refine wpAnyH_ready (rs := [7]) (by kernel_rfl) (by simp) (AllReadyH.cons (o := ⟨some 12, .call { callee := .builtin .append, args := #[.tmp 9, .tmp 11], argTypes := #[22, 22] }, 22, "operation.go:27", #[⟨4, .data⟩, ⟨6, .data⟩, ⟨4, .chain⟩], none⟩) rfl (fun KQ hK => ?_) AllReadyH.nil)
  rw [if_pos (by rfl)]
  obtain ⟨v3, w3, hr, hh, hk⟩ := run_append_k _ X2.out.1 ad 1024 c ws HW.out (HA.out.below X2.out.1.below) (by have := HL.out; rw [List.length_append]; simp only [List.length_singleton]; omega) X2.out.2 (by decide)
  refine wp_append_r _ _ rfl _ rfl _ rfl hr ?_
  have X3 := hid hh
  have X4 := hid hk
  clear hr hh hk X2
  refine hK.out _ _ X4.out (fun hHeld => ?_)
  clear hK KQ
  try simp only [Act.put, List.setIfInBounds_toArray, List.set_cons_zero, List.set_cons_succ]
  refine wpAnyH_ready (rs := [8]) (by kernel_rfl) (by simp) (AllReadyH.cons (o := ⟨some 4, .assign (.tmp 12), 22, "operation.go:27", #[⟨7, .data⟩, ⟨7, .chain⟩, ⟨0, .phase⟩, ⟨1, .phase⟩, ⟨2, .phase⟩, ⟨3, .phase⟩, ⟨4, .phase⟩, ⟨5, .phase⟩, ⟨6, .phase⟩, ⟨7, .phase⟩], none⟩) rfl (fun KQ hK => ?_) AllReadyH.nil)
  go_simp
  refine hK.out _ _ X4.out (fun hHeld => ?_)
  clear hK KQ
  try simp only [Act.put, List.setIfInBounds_toArray, List.set_cons_zero, List.set_cons_succ]
  refine wpAnyH_done (by kernel_rfl) ?_ _
  go_wp2_with fail
  go_ret
  exact ⟨_, rfl, X3.out⟩
theorem lay_1 (V W : World) (av : Option Addr) (q cv : Nat) (L : List Int) (H : Holds V W .u32 24 (.slice av q cv) L) (hb : (L.length + 1026) * 4 ≤ 140737488355328) (a : Int) :
    Calls Tryd.prog 39 #[.slice av q cv, .iface 112 (.int .u32 a)] W fun e W' => ∃ v', e = .returned v' ∧ Holds V W' .u32 24 v' (L ++ [1, a]) := by
  have HL := hid hb
  have HK := hid (fun w => kindOf_1 w a)
  have Y0 : Hid (Holds V W.drew .u32 24 (.slice av q cv) L) := hid (holds_drew H)
  clear H hb
  have na : ∀ w, (nilAhead 261 112 (.int .u32 a) "warden/measure.put").run Tryd.prog w = .ok (some false) w := fun w => by kernel_rfl
  have me : ∀ w, (Go.method 261 112 (.int .u32 a) "warden/measure.put").run Tryd.prog w = .ok (96, .int .u32 a) w := fun w => by kernel_rfl
  have kw : IntKind.wrap .u32 1 = 1 := rfl
  go_enter Tryd.func39, Tryd.ntmps39
  go_upto_region 1 with fail
  refine wp_region_held_drew (S := fun _ => True) (by kernel_rfl) trivial (fun hHeld => ?_)
  generalize World.drew _ = w0 at *
  refine tk 0 ⟨some 5, .move (.tmp 1), 89, "operation.go:71", #[], none⟩ (.iface 112 (.int .u32 a)) ?_
  simp only [Act.put, List.setIfInBounds_toArray, List.set_cons_zero, List.set_cons_succ]
  refine tk 1 ⟨some 6, .move (.tmp 0), 22, "operation.go:71", #[], none⟩ (.slice av q cv) ?_
  simp only [Act.put, List.setIfInBounds_toArray, List.set_cons_zero, List.set_cons_succ]
  refine tk 2 ⟨some 7, .move (.tmp 1), 89, "operation.go:71", #[], none⟩ (.iface 112 (.int .u32 a)) ?_
  simp only [Act.put, List.setIfInBounds_toArray, List.set_cons_zero, List.set_cons_succ]
  refine tk 7 ⟨some 12, .makeFunc (Fn.method "warden/measure.put") #[.tmp 5] #[], 117, "operation.go:71", #[⟨0, .data⟩], none⟩ (.func (Fn.method "warden/measure.put") #[.iface 112 (.int .u32 a)] #[]) ?_
  simp only [Act.put, List.setIfInBounds_toArray, List.set_cons_zero, List.set_cons_succ]
  refine tk 8 ⟨some 13, .nilCheck (.tmp 12), 117, "operation.go:71", #[⟨7, .data⟩], none⟩ (.func (Fn.method "warden/measure.put") #[.iface 112 (.int .u32 a)] #[]) ?_
  simp only [Act.put, List.setIfInBounds_toArray, List.set_cons_zero, List.set_cons_succ]
  refine tk 9 ⟨some 14, .move (.tmp 5), 89, "operation.go:71", #[⟨0, .data⟩, ⟨7, .data⟩, ⟨8, .data⟩], none⟩ (.iface 112 (.int .u32 a)) ?_
  simp only [Act.put, List.setIfInBounds_toArray, List.set_cons_zero, List.set_cons_succ]
  refine wpAnyH_ready (rs := [3]) (by kernel_rfl) (by simp) (AllReadyH.cons (o := ⟨some 8, .call { callee := .value (.func 56), args := #[.tmp 7], argTypes := #[89] }, 41, "operation.go:71", #[⟨2, .data⟩], none⟩) rfl (fun KQ hK => ?_) AllReadyH.nil)
  go_simp
  refine (HK.out _).mono ?_
  rintro e w1 ⟨rfl, hw1⟩
  subst w1
  go_wp2_with fail
  refine hK.out _ _ trivial (fun hHeld => ?_)
  clear hK KQ
  try simp only [Act.put, List.setIfInBounds_toArray, List.set_cons_zero, List.set_cons_succ]
  refine tk 4 ⟨some 9, .convert 41 24 (.tmp 8), 24, "operation.go:71", #[⟨3, .data⟩], none⟩ (.int .u32 1) ?_
  simp only [Act.put, List.setIfInBounds_toArray, List.set_cons_zero, List.set_cons_succ]
  refine wpAnyH_ready (rs := [5]) (by kernel_rfl) (by simp) (AllReadyH.cons (o := ⟨some 10, .buildSlice 22 1 #[(0, .tmp 9)], 22, "operation.go:71", #[⟨4, .data⟩], none⟩) rfl (fun KQ hK => ?_) AllReadyH.nil)
  go_simp
  have Y1 : Hid (Holds V (w0.alloc (.cells #[.int .u32 1] 24)) .u32 24 (.slice av q cv) L) := hid (Y0.out.alloc _)
  have HS := hid (at_one w0 1)
  clear Y0
  generalize World.alloc _ _ = w1 at *
  generalize w0.heap.size = g1 at *
  refine hK.out _ _ trivial (fun hHeld => ?_)
  clear hK KQ
  try simp only [Act.put, List.setIfInBounds_toArray, List.set_cons_zero, List.set_cons_succ]
  refine wpAnyH_ready (rs := [6]) (by kernel_rfl) (by simp) (AllReadyH.cons (o := ⟨some 11, .call { callee := .builtin .append, args := #[.tmp 6, .tmp 10], argTypes := #[22, 22] }, 22, "operation.go:71", #[⟨1, .data⟩, ⟨5, .data⟩, ⟨3, .chain⟩], none⟩) rfl (fun KQ hK => ?_) AllReadyH.nil)
  rw [if_pos (by rfl)]
  refine wp_append_h _ _ rfl _ L rfl Y1.out _ 1 1 [1] rfl rfl HS.out (by have := HL.out; omega) ?_
  intro v2 w2 hh
  obtain ⟨ao2, c2, hv, _⟩ := hh.at'
  rw [List.length_append, List.length_singleton] at hv
  subst hv
  have Y2 := hid hh
  clear hh Y1 HS
  refine hK.out _ _ trivial (fun hHeld => ?_)
  clear hK KQ
  try simp only [Act.put, List.setIfInBounds_toArray, List.set_cons_zero, List.set_cons_succ]
  refine wpAnyH_ready (rs := [10]) (by kernel_rfl) (by simp) (AllReadyH.cons (o := ⟨some 15, .call { callee := .invoke (.tmp 14) "warden/measure.put", args := #[.tmp 11], argTypes := #[22] }, 22, "operation.go:71", #[⟨9, .data⟩, ⟨6, .data⟩, ⟨6, .chain⟩], none⟩) rfl (fun KQ hK => ?_) AllReadyH.nil)
  go_simp
  refine (put_96 V _ _ _ _ _ Y2.out (by have := HL.out; rw [List.length_append]; simp only [List.length_singleton]; omega) a).mono ?_
  rintro e w3 ⟨v3, rfl, h3⟩
  have Y3 := hid h3
  clear h3 Y2
  go_wp2_with fail
  refine hK.out _ _ trivial (fun hHeld => ?_)
  clear hK KQ
  try simp only [Act.put, List.setIfInBounds_toArray, List.set_cons_zero, List.set_cons_succ]
  refine wpAnyH_ready (rs := [11]) (by kernel_rfl) (by simp) (AllReadyH.cons (o := ⟨some 4, .assign (.tmp 15), 22, "operation.go:71", #[⟨10, .data⟩, ⟨10, .chain⟩, ⟨0, .phase⟩, ⟨1, .phase⟩, ⟨2, .phase⟩, ⟨3, .phase⟩, ⟨4, .phase⟩, ⟨5, .phase⟩, ⟨6, .phase⟩, ⟨7, .phase⟩, ⟨8, .phase⟩, ⟨9, .phase⟩, ⟨10, .phase⟩], none⟩) rfl (fun KQ hK => ?_) AllReadyH.nil)
  go_simp
  refine hK.out _ _ trivial (fun hHeld => ?_)
  clear hK KQ
  try simp only [Act.put, List.setIfInBounds_toArray, List.set_cons_zero, List.set_cons_succ]
  refine wpAnyH_done (by kernel_rfl) ?_ _
  go_wp2_with fail
  go_ret
  refine ⟨_, rfl, ?_⟩
  have := Y3.out
  simpa using this
theorem lay_2 (V W : World) (av : Option Addr) (q cv : Nat) (L : List Int) (H : Holds V W .u32 24 (.slice av q cv) L) (hb : (L.length + 1026) * 4 ≤ 140737488355328) (a : Int) :
    Calls Tryd.prog 39 #[.slice av q cv, .iface 113 (.int .u32 a)] W fun e W' => ∃ v', e = .returned v' ∧ Holds V W' .u32 24 v' (L ++ [2, a]) := by
  have HL := hid hb
  have HK := hid (fun w => kindOf_2 w a)
  have Y0 : Hid (Holds V W.drew .u32 24 (.slice av q cv) L) := hid (holds_drew H)
  clear H hb
  have na : ∀ w, (nilAhead 261 113 (.int .u32 a) "warden/measure.put").run Tryd.prog w = .ok (some false) w := fun w => by kernel_rfl
  have me : ∀ w, (Go.method 261 113 (.int .u32 a) "warden/measure.put").run Tryd.prog w = .ok (97, .int .u32 a) w := fun w => by kernel_rfl
  have kw : IntKind.wrap .u32 2 = 2 := rfl
  go_enter Tryd.func39, Tryd.ntmps39
  go_upto_region 1 with fail
  refine wp_region_held_drew (S := fun _ => True) (by kernel_rfl) trivial (fun hHeld => ?_)
  generalize World.drew _ = w0 at *
  refine tk 0 ⟨some 5, .move (.tmp 1), 89, "operation.go:71", #[], none⟩ (.iface 113 (.int .u32 a)) ?_
  simp only [Act.put, List.setIfInBounds_toArray, List.set_cons_zero, List.set_cons_succ]
  refine tk 1 ⟨some 6, .move (.tmp 0), 22, "operation.go:71", #[], none⟩ (.slice av q cv) ?_
  simp only [Act.put, List.setIfInBounds_toArray, List.set_cons_zero, List.set_cons_succ]
  refine tk 2 ⟨some 7, .move (.tmp 1), 89, "operation.go:71", #[], none⟩ (.iface 113 (.int .u32 a)) ?_
  simp only [Act.put, List.setIfInBounds_toArray, List.set_cons_zero, List.set_cons_succ]
  refine tk 7 ⟨some 12, .makeFunc (Fn.method "warden/measure.put") #[.tmp 5] #[], 117, "operation.go:71", #[⟨0, .data⟩], none⟩ (.func (Fn.method "warden/measure.put") #[.iface 113 (.int .u32 a)] #[]) ?_
  simp only [Act.put, List.setIfInBounds_toArray, List.set_cons_zero, List.set_cons_succ]
  refine tk 8 ⟨some 13, .nilCheck (.tmp 12), 117, "operation.go:71", #[⟨7, .data⟩], none⟩ (.func (Fn.method "warden/measure.put") #[.iface 113 (.int .u32 a)] #[]) ?_
  simp only [Act.put, List.setIfInBounds_toArray, List.set_cons_zero, List.set_cons_succ]
  refine tk 9 ⟨some 14, .move (.tmp 5), 89, "operation.go:71", #[⟨0, .data⟩, ⟨7, .data⟩, ⟨8, .data⟩], none⟩ (.iface 113 (.int .u32 a)) ?_
  simp only [Act.put, List.setIfInBounds_toArray, List.set_cons_zero, List.set_cons_succ]
  refine wpAnyH_ready (rs := [3]) (by kernel_rfl) (by simp) (AllReadyH.cons (o := ⟨some 8, .call { callee := .value (.func 56), args := #[.tmp 7], argTypes := #[89] }, 41, "operation.go:71", #[⟨2, .data⟩], none⟩) rfl (fun KQ hK => ?_) AllReadyH.nil)
  go_simp
  refine (HK.out _).mono ?_
  rintro e w1 ⟨rfl, hw1⟩
  subst w1
  go_wp2_with fail
  refine hK.out _ _ trivial (fun hHeld => ?_)
  clear hK KQ
  try simp only [Act.put, List.setIfInBounds_toArray, List.set_cons_zero, List.set_cons_succ]
  refine tk 4 ⟨some 9, .convert 41 24 (.tmp 8), 24, "operation.go:71", #[⟨3, .data⟩], none⟩ (.int .u32 2) ?_
  simp only [Act.put, List.setIfInBounds_toArray, List.set_cons_zero, List.set_cons_succ]
  refine wpAnyH_ready (rs := [5]) (by kernel_rfl) (by simp) (AllReadyH.cons (o := ⟨some 10, .buildSlice 22 1 #[(0, .tmp 9)], 22, "operation.go:71", #[⟨4, .data⟩], none⟩) rfl (fun KQ hK => ?_) AllReadyH.nil)
  go_simp
  have Y1 : Hid (Holds V (w0.alloc (.cells #[.int .u32 2] 24)) .u32 24 (.slice av q cv) L) := hid (Y0.out.alloc _)
  have HS := hid (at_one w0 2)
  clear Y0
  generalize World.alloc _ _ = w1 at *
  generalize w0.heap.size = g1 at *
  refine hK.out _ _ trivial (fun hHeld => ?_)
  clear hK KQ
  try simp only [Act.put, List.setIfInBounds_toArray, List.set_cons_zero, List.set_cons_succ]
  refine wpAnyH_ready (rs := [6]) (by kernel_rfl) (by simp) (AllReadyH.cons (o := ⟨some 11, .call { callee := .builtin .append, args := #[.tmp 6, .tmp 10], argTypes := #[22, 22] }, 22, "operation.go:71", #[⟨1, .data⟩, ⟨5, .data⟩, ⟨3, .chain⟩], none⟩) rfl (fun KQ hK => ?_) AllReadyH.nil)
  rw [if_pos (by rfl)]
  refine wp_append_h _ _ rfl _ L rfl Y1.out _ 1 1 [2] rfl rfl HS.out (by have := HL.out; omega) ?_
  intro v2 w2 hh
  obtain ⟨ao2, c2, hv, _⟩ := hh.at'
  rw [List.length_append, List.length_singleton] at hv
  subst hv
  have Y2 := hid hh
  clear hh Y1 HS
  refine hK.out _ _ trivial (fun hHeld => ?_)
  clear hK KQ
  try simp only [Act.put, List.setIfInBounds_toArray, List.set_cons_zero, List.set_cons_succ]
  refine wpAnyH_ready (rs := [10]) (by kernel_rfl) (by simp) (AllReadyH.cons (o := ⟨some 15, .call { callee := .invoke (.tmp 14) "warden/measure.put", args := #[.tmp 11], argTypes := #[22] }, 22, "operation.go:71", #[⟨9, .data⟩, ⟨6, .data⟩, ⟨6, .chain⟩], none⟩) rfl (fun KQ hK => ?_) AllReadyH.nil)
  go_simp
  refine (put_97 V _ _ _ _ _ Y2.out (by have := HL.out; rw [List.length_append]; simp only [List.length_singleton]; omega) a).mono ?_
  rintro e w3 ⟨v3, rfl, h3⟩
  have Y3 := hid h3
  clear h3 Y2
  go_wp2_with fail
  refine hK.out _ _ trivial (fun hHeld => ?_)
  clear hK KQ
  try simp only [Act.put, List.setIfInBounds_toArray, List.set_cons_zero, List.set_cons_succ]
  refine wpAnyH_ready (rs := [11]) (by kernel_rfl) (by simp) (AllReadyH.cons (o := ⟨some 4, .assign (.tmp 15), 22, "operation.go:71", #[⟨10, .data⟩, ⟨10, .chain⟩, ⟨0, .phase⟩, ⟨1, .phase⟩, ⟨2, .phase⟩, ⟨3, .phase⟩, ⟨4, .phase⟩, ⟨5, .phase⟩, ⟨6, .phase⟩, ⟨7, .phase⟩, ⟨8, .phase⟩, ⟨9, .phase⟩, ⟨10, .phase⟩], none⟩) rfl (fun KQ hK => ?_) AllReadyH.nil)
  go_simp
  refine hK.out _ _ trivial (fun hHeld => ?_)
  clear hK KQ
  try simp only [Act.put, List.setIfInBounds_toArray, List.set_cons_zero, List.set_cons_succ]
  refine wpAnyH_done (by kernel_rfl) ?_ _
  go_wp2_with fail
  go_ret
  refine ⟨_, rfl, ?_⟩
  have := Y3.out
  simpa using this
theorem lay_3 (V W : World) (av : Option Addr) (q cv : Nat) (L : List Int) (H : Holds V W .u32 24 (.slice av q cv) L) (hb : (L.length + 1026) * 4 ≤ 140737488355328) (a : Int) (ao : Option Addr) (c : Nat) (ws : List Int) (hw : ws.length = 1024) (hat : At V .u32 ao ws) :
    Calls Tryd.prog 39 #[.slice av q cv, .iface 115 (.agg #[.int .u32 a, .slice ao 1024 c])] W fun e W' => ∃ v', e = .returned v' ∧ Holds V W' .u32 24 v' (L ++ ([3, a] ++ ws)) := by
  have HL := hid hb
  have HA := hid hat
  have HW := hid hw
  have HK := hid (fun w => kindOf_3 w a ao 1024 c)
  have Y0 : Hid (Holds V W.drew .u32 24 (.slice av q cv) L) := hid (holds_drew H)
  clear H hb hat hw
  have na : ∀ w, (nilAhead 261 115 (.agg #[.int .u32 a, .slice ao 1024 c]) "warden/measure.put").run Tryd.prog w = .ok (some false) w := fun w => by kernel_rfl
  have me : ∀ w, (Go.method 261 115 (.agg #[.int .u32 a, .slice ao 1024 c]) "warden/measure.put").run Tryd.prog w = .ok (98, .agg #[.int .u32 a, .slice ao 1024 c]) w := fun w => by kernel_rfl
  have kw : IntKind.wrap .u32 3 = 3 := rfl
  go_enter Tryd.func39, Tryd.ntmps39
  go_upto_region 1 with fail
  refine wp_region_held_drew (S := fun _ => True) (by kernel_rfl) trivial (fun hHeld => ?_)
  generalize World.drew _ = w0 at *
  refine tk 0 ⟨some 5, .move (.tmp 1), 89, "operation.go:71", #[], none⟩ (.iface 115 (.agg #[.int .u32 a, .slice ao 1024 c])) ?_
  simp only [Act.put, List.setIfInBounds_toArray, List.set_cons_zero, List.set_cons_succ]
  refine tk 1 ⟨some 6, .move (.tmp 0), 22, "operation.go:71", #[], none⟩ (.slice av q cv) ?_
  simp only [Act.put, List.setIfInBounds_toArray, List.set_cons_zero, List.set_cons_succ]
  refine tk 2 ⟨some 7, .move (.tmp 1), 89, "operation.go:71", #[], none⟩ (.iface 115 (.agg #[.int .u32 a, .slice ao 1024 c])) ?_
  simp only [Act.put, List.setIfInBounds_toArray, List.set_cons_zero, List.set_cons_succ]
  refine tk 7 ⟨some 12, .makeFunc (Fn.method "warden/measure.put") #[.tmp 5] #[], 117, "operation.go:71", #[⟨0, .data⟩], none⟩ (.func (Fn.method "warden/measure.put") #[.iface 115 (.agg #[.int .u32 a, .slice ao 1024 c])] #[]) ?_
  simp only [Act.put, List.setIfInBounds_toArray, List.set_cons_zero, List.set_cons_succ]
  refine tk 8 ⟨some 13, .nilCheck (.tmp 12), 117, "operation.go:71", #[⟨7, .data⟩], none⟩ (.func (Fn.method "warden/measure.put") #[.iface 115 (.agg #[.int .u32 a, .slice ao 1024 c])] #[]) ?_
  simp only [Act.put, List.setIfInBounds_toArray, List.set_cons_zero, List.set_cons_succ]
  refine tk 9 ⟨some 14, .move (.tmp 5), 89, "operation.go:71", #[⟨0, .data⟩, ⟨7, .data⟩, ⟨8, .data⟩], none⟩ (.iface 115 (.agg #[.int .u32 a, .slice ao 1024 c])) ?_
  simp only [Act.put, List.setIfInBounds_toArray, List.set_cons_zero, List.set_cons_succ]
  refine wpAnyH_ready (rs := [3]) (by kernel_rfl) (by simp) (AllReadyH.cons (o := ⟨some 8, .call { callee := .value (.func 56), args := #[.tmp 7], argTypes := #[89] }, 41, "operation.go:71", #[⟨2, .data⟩], none⟩) rfl (fun KQ hK => ?_) AllReadyH.nil)
  go_simp
  refine (HK.out _).mono ?_
  rintro e w1 ⟨rfl, hw1⟩
  subst w1
  go_wp2_with fail
  refine hK.out _ _ trivial (fun hHeld => ?_)
  clear hK KQ
  try simp only [Act.put, List.setIfInBounds_toArray, List.set_cons_zero, List.set_cons_succ]
  refine tk 4 ⟨some 9, .convert 41 24 (.tmp 8), 24, "operation.go:71", #[⟨3, .data⟩], none⟩ (.int .u32 3) ?_
  simp only [Act.put, List.setIfInBounds_toArray, List.set_cons_zero, List.set_cons_succ]
  refine wpAnyH_ready (rs := [5]) (by kernel_rfl) (by simp) (AllReadyH.cons (o := ⟨some 10, .buildSlice 22 1 #[(0, .tmp 9)], 22, "operation.go:71", #[⟨4, .data⟩], none⟩) rfl (fun KQ hK => ?_) AllReadyH.nil)
  go_simp
  have Y1 : Hid (Holds V (w0.alloc (.cells #[.int .u32 3] 24)) .u32 24 (.slice av q cv) L) := hid (Y0.out.alloc _)
  have HS := hid (at_one w0 3)
  clear Y0
  generalize World.alloc _ _ = w1 at *
  generalize w0.heap.size = g1 at *
  refine hK.out _ _ trivial (fun hHeld => ?_)
  clear hK KQ
  try simp only [Act.put, List.setIfInBounds_toArray, List.set_cons_zero, List.set_cons_succ]
  refine wpAnyH_ready (rs := [6]) (by kernel_rfl) (by simp) (AllReadyH.cons (o := ⟨some 11, .call { callee := .builtin .append, args := #[.tmp 6, .tmp 10], argTypes := #[22, 22] }, 22, "operation.go:71", #[⟨1, .data⟩, ⟨5, .data⟩, ⟨3, .chain⟩], none⟩) rfl (fun KQ hK => ?_) AllReadyH.nil)
  rw [if_pos (by rfl)]
  refine wp_append_h _ _ rfl _ L rfl Y1.out _ 1 1 [3] rfl rfl HS.out (by have := HL.out; omega) ?_
  intro v2 w2 hh
  obtain ⟨ao2, c2, hv, _⟩ := hh.at'
  rw [List.length_append, List.length_singleton] at hv
  subst hv
  have Y2 := hid hh
  clear hh Y1 HS
  refine hK.out _ _ trivial (fun hHeld => ?_)
  clear hK KQ
  try simp only [Act.put, List.setIfInBounds_toArray, List.set_cons_zero, List.set_cons_succ]
  refine wpAnyH_ready (rs := [10]) (by kernel_rfl) (by simp) (AllReadyH.cons (o := ⟨some 15, .call { callee := .invoke (.tmp 14) "warden/measure.put", args := #[.tmp 11], argTypes := #[22] }, 22, "operation.go:71", #[⟨9, .data⟩, ⟨6, .data⟩, ⟨6, .chain⟩], none⟩) rfl (fun KQ hK => ?_) AllReadyH.nil)
  go_simp
  refine (put_98 V _ _ _ _ _ Y2.out (by have := HL.out; rw [List.length_append]; simp only [List.length_singleton]; omega) a ao c ws HW.out HA.out).mono ?_
  rintro e w3 ⟨v3, rfl, h3⟩
  have Y3 := hid h3
  clear h3 Y2
  go_wp2_with fail
  refine hK.out _ _ trivial (fun hHeld => ?_)
  clear hK KQ
  try simp only [Act.put, List.setIfInBounds_toArray, List.set_cons_zero, List.set_cons_succ]
  refine wpAnyH_ready (rs := [11]) (by kernel_rfl) (by simp) (AllReadyH.cons (o := ⟨some 4, .assign (.tmp 15), 22, "operation.go:71", #[⟨10, .data⟩, ⟨10, .chain⟩, ⟨0, .phase⟩, ⟨1, .phase⟩, ⟨2, .phase⟩, ⟨3, .phase⟩, ⟨4, .phase⟩, ⟨5, .phase⟩, ⟨6, .phase⟩, ⟨7, .phase⟩, ⟨8, .phase⟩, ⟨9, .phase⟩, ⟨10, .phase⟩], none⟩) rfl (fun KQ hK => ?_) AllReadyH.nil)
  go_simp
  refine hK.out _ _ trivial (fun hHeld => ?_)
  clear hK KQ
  try simp only [Act.put, List.setIfInBounds_toArray, List.set_cons_zero, List.set_cons_succ]
  refine wpAnyH_done (by kernel_rfl) ?_ _
  go_wp2_with fail
  go_ret
  refine ⟨_, rfl, ?_⟩
  have := Y3.out
  simpa using this
theorem lay_4 (V W : World) (av : Option Addr) (q cv : Nat) (L : List Int) (H : Holds V W .u32 24 (.slice av q cv) L) (hb : (L.length + 1026) * 4 ≤ 140737488355328) (a : Int) :
    Calls Tryd.prog 39 #[.slice av q cv, .iface 116 (.int .u32 a)] W fun e W' => ∃ v', e = .returned v' ∧ Holds V W' .u32 24 v' (L ++ [4, a]) := by
  have HL := hid hb
  have HK := hid (fun w => kindOf_4 w a)
  have Y0 : Hid (Holds V W.drew .u32 24 (.slice av q cv) L) := hid (holds_drew H)
  clear H hb
  have na : ∀ w, (nilAhead 261 116 (.int .u32 a) "warden/measure.put").run Tryd.prog w = .ok (some false) w := fun w => by kernel_rfl
  have me : ∀ w, (Go.method 261 116 (.int .u32 a) "warden/measure.put").run Tryd.prog w = .ok (99, .int .u32 a) w := fun w => by kernel_rfl
  have kw : IntKind.wrap .u32 4 = 4 := rfl
  go_enter Tryd.func39, Tryd.ntmps39
  go_upto_region 1 with fail
  refine wp_region_held_drew (S := fun _ => True) (by kernel_rfl) trivial (fun hHeld => ?_)
  generalize World.drew _ = w0 at *
  refine tk 0 ⟨some 5, .move (.tmp 1), 89, "operation.go:71", #[], none⟩ (.iface 116 (.int .u32 a)) ?_
  simp only [Act.put, List.setIfInBounds_toArray, List.set_cons_zero, List.set_cons_succ]
  refine tk 1 ⟨some 6, .move (.tmp 0), 22, "operation.go:71", #[], none⟩ (.slice av q cv) ?_
  simp only [Act.put, List.setIfInBounds_toArray, List.set_cons_zero, List.set_cons_succ]
  refine tk 2 ⟨some 7, .move (.tmp 1), 89, "operation.go:71", #[], none⟩ (.iface 116 (.int .u32 a)) ?_
  simp only [Act.put, List.setIfInBounds_toArray, List.set_cons_zero, List.set_cons_succ]
  refine tk 7 ⟨some 12, .makeFunc (Fn.method "warden/measure.put") #[.tmp 5] #[], 117, "operation.go:71", #[⟨0, .data⟩], none⟩ (.func (Fn.method "warden/measure.put") #[.iface 116 (.int .u32 a)] #[]) ?_
  simp only [Act.put, List.setIfInBounds_toArray, List.set_cons_zero, List.set_cons_succ]
  refine tk 8 ⟨some 13, .nilCheck (.tmp 12), 117, "operation.go:71", #[⟨7, .data⟩], none⟩ (.func (Fn.method "warden/measure.put") #[.iface 116 (.int .u32 a)] #[]) ?_
  simp only [Act.put, List.setIfInBounds_toArray, List.set_cons_zero, List.set_cons_succ]
  refine tk 9 ⟨some 14, .move (.tmp 5), 89, "operation.go:71", #[⟨0, .data⟩, ⟨7, .data⟩, ⟨8, .data⟩], none⟩ (.iface 116 (.int .u32 a)) ?_
  simp only [Act.put, List.setIfInBounds_toArray, List.set_cons_zero, List.set_cons_succ]
  refine wpAnyH_ready (rs := [3]) (by kernel_rfl) (by simp) (AllReadyH.cons (o := ⟨some 8, .call { callee := .value (.func 56), args := #[.tmp 7], argTypes := #[89] }, 41, "operation.go:71", #[⟨2, .data⟩], none⟩) rfl (fun KQ hK => ?_) AllReadyH.nil)
  go_simp
  refine (HK.out _).mono ?_
  rintro e w1 ⟨rfl, hw1⟩
  subst w1
  go_wp2_with fail
  refine hK.out _ _ trivial (fun hHeld => ?_)
  clear hK KQ
  try simp only [Act.put, List.setIfInBounds_toArray, List.set_cons_zero, List.set_cons_succ]
  refine tk 4 ⟨some 9, .convert 41 24 (.tmp 8), 24, "operation.go:71", #[⟨3, .data⟩], none⟩ (.int .u32 4) ?_
  simp only [Act.put, List.setIfInBounds_toArray, List.set_cons_zero, List.set_cons_succ]
  refine wpAnyH_ready (rs := [5]) (by kernel_rfl) (by simp) (AllReadyH.cons (o := ⟨some 10, .buildSlice 22 1 #[(0, .tmp 9)], 22, "operation.go:71", #[⟨4, .data⟩], none⟩) rfl (fun KQ hK => ?_) AllReadyH.nil)
  go_simp
  have Y1 : Hid (Holds V (w0.alloc (.cells #[.int .u32 4] 24)) .u32 24 (.slice av q cv) L) := hid (Y0.out.alloc _)
  have HS := hid (at_one w0 4)
  clear Y0
  generalize World.alloc _ _ = w1 at *
  generalize w0.heap.size = g1 at *
  refine hK.out _ _ trivial (fun hHeld => ?_)
  clear hK KQ
  try simp only [Act.put, List.setIfInBounds_toArray, List.set_cons_zero, List.set_cons_succ]
  refine wpAnyH_ready (rs := [6]) (by kernel_rfl) (by simp) (AllReadyH.cons (o := ⟨some 11, .call { callee := .builtin .append, args := #[.tmp 6, .tmp 10], argTypes := #[22, 22] }, 22, "operation.go:71", #[⟨1, .data⟩, ⟨5, .data⟩, ⟨3, .chain⟩], none⟩) rfl (fun KQ hK => ?_) AllReadyH.nil)
  rw [if_pos (by rfl)]
  refine wp_append_h _ _ rfl _ L rfl Y1.out _ 1 1 [4] rfl rfl HS.out (by have := HL.out; omega) ?_
  intro v2 w2 hh
  obtain ⟨ao2, c2, hv, _⟩ := hh.at'
  rw [List.length_append, List.length_singleton] at hv
  subst hv
  have Y2 := hid hh
  clear hh Y1 HS
  refine hK.out _ _ trivial (fun hHeld => ?_)
  clear hK KQ
  try simp only [Act.put, List.setIfInBounds_toArray, List.set_cons_zero, List.set_cons_succ]
  refine wpAnyH_ready (rs := [10]) (by kernel_rfl) (by simp) (AllReadyH.cons (o := ⟨some 15, .call { callee := .invoke (.tmp 14) "warden/measure.put", args := #[.tmp 11], argTypes := #[22] }, 22, "operation.go:71", #[⟨9, .data⟩, ⟨6, .data⟩, ⟨6, .chain⟩], none⟩) rfl (fun KQ hK => ?_) AllReadyH.nil)
  go_simp
  refine (put_99 V _ _ _ _ _ Y2.out (by have := HL.out; rw [List.length_append]; simp only [List.length_singleton]; omega) a).mono ?_
  rintro e w3 ⟨v3, rfl, h3⟩
  have Y3 := hid h3
  clear h3 Y2
  go_wp2_with fail
  refine hK.out _ _ trivial (fun hHeld => ?_)
  clear hK KQ
  try simp only [Act.put, List.setIfInBounds_toArray, List.set_cons_zero, List.set_cons_succ]
  refine wpAnyH_ready (rs := [11]) (by kernel_rfl) (by simp) (AllReadyH.cons (o := ⟨some 4, .assign (.tmp 15), 22, "operation.go:71", #[⟨10, .data⟩, ⟨10, .chain⟩, ⟨0, .phase⟩, ⟨1, .phase⟩, ⟨2, .phase⟩, ⟨3, .phase⟩, ⟨4, .phase⟩, ⟨5, .phase⟩, ⟨6, .phase⟩, ⟨7, .phase⟩, ⟨8, .phase⟩, ⟨9, .phase⟩, ⟨10, .phase⟩], none⟩) rfl (fun KQ hK => ?_) AllReadyH.nil)
  go_simp
  refine hK.out _ _ trivial (fun hHeld => ?_)
  clear hK KQ
  try simp only [Act.put, List.setIfInBounds_toArray, List.set_cons_zero, List.set_cons_succ]
  refine wpAnyH_done (by kernel_rfl) ?_ _
  go_wp2_with fail
  go_ret
  refine ⟨_, rfl, ?_⟩
  have := Y3.out
  simpa using this
end Go.Proofs.YtmomidkodjihjaaDoor
