import Derived.Test.YtgbpbfnpeeciaaaGreatP22
import Derived.Test.YtgbpbfnpeeciaaaGreatP01
import Derived.Test.YtgbpbfnpeeciaaaGreatP35
import Derived.Test.YtgbpbfnpeeciaaaGreatP17
namespace Go.Proofs.YtgbpbfnpeeciaaaGreat
open Go.RowKit
set_option maxHeartbeats 4000000
set_option maxRecDepth 100000
structure Oq where
  k : Int
  a : Int
  b : Int
  c : Int
  v : Int
  m : Mp
  on : Bool
def Oq.cs (o : Oq) : List Value := [.int .i64 o.k, .int .i64 o.a, .int .i64 o.b, .int .i64 o.c, .int .u32 o.v, .bool o.m.s, .int .i64 o.m.p, .bool o.m.wr, .bool o.m.ex, .bool o.on]
def Oq.val (o : Oq) : Value := .agg o.cs.toArray
theorem TP.tail {W w : World} {p : Dp} {r q : Rp} {d e : DS} {x : Nat × TypeId × List Value} {L : List (Nat × TypeId × List Value)} (h : TP W w p r q d e (x :: L)) : TP W w p r q d e L :=
  ⟨h.own, h.doc, h.g, h.but, h.sub, h.ap, fun y hy => h.bag y (by simp [hy]), fun y hy => h.bnew y (by simp [hy]), fun y hy => h.boff y (by simp [hy]), fun y hy => h.bown y (by simp [hy])⟩
theorem TP.memR {W w w' : World} {p : Dp} {r q : Rp} {d e : DS} {r' : Rf} {m' : MS} {L : List (Nat × TypeId × List Value)} (h : TP W w p r q d e L) (hs : RSt w w' q.r r' m') (hn : m'.ns = e.m.ns) : TP W w' p r { q with r := r' } d { e with m := m' } L :=
  h.stepR ((RG.start h.doc).mem hs hn)
theorem TP.memA {W w w' : World} {p : Dp} {r q : Rp} {d e : DS} {m' : MS} {L : List (Nat × TypeId × List Value)} (h : TP W w p r q d e L) (hm : Mem w' p.f m') (hb : ButL p.f.w w w') (hn : m'.ns = d.m.ns) : TP W w' p r q { d with m := m' } e L :=
  h.stepA (h.own.memory hm hb hn) ((ButL.refl p.w w).trans_sub hb (fun k hk => .inl (by simp only [Dp.w, List.mem_cons]; exact .inr hk)))
theorem TP.stepF {W w w' : World} {p : Dp} {r q : Rp} {d d' e : DS} {L : List (Nat × TypeId × List Value)} (h : TP W w p r q d e L) (hd : DB w' p d') (hb : ButL p.f.w w w') : TP W w' p r q d' e L :=
  h.stepA hd ((ButL.refl p.w w).trans_sub hb (fun k hk => .inl (by simp only [Dp.w, List.mem_cons]; exact .inr hk)))
theorem TP.hold {W w : World} {p : Dp} {r q : Rp} {d e : DS} {gs g3 : Nat} {bs cs : List Value} {L : List (Nat × TypeId × List Value)} (h : TP W w p r q d e ((g3, 33, cs) :: (gs, 48, bs) :: L)) : Cel w gs 48 bs ∧ Cel w g3 33 cs := ⟨h.get 1 rfl, h.get 0 rfl⟩
theorem TP.trip {W w : World} {p : Dp} {r q : Rp} {d e : DS} {gs g3 : Nat} {a0 a1 a2 : Value} {cs : List Value} {L : List (Nat × TypeId × List Value)} (h : TP W w p r q d e ((g3, 33, cs) :: (gs, 48, [a0, a1, a2]) :: L)) : w.cell? ⟨gs, 0, none⟩ = some a0 ∧ w.cell? ⟨gs, 1, none⟩ = some a1 ∧ w.cell? ⟨gs, 2, none⟩ = some a2 := ⟨(h.get 1 rfl).cell 0, (h.get 1 rfl).cell 1, (h.get 1 rfl).cell 2⟩
theorem TP.ocl {W w : World} {p : Dp} {r q : Rp} {d e : DS} {g : Nat} {a0 a1 a2 a3 a4 a5 a6 a7 a8 a9 : Value} {L : List (Nat × TypeId × List Value)} (h : TP W w p r q d e ((g, 33, [a0, a1, a2, a3, a4, a5, a6, a7, a8, a9]) :: L)) : w.cell? ⟨g, 0, none⟩ = some a0 ∧ w.cell? ⟨g, 1, none⟩ = some a1 ∧ w.cell? ⟨g, 2, none⟩ = some a2 ∧ w.cell? ⟨g, 3, none⟩ = some a3 ∧ w.cell? ⟨g, 4, none⟩ = some a4 ∧ w.cell? ⟨g, 5, none⟩ = some a5 ∧ w.cell? ⟨g, 6, none⟩ = some a6 ∧ w.cell? ⟨g, 7, none⟩ = some a7 ∧ w.cell? ⟨g, 8, none⟩ = some a8 ∧ w.cell? ⟨g, 9, none⟩ = some a9 :=
  ⟨(h.get 0 rfl).cell 0, (h.get 0 rfl).cell 1, (h.get 0 rfl).cell 2, (h.get 0 rfl).cell 3, (h.get 0 rfl).cell 4, (h.get 0 rfl).cell 5, (h.get 0 rfl).cell 6, (h.get 0 rfl).cell 7, (h.get 0 rfl).cell 8, (h.get 0 rfl).cell 9⟩
structure SX (W w : World) (p : Dp) (r q : Rp) (d e : DS) (gs : Nat) : Prop where
  tp : TP W w p r q d e [(gs, 48, sdC p r)]
  sim : DS.Sim d e
  u : d.m.U
theorem SX.begin {W w : World} {p : Dp} {r q : Rp} {d e : DS} {gs : Nat} (h : SX W w p r q d e gs) (o : Oq) : TP W (w.alloc (.cells o.cs.toArray 33)) p r q d e [(w.heap.size, 33, o.cs), (gs, 48, sdC p r)] := h.tp.box 33 o.cs
theorem prep_10 (W w : World) (p : Dp) (r q : Rp) (d e : DS) (gs : Nat) (h : SX W w p r q d e gs) (o : Oq) (hk : o.k = 10) :
    Calls Tryz.prog 6 #[.pointer (some ⟨gs, 0, none⟩), o.val] w fun x w' => x = .returned (.bool true) ∧ ∃ q', SX W w' p r q' (d.takeSpace o.a o.b) (e.takeSpace o.a o.b) gs := by
  have T0 := hid (h.begin o)
  have HG : q.g = r.g := h.tp.g
  have hs := h.sim
  have hu := h.u
  have hok := h.tp.own.ok
  have HR := hid (fun w (hw : RDB w q e) => by
    have := rtakeSpace_any w q e hw o.a o.b
    rw [hs.bearE, HG] at this
    exact this)
  have HA := hid (fun w (hw : DB w p d) => takeSpace_any w p d hw o.a o.b)
  have HSm : Hid (DS.Sim (d.takeSpace o.a o.b) (e.takeSpace o.a o.b) ∧ (d.takeSpace o.a o.b).m.U) := hid ⟨hs.space _ _, U_space hok hu _ _⟩
  clear h hu hs hok HG
  obtain ⟨k, a, b, c, v, m, on⟩ := o
  simp only at hk
  subst hk
  simp only [Oq.val, Oq.cs, sdC, ptr] at *
  generalize d.takeSpace a b = d2 at *
  generalize e.takeSpace a b = e2 at *
  generalize d.bearE a b = f at *
  go_enter Tryz.func6, Tryz.ntmps6
  go_upto_region 1 with fail
  generalize World.alloc _ _ = X at *
  generalize w.heap.size = g3 at *
  obtain ⟨y0, y1, y2, y3, y4, y5, y6, y7, y8, y9⟩ := T0.out.ocl
  go_upto_region 3 with fail
  clear y0 y1 y2 y3 y4 y5 y6 y7 y8 y9
  have T1 := hid (T0.out.on (Below.refl _ _).drew)
  clear T0
  refine wp_region_held_drew (S := fun w => Cel w gs 48 [.pointer (some ⟨p.f.gm, 0, none⟩), .pointer (some ⟨p.g, 0, none⟩), .pointer (some ⟨r.g, 0, none⟩)] ∧ Cel w g3 33 [.int .i64 10, .int .i64 a, .int .i64 b, .int .i64 c, .int .u32 v, .bool m.s, .int .i64 m.p, .bool m.wr, .bool m.ex, .bool on]) (by kernel_rfl) T1.out.hold (fun hHeld => ?_)
  generalize World.drew _ = w1 at *
  refine tk 0 ⟨some 10, .move (.tmp 0), 25, "law.go:123", #[], none⟩ (.pointer (some ⟨gs, 0, none⟩)) ?_
  simp only [Act.put, List.setIfInBounds_toArray, List.set_cons_zero, List.set_cons_succ]
  refine tk 1 ⟨some 11, .nilCheck (.tmp 10), 0, "law.go:123", #[⟨0, .data⟩], none⟩ (.pointer (some ⟨gs, 0, none⟩)) ?_
  simp only [Act.put, List.setIfInBounds_toArray, List.set_cons_zero, List.set_cons_succ]
  refine tk 2 ⟨some 12, .fieldAddr 48 (.tmp 11) 1, 0, "law.go:123", #[⟨1, .data⟩], none⟩ (.pointer (some ⟨gs, 1, none⟩)) ?_
  simp only [Act.put, List.setIfInBounds_toArray, List.set_cons_zero, List.set_cons_succ]
  refine tk 3 ⟨some 13, .load 43 (.tmp 12), 43, "law.go:123", #[⟨2, .data⟩], none⟩ (.pointer (some ⟨p.g, 0, none⟩)) ?_ (hy := Or.inl ⟨by rfl, by intro w hSw; have hc : w.cell? ⟨gs, 1, none⟩ = some (.pointer (some ⟨p.g, 0, none⟩)) := hSw.1.cell 1; go_simp⟩)
  simp only [Act.put, List.setIfInBounds_toArray, List.set_cons_zero, List.set_cons_succ]
  refine tk 4 ⟨some 14, .fieldAddr 33 (.tmp 3) 1, 0, "law.go:123", #[], none⟩ (.pointer (some ⟨g3, 1, none⟩)) ?_
  simp only [Act.put, List.setIfInBounds_toArray, List.set_cons_zero, List.set_cons_succ]
  refine tk 5 ⟨some 15, .load 3 (.tmp 14), 3, "law.go:123", #[⟨4, .data⟩], none⟩ (.int .i64 a) ?_ (hy := Or.inl ⟨by rfl, by intro w hSw; have hc : w.cell? ⟨g3, 1, none⟩ = some (.int .i64 a) := hSw.2.cell 1; go_simp⟩)
  simp only [Act.put, List.setIfInBounds_toArray, List.set_cons_zero, List.set_cons_succ]
  refine tk 6 ⟨some 16, .fieldAddr 33 (.tmp 3) 2, 0, "law.go:123", #[], none⟩ (.pointer (some ⟨g3, 2, none⟩)) ?_
  simp only [Act.put, List.setIfInBounds_toArray, List.set_cons_zero, List.set_cons_succ]
  refine tk 7 ⟨some 17, .load 3 (.tmp 16), 3, "law.go:123", #[⟨6, .data⟩], none⟩ (.int .i64 b) ?_ (hy := Or.inl ⟨by rfl, by intro w hSw; have hc : w.cell? ⟨g3, 2, none⟩ = some (.int .i64 b) := hSw.2.cell 2; go_simp⟩)
  simp only [Act.put, List.setIfInBounds_toArray, List.set_cons_zero, List.set_cons_succ]
  refine tk 9 ⟨some 19, .move (.tmp 0), 25, "law.go:123", #[], none⟩ (.pointer (some ⟨gs, 0, none⟩)) ?_
  simp only [Act.put, List.setIfInBounds_toArray, List.set_cons_zero, List.set_cons_succ]
  refine tk 10 ⟨some 20, .nilCheck (.tmp 19), 0, "law.go:123", #[⟨9, .data⟩], none⟩ (.pointer (some ⟨gs, 0, none⟩)) ?_
  simp only [Act.put, List.setIfInBounds_toArray, List.set_cons_zero, List.set_cons_succ]
  refine tk 11 ⟨some 21, .fieldAddr 48 (.tmp 20) 2, 0, "law.go:123", #[⟨10, .data⟩], none⟩ (.pointer (some ⟨gs, 2, none⟩)) ?_
  simp only [Act.put, List.setIfInBounds_toArray, List.set_cons_zero, List.set_cons_succ]
  refine tk 12 ⟨some 22, .load 45 (.tmp 21), 45, "law.go:123", #[⟨11, .data⟩], none⟩ (.pointer (some ⟨r.g, 0, none⟩)) ?_ (hy := Or.inl ⟨by rfl, by intro w hSw; have hc : w.cell? ⟨gs, 2, none⟩ = some (.pointer (some ⟨r.g, 0, none⟩)) := hSw.1.cell 2; go_simp⟩)
  simp only [Act.put, List.setIfInBounds_toArray, List.set_cons_zero, List.set_cons_succ]
  refine tk 13 ⟨some 23, .fieldAddr 33 (.tmp 3) 1, 0, "law.go:123", #[], none⟩ (.pointer (some ⟨g3, 1, none⟩)) ?_
  simp only [Act.put, List.setIfInBounds_toArray, List.set_cons_zero, List.set_cons_succ]
  refine tk 14 ⟨some 24, .load 3 (.tmp 23), 3, "law.go:123", #[⟨13, .data⟩], none⟩ (.int .i64 a) ?_ (hy := Or.inl ⟨by rfl, by intro w hSw; have hc : w.cell? ⟨g3, 1, none⟩ = some (.int .i64 a) := hSw.2.cell 1; go_simp⟩)
  simp only [Act.put, List.setIfInBounds_toArray, List.set_cons_zero, List.set_cons_succ]
  refine tk 15 ⟨some 25, .fieldAddr 33 (.tmp 3) 2, 0, "law.go:123", #[], none⟩ (.pointer (some ⟨g3, 2, none⟩)) ?_
  simp only [Act.put, List.setIfInBounds_toArray, List.set_cons_zero, List.set_cons_succ]
  refine tk 16 ⟨some 26, .load 3 (.tmp 25), 3, "law.go:123", #[⟨15, .data⟩], none⟩ (.int .i64 b) ?_ (hy := Or.inl ⟨by rfl, by intro w hSw; have hc : w.cell? ⟨g3, 2, none⟩ = some (.int .i64 b) := hSw.2.cell 2; go_simp⟩)
  simp only [Act.put, List.setIfInBounds_toArray, List.set_cons_zero, List.set_cons_succ]
  refine wpAnyH_ready (rs := [8]) (by kernel_rfl) (by simp) (AllReadyH.cons (o := ⟨some 18, .call { callee := .value (.func 15), args := #[.tmp 13, .tmp 15, .tmp 17], argTypes := #[43, 3, 3] }, 37, "law.go:123", #[⟨3, .data⟩, ⟨5, .data⟩, ⟨7, .data⟩], none⟩) rfl (fun KQ hK => ?_) AllReadyH.nil)
  go_simp
  refine (HA.out _ T1.out.own).mono ?_
  rintro x w2 ⟨rfl, hd, hb⟩
  have T2 := hid (T1.out.stepA hd hb)
  clear hd hb T1
  go_wp2_with fail
  refine hK.out _ _ T2.out.hold (fun hHeld => ?_)
  clear hK KQ
  try simp only [Act.put, List.setIfInBounds_toArray, List.set_cons_zero, List.set_cons_succ]
  refine wpAnyH_ready (rs := [17]) (by kernel_rfl) (by simp) (AllReadyH.cons (o := ⟨some 27, .call { callee := .value (.func 16), args := #[.tmp 22, .tmp 24, .tmp 26], argTypes := #[45, 3, 3] }, 3, "law.go:123", #[⟨12, .data⟩, ⟨14, .data⟩, ⟨16, .data⟩, ⟨8, .chain⟩], none⟩) rfl (fun KQ hK => ?_) AllReadyH.nil)
  go_simp
  refine (HR.out _ T2.out.doc).mono ?_
  rintro x w3 ⟨rfl, r1, hg⟩
  have T3 := hid (T2.out.stepR hg)
  clear hg T2
  go_wp2_with fail
  refine hK.out _ _ T3.out.hold (fun hHeld => ?_)
  clear hK KQ
  try simp only [Act.put, List.setIfInBounds_toArray, List.set_cons_zero, List.set_cons_succ]
  refine tk 18 ⟨some 28, .binOp .eql 3 (.tmp 18) (.tmp 27) 3, 4, "law.go:123", #[⟨8, .data⟩, ⟨17, .data⟩], none⟩ (.bool true) ?_
  simp only [Act.put, List.setIfInBounds_toArray, List.set_cons_zero, List.set_cons_succ]
  refine wpAnyH_ready (rs := [19]) (by kernel_rfl) (by simp) (AllReadyH.cons (o := ⟨some 4, .assign (.tmp 28), 4, "law.go:123", #[⟨18, .data⟩, ⟨17, .chain⟩, ⟨0, .phase⟩, ⟨1, .phase⟩, ⟨2, .phase⟩, ⟨3, .phase⟩, ⟨4, .phase⟩, ⟨5, .phase⟩, ⟨6, .phase⟩, ⟨7, .phase⟩, ⟨8, .phase⟩, ⟨9, .phase⟩, ⟨10, .phase⟩, ⟨11, .phase⟩, ⟨12, .phase⟩, ⟨13, .phase⟩, ⟨14, .phase⟩, ⟨15, .phase⟩, ⟨16, .phase⟩, ⟨17, .phase⟩, ⟨18, .phase⟩], none⟩) rfl (fun KQ hK => ?_) AllReadyH.nil)
  go_simp
  refine hK.out _ _ T3.out.hold (fun hHeld => ?_)
  clear hK KQ
  try simp only [Act.put, List.setIfInBounds_toArray, List.set_cons_zero, List.set_cons_succ]
  refine wpAnyH_done (by kernel_rfl) ?_ _
  go_wp2_with fail
  go_ret
  exact ⟨rfl, _, T3.out.tail, HSm.out.1, HSm.out.2⟩
theorem prep_11 (W w : World) (p : Dp) (r q : Rp) (d e : DS) (gs : Nat) (h : SX W w p r q d e gs) (o : Oq) (hk : o.k = 11) :
    Calls Tryz.prog 6 #[.pointer (some ⟨gs, 0, none⟩), o.val] w fun x w' => x = .returned (.bool true) ∧ ∃ q', SX W w' p r q' (d.take o.a o.b o.c) (e.take o.a o.b o.c) gs := by
  have T0 := hid (h.begin o)
  have HG : q.g = r.g := h.tp.g
  have hs := h.sim
  have hu := h.u
  have hok := h.tp.own.ok
  have HR := hid (fun w (hw : RDB w q e) => by
    have := rtake_any w q e hw o.a o.b o.c
    rw [hs.takeE, HG] at this
    exact this)
  have HA := hid (fun w (hw : DB w p d) => take_any w p d hw o.a o.b o.c)
  have HSm : Hid (DS.Sim (d.take o.a o.b o.c) (e.take o.a o.b o.c) ∧ (d.take o.a o.b o.c).m.U) := hid ⟨hs.take _ _ _, U_take hu _ _ _⟩
  clear h hu hs hok HG
  obtain ⟨k, a, b, c, v, m, on⟩ := o
  simp only at hk
  subst hk
  simp only [Oq.val, Oq.cs, sdC, ptr] at *
  generalize d.take a b c = d2 at *
  generalize e.take a b c = e2 at *
  generalize d.takeE a b c = f at *
  go_enter Tryz.func6, Tryz.ntmps6
  go_upto_region 1 with fail
  generalize World.alloc _ _ = X at *
  generalize w.heap.size = g3 at *
  obtain ⟨y0, y1, y2, y3, y4, y5, y6, y7, y8, y9⟩ := T0.out.ocl
  go_upto_region 5 with fail
  clear y0 y1 y2 y3 y4 y5 y6 y7 y8 y9
  have T1 := hid (T0.out.on (Below.refl _ _).drew)
  clear T0
  refine wp_region_held_drew (S := fun w => Cel w gs 48 [.pointer (some ⟨p.f.gm, 0, none⟩), .pointer (some ⟨p.g, 0, none⟩), .pointer (some ⟨r.g, 0, none⟩)] ∧ Cel w g3 33 [.int .i64 11, .int .i64 a, .int .i64 b, .int .i64 c, .int .u32 v, .bool m.s, .int .i64 m.p, .bool m.wr, .bool m.ex, .bool on]) (by kernel_rfl) T1.out.hold (fun hHeld => ?_)
  generalize World.drew _ = w1 at *
  refine tk 0 ⟨some 31, .move (.tmp 0), 25, "law.go:125", #[], none⟩ (.pointer (some ⟨gs, 0, none⟩)) ?_
  simp only [Act.put, List.setIfInBounds_toArray, List.set_cons_zero, List.set_cons_succ]
  refine tk 1 ⟨some 32, .nilCheck (.tmp 31), 0, "law.go:125", #[⟨0, .data⟩], none⟩ (.pointer (some ⟨gs, 0, none⟩)) ?_
  simp only [Act.put, List.setIfInBounds_toArray, List.set_cons_zero, List.set_cons_succ]
  refine tk 2 ⟨some 33, .fieldAddr 48 (.tmp 32) 1, 0, "law.go:125", #[⟨1, .data⟩], none⟩ (.pointer (some ⟨gs, 1, none⟩)) ?_
  simp only [Act.put, List.setIfInBounds_toArray, List.set_cons_zero, List.set_cons_succ]
  refine tk 3 ⟨some 34, .load 43 (.tmp 33), 43, "law.go:125", #[⟨2, .data⟩], none⟩ (.pointer (some ⟨p.g, 0, none⟩)) ?_ (hy := Or.inl ⟨by rfl, by intro w hSw; have hc : w.cell? ⟨gs, 1, none⟩ = some (.pointer (some ⟨p.g, 0, none⟩)) := hSw.1.cell 1; go_simp⟩)
  simp only [Act.put, List.setIfInBounds_toArray, List.set_cons_zero, List.set_cons_succ]
  refine tk 4 ⟨some 35, .fieldAddr 33 (.tmp 3) 1, 0, "law.go:125", #[], none⟩ (.pointer (some ⟨g3, 1, none⟩)) ?_
  simp only [Act.put, List.setIfInBounds_toArray, List.set_cons_zero, List.set_cons_succ]
  refine tk 5 ⟨some 36, .load 3 (.tmp 35), 3, "law.go:125", #[⟨4, .data⟩], none⟩ (.int .i64 a) ?_ (hy := Or.inl ⟨by rfl, by intro w hSw; have hc : w.cell? ⟨g3, 1, none⟩ = some (.int .i64 a) := hSw.2.cell 1; go_simp⟩)
  simp only [Act.put, List.setIfInBounds_toArray, List.set_cons_zero, List.set_cons_succ]
  refine tk 6 ⟨some 37, .fieldAddr 33 (.tmp 3) 2, 0, "law.go:125", #[], none⟩ (.pointer (some ⟨g3, 2, none⟩)) ?_
  simp only [Act.put, List.setIfInBounds_toArray, List.set_cons_zero, List.set_cons_succ]
  refine tk 7 ⟨some 38, .load 3 (.tmp 37), 3, "law.go:125", #[⟨6, .data⟩], none⟩ (.int .i64 b) ?_ (hy := Or.inl ⟨by rfl, by intro w hSw; have hc : w.cell? ⟨g3, 2, none⟩ = some (.int .i64 b) := hSw.2.cell 2; go_simp⟩)
  simp only [Act.put, List.setIfInBounds_toArray, List.set_cons_zero, List.set_cons_succ]
  refine tk 8 ⟨some 39, .fieldAddr 33 (.tmp 3) 3, 0, "law.go:125", #[], none⟩ (.pointer (some ⟨g3, 3, none⟩)) ?_
  simp only [Act.put, List.setIfInBounds_toArray, List.set_cons_zero, List.set_cons_succ]
  refine tk 9 ⟨some 40, .load 3 (.tmp 39), 3, "law.go:125", #[⟨8, .data⟩], none⟩ (.int .i64 c) ?_ (hy := Or.inl ⟨by rfl, by intro w hSw; have hc : w.cell? ⟨g3, 3, none⟩ = some (.int .i64 c) := hSw.2.cell 3; go_simp⟩)
  simp only [Act.put, List.setIfInBounds_toArray, List.set_cons_zero, List.set_cons_succ]
  refine tk 11 ⟨some 42, .move (.tmp 0), 25, "law.go:125", #[], none⟩ (.pointer (some ⟨gs, 0, none⟩)) ?_
  simp only [Act.put, List.setIfInBounds_toArray, List.set_cons_zero, List.set_cons_succ]
  refine tk 12 ⟨some 43, .nilCheck (.tmp 42), 0, "law.go:125", #[⟨11, .data⟩], none⟩ (.pointer (some ⟨gs, 0, none⟩)) ?_
  simp only [Act.put, List.setIfInBounds_toArray, List.set_cons_zero, List.set_cons_succ]
  refine tk 13 ⟨some 44, .fieldAddr 48 (.tmp 43) 2, 0, "law.go:125", #[⟨12, .data⟩], none⟩ (.pointer (some ⟨gs, 2, none⟩)) ?_
  simp only [Act.put, List.setIfInBounds_toArray, List.set_cons_zero, List.set_cons_succ]
  refine tk 14 ⟨some 45, .load 45 (.tmp 44), 45, "law.go:125", #[⟨13, .data⟩], none⟩ (.pointer (some ⟨r.g, 0, none⟩)) ?_ (hy := Or.inl ⟨by rfl, by intro w hSw; have hc : w.cell? ⟨gs, 2, none⟩ = some (.pointer (some ⟨r.g, 0, none⟩)) := hSw.1.cell 2; go_simp⟩)
  simp only [Act.put, List.setIfInBounds_toArray, List.set_cons_zero, List.set_cons_succ]
  refine tk 15 ⟨some 46, .fieldAddr 33 (.tmp 3) 1, 0, "law.go:125", #[], none⟩ (.pointer (some ⟨g3, 1, none⟩)) ?_
  simp only [Act.put, List.setIfInBounds_toArray, List.set_cons_zero, List.set_cons_succ]
  refine tk 16 ⟨some 47, .load 3 (.tmp 46), 3, "law.go:125", #[⟨15, .data⟩], none⟩ (.int .i64 a) ?_ (hy := Or.inl ⟨by rfl, by intro w hSw; have hc : w.cell? ⟨g3, 1, none⟩ = some (.int .i64 a) := hSw.2.cell 1; go_simp⟩)
  simp only [Act.put, List.setIfInBounds_toArray, List.set_cons_zero, List.set_cons_succ]
  refine tk 17 ⟨some 48, .fieldAddr 33 (.tmp 3) 2, 0, "law.go:125", #[], none⟩ (.pointer (some ⟨g3, 2, none⟩)) ?_
  simp only [Act.put, List.setIfInBounds_toArray, List.set_cons_zero, List.set_cons_succ]
  refine tk 18 ⟨some 49, .load 3 (.tmp 48), 3, "law.go:125", #[⟨17, .data⟩], none⟩ (.int .i64 b) ?_ (hy := Or.inl ⟨by rfl, by intro w hSw; have hc : w.cell? ⟨g3, 2, none⟩ = some (.int .i64 b) := hSw.2.cell 2; go_simp⟩)
  simp only [Act.put, List.setIfInBounds_toArray, List.set_cons_zero, List.set_cons_succ]
  refine tk 19 ⟨some 50, .fieldAddr 33 (.tmp 3) 3, 0, "law.go:125", #[], none⟩ (.pointer (some ⟨g3, 3, none⟩)) ?_
  simp only [Act.put, List.setIfInBounds_toArray, List.set_cons_zero, List.set_cons_succ]
  refine tk 20 ⟨some 51, .load 3 (.tmp 50), 3, "law.go:125", #[⟨19, .data⟩], none⟩ (.int .i64 c) ?_ (hy := Or.inl ⟨by rfl, by intro w hSw; have hc : w.cell? ⟨g3, 3, none⟩ = some (.int .i64 c) := hSw.2.cell 3; go_simp⟩)
  simp only [Act.put, List.setIfInBounds_toArray, List.set_cons_zero, List.set_cons_succ]
  refine wpAnyH_ready (rs := [10]) (by kernel_rfl) (by simp) (AllReadyH.cons (o := ⟨some 41, .call { callee := .value (.func 17), args := #[.tmp 34, .tmp 36, .tmp 38, .tmp 40], argTypes := #[43, 3, 58, 3] }, 37, "law.go:125", #[⟨3, .data⟩, ⟨5, .data⟩, ⟨7, .data⟩, ⟨9, .data⟩], none⟩) rfl (fun KQ hK => ?_) AllReadyH.nil)
  go_simp
  refine (HA.out _ T1.out.own).mono ?_
  rintro x w2 ⟨rfl, hd, hb⟩
  have T2 := hid (T1.out.stepA hd hb)
  clear hd hb T1
  go_wp2_with fail
  refine hK.out _ _ T2.out.hold (fun hHeld => ?_)
  clear hK KQ
  try simp only [Act.put, List.setIfInBounds_toArray, List.set_cons_zero, List.set_cons_succ]
  refine wpAnyH_ready (rs := [21]) (by kernel_rfl) (by simp) (AllReadyH.cons (o := ⟨some 52, .call { callee := .value (.func 18), args := #[.tmp 45, .tmp 47, .tmp 49, .tmp 51], argTypes := #[45, 3, 3, 3] }, 3, "law.go:125", #[⟨14, .data⟩, ⟨16, .data⟩, ⟨18, .data⟩, ⟨20, .data⟩, ⟨10, .chain⟩], none⟩) rfl (fun KQ hK => ?_) AllReadyH.nil)
  go_simp
  refine (HR.out _ T2.out.doc).mono ?_
  rintro x w3 ⟨rfl, hg⟩
  have T3 := hid (T2.out.stepR hg)
  clear hg T2
  go_wp2_with fail
  refine hK.out _ _ T3.out.hold (fun hHeld => ?_)
  clear hK KQ
  try simp only [Act.put, List.setIfInBounds_toArray, List.set_cons_zero, List.set_cons_succ]
  refine tk 22 ⟨some 53, .binOp .eql 3 (.tmp 41) (.tmp 52) 3, 4, "law.go:125", #[⟨10, .data⟩, ⟨21, .data⟩], none⟩ (.bool true) ?_
  simp only [Act.put, List.setIfInBounds_toArray, List.set_cons_zero, List.set_cons_succ]
  refine wpAnyH_ready (rs := [23]) (by kernel_rfl) (by simp) (AllReadyH.cons (o := ⟨some 4, .assign (.tmp 53), 4, "law.go:125", #[⟨22, .data⟩, ⟨21, .chain⟩, ⟨0, .phase⟩, ⟨1, .phase⟩, ⟨2, .phase⟩, ⟨3, .phase⟩, ⟨4, .phase⟩, ⟨5, .phase⟩, ⟨6, .phase⟩, ⟨7, .phase⟩, ⟨8, .phase⟩, ⟨9, .phase⟩, ⟨10, .phase⟩, ⟨11, .phase⟩, ⟨12, .phase⟩, ⟨13, .phase⟩, ⟨14, .phase⟩, ⟨15, .phase⟩, ⟨16, .phase⟩, ⟨17, .phase⟩, ⟨18, .phase⟩, ⟨19, .phase⟩, ⟨20, .phase⟩, ⟨21, .phase⟩, ⟨22, .phase⟩], none⟩) rfl (fun KQ hK => ?_) AllReadyH.nil)
  go_simp
  refine hK.out _ _ T3.out.hold (fun hHeld => ?_)
  clear hK KQ
  try simp only [Act.put, List.setIfInBounds_toArray, List.set_cons_zero, List.set_cons_succ]
  refine wpAnyH_done (by kernel_rfl) ?_ _
  go_wp2_with fail
  go_ret
  exact ⟨rfl, _, T3.out.tail, HSm.out.1, HSm.out.2⟩
theorem prep_12 (W w : World) (p : Dp) (r q : Rp) (d e : DS) (gs : Nat) (h : SX W w p r q d e gs) (o : Oq) (hk : o.k = 12) :
    Calls Tryz.prog 6 #[.pointer (some ⟨gs, 0, none⟩), o.val] w fun x w' => x = .returned (.bool true) ∧ ∃ q', SX W w' p r q' (d.turn o.a o.b) (e.turn o.a o.b) gs := by
  have T0 := hid (h.begin o)
  have HG : q.g = r.g := h.tp.g
  have hs := h.sim
  have hu := h.u
  have hok := h.tp.own.ok
  have HR := hid (fun w (hw : RDB w q e) => by
    have := rturn_any w q e hw o.a o.b
    rw [hs.turnE, HG] at this
    exact this)
  have HA := hid (fun w (hw : DB w p d) => turn_any w p d hw o.a o.b)
  have HSm : Hid (DS.Sim (d.turn o.a o.b) (e.turn o.a o.b) ∧ (d.turn o.a o.b).m.U) := hid ⟨hs.turn _ _, U_turn hu _ _⟩
  clear h hu hs hok HG
  obtain ⟨k, a, b, c, v, m, on⟩ := o
  simp only at hk
  subst hk
  simp only [Oq.val, Oq.cs, sdC, ptr] at *
  generalize d.turn a b = d2 at *
  generalize e.turn a b = e2 at *
  generalize d.turnE a b = f at *
  go_enter Tryz.func6, Tryz.ntmps6
  go_upto_region 1 with fail
  generalize World.alloc _ _ = X at *
  generalize w.heap.size = g3 at *
  obtain ⟨y0, y1, y2, y3, y4, y5, y6, y7, y8, y9⟩ := T0.out.ocl
  go_upto_region 7 with fail
  clear y0 y1 y2 y3 y4 y5 y6 y7 y8 y9
  have T1 := hid (T0.out.on (Below.refl _ _).drew)
  clear T0
  refine wp_region_held_drew (S := fun w => Cel w gs 48 [.pointer (some ⟨p.f.gm, 0, none⟩), .pointer (some ⟨p.g, 0, none⟩), .pointer (some ⟨r.g, 0, none⟩)] ∧ Cel w g3 33 [.int .i64 12, .int .i64 a, .int .i64 b, .int .i64 c, .int .u32 v, .bool m.s, .int .i64 m.p, .bool m.wr, .bool m.ex, .bool on]) (by kernel_rfl) T1.out.hold (fun hHeld => ?_)
  generalize World.drew _ = w1 at *
  refine tk 0 ⟨some 56, .move (.tmp 0), 25, "law.go:127", #[], none⟩ (.pointer (some ⟨gs, 0, none⟩)) ?_
  simp only [Act.put, List.setIfInBounds_toArray, List.set_cons_zero, List.set_cons_succ]
  refine tk 1 ⟨some 57, .nilCheck (.tmp 56), 0, "law.go:127", #[⟨0, .data⟩], none⟩ (.pointer (some ⟨gs, 0, none⟩)) ?_
  simp only [Act.put, List.setIfInBounds_toArray, List.set_cons_zero, List.set_cons_succ]
  refine tk 2 ⟨some 58, .fieldAddr 48 (.tmp 57) 1, 0, "law.go:127", #[⟨1, .data⟩], none⟩ (.pointer (some ⟨gs, 1, none⟩)) ?_
  simp only [Act.put, List.setIfInBounds_toArray, List.set_cons_zero, List.set_cons_succ]
  refine tk 3 ⟨some 59, .load 43 (.tmp 58), 43, "law.go:127", #[⟨2, .data⟩], none⟩ (.pointer (some ⟨p.g, 0, none⟩)) ?_ (hy := Or.inl ⟨by rfl, by intro w hSw; have hc : w.cell? ⟨gs, 1, none⟩ = some (.pointer (some ⟨p.g, 0, none⟩)) := hSw.1.cell 1; go_simp⟩)
  simp only [Act.put, List.setIfInBounds_toArray, List.set_cons_zero, List.set_cons_succ]
  refine tk 4 ⟨some 60, .fieldAddr 33 (.tmp 3) 1, 0, "law.go:127", #[], none⟩ (.pointer (some ⟨g3, 1, none⟩)) ?_
  simp only [Act.put, List.setIfInBounds_toArray, List.set_cons_zero, List.set_cons_succ]
  refine tk 5 ⟨some 61, .load 3 (.tmp 60), 3, "law.go:127", #[⟨4, .data⟩], none⟩ (.int .i64 a) ?_ (hy := Or.inl ⟨by rfl, by intro w hSw; have hc : w.cell? ⟨g3, 1, none⟩ = some (.int .i64 a) := hSw.2.cell 1; go_simp⟩)
  simp only [Act.put, List.setIfInBounds_toArray, List.set_cons_zero, List.set_cons_succ]
  refine tk 6 ⟨some 62, .fieldAddr 33 (.tmp 3) 2, 0, "law.go:127", #[], none⟩ (.pointer (some ⟨g3, 2, none⟩)) ?_
  simp only [Act.put, List.setIfInBounds_toArray, List.set_cons_zero, List.set_cons_succ]
  refine tk 7 ⟨some 63, .load 3 (.tmp 62), 3, "law.go:127", #[⟨6, .data⟩], none⟩ (.int .i64 b) ?_ (hy := Or.inl ⟨by rfl, by intro w hSw; have hc : w.cell? ⟨g3, 2, none⟩ = some (.int .i64 b) := hSw.2.cell 2; go_simp⟩)
  simp only [Act.put, List.setIfInBounds_toArray, List.set_cons_zero, List.set_cons_succ]
  refine tk 9 ⟨some 65, .move (.tmp 0), 25, "law.go:127", #[], none⟩ (.pointer (some ⟨gs, 0, none⟩)) ?_
  simp only [Act.put, List.setIfInBounds_toArray, List.set_cons_zero, List.set_cons_succ]
  refine tk 10 ⟨some 66, .nilCheck (.tmp 65), 0, "law.go:127", #[⟨9, .data⟩], none⟩ (.pointer (some ⟨gs, 0, none⟩)) ?_
  simp only [Act.put, List.setIfInBounds_toArray, List.set_cons_zero, List.set_cons_succ]
  refine tk 11 ⟨some 67, .fieldAddr 48 (.tmp 66) 2, 0, "law.go:127", #[⟨10, .data⟩], none⟩ (.pointer (some ⟨gs, 2, none⟩)) ?_
  simp only [Act.put, List.setIfInBounds_toArray, List.set_cons_zero, List.set_cons_succ]
  refine tk 12 ⟨some 68, .load 45 (.tmp 67), 45, "law.go:127", #[⟨11, .data⟩], none⟩ (.pointer (some ⟨r.g, 0, none⟩)) ?_ (hy := Or.inl ⟨by rfl, by intro w hSw; have hc : w.cell? ⟨gs, 2, none⟩ = some (.pointer (some ⟨r.g, 0, none⟩)) := hSw.1.cell 2; go_simp⟩)
  simp only [Act.put, List.setIfInBounds_toArray, List.set_cons_zero, List.set_cons_succ]
  refine tk 13 ⟨some 69, .fieldAddr 33 (.tmp 3) 1, 0, "law.go:127", #[], none⟩ (.pointer (some ⟨g3, 1, none⟩)) ?_
  simp only [Act.put, List.setIfInBounds_toArray, List.set_cons_zero, List.set_cons_succ]
  refine tk 14 ⟨some 70, .load 3 (.tmp 69), 3, "law.go:127", #[⟨13, .data⟩], none⟩ (.int .i64 a) ?_ (hy := Or.inl ⟨by rfl, by intro w hSw; have hc : w.cell? ⟨g3, 1, none⟩ = some (.int .i64 a) := hSw.2.cell 1; go_simp⟩)
  simp only [Act.put, List.setIfInBounds_toArray, List.set_cons_zero, List.set_cons_succ]
  refine tk 15 ⟨some 71, .fieldAddr 33 (.tmp 3) 2, 0, "law.go:127", #[], none⟩ (.pointer (some ⟨g3, 2, none⟩)) ?_
  simp only [Act.put, List.setIfInBounds_toArray, List.set_cons_zero, List.set_cons_succ]
  refine tk 16 ⟨some 72, .load 3 (.tmp 71), 3, "law.go:127", #[⟨15, .data⟩], none⟩ (.int .i64 b) ?_ (hy := Or.inl ⟨by rfl, by intro w hSw; have hc : w.cell? ⟨g3, 2, none⟩ = some (.int .i64 b) := hSw.2.cell 2; go_simp⟩)
  simp only [Act.put, List.setIfInBounds_toArray, List.set_cons_zero, List.set_cons_succ]
  refine wpAnyH_ready (rs := [8]) (by kernel_rfl) (by simp) (AllReadyH.cons (o := ⟨some 64, .call { callee := .value (.func 19), args := #[.tmp 59, .tmp 61, .tmp 63], argTypes := #[43, 3, 58] }, 37, "law.go:127", #[⟨3, .data⟩, ⟨5, .data⟩, ⟨7, .data⟩], none⟩) rfl (fun KQ hK => ?_) AllReadyH.nil)
  go_simp
  refine (HA.out _ T1.out.own).mono ?_
  rintro x w2 ⟨rfl, hd, hb⟩
  have T2 := hid (T1.out.stepA hd hb)
  clear hd hb T1
  go_wp2_with fail
  refine hK.out _ _ T2.out.hold (fun hHeld => ?_)
  clear hK KQ
  try simp only [Act.put, List.setIfInBounds_toArray, List.set_cons_zero, List.set_cons_succ]
  refine wpAnyH_ready (rs := [17]) (by kernel_rfl) (by simp) (AllReadyH.cons (o := ⟨some 73, .call { callee := .value (.func 20), args := #[.tmp 68, .tmp 70, .tmp 72], argTypes := #[45, 3, 3] }, 3, "law.go:127", #[⟨12, .data⟩, ⟨14, .data⟩, ⟨16, .data⟩, ⟨8, .chain⟩], none⟩) rfl (fun KQ hK => ?_) AllReadyH.nil)
  go_simp
  refine (HR.out _ T2.out.doc).mono ?_
  rintro x w3 ⟨rfl, r1, hg⟩
  have T3 := hid (T2.out.stepR hg)
  clear hg T2
  go_wp2_with fail
  refine hK.out _ _ T3.out.hold (fun hHeld => ?_)
  clear hK KQ
  try simp only [Act.put, List.setIfInBounds_toArray, List.set_cons_zero, List.set_cons_succ]
  refine tk 18 ⟨some 74, .binOp .eql 3 (.tmp 64) (.tmp 73) 3, 4, "law.go:127", #[⟨8, .data⟩, ⟨17, .data⟩], none⟩ (.bool true) ?_
  simp only [Act.put, List.setIfInBounds_toArray, List.set_cons_zero, List.set_cons_succ]
  refine wpAnyH_ready (rs := [19]) (by kernel_rfl) (by simp) (AllReadyH.cons (o := ⟨some 4, .assign (.tmp 74), 4, "law.go:127", #[⟨18, .data⟩, ⟨17, .chain⟩, ⟨0, .phase⟩, ⟨1, .phase⟩, ⟨2, .phase⟩, ⟨3, .phase⟩, ⟨4, .phase⟩, ⟨5, .phase⟩, ⟨6, .phase⟩, ⟨7, .phase⟩, ⟨8, .phase⟩, ⟨9, .phase⟩, ⟨10, .phase⟩, ⟨11, .phase⟩, ⟨12, .phase⟩, ⟨13, .phase⟩, ⟨14, .phase⟩, ⟨15, .phase⟩, ⟨16, .phase⟩, ⟨17, .phase⟩, ⟨18, .phase⟩], none⟩) rfl (fun KQ hK => ?_) AllReadyH.nil)
  go_simp
  refine hK.out _ _ T3.out.hold (fun hHeld => ?_)
  clear hK KQ
  try simp only [Act.put, List.setIfInBounds_toArray, List.set_cons_zero, List.set_cons_succ]
  refine wpAnyH_done (by kernel_rfl) ?_ _
  go_wp2_with fail
  go_ret
  exact ⟨rfl, _, T3.out.tail, HSm.out.1, HSm.out.2⟩
theorem prep_13 (W w : World) (p : Dp) (r q : Rp) (d e : DS) (gs : Nat) (h : SX W w p r q d e gs) (o : Oq) (hk : o.k = 13) :
    Calls Tryz.prog 6 #[.pointer (some ⟨gs, 0, none⟩), o.val] w fun x w' => x = .returned (.bool true) ∧ ∃ q', SX W w' p r q' (d.give o.a) (e.give o.a) gs := by
  have T0 := hid (h.begin o)
  have HG : q.g = r.g := h.tp.g
  have hs := h.sim
  have hu := h.u
  have hok := h.tp.own.ok
  have HR := hid (fun w (hw : RDB w q e) => by
    have := rgive_any w q e hw o.a
    rw [hs.giveE, HG] at this
    exact this)
  have HA := hid (fun w (hw : DB w p d) => give_any w p d hw o.a)
  have HSm : Hid (DS.Sim (d.give o.a) (e.give o.a) ∧ (d.give o.a).m.U) := hid ⟨hs.give _, U_give hu _⟩
  clear h hu hs hok HG
  obtain ⟨k, a, b, c, v, m, on⟩ := o
  simp only at hk
  subst hk
  simp only [Oq.val, Oq.cs, sdC, ptr] at *
  generalize d.give a = d2 at *
  generalize e.give a = e2 at *
  generalize d.giveE a = f at *
  go_enter Tryz.func6, Tryz.ntmps6
  go_upto_region 1 with fail
  generalize World.alloc _ _ = X at *
  generalize w.heap.size = g3 at *
  obtain ⟨y0, y1, y2, y3, y4, y5, y6, y7, y8, y9⟩ := T0.out.ocl
  go_upto_region 9 with fail
  clear y0 y1 y2 y3 y4 y5 y6 y7 y8 y9
  have T1 := hid (T0.out.on (Below.refl _ _).drew)
  clear T0
  refine wp_region_held_drew (S := fun w => Cel w gs 48 [.pointer (some ⟨p.f.gm, 0, none⟩), .pointer (some ⟨p.g, 0, none⟩), .pointer (some ⟨r.g, 0, none⟩)] ∧ Cel w g3 33 [.int .i64 13, .int .i64 a, .int .i64 b, .int .i64 c, .int .u32 v, .bool m.s, .int .i64 m.p, .bool m.wr, .bool m.ex, .bool on]) (by kernel_rfl) T1.out.hold (fun hHeld => ?_)
  generalize World.drew _ = w1 at *
  refine tk 0 ⟨some 77, .move (.tmp 0), 25, "law.go:129", #[], none⟩ (.pointer (some ⟨gs, 0, none⟩)) ?_
  simp only [Act.put, List.setIfInBounds_toArray, List.set_cons_zero, List.set_cons_succ]
  refine tk 1 ⟨some 78, .nilCheck (.tmp 77), 0, "law.go:129", #[⟨0, .data⟩], none⟩ (.pointer (some ⟨gs, 0, none⟩)) ?_
  simp only [Act.put, List.setIfInBounds_toArray, List.set_cons_zero, List.set_cons_succ]
  refine tk 2 ⟨some 79, .fieldAddr 48 (.tmp 78) 1, 0, "law.go:129", #[⟨1, .data⟩], none⟩ (.pointer (some ⟨gs, 1, none⟩)) ?_
  simp only [Act.put, List.setIfInBounds_toArray, List.set_cons_zero, List.set_cons_succ]
  refine tk 3 ⟨some 80, .load 43 (.tmp 79), 43, "law.go:129", #[⟨2, .data⟩], none⟩ (.pointer (some ⟨p.g, 0, none⟩)) ?_ (hy := Or.inl ⟨by rfl, by intro w hSw; have hc : w.cell? ⟨gs, 1, none⟩ = some (.pointer (some ⟨p.g, 0, none⟩)) := hSw.1.cell 1; go_simp⟩)
  simp only [Act.put, List.setIfInBounds_toArray, List.set_cons_zero, List.set_cons_succ]
  refine tk 4 ⟨some 81, .fieldAddr 33 (.tmp 3) 1, 0, "law.go:129", #[], none⟩ (.pointer (some ⟨g3, 1, none⟩)) ?_
  simp only [Act.put, List.setIfInBounds_toArray, List.set_cons_zero, List.set_cons_succ]
  refine tk 5 ⟨some 82, .load 3 (.tmp 81), 3, "law.go:129", #[⟨4, .data⟩], none⟩ (.int .i64 a) ?_ (hy := Or.inl ⟨by rfl, by intro w hSw; have hc : w.cell? ⟨g3, 1, none⟩ = some (.int .i64 a) := hSw.2.cell 1; go_simp⟩)
  simp only [Act.put, List.setIfInBounds_toArray, List.set_cons_zero, List.set_cons_succ]
  refine tk 7 ⟨some 84, .move (.tmp 0), 25, "law.go:129", #[], none⟩ (.pointer (some ⟨gs, 0, none⟩)) ?_
  simp only [Act.put, List.setIfInBounds_toArray, List.set_cons_zero, List.set_cons_succ]
  refine tk 8 ⟨some 85, .nilCheck (.tmp 84), 0, "law.go:129", #[⟨7, .data⟩], none⟩ (.pointer (some ⟨gs, 0, none⟩)) ?_
  simp only [Act.put, List.setIfInBounds_toArray, List.set_cons_zero, List.set_cons_succ]
  refine tk 9 ⟨some 86, .fieldAddr 48 (.tmp 85) 2, 0, "law.go:129", #[⟨8, .data⟩], none⟩ (.pointer (some ⟨gs, 2, none⟩)) ?_
  simp only [Act.put, List.setIfInBounds_toArray, List.set_cons_zero, List.set_cons_succ]
  refine tk 10 ⟨some 87, .load 45 (.tmp 86), 45, "law.go:129", #[⟨9, .data⟩], none⟩ (.pointer (some ⟨r.g, 0, none⟩)) ?_ (hy := Or.inl ⟨by rfl, by intro w hSw; have hc : w.cell? ⟨gs, 2, none⟩ = some (.pointer (some ⟨r.g, 0, none⟩)) := hSw.1.cell 2; go_simp⟩)
  simp only [Act.put, List.setIfInBounds_toArray, List.set_cons_zero, List.set_cons_succ]
  refine tk 11 ⟨some 88, .fieldAddr 33 (.tmp 3) 1, 0, "law.go:129", #[], none⟩ (.pointer (some ⟨g3, 1, none⟩)) ?_
  simp only [Act.put, List.setIfInBounds_toArray, List.set_cons_zero, List.set_cons_succ]
  refine tk 12 ⟨some 89, .load 3 (.tmp 88), 3, "law.go:129", #[⟨11, .data⟩], none⟩ (.int .i64 a) ?_ (hy := Or.inl ⟨by rfl, by intro w hSw; have hc : w.cell? ⟨g3, 1, none⟩ = some (.int .i64 a) := hSw.2.cell 1; go_simp⟩)
  simp only [Act.put, List.setIfInBounds_toArray, List.set_cons_zero, List.set_cons_succ]
  refine wpAnyH_ready (rs := [6]) (by kernel_rfl) (by simp) (AllReadyH.cons (o := ⟨some 83, .call { callee := .value (.func 21), args := #[.tmp 80, .tmp 82], argTypes := #[43, 3] }, 37, "law.go:129", #[⟨3, .data⟩, ⟨5, .data⟩], none⟩) rfl (fun KQ hK => ?_) AllReadyH.nil)
  go_simp
  refine (HA.out _ T1.out.own).mono ?_
  rintro x w2 ⟨rfl, hd, hb⟩
  have T2 := hid (T1.out.stepA hd hb)
  clear hd hb T1
  go_wp2_with fail
  refine hK.out _ _ T2.out.hold (fun hHeld => ?_)
  clear hK KQ
  try simp only [Act.put, List.setIfInBounds_toArray, List.set_cons_zero, List.set_cons_succ]
  refine wpAnyH_ready (rs := [13]) (by kernel_rfl) (by simp) (AllReadyH.cons (o := ⟨some 90, .call { callee := .value (.func 22), args := #[.tmp 87, .tmp 89], argTypes := #[45, 3] }, 3, "law.go:129", #[⟨10, .data⟩, ⟨12, .data⟩, ⟨6, .chain⟩], none⟩) rfl (fun KQ hK => ?_) AllReadyH.nil)
  go_simp
  refine (HR.out _ T2.out.doc).mono ?_
  rintro x w3 ⟨rfl, r1, hg⟩
  have T3 := hid (T2.out.stepR hg)
  clear hg T2
  go_wp2_with fail
  refine hK.out _ _ T3.out.hold (fun hHeld => ?_)
  clear hK KQ
  try simp only [Act.put, List.setIfInBounds_toArray, List.set_cons_zero, List.set_cons_succ]
  refine tk 14 ⟨some 91, .binOp .eql 3 (.tmp 83) (.tmp 90) 3, 4, "law.go:129", #[⟨6, .data⟩, ⟨13, .data⟩], none⟩ (.bool true) ?_
  simp only [Act.put, List.setIfInBounds_toArray, List.set_cons_zero, List.set_cons_succ]
  refine wpAnyH_ready (rs := [15]) (by kernel_rfl) (by simp) (AllReadyH.cons (o := ⟨some 4, .assign (.tmp 91), 4, "law.go:129", #[⟨14, .data⟩, ⟨13, .chain⟩, ⟨0, .phase⟩, ⟨1, .phase⟩, ⟨2, .phase⟩, ⟨3, .phase⟩, ⟨4, .phase⟩, ⟨5, .phase⟩, ⟨6, .phase⟩, ⟨7, .phase⟩, ⟨8, .phase⟩, ⟨9, .phase⟩, ⟨10, .phase⟩, ⟨11, .phase⟩, ⟨12, .phase⟩, ⟨13, .phase⟩, ⟨14, .phase⟩], none⟩) rfl (fun KQ hK => ?_) AllReadyH.nil)
  go_simp
  refine hK.out _ _ T3.out.hold (fun hHeld => ?_)
  clear hK KQ
  try simp only [Act.put, List.setIfInBounds_toArray, List.set_cons_zero, List.set_cons_succ]
  refine wpAnyH_done (by kernel_rfl) ?_ _
  go_wp2_with fail
  go_ret
  exact ⟨rfl, _, T3.out.tail, HSm.out.1, HSm.out.2⟩
theorem prep_14 (W w : World) (p : Dp) (r q : Rp) (d e : DS) (gs : Nat) (h : SX W w p r q d e gs) (o : Oq) (hk : o.k = 14) :
    Calls Tryz.prog 6 #[.pointer (some ⟨gs, 0, none⟩), o.val] w fun x w' => x = .returned (.bool true) ∧ ∃ q', SX W w' p r q' (d.state o.a o.b) (e.state o.a o.b) gs := by
  have T0 := hid (h.begin o)
  have HG : q.g = r.g := h.tp.g
  have hs := h.sim
  have hu := h.u
  have hok := h.tp.own.ok
  have HR := hid (fun w (hw : RDB w q e) => by
    have := rsetState_any w q e hw o.a o.b
    rw [hs.stateE, HG] at this
    exact this)
  have HA := hid (fun w (hw : DB w p d) => setState_any w p d hw o.a o.b)
  have HSm : Hid (DS.Sim (d.state o.a o.b) (e.state o.a o.b) ∧ (d.state o.a o.b).m.U) := hid ⟨hs.state _ _, U_state hu _ _⟩
  clear h hu hs hok HG
  obtain ⟨k, a, b, c, v, m, on⟩ := o
  simp only at hk
  subst hk
  simp only [Oq.val, Oq.cs, sdC, ptr] at *
  generalize d.state a b = d2 at *
  generalize e.state a b = e2 at *
  generalize d.stateE a b = f at *
  go_enter Tryz.func6, Tryz.ntmps6
  go_upto_region 1 with fail
  generalize World.alloc _ _ = X at *
  generalize w.heap.size = g3 at *
  obtain ⟨y0, y1, y2, y3, y4, y5, y6, y7, y8, y9⟩ := T0.out.ocl
  go_upto_region 11 with fail
  clear y0 y1 y2 y3 y4 y5 y6 y7 y8 y9
  have T1 := hid (T0.out.on (Below.refl _ _).drew)
  clear T0
  refine wp_region_held_drew (S := fun w => Cel w gs 48 [.pointer (some ⟨p.f.gm, 0, none⟩), .pointer (some ⟨p.g, 0, none⟩), .pointer (some ⟨r.g, 0, none⟩)] ∧ Cel w g3 33 [.int .i64 14, .int .i64 a, .int .i64 b, .int .i64 c, .int .u32 v, .bool m.s, .int .i64 m.p, .bool m.wr, .bool m.ex, .bool on]) (by kernel_rfl) T1.out.hold (fun hHeld => ?_)
  generalize World.drew _ = w1 at *
  refine tk 0 ⟨some 94, .move (.tmp 0), 25, "law.go:131", #[], none⟩ (.pointer (some ⟨gs, 0, none⟩)) ?_
  simp only [Act.put, List.setIfInBounds_toArray, List.set_cons_zero, List.set_cons_succ]
  refine tk 1 ⟨some 95, .nilCheck (.tmp 94), 0, "law.go:131", #[⟨0, .data⟩], none⟩ (.pointer (some ⟨gs, 0, none⟩)) ?_
  simp only [Act.put, List.setIfInBounds_toArray, List.set_cons_zero, List.set_cons_succ]
  refine tk 2 ⟨some 96, .fieldAddr 48 (.tmp 95) 1, 0, "law.go:131", #[⟨1, .data⟩], none⟩ (.pointer (some ⟨gs, 1, none⟩)) ?_
  simp only [Act.put, List.setIfInBounds_toArray, List.set_cons_zero, List.set_cons_succ]
  refine tk 3 ⟨some 97, .load 43 (.tmp 96), 43, "law.go:131", #[⟨2, .data⟩], none⟩ (.pointer (some ⟨p.g, 0, none⟩)) ?_ (hy := Or.inl ⟨by rfl, by intro w hSw; have hc : w.cell? ⟨gs, 1, none⟩ = some (.pointer (some ⟨p.g, 0, none⟩)) := hSw.1.cell 1; go_simp⟩)
  simp only [Act.put, List.setIfInBounds_toArray, List.set_cons_zero, List.set_cons_succ]
  refine tk 4 ⟨some 98, .fieldAddr 33 (.tmp 3) 1, 0, "law.go:131", #[], none⟩ (.pointer (some ⟨g3, 1, none⟩)) ?_
  simp only [Act.put, List.setIfInBounds_toArray, List.set_cons_zero, List.set_cons_succ]
  refine tk 5 ⟨some 99, .load 3 (.tmp 98), 3, "law.go:131", #[⟨4, .data⟩], none⟩ (.int .i64 a) ?_ (hy := Or.inl ⟨by rfl, by intro w hSw; have hc : w.cell? ⟨g3, 1, none⟩ = some (.int .i64 a) := hSw.2.cell 1; go_simp⟩)
  simp only [Act.put, List.setIfInBounds_toArray, List.set_cons_zero, List.set_cons_succ]
  refine tk 6 ⟨some 100, .fieldAddr 33 (.tmp 3) 2, 0, "law.go:131", #[], none⟩ (.pointer (some ⟨g3, 2, none⟩)) ?_
  simp only [Act.put, List.setIfInBounds_toArray, List.set_cons_zero, List.set_cons_succ]
  refine tk 7 ⟨some 101, .load 3 (.tmp 100), 3, "law.go:131", #[⟨6, .data⟩], none⟩ (.int .i64 b) ?_ (hy := Or.inl ⟨by rfl, by intro w hSw; have hc : w.cell? ⟨g3, 2, none⟩ = some (.int .i64 b) := hSw.2.cell 2; go_simp⟩)
  simp only [Act.put, List.setIfInBounds_toArray, List.set_cons_zero, List.set_cons_succ]
  refine tk 9 ⟨some 103, .move (.tmp 0), 25, "law.go:131", #[], none⟩ (.pointer (some ⟨gs, 0, none⟩)) ?_
  simp only [Act.put, List.setIfInBounds_toArray, List.set_cons_zero, List.set_cons_succ]
  refine tk 10 ⟨some 104, .nilCheck (.tmp 103), 0, "law.go:131", #[⟨9, .data⟩], none⟩ (.pointer (some ⟨gs, 0, none⟩)) ?_
  simp only [Act.put, List.setIfInBounds_toArray, List.set_cons_zero, List.set_cons_succ]
  refine tk 11 ⟨some 105, .fieldAddr 48 (.tmp 104) 2, 0, "law.go:131", #[⟨10, .data⟩], none⟩ (.pointer (some ⟨gs, 2, none⟩)) ?_
  simp only [Act.put, List.setIfInBounds_toArray, List.set_cons_zero, List.set_cons_succ]
  refine tk 12 ⟨some 106, .load 45 (.tmp 105), 45, "law.go:131", #[⟨11, .data⟩], none⟩ (.pointer (some ⟨r.g, 0, none⟩)) ?_ (hy := Or.inl ⟨by rfl, by intro w hSw; have hc : w.cell? ⟨gs, 2, none⟩ = some (.pointer (some ⟨r.g, 0, none⟩)) := hSw.1.cell 2; go_simp⟩)
  simp only [Act.put, List.setIfInBounds_toArray, List.set_cons_zero, List.set_cons_succ]
  refine tk 13 ⟨some 107, .fieldAddr 33 (.tmp 3) 1, 0, "law.go:131", #[], none⟩ (.pointer (some ⟨g3, 1, none⟩)) ?_
  simp only [Act.put, List.setIfInBounds_toArray, List.set_cons_zero, List.set_cons_succ]
  refine tk 14 ⟨some 108, .load 3 (.tmp 107), 3, "law.go:131", #[⟨13, .data⟩], none⟩ (.int .i64 a) ?_ (hy := Or.inl ⟨by rfl, by intro w hSw; have hc : w.cell? ⟨g3, 1, none⟩ = some (.int .i64 a) := hSw.2.cell 1; go_simp⟩)
  simp only [Act.put, List.setIfInBounds_toArray, List.set_cons_zero, List.set_cons_succ]
  refine tk 15 ⟨some 109, .fieldAddr 33 (.tmp 3) 2, 0, "law.go:131", #[], none⟩ (.pointer (some ⟨g3, 2, none⟩)) ?_
  simp only [Act.put, List.setIfInBounds_toArray, List.set_cons_zero, List.set_cons_succ]
  refine tk 16 ⟨some 110, .load 3 (.tmp 109), 3, "law.go:131", #[⟨15, .data⟩], none⟩ (.int .i64 b) ?_ (hy := Or.inl ⟨by rfl, by intro w hSw; have hc : w.cell? ⟨g3, 2, none⟩ = some (.int .i64 b) := hSw.2.cell 2; go_simp⟩)
  simp only [Act.put, List.setIfInBounds_toArray, List.set_cons_zero, List.set_cons_succ]
  refine wpAnyH_ready (rs := [8]) (by kernel_rfl) (by simp) (AllReadyH.cons (o := ⟨some 102, .call { callee := .value (.func 23), args := #[.tmp 97, .tmp 99, .tmp 101], argTypes := #[43, 3, 64] }, 37, "law.go:131", #[⟨3, .data⟩, ⟨5, .data⟩, ⟨7, .data⟩], none⟩) rfl (fun KQ hK => ?_) AllReadyH.nil)
  go_simp
  refine (HA.out _ T1.out.own).mono ?_
  rintro x w2 ⟨rfl, hd, hb⟩
  have T2 := hid (T1.out.stepA hd hb)
  clear hd hb T1
  go_wp2_with fail
  refine hK.out _ _ T2.out.hold (fun hHeld => ?_)
  clear hK KQ
  try simp only [Act.put, List.setIfInBounds_toArray, List.set_cons_zero, List.set_cons_succ]
  refine wpAnyH_ready (rs := [17]) (by kernel_rfl) (by simp) (AllReadyH.cons (o := ⟨some 111, .call { callee := .value (.func 24), args := #[.tmp 106, .tmp 108, .tmp 110], argTypes := #[45, 3, 3] }, 3, "law.go:131", #[⟨12, .data⟩, ⟨14, .data⟩, ⟨16, .data⟩, ⟨8, .chain⟩], none⟩) rfl (fun KQ hK => ?_) AllReadyH.nil)
  go_simp
  refine (HR.out _ T2.out.doc).mono ?_
  rintro x w3 ⟨rfl, hg⟩
  have T3 := hid (T2.out.stepR hg)
  clear hg T2
  go_wp2_with fail
  refine hK.out _ _ T3.out.hold (fun hHeld => ?_)
  clear hK KQ
  try simp only [Act.put, List.setIfInBounds_toArray, List.set_cons_zero, List.set_cons_succ]
  refine tk 18 ⟨some 112, .binOp .eql 3 (.tmp 102) (.tmp 111) 3, 4, "law.go:131", #[⟨8, .data⟩, ⟨17, .data⟩], none⟩ (.bool true) ?_
  simp only [Act.put, List.setIfInBounds_toArray, List.set_cons_zero, List.set_cons_succ]
  refine wpAnyH_ready (rs := [19]) (by kernel_rfl) (by simp) (AllReadyH.cons (o := ⟨some 4, .assign (.tmp 112), 4, "law.go:131", #[⟨18, .data⟩, ⟨17, .chain⟩, ⟨0, .phase⟩, ⟨1, .phase⟩, ⟨2, .phase⟩, ⟨3, .phase⟩, ⟨4, .phase⟩, ⟨5, .phase⟩, ⟨6, .phase⟩, ⟨7, .phase⟩, ⟨8, .phase⟩, ⟨9, .phase⟩, ⟨10, .phase⟩, ⟨11, .phase⟩, ⟨12, .phase⟩, ⟨13, .phase⟩, ⟨14, .phase⟩, ⟨15, .phase⟩, ⟨16, .phase⟩, ⟨17, .phase⟩, ⟨18, .phase⟩], none⟩) rfl (fun KQ hK => ?_) AllReadyH.nil)
  go_simp
  refine hK.out _ _ T3.out.hold (fun hHeld => ?_)
  clear hK KQ
  try simp only [Act.put, List.setIfInBounds_toArray, List.set_cons_zero, List.set_cons_succ]
  refine wpAnyH_done (by kernel_rfl) ?_ _
  go_wp2_with fail
  go_ret
  exact ⟨rfl, _, T3.out.tail, HSm.out.1, HSm.out.2⟩
theorem prep_15 (W w : World) (p : Dp) (r q : Rp) (d e : DS) (gs : Nat) (h : SX W w p r q d e gs) (o : Oq) (hk : o.k = 15) (v0 : 0 ≤ o.v) (v1 : o.v < 4294967296) :
    Calls Tryz.prog 6 #[.pointer (some ⟨gs, 0, none⟩), o.val] w fun x w' => x = .returned (.bool true) ∧ ∃ q', SX W w' p r q' ({ d with m := d.m.write true o.a o.b o.v }) ({ e with m := e.m.write true o.a o.b o.v }) gs := by
  have T0 := hid (h.begin o)
  have HG : q.g = r.g := h.tp.g
  have hs := h.sim
  have hu := h.u
  have hok := h.tp.own.ok
  have HR := hid (fun w (hw : RDB w q e) => by
    have := rwrite_any w q.r e.m hw.mem true o.a o.b o.v
    rw [hs.err] at this
    exact this)
  have HA := hid (fun w (hw : DB w p d) => write_any w p.f d.m hw.mem true o.a o.b o.v)
  have HSm : Hid (DS.Sim { d with m := d.m.write true o.a o.b o.v } { e with m := e.m.write true o.a o.b o.v } ∧ (d.m.write true o.a o.b o.v).U) := hid ⟨hs.write _ _ _ _, hu.write _ _ _ _ v0 v1⟩
  have HN1 : Hid ((d.m.write true o.a o.b o.v).ns = d.m.ns) := hid (MS.write_ns _ _ _ _ _)
  have HN2 : Hid ((e.m.write true o.a o.b o.v).ns = e.m.ns) := hid (MS.write_ns _ _ _ _ _)
  have HC0 : Hid (∀ w, RDB w q e → q.g = r.g → w.cell? ⟨r.g, 0, none⟩ = some (.pointer (some ⟨q.r.g, 0, none⟩))) := hid (fun w hw hg => by rw [← hg]; exact hw.c0)
  have HG2 := hid HG
  clear v0 v1
  clear h hu hs hok HG
  obtain ⟨k, a, b, c, v, m, on⟩ := o
  simp only at hk
  subst hk
  simp only [Oq.val, Oq.cs, sdC, ptr] at *
  generalize d.m.write true a b v = m2 at *
  generalize e.m.write true a b v = m3 at *
  generalize d.m.err true a b = f at *
  simp only [fr] at *
  go_enter Tryz.func6, Tryz.ntmps6
  go_upto_region 1 with fail
  generalize World.alloc _ _ = X at *
  generalize w.heap.size = g3 at *
  obtain ⟨y0, y1, y2, y3, y4, y5, y6, y7, y8, y9⟩ := T0.out.ocl
  go_upto_region 12 with fail
  clear y0 y1 y2 y3 y4 y5 y6 y7 y8 y9
  have T1 := hid (T0.out.on (Below.refl _ _).drew)
  clear T0
  refine wp_region_held_drew (S := fun w => Cel w gs 48 [.pointer (some ⟨p.f.gm, 0, none⟩), .pointer (some ⟨p.g, 0, none⟩), .pointer (some ⟨r.g, 0, none⟩)] ∧ Cel w g3 33 [.int .i64 15, .int .i64 a, .int .i64 b, .int .i64 c, .int .u32 v, .bool m.s, .int .i64 m.p, .bool m.wr, .bool m.ex, .bool on]) (by kernel_rfl) T1.out.hold (fun hHeld => ?_)
  generalize World.drew _ = w1 at *
  refine tk 0 ⟨some 113, .move (.tmp 0), 25, "law.go:133", #[], none⟩ (.pointer (some ⟨gs, 0, none⟩)) ?_
  simp only [Act.put, List.setIfInBounds_toArray, List.set_cons_zero, List.set_cons_succ]
  refine tk 1 ⟨some 114, .nilCheck (.tmp 113), 0, "law.go:133", #[⟨0, .data⟩], none⟩ (.pointer (some ⟨gs, 0, none⟩)) ?_
  simp only [Act.put, List.setIfInBounds_toArray, List.set_cons_zero, List.set_cons_succ]
  refine tk 2 ⟨some 115, .fieldAddr 48 (.tmp 114) 0, 0, "law.go:133", #[⟨1, .data⟩], none⟩ (.pointer (some ⟨gs, 0, none⟩)) ?_
  simp only [Act.put, List.setIfInBounds_toArray, List.set_cons_zero, List.set_cons_succ]
  refine tk 3 ⟨some 116, .load 36 (.tmp 115), 36, "law.go:133", #[⟨2, .data⟩], none⟩ (.pointer (some ⟨p.f.gm, 0, none⟩)) ?_ (hy := Or.inl ⟨by rfl, by intro w hSw; have hc : w.cell? ⟨gs, 0, none⟩ = some (.pointer (some ⟨p.f.gm, 0, none⟩)) := hSw.1.cell 0; go_simp⟩)
  simp only [Act.put, List.setIfInBounds_toArray, List.set_cons_zero, List.set_cons_succ]
  refine tk 4 ⟨some 117, .fieldAddr 33 (.tmp 3) 1, 0, "law.go:133", #[], none⟩ (.pointer (some ⟨g3, 1, none⟩)) ?_
  simp only [Act.put, List.setIfInBounds_toArray, List.set_cons_zero, List.set_cons_succ]
  refine tk 5 ⟨some 118, .load 3 (.tmp 117), 3, "law.go:133", #[⟨4, .data⟩], none⟩ (.int .i64 a) ?_ (hy := Or.inl ⟨by rfl, by intro w hSw; have hc : w.cell? ⟨g3, 1, none⟩ = some (.int .i64 a) := hSw.2.cell 1; go_simp⟩)
  simp only [Act.put, List.setIfInBounds_toArray, List.set_cons_zero, List.set_cons_succ]
  refine tk 6 ⟨some 119, .build 67 #[(0, .const (.bool true)), (1, .tmp 118)], 67, "law.go:133", #[⟨5, .data⟩], none⟩ (.agg #[.bool true, .int .i64 a]) ?_
  simp only [Act.put, List.setIfInBounds_toArray, List.set_cons_zero, List.set_cons_succ]
  refine tk 7 ⟨some 120, .fieldAddr 33 (.tmp 3) 2, 0, "law.go:133", #[], none⟩ (.pointer (some ⟨g3, 2, none⟩)) ?_
  simp only [Act.put, List.setIfInBounds_toArray, List.set_cons_zero, List.set_cons_succ]
  refine tk 8 ⟨some 121, .load 3 (.tmp 120), 3, "law.go:133", #[⟨7, .data⟩], none⟩ (.int .i64 b) ?_ (hy := Or.inl ⟨by rfl, by intro w hSw; have hc : w.cell? ⟨g3, 2, none⟩ = some (.int .i64 b) := hSw.2.cell 2; go_simp⟩)
  simp only [Act.put, List.setIfInBounds_toArray, List.set_cons_zero, List.set_cons_succ]
  refine tk 9 ⟨some 122, .fieldAddr 33 (.tmp 3) 4, 0, "law.go:133", #[], none⟩ (.pointer (some ⟨g3, 4, none⟩)) ?_
  simp only [Act.put, List.setIfInBounds_toArray, List.set_cons_zero, List.set_cons_succ]
  refine tk 10 ⟨some 123, .load 29 (.tmp 122), 29, "law.go:133", #[⟨9, .data⟩], none⟩ (.int .u32 v) ?_ (hy := Or.inl ⟨by rfl, by intro w hSw; have hc : w.cell? ⟨g3, 4, none⟩ = some (.int .u32 v) := hSw.2.cell 4; go_simp⟩)
  simp only [Act.put, List.setIfInBounds_toArray, List.set_cons_zero, List.set_cons_succ]
  refine wpAnyH_ready (rs := [11]) (by kernel_rfl) (by simp) (AllReadyH.cons (o := ⟨some 124, .call { callee := .value (.func 25), args := #[.tmp 116, .tmp 119, .tmp 121, .tmp 123], argTypes := #[36, 67, 3, 29] }, 37, "law.go:133", #[⟨3, .data⟩, ⟨6, .data⟩, ⟨8, .data⟩, ⟨10, .data⟩], none⟩) rfl (fun KQ hK => ?_) AllReadyH.nil)
  go_simp
  refine (HA.out _ T1.out.own).mono ?_
  rintro x w2 ⟨rfl, hm, hb⟩
  have T2 := hid (T1.out.memA hm hb HN1.out)
  clear hm hb T1
  go_wp2_with fail
  refine hK.out _ _ T2.out.hold (fun hHeld => ?_)
  clear hK KQ
  try simp only [Act.put, List.setIfInBounds_toArray, List.set_cons_zero, List.set_cons_succ]
  refine wpAnyH_ready (rs := [12]) (by kernel_rfl) (by simp) (AllReadyH.cons (o := ⟨some 5, .assign (.tmp 124), 37, "law.go:133", #[⟨11, .data⟩, ⟨11, .chain⟩, ⟨0, .phase⟩, ⟨1, .phase⟩, ⟨2, .phase⟩, ⟨3, .phase⟩, ⟨4, .phase⟩, ⟨5, .phase⟩, ⟨6, .phase⟩, ⟨7, .phase⟩, ⟨8, .phase⟩, ⟨9, .phase⟩, ⟨10, .phase⟩, ⟨11, .phase⟩], none⟩) rfl (fun KQ hK => ?_) AllReadyH.nil)
  go_simp
  refine hK.out _ _ T2.out.hold (fun hHeld => ?_)
  clear hK KQ
  try simp only [Act.put, List.setIfInBounds_toArray, List.set_cons_zero, List.set_cons_succ]
  refine wpAnyH_done (by kernel_rfl) ?_ _
  have T3 := hid (T2.out.on (Below.refl _ _).drew)
  clear T2
  go_upto_region 13 with fail
  refine wp_region_held_drew (S := fun w => (Cel w gs 48 [.pointer (some ⟨p.f.gm, 0, none⟩), .pointer (some ⟨p.g, 0, none⟩), .pointer (some ⟨r.g, 0, none⟩)] ∧ Cel w g3 33 [.int .i64 15, .int .i64 a, .int .i64 b, .int .i64 c, .int .u32 v, .bool m.s, .int .i64 m.p, .bool m.wr, .bool m.ex, .bool on]) ∧ w.cell? ⟨r.g, 0, none⟩ = some (.pointer (some ⟨q.r.g, 0, none⟩))) (by kernel_rfl) ⟨T3.out.hold, HC0.out _ T3.out.doc HG2.out⟩ (fun hHeld => ?_)
  generalize World.drew _ = w3 at *
  refine tk 0 ⟨some 125, .move (.tmp 5), 37, "law.go:134", #[], none⟩ (.int .i64 f) ?_
  simp only [Act.put, List.setIfInBounds_toArray, List.set_cons_zero, List.set_cons_succ]
  refine tk 1 ⟨some 126, .move (.tmp 0), 25, "law.go:134", #[], none⟩ (.pointer (some ⟨gs, 0, none⟩)) ?_
  simp only [Act.put, List.setIfInBounds_toArray, List.set_cons_zero, List.set_cons_succ]
  refine tk 2 ⟨some 127, .nilCheck (.tmp 126), 0, "law.go:134", #[⟨1, .data⟩], none⟩ (.pointer (some ⟨gs, 0, none⟩)) ?_
  simp only [Act.put, List.setIfInBounds_toArray, List.set_cons_zero, List.set_cons_succ]
  refine tk 3 ⟨some 128, .fieldAddr 48 (.tmp 127) 2, 0, "law.go:134", #[⟨2, .data⟩], none⟩ (.pointer (some ⟨gs, 2, none⟩)) ?_
  simp only [Act.put, List.setIfInBounds_toArray, List.set_cons_zero, List.set_cons_succ]
  refine tk 4 ⟨some 129, .load 45 (.tmp 128), 45, "law.go:134", #[⟨3, .data⟩], none⟩ (.pointer (some ⟨r.g, 0, none⟩)) ?_ (hy := Or.inl ⟨by rfl, by intro w hSw; have hc : w.cell? ⟨gs, 2, none⟩ = some (.pointer (some ⟨r.g, 0, none⟩)) := hSw.1.1.cell 2; go_simp⟩)
  simp only [Act.put, List.setIfInBounds_toArray, List.set_cons_zero, List.set_cons_succ]
  refine tk 5 ⟨some 130, .nilCheck (.tmp 129), 0, "law.go:134", #[⟨4, .data⟩], none⟩ (.pointer (some ⟨r.g, 0, none⟩)) ?_
  simp only [Act.put, List.setIfInBounds_toArray, List.set_cons_zero, List.set_cons_succ]
  refine tk 6 ⟨some 131, .fieldAddr 70 (.tmp 130) 0, 0, "law.go:134", #[⟨5, .data⟩], none⟩ (.pointer (some ⟨r.g, 0, none⟩)) ?_
  simp only [Act.put, List.setIfInBounds_toArray, List.set_cons_zero, List.set_cons_succ]
  refine tk 7 ⟨some 132, .load 40 (.tmp 131), 40, "law.go:134", #[⟨6, .data⟩], none⟩ (.pointer (some ⟨q.r.g, 0, none⟩)) ?_ (hy := Or.inl ⟨by rfl, by intro w hSw; have hc := hSw.2; go_simp⟩)
  simp only [Act.put, List.setIfInBounds_toArray, List.set_cons_zero, List.set_cons_succ]
  refine tk 8 ⟨some 133, .fieldAddr 33 (.tmp 3) 1, 0, "law.go:134", #[], none⟩ (.pointer (some ⟨g3, 1, none⟩)) ?_
  simp only [Act.put, List.setIfInBounds_toArray, List.set_cons_zero, List.set_cons_succ]
  refine tk 9 ⟨some 134, .load 3 (.tmp 133), 3, "law.go:134", #[⟨8, .data⟩], none⟩ (.int .i64 a) ?_ (hy := Or.inl ⟨by rfl, by intro w hSw; have hc : w.cell? ⟨g3, 1, none⟩ = some (.int .i64 a) := hSw.1.2.cell 1; go_simp⟩)
  simp only [Act.put, List.setIfInBounds_toArray, List.set_cons_zero, List.set_cons_succ]
  refine tk 10 ⟨some 135, .build 72 #[(0, .const (.bool true)), (1, .tmp 134)], 72, "law.go:134", #[⟨9, .data⟩], none⟩ (.agg #[.bool true, .int .i64 a]) ?_
  simp only [Act.put, List.setIfInBounds_toArray, List.set_cons_zero, List.set_cons_succ]
  refine tk 11 ⟨some 136, .fieldAddr 33 (.tmp 3) 2, 0, "law.go:134", #[], none⟩ (.pointer (some ⟨g3, 2, none⟩)) ?_
  simp only [Act.put, List.setIfInBounds_toArray, List.set_cons_zero, List.set_cons_succ]
  refine tk 12 ⟨some 137, .load 3 (.tmp 136), 3, "law.go:134", #[⟨11, .data⟩], none⟩ (.int .i64 b) ?_ (hy := Or.inl ⟨by rfl, by intro w hSw; have hc : w.cell? ⟨g3, 2, none⟩ = some (.int .i64 b) := hSw.1.2.cell 2; go_simp⟩)
  simp only [Act.put, List.setIfInBounds_toArray, List.set_cons_zero, List.set_cons_succ]
  refine tk 13 ⟨some 138, .fieldAddr 33 (.tmp 3) 4, 0, "law.go:134", #[], none⟩ (.pointer (some ⟨g3, 4, none⟩)) ?_
  simp only [Act.put, List.setIfInBounds_toArray, List.set_cons_zero, List.set_cons_succ]
  refine tk 14 ⟨some 139, .load 29 (.tmp 138), 29, "law.go:134", #[⟨13, .data⟩], none⟩ (.int .u32 v) ?_ (hy := Or.inl ⟨by rfl, by intro w hSw; have hc : w.cell? ⟨g3, 4, none⟩ = some (.int .u32 v) := hSw.1.2.cell 4; go_simp⟩)
  simp only [Act.put, List.setIfInBounds_toArray, List.set_cons_zero, List.set_cons_succ]
  refine wpAnyH_ready (rs := [15]) (by kernel_rfl) (by simp) (AllReadyH.cons (o := ⟨some 140, .call { callee := .value (.func 26), args := #[.tmp 132, .tmp 135, .tmp 137, .tmp 139], argTypes := #[40, 72, 3, 29] }, 3, "law.go:134", #[⟨7, .data⟩, ⟨10, .data⟩, ⟨12, .data⟩, ⟨14, .data⟩], none⟩) rfl (fun KQ hK => ?_) AllReadyH.nil)
  go_simp
  refine (HR.out _ T3.out.doc).mono ?_
  rintro x w4 ⟨rfl, r2, hs⟩
  have HG := hid hs.g
  have T4 := hid (T3.out.memR hs HN2.out)
  clear hs T3
  go_wp2_with fail
  refine hK.out _ _ ⟨T4.out.hold, by have h0 := T4.out.doc.c0; have h1 := T4.out.g; simp only [HG.out, HG2.out] at h0 h1; exact h0⟩ (fun hHeld => ?_)
  clear hK KQ
  try simp only [Act.put, List.setIfInBounds_toArray, List.set_cons_zero, List.set_cons_succ]
  refine tk 16 ⟨some 141, .binOp .eql 3 (.tmp 125) (.tmp 140) 3, 4, "law.go:134", #[⟨0, .data⟩, ⟨15, .data⟩], none⟩ (.bool true) ?_
  simp only [Act.put, List.setIfInBounds_toArray, List.set_cons_zero, List.set_cons_succ]
  refine wpAnyH_ready (rs := [17]) (by kernel_rfl) (by simp) (AllReadyH.cons (o := ⟨some 4, .assign (.tmp 141), 4, "law.go:134", #[⟨16, .data⟩, ⟨15, .chain⟩, ⟨0, .phase⟩, ⟨1, .phase⟩, ⟨2, .phase⟩, ⟨3, .phase⟩, ⟨4, .phase⟩, ⟨5, .phase⟩, ⟨6, .phase⟩, ⟨7, .phase⟩, ⟨8, .phase⟩, ⟨9, .phase⟩, ⟨10, .phase⟩, ⟨11, .phase⟩, ⟨12, .phase⟩, ⟨13, .phase⟩, ⟨14, .phase⟩, ⟨15, .phase⟩, ⟨16, .phase⟩], none⟩) rfl (fun KQ hK => ?_) AllReadyH.nil)
  go_simp
  refine hK.out _ _ ⟨T4.out.hold, by have h0 := T4.out.doc.c0; have h1 := T4.out.g; simp only [HG.out, HG2.out] at h0 h1; exact h0⟩ (fun hHeld => ?_)
  clear hK KQ
  try simp only [Act.put, List.setIfInBounds_toArray, List.set_cons_zero, List.set_cons_succ]
  refine wpAnyH_done (by kernel_rfl) ?_ _
  go_wp2_with fail
  go_ret
  exact ⟨rfl, _, T4.out.tail, HSm.out.1, HSm.out.2⟩
end Go.Proofs.YtgbpbfnpeeciaaaGreat
