import Derived.Test.YtildhjiddidghaaGreatDoorP44
import Derived.Test.YtildhjiddidghaaGreatDoorCards
import Derived.Test.YtildhjiddidghaaGreatDoorTie
import Derived.ProofKit
import Derived.OpenShut
import Derived.ShutString
import Derived.ChangeOld
import Derived.Below
import Derived.Deep.DeepHandedRow
import Derived.SizedLaws
import Derived.Lib.LaidTab
import Derived.Test.YtildhjiddidghaaGreatDoorP42
import Derived.Test.YtildhjiddidghaaGreatDoorP01
namespace Go.Proofs.YtildhjiddidghaaGreatDoor
open Go.ChangeShapes Go.WideShapes Go.ChangeAt Go.RowKit
theorem own : ownKnob Tryz.prog.godebug = none := by kernel_rfl
theorem laidOut : laidOutB Tryz.prog = true := by kernel_rfl
theorem gTab : Tryz.prog.globalNamed "warden/sha.roundWords" = some 2 := by kernel_rfl
theorem gTabType : (Tryz.prog.globals[2]?).map (·.type) = some 196 := by kernel_rfl
theorem celA : Tryz.prog.cellsOf 196 = 64 := by kernel_rfl
theorem celW : Tryz.prog.cellsOf 22 = 1 := by kernel_rfl
theorem tab_of {rest : List (String × DataW Unit)} {W : World} (h : laidMet Tryz.prog (("warden/sha.roundWords", Rows.laid_warden_sha_roundWords) :: rest) W) : H.Tab W := by
  have hT : Lib.TabIs Tryz.prog W "warden/sha.roundWords" .u32 H.S.K := Lib.tabIs_of_head (rest := rest) gTab gTabType Tryz.underlying196 Tryz.underlying22 celW celA h
  have hc : ∀ i : Nat, i < 64 → W.cell? ⟨2, i, none⟩ = some (.int .u32 (H.S.K.getD i 0)) := fun i hi => hT.cell gTab i hi
  exact fun i hi => by rw [Nat.zero_add]; exact hc i hi
theorem size_of_shape {W : World} (h : W.ShapedOpen Tryz.prog) : 2 < W.heap.size := by
  have h0 : ((begin Tryz.prog (fun _ _ => 0) default).world.heap[2]?).bind Obj.row? = some (#[.int .u32 0, .int .u32 0, .int .u32 0, .int .u32 0, .int .u32 0, .int .u32 0, .int .u32 0, .int .u32 0, .int .u32 0, .int .u32 0, .int .u32 0, .int .u32 0, .int .u32 0, .int .u32 0, .int .u32 0, .int .u32 0, .int .u32 0, .int .u32 0, .int .u32 0, .int .u32 0, .int .u32 0, .int .u32 0, .int .u32 0, .int .u32 0, .int .u32 0, .int .u32 0, .int .u32 0, .int .u32 0, .int .u32 0, .int .u32 0, .int .u32 0, .int .u32 0, .int .u32 0, .int .u32 0, .int .u32 0, .int .u32 0, .int .u32 0, .int .u32 0, .int .u32 0, .int .u32 0, .int .u32 0, .int .u32 0, .int .u32 0, .int .u32 0, .int .u32 0, .int .u32 0, .int .u32 0, .int .u32 0, .int .u32 0, .int .u32 0, .int .u32 0, .int .u32 0, .int .u32 0, .int .u32 0, .int .u32 0, .int .u32 0, .int .u32 0, .int .u32 0, .int .u32 0, .int .u32 0, .int .u32 0, .int .u32 0, .int .u32 0, .int .u32 0], 196) := by kernel_rfl
  obtain ⟨cs, hh, _, _⟩ := h.1 2 _ _ (by rw [show Tryz.prog.globals.size = 3 from by kernel_rfl]; decide) h0
  exact (Array.getElem?_eq_some_iff.1 hh).1
theorem trodAll_below {H : Type} {enc : TypeId × Value → H} {P : Program} (hl : laidOutB P = true) {W W' : World} (hb : Below W.heap.size W W') (ts : List TypeId) : ∀ {vs : List Value} {ds : List (DataW H)} {ps : List MemPlace},
    (ts.all fun t => P.readableRec t && decide (t < P.types.size)) = true → DataW.TrodAll enc P W 0 (fun _ => true) true ts vs ds ps → (∀ x ∈ ps, x.block < W.heap.size) →
    DataW.TrodAll enc P W' 0 (fun b => decide (b < W.heap.size)) true ts vs ds ps := by
  induction ts with
  | nil =>
    intro vs ds ps _ h _
    obtain ⟨rfl, rfl, rfl⟩ := trodAll_nil h
    exact trodAll_mk0
  | cons t ts ih =>
    intro vs ds ps ht h hlt
    obtain ⟨v0, vs0, d0, ds0, p0, q0, rfl, rfl, rfl, h0, r0⟩ := trodAll_cons h
    simp only [List.all_cons, Bool.and_eq_true, decide_eq_true_eq] at ht
    exact trodAll_cons_mk (Below.trod hl ht.1.1 ht.1.2 h0 hb (fun x hx => hlt x (by simp [hx]))) (ih (by simpa using ht.2) r0 (fun x hx => hlt x (by simp [hx])))
theorem law_post {H : Type} {enc : TypeId × Value → H} {f : Func} {s : ChangeSpec} {W W' : World} {args : Array Value} {ds gs : List (DataW H)} {before : List MemPlace}
    (hts : (f.params.toList.all fun t => Tryz.prog.readableRec t && decide (t < Tryz.prog.types.size)) = true) (hr : f.resultTypes = #[4]) (hv : s.vars = [])
    (hs : s.fn H (ds ++ gs) = { results := [.lit (.bool true)], args := ds })
    (hW : DataW.Whole enc Tryz.prog f.params.toList s.vars false W args.toList ds gs before) (hb : Below W.heap.size W W') :
    s.post enc Tryz.prog f false true false false W args (.bool true) W' := by
  have hW' := hW
  have hlt := hW.lt
  obtain ⟨p, q, hA, hV, rfl, hfz, hnd⟩ := hW
  rw [hv] at hV
  obtain ⟨rfl, rfl⟩ := trodVars_none hV
  rw [List.append_nil] at hlt
  refine ⟨ds, [], _, [], p, [], hW', ?_, ?_, ?_, hb.frame _, fun h => by cases h⟩
  · rw [hs, hr]
    exact trodAll_mk1 (shut_bool Tryz.underlying4 _)
  · rw [hs]
    exact trodAll_below laidOut hb _ hts hA hlt
  · rw [hs, hv]
    rfl
theorem lit_u32 {n : Int} (h : (Lit.int .u32 n).wf = true) : 0 ≤ n ∧ n < 4294967296 := by
  simp only [Lit.wf, IntKind.min, IntKind.max, IntKind.signed, IntKind.bits, Bool.and_eq_true] at h
  obtain ⟨h1, h2⟩ := h
  simp at h1 h2
  omega
theorem pick {Q : Nat → Int → Prop} (n : Nat) (h : ∀ k, k < n → ∃ x, Q k x) : ∃ f : Nat → Int, ∀ k, k < n → Q k (f k) :=
  ⟨fun k => if hk : k < n then (h k hk).choose else 0, fun k hk => by simp only [hk, dif_pos]; exact (h k hk).choose_spec⟩
theorem vars_tail {P : Program} {W : World} {x : String × DataW Unit} {r : List (String × DataW Unit)} {ps : List MemPlace} (h : DataW.LaidVars P W (x :: r) ps) : ∃ q, DataW.LaidVars P W r q := by
  obtain ⟨n, d⟩ := x
  obtain ⟨g, t, cs, fuel, p, q, _, _, _, _, h, _⟩ := h
  exact ⟨q, h⟩
theorem tab_vars {P : Program} {W : World} {name : String} {k : IntKind} {zs : List Int} {rest : List (String × DataW Unit)} {g : Nat} {t e : TypeId} {n : Nat} {ps : List MemPlace}
    (hg : P.globalNamed name = some g) (hty : (P.globals[g]?).map (·.type) = some t) (ht : P.underlying t = some (.array n e)) (he : P.underlying e = some (.int k)) (hce : P.cellsOf e = 1) (hct : P.cellsOf t = n)
    (h : DataW.LaidVars P W ((name, Lib.tabData k zs) :: rest) ps) : Lib.TabIs P W name k zs := by
  obtain ⟨g', t', cs, fuel, p, q, hg', ht', hvar, hd, _, _⟩ := h
  obtain rfl := Option.some.inj (hg.symm.trans hg')
  obtain rfl := Option.some.inj (hty.symm.trans ht')
  unfold Lib.TabIs
  rw [hvar, ← Lib.cells_of_tab ht he hce hct hd]
theorem gTabR : Tryz.prog.globalNamed "warden/wardenref02.K" = some 1 := by kernel_rfl
theorem gTabRType : (Tryz.prog.globals[1]?).map (·.type) = some 196 := by kernel_rfl
theorem tabR_of {rest : List (String × DataW Unit)} {W : World} {ps : List MemPlace} (h : DataW.LaidVars Tryz.prog W (("warden/wardenref02.K", Rows.laid_warden_wardenref02_K) :: rest) ps) : H.TabR W := by
  have hT : Lib.TabIs Tryz.prog W "warden/wardenref02.K" .u32 H.S.K := tab_vars (rest := rest) gTabR gTabRType Tryz.underlying196 Tryz.underlying22 celW celA h
  have hc : ∀ i : Nat, i < 64 → W.cell? ⟨1, i, none⟩ = some (.int .u32 (H.S.K.getD i 0)) := fun i hi => hT.cell gTabR i hi
  exact fun i hi => by rw [Nat.zero_add]; exact hc i hi
instance : Inhabited Aq := ⟨⟨0, 0, 0, 0, 0, none, 0, 0⟩⟩
end Go.Proofs.YtildhjiddidghaaGreatDoor
namespace Go.Proofs.YtildhjiddidghaaGreatDoor
open Go.RowKit
set_option maxHeartbeats 4000000
set_option maxRecDepth 100000
theorem SB.tail {W w : World} {g : Nat} {p : Dp} {r : Rp} {d e : DS} {x : BxT} {L : List BxT} (h : SB W w g p r d e (x :: L)) : SB W w g p r d e L := ⟨h.ss, fun y hy => h.bag y (by simp [hy]), fun y hy => h.ty y (by simp [hy])⟩
theorem SB.cons {W w : World} {g : Nat} {p : Dp} {r : Rp} {d e : DS} {L : List BxT} (h : SB W w g p r d e L) (t : TypeId) (cs : List Value) (ht : okT t = true) : SB W (w.alloc (.cells cs.toArray t)) g p r d e ((w.heap.size, t, cs) :: L) := by
  have x3 := h.on (below_one w (.cells cs.toArray t))
  refine ⟨x3.ss, fun y hy => ?_, fun y hy => ?_⟩
  · rcases List.mem_cons.1 hy with rfl | hy
    · exact Cel.new w t cs
    · exact x3.bag y hy
  · rcases List.mem_cons.1 hy with rfl | hy
    · exact ht
    · exact x3.ty y hy
theorem SB.stepA {W w w' : World} {g : Nat} {p : Dp} {r : Rp} {d d' e : DS} {L : List BxT} (h : SB W w g p r d e L) (hd : DB w' p d') (hb : ButL p.w w w') : SB W w' g p r d' e L :=
  ⟨h.ss.stepA hd hb, fun x hx => (h.bag x hx).but hb (fun hk => h.offp hx (Dp.w_all hk)), h.ty⟩
theorem SB.stepR {W w w' : World} {g : Nat} {p : Dp} {r q : Rp} {d e e' : DS} {L : List BxT} (h : SB W w g p r d e L) (hR : RG w w' r q e') : SB W w' g p q d e' L :=
  ⟨h.ss.stepR hR, fun x hx => (h.bag x hx).but hR.but (h.offr hx), h.ty⟩
theorem SB.hold {W w : World} {g : Nat} {p : Dp} {r : Rp} {d e : DS} {g3 : Nat} {cs : List Value} {L : List BxT} (h : SB W w g p r d e ((g3, 42, cs) :: L)) {rg : Nat} (hr : r.g = rg) : Cel w g3 42 cs ∧ w.cell? ⟨g, 1, none⟩ = some (.pointer (some ⟨p.g, 0, none⟩)) ∧ w.cell? ⟨g, 2, none⟩ = some (.pointer (some ⟨rg, 0, none⟩)) := ⟨h.get 0 rfl, h.ss.c.2.1, by rw [← hr]; exact h.ss.c.2.2⟩
theorem actb_1 (W w : World) (g : Nat) (p : Dp) (r : Rp) (d : DS) (L : List BxT) (h : SB W w g p r d d L) (a b c v : Int) (u : Value) :
    Calls Tryz.prog 11 #[.pointer (some ⟨g, 0, none⟩), .agg #[.int .i64 1, .int .i64 a, .int .i64 b, .int .i64 c, .int .u32 v, u]] w fun e w' => e = .returned (.bool true) ∧ ∃ q, SB W w' g p q (d.takeSpace a b) (d.takeSpace a b) L := by
  have X0 : Hid (SB W (w.alloc (.cells #[.int .i64 1, .int .i64 a, .int .i64 b, .int .i64 c, .int .u32 v, u] 42)) g p r d d ((w.heap.size, 42, [.int .i64 1, .int .i64 a, .int .i64 b, .int .i64 c, .int .u32 v, u]) :: L)) := hid (h.cons 42 [.int .i64 1, .int .i64 a, .int .i64 b, .int .i64 c, .int .u32 v, u] rfl)
  have HA := hid (fun w (hw : DB w p d) => takeSpace_any w p d hw a b)
  have HR := hid (fun w (hw : RDB w r d) => rtakeSpace_any w r d hw a b)
  have HNm := hid (fun w x => num_l w x)
  clear h
  simp only [ptr] at *
  generalize hd2 : d.takeSpace a b = d2 at *
  clear hd2
  generalize d.bearE a b = ff at *
  go_enter Tryz.func11, Tryz.ntmps11
  go_upto_region 1 with fail
  generalize World.alloc _ _ = X at *
  generalize w.heap.size = g3 at *
  have y0 : X.cell? ⟨g3, 0, none⟩ = some (.int .i64 1) := (X0.out.get 0 rfl).cell 0
  go_upto_region 3 with fail
  clear y0
  have X1 := hid (X0.out.on (Below.refl _ _).drew)
  clear X0
  refine wp_region_held_drew (S := fun w => Cel w g3 42 [.int .i64 1, .int .i64 a, .int .i64 b, .int .i64 c, .int .u32 v, u] ∧ w.cell? ⟨g, 1, none⟩ = some (.pointer (some ⟨p.g, 0, none⟩)) ∧ w.cell? ⟨g, 2, none⟩ = some (.pointer (some ⟨r.g, 0, none⟩))) (by kernel_rfl) (X1.out.hold rfl) (fun hHeld => ?_)
  generalize World.drew _ = w1 at *
  refine tk 0 ⟨some 9, .move (.tmp 0), 26, "law.go:123", #[], none⟩ (.pointer (some ⟨g, 0, none⟩)) ?_
  simp only [Act.put, List.setIfInBounds_toArray, List.set_cons_zero, List.set_cons_succ]
  refine tk 1 ⟨some 10, .nilCheck (.tmp 9), 0, "law.go:123", #[⟨0, .data⟩], none⟩ (.pointer (some ⟨g, 0, none⟩)) ?_
  simp only [Act.put, List.setIfInBounds_toArray, List.set_cons_zero, List.set_cons_succ]
  refine tk 2 ⟨some 11, .fieldAddr 34 (.tmp 10) 1, 0, "law.go:123", #[⟨1, .data⟩], none⟩ (.pointer (some ⟨g, 1, none⟩)) ?_
  simp only [Act.put, List.setIfInBounds_toArray, List.set_cons_zero, List.set_cons_succ]
  refine tk 3 ⟨some 12, .load 31 (.tmp 11), 31, "law.go:123", #[⟨2, .data⟩], none⟩ (.pointer (some ⟨p.g, 0, none⟩)) ?_ (hy := Or.inl ⟨by rfl, by intro w hSw; have hc := hSw.2.1; go_simp⟩)
  simp only [Act.put, List.setIfInBounds_toArray, List.set_cons_zero, List.set_cons_succ]
  refine tk 4 ⟨some 13, .fieldAddr 42 (.tmp 3) 1, 0, "law.go:123", #[], none⟩ (.pointer (some ⟨g3, 1, none⟩)) ?_
  simp only [Act.put, List.setIfInBounds_toArray, List.set_cons_zero, List.set_cons_succ]
  refine tk 5 ⟨some 14, .load 3 (.tmp 13), 3, "law.go:123", #[⟨4, .data⟩], none⟩ (.int .i64 a) ?_ (hy := Or.inl ⟨by rfl, by intro w hSw; have hc : w.cell? ⟨g3, 1, none⟩ = some (.int .i64 a) := hSw.1.cell 1; go_simp⟩)
  simp only [Act.put, List.setIfInBounds_toArray, List.set_cons_zero, List.set_cons_succ]
  refine tk 6 ⟨some 15, .fieldAddr 42 (.tmp 3) 2, 0, "law.go:123", #[], none⟩ (.pointer (some ⟨g3, 2, none⟩)) ?_
  simp only [Act.put, List.setIfInBounds_toArray, List.set_cons_zero, List.set_cons_succ]
  refine tk 7 ⟨some 16, .load 3 (.tmp 15), 3, "law.go:123", #[⟨6, .data⟩], none⟩ (.int .i64 b) ?_ (hy := Or.inl ⟨by rfl, by intro w hSw; have hc : w.cell? ⟨g3, 2, none⟩ = some (.int .i64 b) := hSw.1.cell 2; go_simp⟩)
  simp only [Act.put, List.setIfInBounds_toArray, List.set_cons_zero, List.set_cons_succ]
  refine tk 10 ⟨some 19, .move (.tmp 0), 26, "law.go:123", #[], none⟩ (.pointer (some ⟨g, 0, none⟩)) ?_
  simp only [Act.put, List.setIfInBounds_toArray, List.set_cons_zero, List.set_cons_succ]
  refine tk 11 ⟨some 20, .nilCheck (.tmp 19), 0, "law.go:123", #[⟨10, .data⟩], none⟩ (.pointer (some ⟨g, 0, none⟩)) ?_
  simp only [Act.put, List.setIfInBounds_toArray, List.set_cons_zero, List.set_cons_succ]
  refine tk 12 ⟨some 21, .fieldAddr 34 (.tmp 20) 2, 0, "law.go:123", #[⟨11, .data⟩], none⟩ (.pointer (some ⟨g, 2, none⟩)) ?_
  simp only [Act.put, List.setIfInBounds_toArray, List.set_cons_zero, List.set_cons_succ]
  refine tk 13 ⟨some 22, .load 32 (.tmp 21), 32, "law.go:123", #[⟨12, .data⟩], none⟩ (.pointer (some ⟨r.g, 0, none⟩)) ?_ (hy := Or.inl ⟨by rfl, by intro w hSw; have hc := hSw.2.2; go_simp⟩)
  simp only [Act.put, List.setIfInBounds_toArray, List.set_cons_zero, List.set_cons_succ]
  refine tk 14 ⟨some 23, .fieldAddr 42 (.tmp 3) 1, 0, "law.go:123", #[], none⟩ (.pointer (some ⟨g3, 1, none⟩)) ?_
  simp only [Act.put, List.setIfInBounds_toArray, List.set_cons_zero, List.set_cons_succ]
  refine tk 15 ⟨some 24, .load 3 (.tmp 23), 3, "law.go:123", #[⟨14, .data⟩], none⟩ (.int .i64 a) ?_ (hy := Or.inl ⟨by rfl, by intro w hSw; have hc : w.cell? ⟨g3, 1, none⟩ = some (.int .i64 a) := hSw.1.cell 1; go_simp⟩)
  simp only [Act.put, List.setIfInBounds_toArray, List.set_cons_zero, List.set_cons_succ]
  refine tk 16 ⟨some 25, .fieldAddr 42 (.tmp 3) 2, 0, "law.go:123", #[], none⟩ (.pointer (some ⟨g3, 2, none⟩)) ?_
  simp only [Act.put, List.setIfInBounds_toArray, List.set_cons_zero, List.set_cons_succ]
  refine tk 17 ⟨some 26, .load 3 (.tmp 25), 3, "law.go:123", #[⟨16, .data⟩], none⟩ (.int .i64 b) ?_ (hy := Or.inl ⟨by rfl, by intro w hSw; have hc : w.cell? ⟨g3, 2, none⟩ = some (.int .i64 b) := hSw.1.cell 2; go_simp⟩)
  simp only [Act.put, List.setIfInBounds_toArray, List.set_cons_zero, List.set_cons_succ]
  refine wpAnyH_ready (rs := [8]) (by kernel_rfl) (by simp) (AllReadyH.cons (o := ⟨some 17, .call { callee := .value (.func 31), args := #[.tmp 12, .tmp 14, .tmp 16], argTypes := #[31, 3, 3] }, 54, "law.go:123", #[⟨3, .data⟩, ⟨5, .data⟩, ⟨7, .data⟩], none⟩) rfl (fun KQ hK => ?_) AllReadyH.nil)
  go_simp
  refine (HA.out _ X1.out.ss.own).mono ?_
  rintro e w2 ⟨rfl, hd, hb⟩
  have X2 := hid (X1.out.stepA hd hb)
  clear hd hb X1
  go_wp2_with fail
  refine hK.out _ _ (X2.out.hold rfl) (fun hHeld => ?_)
  clear hK KQ
  try simp only [Act.put, List.setIfInBounds_toArray, List.set_cons_zero, List.set_cons_succ]
  refine wpAnyH_ready (rs := [9]) (by kernel_rfl) (by simp) (AllReadyH.cons (o := ⟨some 18, .call { callee := .value (.func 25), args := #[.tmp 17], argTypes := #[54] }, 3, "law.go:123", #[⟨8, .data⟩, ⟨8, .chain⟩], none⟩) rfl (fun KQ hK => ?_) AllReadyH.nil)
  go_simp
  refine (HNm.out _ _).mono ?_
  rintro e wx ⟨rfl, hw⟩
  subst wx
  go_wp2_with fail
  refine hK.out _ _ (X2.out.hold rfl) (fun hHeld => ?_)
  clear hK KQ
  try simp only [Act.put, List.setIfInBounds_toArray, List.set_cons_zero, List.set_cons_succ]
  refine wpAnyH_ready (rs := [18]) (by kernel_rfl) (by simp) (AllReadyH.cons (o := ⟨some 27, .call { callee := .value (.func 32), args := #[.tmp 22, .tmp 24, .tmp 26], argTypes := #[32, 3, 3] }, 3, "law.go:123", #[⟨13, .data⟩, ⟨15, .data⟩, ⟨17, .data⟩, ⟨9, .chain⟩], none⟩) rfl (fun KQ hK => ?_) AllReadyH.nil)
  go_simp
  refine (HR.out _ X2.out.ss.doc).mono ?_
  rintro e w3 ⟨rfl, r1, hg⟩
  have X3 := hid (X2.out.stepR hg)
  clear hg X2
  go_wp2_with fail
  refine hK.out _ _ (X3.out.hold rfl) (fun hHeld => ?_)
  clear hK KQ
  try simp only [Act.put, List.setIfInBounds_toArray, List.set_cons_zero, List.set_cons_succ]
  refine tk 19 ⟨some 28, .binOp .eql 3 (.tmp 18) (.tmp 27) 3, 4, "law.go:123", #[⟨9, .data⟩, ⟨18, .data⟩], none⟩ (.bool true) ?_
  simp only [Act.put, List.setIfInBounds_toArray, List.set_cons_zero, List.set_cons_succ]
  refine wpAnyH_ready (rs := [20]) (by kernel_rfl) (by simp) (AllReadyH.cons (o := ⟨some 4, .assign (.tmp 28), 4, "law.go:123", #[⟨19, .data⟩, ⟨18, .chain⟩, ⟨0, .phase⟩, ⟨1, .phase⟩, ⟨2, .phase⟩, ⟨3, .phase⟩, ⟨4, .phase⟩, ⟨5, .phase⟩, ⟨6, .phase⟩, ⟨7, .phase⟩, ⟨8, .phase⟩, ⟨9, .phase⟩, ⟨10, .phase⟩, ⟨11, .phase⟩, ⟨12, .phase⟩, ⟨13, .phase⟩, ⟨14, .phase⟩, ⟨15, .phase⟩, ⟨16, .phase⟩, ⟨17, .phase⟩, ⟨18, .phase⟩, ⟨19, .phase⟩], none⟩) rfl (fun KQ hK => ?_) AllReadyH.nil)
  go_simp
  refine hK.out _ _ (X3.out.hold rfl) (fun hHeld => ?_)
  clear hK KQ
  try simp only [Act.put, List.setIfInBounds_toArray, List.set_cons_zero, List.set_cons_succ]
  refine wpAnyH_done (by kernel_rfl) ?_ _
  go_wp2_with fail
  go_ret
  exact ⟨rfl, _, X3.out.tail⟩
theorem actb_2 (W w : World) (g : Nat) (p : Dp) (r : Rp) (d : DS) (L : List BxT) (h : SB W w g p r d d L) (a b c v : Int) (u : Value) :
    Calls Tryz.prog 11 #[.pointer (some ⟨g, 0, none⟩), .agg #[.int .i64 2, .int .i64 a, .int .i64 b, .int .i64 c, .int .u32 v, u]] w fun e w' => e = .returned (.bool true) ∧ ∃ q, SB W w' g p q (d.take a b c) (d.take a b c) L := by
  have X0 : Hid (SB W (w.alloc (.cells #[.int .i64 2, .int .i64 a, .int .i64 b, .int .i64 c, .int .u32 v, u] 42)) g p r d d ((w.heap.size, 42, [.int .i64 2, .int .i64 a, .int .i64 b, .int .i64 c, .int .u32 v, u]) :: L)) := hid (h.cons 42 [.int .i64 2, .int .i64 a, .int .i64 b, .int .i64 c, .int .u32 v, u] rfl)
  have HA := hid (fun w (hw : DB w p d) => take_any w p d hw a b c)
  have HR := hid (fun w (hw : RDB w r d) => rtake_any w r d hw a b c)
  have HNm := hid (fun w x => num_l w x)
  clear h
  simp only [ptr] at *
  generalize hd2 : d.take a b c = d2 at *
  clear hd2
  generalize d.takeE a b c = ff at *
  go_enter Tryz.func11, Tryz.ntmps11
  go_upto_region 1 with fail
  generalize World.alloc _ _ = X at *
  generalize w.heap.size = g3 at *
  have y0 : X.cell? ⟨g3, 0, none⟩ = some (.int .i64 2) := (X0.out.get 0 rfl).cell 0
  go_upto_region 5 with fail
  clear y0
  have X1 := hid (X0.out.on (Below.refl _ _).drew)
  clear X0
  refine wp_region_held_drew (S := fun w => Cel w g3 42 [.int .i64 2, .int .i64 a, .int .i64 b, .int .i64 c, .int .u32 v, u] ∧ w.cell? ⟨g, 1, none⟩ = some (.pointer (some ⟨p.g, 0, none⟩)) ∧ w.cell? ⟨g, 2, none⟩ = some (.pointer (some ⟨r.g, 0, none⟩))) (by kernel_rfl) (X1.out.hold rfl) (fun hHeld => ?_)
  generalize World.drew _ = w1 at *
  refine tk 0 ⟨some 31, .move (.tmp 0), 26, "law.go:125", #[], none⟩ (.pointer (some ⟨g, 0, none⟩)) ?_
  simp only [Act.put, List.setIfInBounds_toArray, List.set_cons_zero, List.set_cons_succ]
  refine tk 1 ⟨some 32, .nilCheck (.tmp 31), 0, "law.go:125", #[⟨0, .data⟩], none⟩ (.pointer (some ⟨g, 0, none⟩)) ?_
  simp only [Act.put, List.setIfInBounds_toArray, List.set_cons_zero, List.set_cons_succ]
  refine tk 2 ⟨some 33, .fieldAddr 34 (.tmp 32) 1, 0, "law.go:125", #[⟨1, .data⟩], none⟩ (.pointer (some ⟨g, 1, none⟩)) ?_
  simp only [Act.put, List.setIfInBounds_toArray, List.set_cons_zero, List.set_cons_succ]
  refine tk 3 ⟨some 34, .load 31 (.tmp 33), 31, "law.go:125", #[⟨2, .data⟩], none⟩ (.pointer (some ⟨p.g, 0, none⟩)) ?_ (hy := Or.inl ⟨by rfl, by intro w hSw; have hc := hSw.2.1; go_simp⟩)
  simp only [Act.put, List.setIfInBounds_toArray, List.set_cons_zero, List.set_cons_succ]
  refine tk 4 ⟨some 35, .fieldAddr 42 (.tmp 3) 1, 0, "law.go:125", #[], none⟩ (.pointer (some ⟨g3, 1, none⟩)) ?_
  simp only [Act.put, List.setIfInBounds_toArray, List.set_cons_zero, List.set_cons_succ]
  refine tk 5 ⟨some 36, .load 3 (.tmp 35), 3, "law.go:125", #[⟨4, .data⟩], none⟩ (.int .i64 a) ?_ (hy := Or.inl ⟨by rfl, by intro w hSw; have hc : w.cell? ⟨g3, 1, none⟩ = some (.int .i64 a) := hSw.1.cell 1; go_simp⟩)
  simp only [Act.put, List.setIfInBounds_toArray, List.set_cons_zero, List.set_cons_succ]
  refine tk 6 ⟨some 37, .fieldAddr 42 (.tmp 3) 2, 0, "law.go:125", #[], none⟩ (.pointer (some ⟨g3, 2, none⟩)) ?_
  simp only [Act.put, List.setIfInBounds_toArray, List.set_cons_zero, List.set_cons_succ]
  refine tk 7 ⟨some 38, .load 3 (.tmp 37), 3, "law.go:125", #[⟨6, .data⟩], none⟩ (.int .i64 b) ?_ (hy := Or.inl ⟨by rfl, by intro w hSw; have hc : w.cell? ⟨g3, 2, none⟩ = some (.int .i64 b) := hSw.1.cell 2; go_simp⟩)
  simp only [Act.put, List.setIfInBounds_toArray, List.set_cons_zero, List.set_cons_succ]
  refine tk 8 ⟨some 39, .fieldAddr 42 (.tmp 3) 3, 0, "law.go:125", #[], none⟩ (.pointer (some ⟨g3, 3, none⟩)) ?_
  simp only [Act.put, List.setIfInBounds_toArray, List.set_cons_zero, List.set_cons_succ]
  refine tk 9 ⟨some 40, .load 3 (.tmp 39), 3, "law.go:125", #[⟨8, .data⟩], none⟩ (.int .i64 c) ?_ (hy := Or.inl ⟨by rfl, by intro w hSw; have hc : w.cell? ⟨g3, 3, none⟩ = some (.int .i64 c) := hSw.1.cell 3; go_simp⟩)
  simp only [Act.put, List.setIfInBounds_toArray, List.set_cons_zero, List.set_cons_succ]
  refine tk 12 ⟨some 43, .move (.tmp 0), 26, "law.go:125", #[], none⟩ (.pointer (some ⟨g, 0, none⟩)) ?_
  simp only [Act.put, List.setIfInBounds_toArray, List.set_cons_zero, List.set_cons_succ]
  refine tk 13 ⟨some 44, .nilCheck (.tmp 43), 0, "law.go:125", #[⟨12, .data⟩], none⟩ (.pointer (some ⟨g, 0, none⟩)) ?_
  simp only [Act.put, List.setIfInBounds_toArray, List.set_cons_zero, List.set_cons_succ]
  refine tk 14 ⟨some 45, .fieldAddr 34 (.tmp 44) 2, 0, "law.go:125", #[⟨13, .data⟩], none⟩ (.pointer (some ⟨g, 2, none⟩)) ?_
  simp only [Act.put, List.setIfInBounds_toArray, List.set_cons_zero, List.set_cons_succ]
  refine tk 15 ⟨some 46, .load 32 (.tmp 45), 32, "law.go:125", #[⟨14, .data⟩], none⟩ (.pointer (some ⟨r.g, 0, none⟩)) ?_ (hy := Or.inl ⟨by rfl, by intro w hSw; have hc := hSw.2.2; go_simp⟩)
  simp only [Act.put, List.setIfInBounds_toArray, List.set_cons_zero, List.set_cons_succ]
  refine tk 16 ⟨some 47, .fieldAddr 42 (.tmp 3) 1, 0, "law.go:125", #[], none⟩ (.pointer (some ⟨g3, 1, none⟩)) ?_
  simp only [Act.put, List.setIfInBounds_toArray, List.set_cons_zero, List.set_cons_succ]
  refine tk 17 ⟨some 48, .load 3 (.tmp 47), 3, "law.go:125", #[⟨16, .data⟩], none⟩ (.int .i64 a) ?_ (hy := Or.inl ⟨by rfl, by intro w hSw; have hc : w.cell? ⟨g3, 1, none⟩ = some (.int .i64 a) := hSw.1.cell 1; go_simp⟩)
  simp only [Act.put, List.setIfInBounds_toArray, List.set_cons_zero, List.set_cons_succ]
  refine tk 18 ⟨some 49, .fieldAddr 42 (.tmp 3) 2, 0, "law.go:125", #[], none⟩ (.pointer (some ⟨g3, 2, none⟩)) ?_
  simp only [Act.put, List.setIfInBounds_toArray, List.set_cons_zero, List.set_cons_succ]
  refine tk 19 ⟨some 50, .load 3 (.tmp 49), 3, "law.go:125", #[⟨18, .data⟩], none⟩ (.int .i64 b) ?_ (hy := Or.inl ⟨by rfl, by intro w hSw; have hc : w.cell? ⟨g3, 2, none⟩ = some (.int .i64 b) := hSw.1.cell 2; go_simp⟩)
  simp only [Act.put, List.setIfInBounds_toArray, List.set_cons_zero, List.set_cons_succ]
  refine tk 20 ⟨some 51, .fieldAddr 42 (.tmp 3) 3, 0, "law.go:125", #[], none⟩ (.pointer (some ⟨g3, 3, none⟩)) ?_
  simp only [Act.put, List.setIfInBounds_toArray, List.set_cons_zero, List.set_cons_succ]
  refine tk 21 ⟨some 52, .load 3 (.tmp 51), 3, "law.go:125", #[⟨20, .data⟩], none⟩ (.int .i64 c) ?_ (hy := Or.inl ⟨by rfl, by intro w hSw; have hc : w.cell? ⟨g3, 3, none⟩ = some (.int .i64 c) := hSw.1.cell 3; go_simp⟩)
  simp only [Act.put, List.setIfInBounds_toArray, List.set_cons_zero, List.set_cons_succ]
  refine wpAnyH_ready (rs := [10]) (by kernel_rfl) (by simp) (AllReadyH.cons (o := ⟨some 41, .call { callee := .value (.func 33), args := #[.tmp 34, .tmp 36, .tmp 38, .tmp 40], argTypes := #[31, 3, 76, 3] }, 54, "law.go:125", #[⟨3, .data⟩, ⟨5, .data⟩, ⟨7, .data⟩, ⟨9, .data⟩], none⟩) rfl (fun KQ hK => ?_) AllReadyH.nil)
  go_simp
  refine (HA.out _ X1.out.ss.own).mono ?_
  rintro e w2 ⟨rfl, hd, hb⟩
  have X2 := hid (X1.out.stepA hd hb)
  clear hd hb X1
  go_wp2_with fail
  refine hK.out _ _ (X2.out.hold rfl) (fun hHeld => ?_)
  clear hK KQ
  try simp only [Act.put, List.setIfInBounds_toArray, List.set_cons_zero, List.set_cons_succ]
  refine wpAnyH_ready (rs := [11]) (by kernel_rfl) (by simp) (AllReadyH.cons (o := ⟨some 42, .call { callee := .value (.func 25), args := #[.tmp 41], argTypes := #[54] }, 3, "law.go:125", #[⟨10, .data⟩, ⟨10, .chain⟩], none⟩) rfl (fun KQ hK => ?_) AllReadyH.nil)
  go_simp
  refine (HNm.out _ _).mono ?_
  rintro e wx ⟨rfl, hw⟩
  subst wx
  go_wp2_with fail
  refine hK.out _ _ (X2.out.hold rfl) (fun hHeld => ?_)
  clear hK KQ
  try simp only [Act.put, List.setIfInBounds_toArray, List.set_cons_zero, List.set_cons_succ]
  refine wpAnyH_ready (rs := [22]) (by kernel_rfl) (by simp) (AllReadyH.cons (o := ⟨some 53, .call { callee := .value (.func 34), args := #[.tmp 46, .tmp 48, .tmp 50, .tmp 52], argTypes := #[32, 3, 3, 3] }, 3, "law.go:125", #[⟨15, .data⟩, ⟨17, .data⟩, ⟨19, .data⟩, ⟨21, .data⟩, ⟨11, .chain⟩], none⟩) rfl (fun KQ hK => ?_) AllReadyH.nil)
  go_simp
  refine (HR.out _ X2.out.ss.doc).mono ?_
  rintro e w3 ⟨rfl, hg⟩
  have X3 := hid (X2.out.stepR hg)
  clear hg X2
  go_wp2_with fail
  refine hK.out _ _ (X3.out.hold rfl) (fun hHeld => ?_)
  clear hK KQ
  try simp only [Act.put, List.setIfInBounds_toArray, List.set_cons_zero, List.set_cons_succ]
  refine tk 23 ⟨some 54, .binOp .eql 3 (.tmp 42) (.tmp 53) 3, 4, "law.go:125", #[⟨11, .data⟩, ⟨22, .data⟩], none⟩ (.bool true) ?_
  simp only [Act.put, List.setIfInBounds_toArray, List.set_cons_zero, List.set_cons_succ]
  refine wpAnyH_ready (rs := [24]) (by kernel_rfl) (by simp) (AllReadyH.cons (o := ⟨some 4, .assign (.tmp 54), 4, "law.go:125", #[⟨23, .data⟩, ⟨22, .chain⟩, ⟨0, .phase⟩, ⟨1, .phase⟩, ⟨2, .phase⟩, ⟨3, .phase⟩, ⟨4, .phase⟩, ⟨5, .phase⟩, ⟨6, .phase⟩, ⟨7, .phase⟩, ⟨8, .phase⟩, ⟨9, .phase⟩, ⟨10, .phase⟩, ⟨11, .phase⟩, ⟨12, .phase⟩, ⟨13, .phase⟩, ⟨14, .phase⟩, ⟨15, .phase⟩, ⟨16, .phase⟩, ⟨17, .phase⟩, ⟨18, .phase⟩, ⟨19, .phase⟩, ⟨20, .phase⟩, ⟨21, .phase⟩, ⟨22, .phase⟩, ⟨23, .phase⟩], none⟩) rfl (fun KQ hK => ?_) AllReadyH.nil)
  go_simp
  refine hK.out _ _ (X3.out.hold rfl) (fun hHeld => ?_)
  clear hK KQ
  try simp only [Act.put, List.setIfInBounds_toArray, List.set_cons_zero, List.set_cons_succ]
  refine wpAnyH_done (by kernel_rfl) ?_ _
  go_wp2_with fail
  go_ret
  exact ⟨rfl, _, X3.out.tail⟩
theorem actb_5 (W w : World) (g : Nat) (p : Dp) (r : Rp) (d : DS) (L : List BxT) (h : SB W w g p r d d L) (a b c v : Int) (u : Value) :
    Calls Tryz.prog 11 #[.pointer (some ⟨g, 0, none⟩), .agg #[.int .i64 5, .int .i64 a, .int .i64 b, .int .i64 c, .int .u32 v, u]] w fun e w' => e = .returned (.bool true) ∧ ∃ q, SB W w' g p q (d.state a b) (d.state a b) L := by
  have X0 : Hid (SB W (w.alloc (.cells #[.int .i64 5, .int .i64 a, .int .i64 b, .int .i64 c, .int .u32 v, u] 42)) g p r d d ((w.heap.size, 42, [.int .i64 5, .int .i64 a, .int .i64 b, .int .i64 c, .int .u32 v, u]) :: L)) := hid (h.cons 42 [.int .i64 5, .int .i64 a, .int .i64 b, .int .i64 c, .int .u32 v, u] rfl)
  have HA := hid (fun w (hw : DB w p d) => setState_any w p d hw a b)
  have HR := hid (fun w (hw : RDB w r d) => rsetState_any w r d hw a b)
  have HNm := hid (fun w x => num_l w x)
  clear h
  simp only [ptr] at *
  generalize hd2 : d.state a b = d2 at *
  clear hd2
  generalize d.stateE a b = ff at *
  go_enter Tryz.func11, Tryz.ntmps11
  go_upto_region 1 with fail
  generalize World.alloc _ _ = X at *
  generalize w.heap.size = g3 at *
  have y0 : X.cell? ⟨g3, 0, none⟩ = some (.int .i64 5) := (X0.out.get 0 rfl).cell 0
  go_upto_region 11 with fail
  clear y0
  have X1 := hid (X0.out.on (Below.refl _ _).drew)
  clear X0
  refine wp_region_held_drew (S := fun w => Cel w g3 42 [.int .i64 5, .int .i64 a, .int .i64 b, .int .i64 c, .int .u32 v, u] ∧ w.cell? ⟨g, 1, none⟩ = some (.pointer (some ⟨p.g, 0, none⟩)) ∧ w.cell? ⟨g, 2, none⟩ = some (.pointer (some ⟨r.g, 0, none⟩))) (by kernel_rfl) (X1.out.hold rfl) (fun hHeld => ?_)
  generalize World.drew _ = w1 at *
  refine tk 0 ⟨some 97, .move (.tmp 0), 26, "law.go:131", #[], none⟩ (.pointer (some ⟨g, 0, none⟩)) ?_
  simp only [Act.put, List.setIfInBounds_toArray, List.set_cons_zero, List.set_cons_succ]
  refine tk 1 ⟨some 98, .nilCheck (.tmp 97), 0, "law.go:131", #[⟨0, .data⟩], none⟩ (.pointer (some ⟨g, 0, none⟩)) ?_
  simp only [Act.put, List.setIfInBounds_toArray, List.set_cons_zero, List.set_cons_succ]
  refine tk 2 ⟨some 99, .fieldAddr 34 (.tmp 98) 1, 0, "law.go:131", #[⟨1, .data⟩], none⟩ (.pointer (some ⟨g, 1, none⟩)) ?_
  simp only [Act.put, List.setIfInBounds_toArray, List.set_cons_zero, List.set_cons_succ]
  refine tk 3 ⟨some 100, .load 31 (.tmp 99), 31, "law.go:131", #[⟨2, .data⟩], none⟩ (.pointer (some ⟨p.g, 0, none⟩)) ?_ (hy := Or.inl ⟨by rfl, by intro w hSw; have hc := hSw.2.1; go_simp⟩)
  simp only [Act.put, List.setIfInBounds_toArray, List.set_cons_zero, List.set_cons_succ]
  refine tk 4 ⟨some 101, .fieldAddr 42 (.tmp 3) 1, 0, "law.go:131", #[], none⟩ (.pointer (some ⟨g3, 1, none⟩)) ?_
  simp only [Act.put, List.setIfInBounds_toArray, List.set_cons_zero, List.set_cons_succ]
  refine tk 5 ⟨some 102, .load 3 (.tmp 101), 3, "law.go:131", #[⟨4, .data⟩], none⟩ (.int .i64 a) ?_ (hy := Or.inl ⟨by rfl, by intro w hSw; have hc : w.cell? ⟨g3, 1, none⟩ = some (.int .i64 a) := hSw.1.cell 1; go_simp⟩)
  simp only [Act.put, List.setIfInBounds_toArray, List.set_cons_zero, List.set_cons_succ]
  refine tk 6 ⟨some 103, .fieldAddr 42 (.tmp 3) 2, 0, "law.go:131", #[], none⟩ (.pointer (some ⟨g3, 2, none⟩)) ?_
  simp only [Act.put, List.setIfInBounds_toArray, List.set_cons_zero, List.set_cons_succ]
  refine tk 7 ⟨some 104, .load 3 (.tmp 103), 3, "law.go:131", #[⟨6, .data⟩], none⟩ (.int .i64 b) ?_ (hy := Or.inl ⟨by rfl, by intro w hSw; have hc : w.cell? ⟨g3, 2, none⟩ = some (.int .i64 b) := hSw.1.cell 2; go_simp⟩)
  simp only [Act.put, List.setIfInBounds_toArray, List.set_cons_zero, List.set_cons_succ]
  refine tk 10 ⟨some 107, .move (.tmp 0), 26, "law.go:131", #[], none⟩ (.pointer (some ⟨g, 0, none⟩)) ?_
  simp only [Act.put, List.setIfInBounds_toArray, List.set_cons_zero, List.set_cons_succ]
  refine tk 11 ⟨some 108, .nilCheck (.tmp 107), 0, "law.go:131", #[⟨10, .data⟩], none⟩ (.pointer (some ⟨g, 0, none⟩)) ?_
  simp only [Act.put, List.setIfInBounds_toArray, List.set_cons_zero, List.set_cons_succ]
  refine tk 12 ⟨some 109, .fieldAddr 34 (.tmp 108) 2, 0, "law.go:131", #[⟨11, .data⟩], none⟩ (.pointer (some ⟨g, 2, none⟩)) ?_
  simp only [Act.put, List.setIfInBounds_toArray, List.set_cons_zero, List.set_cons_succ]
  refine tk 13 ⟨some 110, .load 32 (.tmp 109), 32, "law.go:131", #[⟨12, .data⟩], none⟩ (.pointer (some ⟨r.g, 0, none⟩)) ?_ (hy := Or.inl ⟨by rfl, by intro w hSw; have hc := hSw.2.2; go_simp⟩)
  simp only [Act.put, List.setIfInBounds_toArray, List.set_cons_zero, List.set_cons_succ]
  refine tk 14 ⟨some 111, .fieldAddr 42 (.tmp 3) 1, 0, "law.go:131", #[], none⟩ (.pointer (some ⟨g3, 1, none⟩)) ?_
  simp only [Act.put, List.setIfInBounds_toArray, List.set_cons_zero, List.set_cons_succ]
  refine tk 15 ⟨some 112, .load 3 (.tmp 111), 3, "law.go:131", #[⟨14, .data⟩], none⟩ (.int .i64 a) ?_ (hy := Or.inl ⟨by rfl, by intro w hSw; have hc : w.cell? ⟨g3, 1, none⟩ = some (.int .i64 a) := hSw.1.cell 1; go_simp⟩)
  simp only [Act.put, List.setIfInBounds_toArray, List.set_cons_zero, List.set_cons_succ]
  refine tk 16 ⟨some 113, .fieldAddr 42 (.tmp 3) 2, 0, "law.go:131", #[], none⟩ (.pointer (some ⟨g3, 2, none⟩)) ?_
  simp only [Act.put, List.setIfInBounds_toArray, List.set_cons_zero, List.set_cons_succ]
  refine tk 17 ⟨some 114, .load 3 (.tmp 113), 3, "law.go:131", #[⟨16, .data⟩], none⟩ (.int .i64 b) ?_ (hy := Or.inl ⟨by rfl, by intro w hSw; have hc : w.cell? ⟨g3, 2, none⟩ = some (.int .i64 b) := hSw.1.cell 2; go_simp⟩)
  simp only [Act.put, List.setIfInBounds_toArray, List.set_cons_zero, List.set_cons_succ]
  refine wpAnyH_ready (rs := [8]) (by kernel_rfl) (by simp) (AllReadyH.cons (o := ⟨some 105, .call { callee := .value (.func 39), args := #[.tmp 100, .tmp 102, .tmp 104], argTypes := #[31, 3, 81] }, 54, "law.go:131", #[⟨3, .data⟩, ⟨5, .data⟩, ⟨7, .data⟩], none⟩) rfl (fun KQ hK => ?_) AllReadyH.nil)
  go_simp
  refine (HA.out _ X1.out.ss.own).mono ?_
  rintro e w2 ⟨rfl, hd, hb⟩
  have X2 := hid (X1.out.stepA hd hb)
  clear hd hb X1
  go_wp2_with fail
  refine hK.out _ _ (X2.out.hold rfl) (fun hHeld => ?_)
  clear hK KQ
  try simp only [Act.put, List.setIfInBounds_toArray, List.set_cons_zero, List.set_cons_succ]
  refine wpAnyH_ready (rs := [9]) (by kernel_rfl) (by simp) (AllReadyH.cons (o := ⟨some 106, .call { callee := .value (.func 25), args := #[.tmp 105], argTypes := #[54] }, 3, "law.go:131", #[⟨8, .data⟩, ⟨8, .chain⟩], none⟩) rfl (fun KQ hK => ?_) AllReadyH.nil)
  go_simp
  refine (HNm.out _ _).mono ?_
  rintro e wx ⟨rfl, hw⟩
  subst wx
  go_wp2_with fail
  refine hK.out _ _ (X2.out.hold rfl) (fun hHeld => ?_)
  clear hK KQ
  try simp only [Act.put, List.setIfInBounds_toArray, List.set_cons_zero, List.set_cons_succ]
  refine wpAnyH_ready (rs := [18]) (by kernel_rfl) (by simp) (AllReadyH.cons (o := ⟨some 115, .call { callee := .value (.func 40), args := #[.tmp 110, .tmp 112, .tmp 114], argTypes := #[32, 3, 3] }, 3, "law.go:131", #[⟨13, .data⟩, ⟨15, .data⟩, ⟨17, .data⟩, ⟨9, .chain⟩], none⟩) rfl (fun KQ hK => ?_) AllReadyH.nil)
  go_simp
  refine (HR.out _ X2.out.ss.doc).mono ?_
  rintro e w3 ⟨rfl, hg⟩
  have X3 := hid (X2.out.stepR hg)
  clear hg X2
  go_wp2_with fail
  refine hK.out _ _ (X3.out.hold rfl) (fun hHeld => ?_)
  clear hK KQ
  try simp only [Act.put, List.setIfInBounds_toArray, List.set_cons_zero, List.set_cons_succ]
  refine tk 19 ⟨some 116, .binOp .eql 3 (.tmp 106) (.tmp 115) 3, 4, "law.go:131", #[⟨9, .data⟩, ⟨18, .data⟩], none⟩ (.bool true) ?_
  simp only [Act.put, List.setIfInBounds_toArray, List.set_cons_zero, List.set_cons_succ]
  refine wpAnyH_ready (rs := [20]) (by kernel_rfl) (by simp) (AllReadyH.cons (o := ⟨some 4, .assign (.tmp 116), 4, "law.go:131", #[⟨19, .data⟩, ⟨18, .chain⟩, ⟨0, .phase⟩, ⟨1, .phase⟩, ⟨2, .phase⟩, ⟨3, .phase⟩, ⟨4, .phase⟩, ⟨5, .phase⟩, ⟨6, .phase⟩, ⟨7, .phase⟩, ⟨8, .phase⟩, ⟨9, .phase⟩, ⟨10, .phase⟩, ⟨11, .phase⟩, ⟨12, .phase⟩, ⟨13, .phase⟩, ⟨14, .phase⟩, ⟨15, .phase⟩, ⟨16, .phase⟩, ⟨17, .phase⟩, ⟨18, .phase⟩, ⟨19, .phase⟩], none⟩) rfl (fun KQ hK => ?_) AllReadyH.nil)
  go_simp
  refine hK.out _ _ (X3.out.hold rfl) (fun hHeld => ?_)
  clear hK KQ
  try simp only [Act.put, List.setIfInBounds_toArray, List.set_cons_zero, List.set_cons_succ]
  refine wpAnyH_done (by kernel_rfl) ?_ _
  go_wp2_with fail
  go_ret
  exact ⟨rfl, _, X3.out.tail⟩
theorem actb_7 (W w : World) (g : Nat) (p : Dp) (r : Rp) (d : DS) (L : List BxT) (h : SB W w g p r d d L) (a b c v : Int) (u : Value) :
    Calls Tryz.prog 11 #[.pointer (some ⟨g, 0, none⟩), .agg #[.int .i64 7, .int .i64 a, .int .i64 b, .int .i64 c, .int .u32 v, u]] w fun e w' => e = .returned (.bool true) ∧ ∃ q, SB W w' g p q { d with m := d.m.write true a b v } { d with m := d.m.write true a b v } L := by
  have X0 : Hid (SB W (w.alloc (.cells #[.int .i64 7, .int .i64 a, .int .i64 b, .int .i64 c, .int .u32 v, u] 42)) g p r d d ((w.heap.size, 42, [.int .i64 7, .int .i64 a, .int .i64 b, .int .i64 c, .int .u32 v, u]) :: L)) := hid (h.cons 42 [.int .i64 7, .int .i64 a, .int .i64 b, .int .i64 c, .int .u32 v, u] rfl)
  have HW := hid (fun w (L : List BxT) (h : SB W w g p r d d L) => write_b W w g p r d L h a b v)
  clear h
  generalize hm2 : d.m.write true a b v = m2 at *
  clear hm2
  go_enter Tryz.func11, Tryz.ntmps11
  go_upto_region 1 with fail
  generalize World.alloc _ _ = X at *
  generalize w.heap.size = g3 at *
  have y0 : X.cell? ⟨g3, 0, none⟩ = some (.int .i64 7) := (X0.out.get 0 rfl).cell 0
  have y1 : X.cell? ⟨g3, 1, none⟩ = some (.int .i64 a) := (X0.out.get 0 rfl).cell 1
  have y2 : X.cell? ⟨g3, 2, none⟩ = some (.int .i64 b) := (X0.out.get 0 rfl).cell 2
  have y4 : X.cell? ⟨g3, 4, none⟩ = some (.int .u32 v) := (X0.out.get 0 rfl).cell 4
  go_wp2_with (go_at_call 8; refine (HW.out _ _ X0.out).mono ?_; rintro e w1 ⟨rfl, r1, hs⟩; have S1 := hid hs; clear hs)
  go_ret
  exact ⟨rfl, _, S1.out.tail⟩
end Go.Proofs.YtildhjiddidghaaGreatDoor
