import Derived.Test.YtbpdmkohihgnjaaGreatDoorP25
import Derived.Test.YtbpdmkohihgnjaaGreatDoorP24
import Derived.Test.YtbpdmkohihgnjaaGreatDoorP01
namespace Go.Proofs.YtbpdmkohihgnjaaGreatDoor
open Go.RowKit Go.Extern.Stop Go.Stop Go.Extern
set_option maxRecDepth 100000
set_option maxHeartbeats 4000000
theorem Tryz.asTypeOfS (v : Value) (w : World) : (ReflectliteType.typeOf #[.iface 245 v]).run Tryz.prog w = .ok (.iface 150 (.agg #[.pointer (some ⟨13, 245, none⟩)])) w := by kernel_rfl
theorem Tryz.asAssignS (w : World) : (ReflectliteType.relation "AssignableTo" ReflectliteType.assignableTo #[.agg #[.pointer (some ⟨13, 245, none⟩)], .iface 150 (.agg #[.pointer (some ⟨13, 71, none⟩)])]).run Tryz.prog w = .ok (.bool false) w := by kernel_rfl
theorem Tryz.noAsS (v : Value) (xT : TypeId) (w : World) : (Instr.typeAssert (.iface 245 v) xT 154 true).run Tryz.prog w = .ok (.tuple #[.nilIface, .bool false]) w := run_typeAssert_lacksB Tryz.underlying154 (by kernel_rfl) (by kernel_rfl) v xT w
theorem as_miss (g : Nat) (a : Addr) (w : World) (hg : w.cell? ⟨6, 0, none⟩ = some (.iface 150 (.agg #[.pointer (some ⟨13, 47, none⟩)]))) :
    Calls Tryz.prog 24 #[.iface 245 (.pointer (some a)), .iface 73 (.pointer (some ⟨g, 0, none⟩))] w fun ev w' => ev = .returned (.bool false) ∧ Below w.heap.size w w' := by
  have h98 := @run_callFunc_extern Tryz.prog 47 _ (fun args => ReflectliteValue.unpack (args.getD 0 (.tuple #[]))) Tryz.func47 (by kernel_rfl) (by kernel_rfl) (by kernel_rfl) (by kernel_rfl)
  have h99 := @run_callFunc_extern Tryz.prog 48 _ (ReflectliteValue.methodAny (ReflectliteValue.valueError "reflectlite.Value.Type" 0) (fun t _ _ _ => ReflectliteType.toType t)) Tryz.func48 (by kernel_rfl) (by kernel_rfl) (by kernel_rfl) (by kernel_rfl)
  have h100 := @run_callFunc_extern Tryz.prog 49 _ (ReflectliteValue.method (ReflectliteValue.valueError "reflectlite.Value.IsNil" 0) ReflectliteValue.isNil) Tryz.func49 (by kernel_rfl) (by kernel_rfl) (by kernel_rfl) (by kernel_rfl)
  have h163 := @run_callFunc_extern Tryz.prog 172 _ (ReflectliteType.abiMethod fun t => do pure (.int .u8 (← Rtype.kind t))) Tryz.func172 (by kernel_rfl) (by kernel_rfl) (by kernel_rfl) (by kernel_rfl)
  have h176 := @run_callFunc_extern Tryz.prog 184 _ (ReflectliteType.method ReflectliteType.elem) Tryz.func184 (by kernel_rfl) (by kernel_rfl) (by kernel_rfl) (by kernel_rfl)
  have h177 := @run_callFunc_extern Tryz.prog 185 _ (ReflectliteType.relation "Implements" ReflectliteType.implements_) Tryz.func185 (by kernel_rfl) (by kernel_rfl) (by kernel_rfl) (by kernel_rfl)
  have h88 := @run_callFunc_extern Tryz.prog 51 _ ReflectliteType.typeOf Tryz.func51 (by kernel_rfl) (by kernel_rfl) (by kernel_rfl) (by kernel_rfl)
  have h174 := @run_callFunc_extern Tryz.prog 182 _ (ReflectliteType.relation "AssignableTo" ReflectliteType.assignableTo) Tryz.func182 (by kernel_rfl) (by kernel_rfl) (by kernel_rfl) (by kernel_rfl)
  have tO := Tryz.asTypeOfS
  have mA := Tryz.asMAssign
  have a25 := Tryz.asAssignS
  have nA := Tryz.noAsS
  have uE := Tryz.noUnwrapE
  have vE := Tryz.noUnwrapsE
  have f6 := Tryz.asValueP
  have f7 := Tryz.asTypeP
  have mK := Tryz.asMKind
  have mE := Tryz.asMElem
  have mI := Tryz.asMImpl
  have k27 := Tryz.asKindP
  have k25 := Tryz.asKindE
  have e27 := Tryz.asElemP
  have i25 := Tryz.asImplE
  have n8 := Tryz.asIsNil ⟨w.heap.size, 0, none⟩ ⟨g, 0, none⟩ ((w.alloc (.cells #[.pointer (some ⟨g, 0, none⟩)] 73)).alloc (.cells #[.pointer (some ⟨13, 73, none⟩), .pointer (some ⟨w.heap.size, 0, none⟩), .int .u64 150] 111)) (by simp)
  have hlt : 6 < w.heap.size := by
    rcases Nat.lt_or_ge 6 w.heap.size with h | h
    · exact h
    · simp [World.cell?, Array.getElem?_eq_none h] at hg
  have hg2 : ((w.alloc (.cells #[.pointer (some ⟨g, 0, none⟩)] 73)).alloc (.cells #[.pointer (some ⟨13, 73, none⟩), .pointer (some ⟨w.heap.size, 0, none⟩), .int .u64 150] 111)).cell? ⟨6, 0, none⟩ = some (.iface 150 (.agg #[.pointer (some ⟨13, 47, none⟩)])) := by
    rw [World.cell?_alloc_lt _ _ ⟨6, 0, none⟩ (by simp; omega), World.cell?_alloc_lt _ _ ⟨6, 0, none⟩ hlt]; exact hg
  clear hlt
  go_enter Tryz.func24, Tryz.ntmps24
  go_wp2
  refine wp_loop_rounds 1 ?_
  rw [rounds_succ]
  go_wp2
  go_ret
  exact ⟨rfl, below_on (below_on (below_one _ _) (below_one _ _)) (below_one _ _)⟩
theorem line_sent (W : World) (a : Addr) (hg : W.cell? ⟨6, 0, none⟩ = some (.iface 150 (.agg #[.pointer (some ⟨13, 47, none⟩)]))) :
    Calls Tryz.prog 14 #[.iface 245 (.pointer (some a))] W fun e W' => e = .returned (.int .i64 0) ∧ Below W.heap.size W W' := by
  have hlt : 6 < W.heap.size := by
    rcases Nat.lt_or_ge 6 W.heap.size with h | h
    · exact h
    · simp [World.cell?, Array.getElem?_eq_none h] at hg
  obtain ⟨X, hX⟩ : ∃ X, X = W.alloc (.cells #[.int .i64 0, .nilIface] 71) := ⟨_, rfl⟩
  have hB : Below W.heap.size W X := by rw [hX]; exact below_one _ _
  have HA := hid (as_miss W.heap.size a X ((hB.cell (p := ⟨6, 0, none⟩) hlt).trans hg))
  have HB := hid hB
  clear hB hg hlt
  go_enter Tryz.func14, Tryz.ntmps14
  go_upto_region 2 with fail
  rw [← hX]
  clear hX
  generalize hgz : W.heap.size = g at *
  go_wp2_with (first | (go_at_call 24; refine HA.out.mono ?_; rintro e w2 ⟨rfl, hb⟩))
  go_ret
  subst hgz
  exact ⟨rfl, below_on HB.out hb⟩
end Go.Proofs.YtbpdmkohihgnjaaGreatDoor
namespace Go.Proofs.YtbpdmkohihgnjaaGreatDoor
open Go.RowKit
set_option maxHeartbeats 4000000
set_option maxRecDepth 100000
theorem ret_q3 {P : Program} {fn : Func} {p q r : Tmp} {ty e : TypeId} {d : TypeDesc} {a : Act} {w : World} {post : Ending → World → Prop} (hr : fn.results = #[.cell p ty, .tmp q, .tmp r]) (hd : a.defers = []) (g : Nat) (cs : List Value)
    (hp : a.tmps.getD p undef = .pointer (some ⟨g, 0, none⟩)) (hb : Cel w g e cs) (hu : P.underlying ty = some d) (hdd : (match d with | .struct _ | .array _ _ => true | _ => false) = true) (hi : (P.info? ty).map (·.size) = some cs.length) (h : post (.returned (.tuple #[.agg cs.toArray, a.tmps.getD q undef, a.tmps.getD r undef])) w) :
    bodyPost P fn post .ret a w := by
  refine bodyPost_ret (v := .tuple #[.agg cs.toArray, a.tmps.getD q undef, a.tmps.getD r undef]) ?_ hd h
  have hp' : a.tmps[p]?.getD undef = .pointer (some ⟨g, 0, none⟩) := by simpa using hp
  have := run_loadVar_row (P := P) w g e ty _ (0, 0) _ hb hu hdd (by rw [hi]; simp)
  simp [results, hr, hp', asAddr, this]
def PaP (W w : World) (e : Ending) (r : Rdr ⊕ Nat) : Prop :=
  match r with
  | .inl st => ∃ v, e = .returned (.tuple #[.agg #[v, .bool st.other], .int .i64 0, .int .i64 0]) ∧ w.ownsRow W.heap.size 63 10 v st.rules.length (rcs st.rules) ∧ Below W.heap.size W w
  | .inr k => e = .returned (.tuple #[.agg #[.slice none 0 0, .bool false], .int .i64 (k : Int), .int .i64 161]) ∧ Below W.heap.size W w
structure Vr (W : World) (E : Nat → Addr) : Prop where
  es : ErrS W E
  h7 : W.cell? ⟨6, 0, none⟩ = some (.iface 150 (.agg #[.pointer (some ⟨13, 47, none⟩)]))
  ml : ∃ m, W.cell? ⟨8, 0, none⟩ = some (.int .i64 m)
theorem Vr.on {W w : World} {E : Nat → Addr} (h : Vr W E) (hb : Below W.heap.size W w) : Vr w E := by
  have hs := h.es.sz
  obtain ⟨m, hm⟩ := h.ml
  exact ⟨h.es.on hb, (hb.cell (p := ⟨6, 0, none⟩) (by show 6 < W.heap.size; omega)).trans h.h7, m, (hb.cell (p := ⟨8, 0, none⟩) (by show 8 < W.heap.size; omega)).trans hm⟩
structure PB (W : World) (g : Nat) (v : Value) (ot : Bool) (n : Nat) (C : List Value) (w : World) : Prop where
  bl : Below W.heap.size W w
  c : Cel w g 24 [v, .bool ot]
  o : w.ownsRow W.heap.size 63 10 v n C
  hg : W.heap.size ≤ g
theorem PB.on {W : World} {g : Nat} {v : Value} {ot : Bool} {n : Nat} {C : List Value} {w w' : World} (h : PB W g v ot n C w) (hb : Below w.heap.size w w') : PB W g v ot n C w' := ⟨below_on h.bl hb, h.c.on hb, L.own_below h.o hb, h.hg⟩
theorem PB.put {W : World} {g : Nat} {v : Value} {ot : Bool} {n : Nat} {C ds : List Value} {w w' : World} (hl : Below W.heap.size W w) (hd : Cel w g 24 ds) (ho : w.ownsRow W.heap.size 63 10 v n C) (hg : W.heap.size ≤ g) (hc : Cel w' g 24 [v, .bool ot]) (hb : But g w w') : PB W g v ot n C w' :=
  ⟨hl.trans (hb.below hg hl.size), hc, own_but ho hb (own_ap ho hd (by decide)), hg⟩
theorem PaP.good {W w : World} {g : Nat} {st : Rdr} {v : Value} (h : PB W g v st.other st.rules.length (rcs st.rules) w) : PaP W w (.returned (.tuple #[.agg #[v, .bool st.other], .int .i64 0, .int .i64 0])) (.inl st) := ⟨v, rfl, h.o, h.bl⟩
theorem PaP.bad {W w : World} {k : Nat} (h : Below W.heap.size W w) : PaP W w (.returned (.tuple #[.agg #[.slice none 0 0, .bool false], .int .i64 (k : Int), .int .i64 161])) (.inr k) := ⟨rfl, h⟩
attribute [-simp] Tryz.isAgg24 Tryz.zeroValue24
theorem parse_any21 (W : World) (E : Nat → Addr) (hV : Vr W E) (s : ByteArray) (hs : s.size ≤ 65536) :
    Calls Tryz.prog 4 #[.string s] W fun e W' => PaP W W' e (endE (L.T.lines s.data.toList).length (foldP z0 (L.T.lines s.data.toList) 0)) := by
  have hz36 : ∀ w, (zeroValue 24).run Tryz.prog w = .ok (.agg #[.slice none 0 0, .bool false]) w := fun w => by rw [Tryz.zeroValue24]
  obtain ⟨X, hX⟩ : ∃ X, X = W.alloc (Obj.cells #[.slice none 0 0, .bool false] 24) := ⟨_, rfl⟩
  have HB : Below W.heap.size W X := by rw [hX]; exact below_one W _
  have VX := hV.on HB
  obtain ⟨mx, hmx⟩ := VX.ml
  have HPo := hid (policyOf_any X E VX.es mx hmx s hs)
  have HX : Hid (Below W.heap.size W X ∧ Cel X W.heap.size 24 [.slice none 0 0, .bool false] ∧ W.heap.size < X.heap.size) := hid ⟨HB, by rw [hX]; exact heap_alloc_new _ _, by rw [hX]; simp⟩
  have HV := hid hV
  clear hV hs HB VX hmx
  generalize endE (L.T.lines s.data.toList).length (foldP z0 (L.T.lines s.data.toList) 0) = R at *
  cases R with
  | inl st =>
    have HN0 := hid (fun (w : World) (hb : Below W.heap.size W w) => number_0 w E (HV.out.on hb).es)
    have HL0 := hid (fun (w : World) => line_nil w)
    have HPo2 : Hid (Calls Tryz.prog 13 #[.string s] X fun e w => ∃ v, e = .returned (.tuple #[.agg #[v, .bool st.other], .nilIface]) ∧ w.ownsRow X.heap.size 63 10 v st.rules.length (rcs st.rules) ∧ Below X.heap.size X w) := hid HPo.out
    clear HPo HV
    go_enter Tryz.func4, Tryz.ntmps4
    go_upto_region 1 with fail
    rw [← hX]
    clear hX
    go_wp2_with fail
    refine HPo2.out.mono ?_
    rintro e w1 ⟨v, rfl, ho, hb⟩
    obtain ⟨ao, cp, rfl⟩ := L.own_form ho
    have H1 : Hid (Below W.heap.size W w1 ∧ Cel w1 W.heap.size 24 [.slice none 0 0, .bool false] ∧ w1.ownsRow W.heap.size 63 10 (.slice ao st.rules.length cp) st.rules.length (rcs st.rules)) := hid ⟨below_on HX.out.1 hb, HX.out.2.1.on hb, L.own_mono ho (Nat.le_of_lt HX.out.2.2)⟩
    clear ho hb HX HPo2
    go_upto_region 2 with (first | (refine wpList_store_st rfl 24 _ _ rfl W.heap.size [.slice ao st.rules.length cp, .bool st.other] rfl rfl H1.out.2.1 size36 rfl rfl ?_; intro w2 hc2 hb2 hs2; have Y2 : Hid (PB W W.heap.size (.slice ao st.rules.length cp) st.other st.rules.length (rcs st.rules) w2) := hid (PB.put H1.out.1 H1.out.2.1 H1.out.2.2 (Nat.le_refl _) hc2 hb2); clear hc2 hb2 hs2))
    clear H1
    have Y3 := hid (Y2.out.on (Below.refl _ _).drew)
    clear Y2
    refine wp_region_held_drew (S := fun w => Cel w W.heap.size 24 [.slice ao st.rules.length cp, .bool st.other]) (by kernel_rfl) Y3.out.c (fun hHeld => ?_)
    generalize World.drew _ = w3 at *
    refine tk 0 ⟨some 11, .load 24 (.tmp 2), 24, "read.go:11", #[], none⟩ (.agg #[.slice ao st.rules.length cp, .bool st.other]) ?_ (hy := yieldsIf_load_mid (by rfl) _ _ rfl _ _ rfl _ _ (fun w hSw => cel_range hSw) Tryz.underlying24 rfl size36)
    simp only [Act.put, List.setIfInBounds_toArray, List.set_cons_zero, List.set_cons_succ]
    refine tk 1 ⟨some 12, .move (.tmp 5), 47, "read.go:11", #[], none⟩ .nilIface ?_
    simp only [Act.put, List.setIfInBounds_toArray, List.set_cons_zero, List.set_cons_succ]
    refine tk 3 ⟨some 14, .move (.tmp 5), 47, "read.go:11", #[], none⟩ .nilIface ?_
    simp only [Act.put, List.setIfInBounds_toArray, List.set_cons_zero, List.set_cons_succ]
    refine wpAnyH_ready (rs := [2]) (by kernel_rfl) (by simp) (AllReadyH.cons (o := ⟨some 13, .call { callee := .value (.func 14), args := #[.tmp 12], argTypes := #[47] }, 3, "read.go:11", #[⟨1, .data⟩], none⟩) rfl (fun KQ hK => ?_) AllReadyH.nil)
    go_simp
    refine (HL0.out _).mono ?_
    rintro e w4 ⟨rfl, hb⟩
    have Y4 := hid (Y3.out.on hb)
    clear hb Y3
    go_wp2_with fail
    refine hK.out _ _ Y4.out.c (fun hHeld => ?_)
    clear hK KQ
    try simp only [Act.put, List.setIfInBounds_toArray, List.set_cons_zero, List.set_cons_succ]
    refine wpAnyH_ready (rs := [4]) (by kernel_rfl) (by simp) (AllReadyH.cons (o := ⟨some 15, .call { callee := .value (.func 15), args := #[.tmp 14], argTypes := #[47] }, 31, "read.go:11", #[⟨3, .data⟩, ⟨2, .chain⟩], none⟩) rfl (fun KQ hK => ?_) AllReadyH.nil)
    go_simp
    refine (HN0.out _ Y4.out.bl).mono ?_
    rintro e w5 ⟨rfl, hw⟩
    subst w5
    have Y5 := Y4
    clear Y4
    go_wp2_with fail
    refine hK.out _ _ Y5.out.c (fun hHeld => ?_)
    clear hK KQ
    try simp only [Act.put, List.setIfInBounds_toArray, List.set_cons_zero, List.set_cons_succ]
    refine wpAnyH_ready (rs := [5]) (by kernel_rfl) (by simp) (AllReadyH.cons (o := ⟨none, .store 24 (.tmp 2) (.tmp 11), 0, "read.go:11", #[⟨0, .data⟩, ⟨4, .chain⟩, ⟨0, .phase⟩, { on := 1, ground := .textOnly Departure.lateStores }, { on := 2, ground := .textOnly Departure.lateStoresUnsure }, { on := 3, ground := .textOnly Departure.lateStores }, { on := 4, ground := .textOnly Departure.lateStoresUnsure }], none⟩) rfl (fun KQ hK => ?_) AllReadyH.nil)
    rw [if_pos (by rfl)]
    refine wp_store_st 24 _ _ rfl W.heap.size [.slice ao st.rules.length cp, .bool st.other] rfl rfl Y5.out.c size36 rfl rfl ?_
    intro w6 hc hb hs
    have Y6 : Hid (PB W W.heap.size (.slice ao st.rules.length cp) st.other st.rules.length (rcs st.rules) w6) := hid (PB.put Y5.out.bl Y5.out.c Y5.out.o Y5.out.hg hc hb)
    clear hc hb hs Y5
    refine hK.out _ _ Y6.out.c (fun hHeld => ?_)
    clear hK KQ
    try simp only [Act.put]
    refine wpAnyH_ready (rs := [6]) (by kernel_rfl) (by simp) (AllReadyH.cons (o := ⟨some 3, .assign (.tmp 13), 3, "read.go:11", #[⟨2, .data⟩, ⟨5, .chain⟩, ⟨0, .phase⟩, ⟨1, .phase⟩, ⟨2, .phase⟩, { on := 3, ground := .textOnly Departure.lateStores }, { on := 4, ground := .textOnly Departure.lateStoresUnsure }, ⟨5, .phase⟩], none⟩) rfl (fun KQ hK => ?_) AllReadyH.nil)
    go_simp
    refine hK.out _ _ Y6.out.c (fun hHeld => ?_)
    clear hK KQ
    try simp only [Act.put, List.setIfInBounds_toArray, List.set_cons_zero, List.set_cons_succ]
    refine wpAnyH_ready (rs := [7]) (by kernel_rfl) (by simp) (AllReadyH.cons (o := ⟨some 4, .assign (.tmp 15), 31, "read.go:11", #[⟨4, .data⟩, ⟨6, .chain⟩, ⟨0, .phase⟩, ⟨1, .phase⟩, ⟨2, .phase⟩, ⟨3, .phase⟩, ⟨4, .phase⟩, ⟨5, .phase⟩, ⟨6, .phase⟩], none⟩) rfl (fun KQ hK => ?_) AllReadyH.nil)
    go_simp
    refine hK.out _ _ Y6.out.c (fun hHeld => ?_)
    clear hK KQ
    try simp only [Act.put, List.setIfInBounds_toArray, List.set_cons_zero, List.set_cons_succ]
    refine wpAnyH_done (by kernel_rfl) ?_ _
    go_wp2_with fail
    refine ret_q3 rfl rfl W.heap.size [.slice ao st.rules.length cp, .bool st.other] rfl Y6.out.c Tryz.underlying24 rfl size36 ?_
    exact PaP.good Y6.out
  | inr k =>
    have HN0 := hid (fun (w : World) (hb : Below W.heap.size W w) => number_at w E (HV.out.on hb).es (k : Int))
    have HL0 := hid (fun (w : World) (hb : Below W.heap.size W w) => line_at w (k : Int) (E 6) (HV.out.on hb).h7)
    have HPo2 : Hid (Calls Tryz.prog 13 #[.string s] X fun e w => e = .returned (.tuple #[.agg #[.slice none 0 0, .bool false], .iface 71 (.agg #[.int .i64 (k : Int), .iface 245 (.pointer (some (E 6)))])]) ∧ Below X.heap.size X w) := hid HPo.out
    clear HPo HV
    go_enter Tryz.func4, Tryz.ntmps4
    go_upto_region 1 with fail
    rw [← hX]
    clear hX
    go_wp2_with fail
    refine HPo2.out.mono ?_
    rintro e w1 ⟨rfl, hb⟩
    have H1 : Hid (Below W.heap.size W w1 ∧ Cel w1 W.heap.size 24 [.slice none 0 0, .bool false]) := hid ⟨below_on HX.out.1 hb, HX.out.2.1.on hb⟩
    clear hb HX HPo2
    go_upto_region 2 with (first | (refine wpList_store_st rfl 24 _ _ rfl W.heap.size [.slice none 0 0, .bool false] rfl rfl H1.out.2 size36 rfl rfl ?_; intro w2 hc2 hb2 hs2; have Y2 : Hid (PB W W.heap.size (.slice none 0 0) false 0 [] w2) := hid (PB.put H1.out.1 H1.out.2 (World.ownsRow_nil _ _ _ _) (Nat.le_refl _) hc2 hb2); clear hc2 hb2 hs2))
    clear H1
    have Y3 := hid (Y2.out.on (Below.refl _ _).drew)
    clear Y2
    refine wp_region_held_drew (S := fun w => Cel w W.heap.size 24 [.slice none 0 0, .bool false]) (by kernel_rfl) Y3.out.c (fun hHeld => ?_)
    generalize World.drew _ = w3 at *
    refine tk 0 ⟨some 11, .load 24 (.tmp 2), 24, "read.go:11", #[], none⟩ (.agg #[.slice none 0 0, .bool false]) ?_ (hy := yieldsIf_load_mid (by rfl) _ _ rfl _ _ rfl _ _ (fun w hSw => cel_range hSw) Tryz.underlying24 rfl size36)
    simp only [Act.put, List.setIfInBounds_toArray, List.set_cons_zero, List.set_cons_succ]
    refine tk 1 ⟨some 12, .move (.tmp 5), 47, "read.go:11", #[], none⟩ (.iface 71 (.agg #[.int .i64 (k : Int), .iface 245 (.pointer (some (E 6)))])) ?_
    simp only [Act.put, List.setIfInBounds_toArray, List.set_cons_zero, List.set_cons_succ]
    refine tk 3 ⟨some 14, .move (.tmp 5), 47, "read.go:11", #[], none⟩ (.iface 71 (.agg #[.int .i64 (k : Int), .iface 245 (.pointer (some (E 6)))])) ?_
    simp only [Act.put, List.setIfInBounds_toArray, List.set_cons_zero, List.set_cons_succ]
    refine wpAnyH_ready (rs := [2]) (by kernel_rfl) (by simp) (AllReadyH.cons (o := ⟨some 13, .call { callee := .value (.func 14), args := #[.tmp 12], argTypes := #[47] }, 3, "read.go:11", #[⟨1, .data⟩], none⟩) rfl (fun KQ hK => ?_) AllReadyH.nil)
    go_simp
    refine (HL0.out _ Y3.out.bl).mono ?_
    rintro e w4 ⟨rfl, hb⟩
    have Y4 := hid (Y3.out.on hb)
    clear hb Y3
    go_wp2_with fail
    refine hK.out _ _ Y4.out.c (fun hHeld => ?_)
    clear hK KQ
    try simp only [Act.put, List.setIfInBounds_toArray, List.set_cons_zero, List.set_cons_succ]
    refine wpAnyH_ready (rs := [4]) (by kernel_rfl) (by simp) (AllReadyH.cons (o := ⟨some 15, .call { callee := .value (.func 15), args := #[.tmp 14], argTypes := #[47] }, 31, "read.go:11", #[⟨3, .data⟩, ⟨2, .chain⟩], none⟩) rfl (fun KQ hK => ?_) AllReadyH.nil)
    go_simp
    refine (HN0.out _ Y4.out.bl).mono ?_
    rintro e w5 ⟨rfl, hb⟩
    have Y5 := hid (Y4.out.on hb)
    clear hb Y4
    go_wp2_with fail
    refine hK.out _ _ Y5.out.c (fun hHeld => ?_)
    clear hK KQ
    try simp only [Act.put, List.setIfInBounds_toArray, List.set_cons_zero, List.set_cons_succ]
    refine wpAnyH_ready (rs := [5]) (by kernel_rfl) (by simp) (AllReadyH.cons (o := ⟨none, .store 24 (.tmp 2) (.tmp 11), 0, "read.go:11", #[⟨0, .data⟩, ⟨4, .chain⟩, ⟨0, .phase⟩, { on := 1, ground := .textOnly Departure.lateStores }, { on := 2, ground := .textOnly Departure.lateStoresUnsure }, { on := 3, ground := .textOnly Departure.lateStores }, { on := 4, ground := .textOnly Departure.lateStoresUnsure }], none⟩) rfl (fun KQ hK => ?_) AllReadyH.nil)
    rw [if_pos (by rfl)]
    refine wp_store_st 24 _ _ rfl W.heap.size [.slice none 0 0, .bool false] rfl rfl Y5.out.c size36 rfl rfl ?_
    intro w6 hc hb hs
    have Y6 : Hid (PB W W.heap.size (.slice none 0 0) false 0 [] w6) := hid (PB.put Y5.out.bl Y5.out.c Y5.out.o Y5.out.hg hc hb)
    clear hc hb hs Y5
    refine hK.out _ _ Y6.out.c (fun hHeld => ?_)
    clear hK KQ
    try simp only [Act.put]
    refine wpAnyH_ready (rs := [6]) (by kernel_rfl) (by simp) (AllReadyH.cons (o := ⟨some 3, .assign (.tmp 13), 3, "read.go:11", #[⟨2, .data⟩, ⟨5, .chain⟩, ⟨0, .phase⟩, ⟨1, .phase⟩, ⟨2, .phase⟩, { on := 3, ground := .textOnly Departure.lateStores }, { on := 4, ground := .textOnly Departure.lateStoresUnsure }, ⟨5, .phase⟩], none⟩) rfl (fun KQ hK => ?_) AllReadyH.nil)
    go_simp
    refine hK.out _ _ Y6.out.c (fun hHeld => ?_)
    clear hK KQ
    try simp only [Act.put, List.setIfInBounds_toArray, List.set_cons_zero, List.set_cons_succ]
    refine wpAnyH_ready (rs := [7]) (by kernel_rfl) (by simp) (AllReadyH.cons (o := ⟨some 4, .assign (.tmp 15), 31, "read.go:11", #[⟨4, .data⟩, ⟨6, .chain⟩, ⟨0, .phase⟩, ⟨1, .phase⟩, ⟨2, .phase⟩, ⟨3, .phase⟩, ⟨4, .phase⟩, ⟨5, .phase⟩, ⟨6, .phase⟩], none⟩) rfl (fun KQ hK => ?_) AllReadyH.nil)
    go_simp
    refine hK.out _ _ Y6.out.c (fun hHeld => ?_)
    clear hK KQ
    try simp only [Act.put, List.setIfInBounds_toArray, List.set_cons_zero, List.set_cons_succ]
    refine wpAnyH_done (by kernel_rfl) ?_ _
    go_wp2_with fail
    refine ret_q3 rfl rfl W.heap.size [.slice none 0 0, .bool false] rfl Y6.out.c Tryz.underlying24 rfl size36 ?_
    exact PaP.bad Y6.out.bl
theorem parse_long (W : World) (E : Nat → Addr) (hV : Vr W E) (s : ByteArray) (hs : 65536 < s.size) :
    Calls Tryz.prog 4 #[.string s] W fun e W' => e = .returned (.tuple #[.agg #[.slice none 0 0, .bool false], .int .i64 0, .int .i64 2]) ∧ Below W.heap.size W W' := by
  have hz36 : ∀ w, (zeroValue 24).run Tryz.prog w = .ok (.agg #[.slice none 0 0, .bool false]) w := fun w => by rw [Tryz.zeroValue24]
  obtain ⟨X, hX⟩ : ∃ X, X = W.alloc (Obj.cells #[.slice none 0 0, .bool false] 24) := ⟨_, rfl⟩
  have HB : Below W.heap.size W X := by rw [hX]; exact below_one W _
  have VX := hV.on HB
  have HPo := hid (policyOf_long X E VX.es s hs)
  have HX : Hid (Below W.heap.size W X ∧ Cel X W.heap.size 24 [.slice none 0 0, .bool false] ∧ W.heap.size < X.heap.size) := hid ⟨HB, by rw [hX]; exact heap_alloc_new _ _, by rw [hX]; simp⟩
  have HV := hid hV
  clear hV hs HB VX
  have HN0 := hid (fun (w : World) (hb : Below W.heap.size W w) => number_4 w E (HV.out.on hb).es)
  have HL0 := hid (fun (w : World) (hb : Below W.heap.size W w) => line_sent w (E 4) (HV.out.on hb).h7)
  have HPo2 : Hid (Calls Tryz.prog 13 #[.string s] X fun e w => e = .returned (.tuple #[.agg #[.slice none 0 0, .bool false], .iface 245 (.pointer (some (E 4)))]) ∧ Below X.heap.size X w) := hid HPo.out
  clear HPo HV
  go_enter Tryz.func4, Tryz.ntmps4
  go_upto_region 1 with fail
  rw [← hX]
  clear hX
  go_wp2_with fail
  refine HPo2.out.mono ?_
  rintro e w1 ⟨rfl, hb⟩
  have H1 : Hid (Below W.heap.size W w1 ∧ Cel w1 W.heap.size 24 [.slice none 0 0, .bool false]) := hid ⟨below_on HX.out.1 hb, HX.out.2.1.on hb⟩
  clear hb HX HPo2
  go_upto_region 2 with (first | (refine wpList_store_st rfl 24 _ _ rfl W.heap.size [.slice none 0 0, .bool false] rfl rfl H1.out.2 size36 rfl rfl ?_; intro w2 hc2 hb2 hs2; have Y2 : Hid (PB W W.heap.size (.slice none 0 0) false 0 [] w2) := hid (PB.put H1.out.1 H1.out.2 (World.ownsRow_nil _ _ _ _) (Nat.le_refl _) hc2 hb2); clear hc2 hb2 hs2))
  clear H1
  have Y3 := hid (Y2.out.on (Below.refl _ _).drew)
  clear Y2
  refine wp_region_held_drew (S := fun w => Cel w W.heap.size 24 [.slice none 0 0, .bool false]) (by kernel_rfl) Y3.out.c (fun hHeld => ?_)
  generalize World.drew _ = w3 at *
  refine tk 0 ⟨some 11, .load 24 (.tmp 2), 24, "read.go:11", #[], none⟩ (.agg #[.slice none 0 0, .bool false]) ?_ (hy := yieldsIf_load_mid (by rfl) _ _ rfl _ _ rfl _ _ (fun w hSw => cel_range hSw) Tryz.underlying24 rfl size36)
  simp only [Act.put, List.setIfInBounds_toArray, List.set_cons_zero, List.set_cons_succ]
  refine tk 1 ⟨some 12, .move (.tmp 5), 47, "read.go:11", #[], none⟩ (.iface 245 (.pointer (some (E 4)))) ?_
  simp only [Act.put, List.setIfInBounds_toArray, List.set_cons_zero, List.set_cons_succ]
  refine tk 3 ⟨some 14, .move (.tmp 5), 47, "read.go:11", #[], none⟩ (.iface 245 (.pointer (some (E 4)))) ?_
  simp only [Act.put, List.setIfInBounds_toArray, List.set_cons_zero, List.set_cons_succ]
  refine wpAnyH_ready (rs := [2]) (by kernel_rfl) (by simp) (AllReadyH.cons (o := ⟨some 13, .call { callee := .value (.func 14), args := #[.tmp 12], argTypes := #[47] }, 3, "read.go:11", #[⟨1, .data⟩], none⟩) rfl (fun KQ hK => ?_) AllReadyH.nil)
  go_simp
  refine (HL0.out _ Y3.out.bl).mono ?_
  rintro e w4 ⟨rfl, hb⟩
  have Y4 := hid (Y3.out.on hb)
  clear hb Y3
  go_wp2_with fail
  refine hK.out _ _ Y4.out.c (fun hHeld => ?_)
  clear hK KQ
  try simp only [Act.put, List.setIfInBounds_toArray, List.set_cons_zero, List.set_cons_succ]
  refine wpAnyH_ready (rs := [4]) (by kernel_rfl) (by simp) (AllReadyH.cons (o := ⟨some 15, .call { callee := .value (.func 15), args := #[.tmp 14], argTypes := #[47] }, 31, "read.go:11", #[⟨3, .data⟩, ⟨2, .chain⟩], none⟩) rfl (fun KQ hK => ?_) AllReadyH.nil)
  go_simp
  refine (HN0.out _ Y4.out.bl).mono ?_
  rintro e w5 ⟨rfl, hw⟩
  subst w5
  have Y5 := Y4
  clear Y4
  go_wp2_with fail
  refine hK.out _ _ Y5.out.c (fun hHeld => ?_)
  clear hK KQ
  try simp only [Act.put, List.setIfInBounds_toArray, List.set_cons_zero, List.set_cons_succ]
  refine wpAnyH_ready (rs := [5]) (by kernel_rfl) (by simp) (AllReadyH.cons (o := ⟨none, .store 24 (.tmp 2) (.tmp 11), 0, "read.go:11", #[⟨0, .data⟩, ⟨4, .chain⟩, ⟨0, .phase⟩, { on := 1, ground := .textOnly Departure.lateStores }, { on := 2, ground := .textOnly Departure.lateStoresUnsure }, { on := 3, ground := .textOnly Departure.lateStores }, { on := 4, ground := .textOnly Departure.lateStoresUnsure }], none⟩) rfl (fun KQ hK => ?_) AllReadyH.nil)
  rw [if_pos (by rfl)]
  refine wp_store_st 24 _ _ rfl W.heap.size [.slice none 0 0, .bool false] rfl rfl Y5.out.c size36 rfl rfl ?_
  intro w6 hc hb hs
  have Y6 : Hid (PB W W.heap.size (.slice none 0 0) false 0 [] w6) := hid (PB.put Y5.out.bl Y5.out.c Y5.out.o Y5.out.hg hc hb)
  clear hc hb hs Y5
  refine hK.out _ _ Y6.out.c (fun hHeld => ?_)
  clear hK KQ
  try simp only [Act.put]
  refine wpAnyH_ready (rs := [6]) (by kernel_rfl) (by simp) (AllReadyH.cons (o := ⟨some 3, .assign (.tmp 13), 3, "read.go:11", #[⟨2, .data⟩, ⟨5, .chain⟩, ⟨0, .phase⟩, ⟨1, .phase⟩, ⟨2, .phase⟩, { on := 3, ground := .textOnly Departure.lateStores }, { on := 4, ground := .textOnly Departure.lateStoresUnsure }, ⟨5, .phase⟩], none⟩) rfl (fun KQ hK => ?_) AllReadyH.nil)
  go_simp
  refine hK.out _ _ Y6.out.c (fun hHeld => ?_)
  clear hK KQ
  try simp only [Act.put, List.setIfInBounds_toArray, List.set_cons_zero, List.set_cons_succ]
  refine wpAnyH_ready (rs := [7]) (by kernel_rfl) (by simp) (AllReadyH.cons (o := ⟨some 4, .assign (.tmp 15), 31, "read.go:11", #[⟨4, .data⟩, ⟨6, .chain⟩, ⟨0, .phase⟩, ⟨1, .phase⟩, ⟨2, .phase⟩, ⟨3, .phase⟩, ⟨4, .phase⟩, ⟨5, .phase⟩, ⟨6, .phase⟩], none⟩) rfl (fun KQ hK => ?_) AllReadyH.nil)
  go_simp
  refine hK.out _ _ Y6.out.c (fun hHeld => ?_)
  clear hK KQ
  try simp only [Act.put, List.setIfInBounds_toArray, List.set_cons_zero, List.set_cons_succ]
  refine wpAnyH_done (by kernel_rfl) ?_ _
  go_wp2_with fail
  refine ret_q3 rfl rfl W.heap.size [.slice none 0 0, .bool false] rfl Y6.out.c Tryz.underlying24 rfl size36 ?_
  exact ⟨rfl, Y6.out.bl⟩
structure PR where
  rs : List Rl
  ot : Bool
  ln : Nat
  er : Nat
def prE : Rdr ⊕ Nat → PR
  | .inl st => ⟨st.rules, st.other, 0, 0⟩
  | .inr k => ⟨[], false, k, 161⟩
def prs (s : ByteArray) : PR := if s.size ≤ 65536 then prE (endE (L.T.lines s.data.toList).length (foldP z0 (L.T.lines s.data.toList) 0)) else ⟨[], false, 0, 2⟩
def PrP (e0 : TypeId) (W w : World) (e : Ending) (p : PR) : Prop :=
  ∃ v, e = .returned (.tuple #[.agg #[v, .bool p.ot], .int .i64 (p.ln : Int), .int .i64 (p.er : Int)]) ∧ w.ownsRow W.heap.size e0 10 v p.rs.length (rcs p.rs) ∧ Below W.heap.size W w
theorem parse4_any (W : World) (E : Nat → Addr) (hV : Vr W E) (s : ByteArray) : Calls Tryz.prog 4 #[.string s] W fun e W' => PrP 63 W W' e (prs s) := by
  by_cases hs : s.size ≤ 65536
  · refine (parse_any21 W E hV s hs).mono fun e W' h => ?_
    unfold prs
    rw [if_pos hs]
    generalize endE (L.T.lines s.data.toList).length (foldP z0 (L.T.lines s.data.toList) 0) = R at *
    cases R with
    | inl st => exact h
    | inr k => obtain ⟨rfl, hb⟩ := h; exact ⟨_, rfl, World.ownsRow_nil _ _ _ _, hb⟩
  · refine (parse_long W E hV s (by omega)).mono fun e W' h => ?_
    obtain ⟨rfl, hb⟩ := h
    unfold prs
    rw [if_neg hs]
    exact ⟨_, rfl, World.ownsRow_nil _ _ _ _, hb⟩
end Go.Proofs.YtbpdmkohihgnjaaGreatDoor
