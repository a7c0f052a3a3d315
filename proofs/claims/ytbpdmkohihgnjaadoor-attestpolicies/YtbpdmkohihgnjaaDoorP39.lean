import Derived.Test.YtbpdmkohihgnjaaDoorP12
import Derived.Test.YtbpdmkohihgnjaaDoorP25
namespace Go.Proofs.YtbpdmkohihgnjaaDoor
open Go.RowKit Go.Extern.Stop Go.Stop Go.Extern
set_option maxRecDepth 100000
set_option maxHeartbeats 4000000
theorem as_nil (t : Value) (w : World) : Calls Tryd.prog 79 #[.nilIface, t] w fun e w' => e = .returned (.bool false) ∧ w' = w := by
  go_enter Tryd.func79, Tryd.ntmps79
  go_wp2
  go_ret
  exact ⟨rfl, rfl⟩
theorem Tryd.asValueP (t : Addr) (w : World) : (ReflectliteValue.unpack (.iface 143 (.pointer (some t)))).run Tryd.prog w = .ok (.agg #[.pointer (some ⟨13, 143, none⟩), .pointer (some ⟨w.heap.size, 0, none⟩), .int .u64 150]) (w.alloc (.cells #[.pointer (some t)] 143)) := by kernel_rfl
theorem Tryd.asTypeP (a : Addr) (w : World) : (ReflectliteValue.methodAny (ReflectliteValue.valueError "reflectlite.Value.Type" 0) (fun t _ _ _ => ReflectliteType.toType t) #[.agg #[.pointer (some ⟨13, 143, none⟩), .pointer (some a), .int .u64 150]]).run Tryd.prog w = .ok (.iface 184 (.agg #[.pointer (some ⟨13, 143, none⟩)])) w := by kernel_rfl
theorem Tryd.asMKind (h : Value) (w : World) : (Go.method 366 184 (.agg #[h]) "Kind").run Tryd.prog w = .ok (163, h) w := by kernel_rfl
theorem Tryd.asKindP (w : World) : ((ReflectliteType.abiMethod fun t => (fun a : Nat => Value.int IntKind.u8 (a : Int)) <$> Rtype.kind t) #[.pointer (some ⟨13, 143, none⟩)]).run Tryd.prog w = .ok (.int .u8 22) w := by kernel_rfl
theorem Tryd.asKindE (w : World) : ((ReflectliteType.abiMethod fun t => (fun a : Nat => Value.int IntKind.u8 (a : Int)) <$> Rtype.kind t) #[.pointer (some ⟨13, 134, none⟩)]).run Tryd.prog w = .ok (.int .u8 25) w := by kernel_rfl
theorem as_rlm (z : Sem Value) (f : TypeId → Addr → Nat → Nat → Sem Value) (v : Value) :
    ReflectliteValue.method z f #[v] = (do match ← ReflectliteValue.parts v with | none => z | some (t, a, fl) => f t a fl (fl % 32)) := rfl
theorem Tryd.asPartsP (a : Addr) (w : World) : (ReflectliteValue.parts (.agg #[.pointer (some ⟨13, 143, none⟩), .pointer (some a), .int .u64 150])).run Tryd.prog w = .ok (some (143, a, 150)) w := by kernel_rfl
theorem Tryd.asIsNil (a p : Addr) (W : World) (ha : W.cell? a = some (.pointer (some p))) :
    (ReflectliteValue.method (ReflectliteValue.valueError "reflectlite.Value.IsNil" 0) ReflectliteValue.isNil #[.agg #[.pointer (some ⟨13, 143, none⟩), .pointer (some a), .int .u64 150]]).run Tryd.prog W = .ok (.bool false) W := by
  rw [as_rlm]
  simp only [Sem.run_bind, Tryd.asPartsP, Result.andThen]
  simp [ReflectliteValue.isNil, loadVar, isAgg, underlying, Tryd.underlying143, ha, Result.andThen]
theorem Tryd.asMElem (h : Value) (w : World) : (Go.method 366 184 (.agg #[h]) "Elem").run Tryd.prog w = .ok (176, .agg #[h]) w := by kernel_rfl
theorem Tryd.asMImpl (h : Value) (w : World) : (Go.method 366 184 (.agg #[h]) "Implements").run Tryd.prog w = .ok (177, .agg #[h]) w := by kernel_rfl
theorem Tryd.asMAssign (h : Value) (w : World) : (Go.method 366 184 (.agg #[h]) "AssignableTo").run Tryd.prog w = .ok (174, .agg #[h]) w := by kernel_rfl
theorem Tryd.asElemP (w : World) : (ReflectliteType.method ReflectliteType.elem #[.agg #[.pointer (some ⟨13, 143, none⟩)]]).run Tryd.prog w = .ok (.iface 184 (.agg #[.pointer (some ⟨13, 134, none⟩)])) w := by kernel_rfl
theorem Tryd.asImplE (w : World) : (ReflectliteType.relation "Implements" ReflectliteType.implements_ #[.agg #[.pointer (some ⟨13, 134, none⟩)], .iface 184 (.agg #[.pointer (some ⟨13, 87, none⟩)])]).run Tryd.prog w = .ok (.bool true) w := by kernel_rfl
theorem Tryd.asTypeOfE (v : Value) (w : World) : (ReflectliteType.typeOf #[.iface 134 v]).run Tryd.prog w = .ok (.iface 184 (.agg #[.pointer (some ⟨13, 134, none⟩)])) w := by kernel_rfl
theorem Tryd.asAssignE (w : World) : (ReflectliteType.relation "AssignableTo" ReflectliteType.assignableTo #[.agg #[.pointer (some ⟨13, 134, none⟩)], .iface 184 (.agg #[.pointer (some ⟨13, 134, none⟩)])]).run Tryd.prog w = .ok (.bool true) w := by kernel_rfl
theorem Tryd.asValueE (x y : Value) (w : World) : (ReflectliteValue.unpack (.iface 134 (.agg #[x, y]))).run Tryd.prog w = .ok (.agg #[.pointer (some ⟨13, 134, none⟩), .pointer (some ⟨w.heap.size, 0, none⟩), .int .u64 153]) (w.alloc (.cells #[x, y] 134)) := by kernel_rfl
theorem Tryd.asElemOf (w : World) : (Rtype.elem? 143).run Tryd.prog w = .ok (some 134) w := by kernel_rfl
theorem Tryd.asMk (p : Addr) (w : World) : (ReflectliteValue.mk 134 p ReflectliteValue.flagAddr).run Tryd.prog w = .ok (.agg #[.pointer (some ⟨13, 134, none⟩), .pointer (some p), .int .u64 409]) w := by kernel_rfl
theorem Tryd.asElemV (a p : Addr) (W : World) (ha : W.cell? a = some (.pointer (some p))) :
    (ReflectliteValue.method (ReflectliteValue.valueError "reflectlite.Value.Elem" 0) ReflectliteValue.elem #[.agg #[.pointer (some ⟨13, 143, none⟩), .pointer (some a), .int .u64 150]]).run Tryd.prog W = .ok (.agg #[.pointer (some ⟨13, 134, none⟩), .pointer (some p), .int .u64 409]) W := by
  rw [as_rlm]
  simp only [Sem.run_bind, Tryd.asPartsP, Result.andThen]
  simp [ReflectliteValue.elem, loadVar, isAgg, underlying, Tryd.underlying143, ha, Result.andThen, Tryd.asElemOf, Tryd.asMk]
theorem as_rls (v x : Value) : ReflectliteValue.set #[v, x] = (do
    let (some (dst, a, fl), some (src, b, _)) := (← ReflectliteValue.parts v, ← ReflectliteValue.parts x)
      | unsupported (.noEntry "extern/(internal/reflectlite.Value).Set.zeroValue")
    if fl / ReflectliteValue.flagAddr % 2 == 0 then unsupported (.noEntry "extern/(internal/reflectlite.Value).Set.unaddressable")
    let val ← loadVar src b
    if ← Rtype.directlyAssignable dst src then storeVar dst a val
    else if ← Rtype.implements dst src then
      if (← Rtype.kind src) == 20 then
        match val with
        | .nilIface => unsupported (.noEntry "extern/reflectlite: a nil value of one interface type handed on as a value of another")
        | _ => storeVar dst a val
      else storeVar dst a (.iface src val)
    else panicString ("reflectlite.Set: value of type " ++ (← Rtype.spelt src) ++ " is not assignable to type " ++ (← Rtype.spelt dst))
    pure (.tuple #[])) := rfl
theorem Tryd.asPartsEa (a : Addr) (w : World) : (ReflectliteValue.parts (.agg #[.pointer (some ⟨13, 134, none⟩), .pointer (some a), .int .u64 409])).run Tryd.prog w = .ok (some (134, a, 409)) w := by kernel_rfl
theorem Tryd.asPartsE (a : Addr) (w : World) : (ReflectliteValue.parts (.agg #[.pointer (some ⟨13, 134, none⟩), .pointer (some a), .int .u64 153])).run Tryd.prog w = .ok (some (134, a, 153)) w := by kernel_rfl
theorem Tryd.asDirect (w : World) : (Rtype.directlyAssignable 134 134).run Tryd.prog w = .ok true w := by kernel_rfl
theorem Tryd.asSize : (Tryd.prog.info? 134).map (·.size) = some 2 := by kernel_rfl
theorem Tryd.asSet (g b : Nat) (x y u v : Value) (W : World) (hb : Cel W b 134 [x, y]) (ht : Cel W g 134 [u, v]) (h1 : x.oneCell' = true) (h2 : y.oneCell' = true) :
    (ReflectliteValue.set #[.agg #[.pointer (some ⟨13, 134, none⟩), .pointer (some ⟨g, 0, none⟩), .int .u64 409], .agg #[.pointer (some ⟨13, 134, none⟩), .pointer (some ⟨b, 0, none⟩), .int .u64 153]]).run Tryd.prog W = .ok (.tuple #[]) (W.setRow g #[x, y]) := by
  have hl : (loadVar 134 ⟨b, 0, none⟩).run Tryd.prog W = .ok (.agg #[x, y]) W := run_loadVar_row W b 134 134 #[x, y] (0, 0) _ hb Tryd.underlying134 rfl Tryd.asSize
  have hs : (storeVar 134 ⟨g, 0, none⟩ (.agg #[x, y])).run Tryd.prog W = .ok () (W.setRow g #[x, y]) := run_storeVar_row W g 134 134 #[u, v] #[x, y] ht Tryd.asSize rfl (by simp [h1, h2])
  rw [as_rls]
  simp only [Sem.run_bind, Tryd.asPartsEa, Tryd.asPartsE, Result.andThen]
  simp [ReflectliteValue.flagAddr, hl, Result.andThen, Tryd.asDirect, hs]
theorem as_hit (g : Nat) (x y u v : Value) (w : World) (hg : w.cell? ⟨7, 0, none⟩ = some (.iface 184 (.agg #[.pointer (some ⟨13, 87, none⟩)]))) (ht : Cel w g 134 [u, v]) (h1 : x.oneCell' = true) (h2 : y.oneCell' = true) :
    Calls Tryd.prog 79 #[.iface 134 (.agg #[x, y]), .iface 143 (.pointer (some ⟨g, 0, none⟩))] w fun ev w' => ev = .returned (.bool true) ∧ w' = ((((w.alloc (.cells #[.pointer (some ⟨g, 0, none⟩)] 143)).alloc (.cells #[.pointer (some ⟨13, 143, none⟩), .pointer (some ⟨w.heap.size, 0, none⟩), .int .u64 150] 169)).alloc (.cells #[.pointer (some ⟨13, 143, none⟩), .pointer (some ⟨w.heap.size, 0, none⟩), .int .u64 150] 169)).alloc (.cells #[x, y] 134)).setRow g #[x, y] := by
  have h98 := @run_callFunc_extern Tryd.prog 98 _ (fun args => ReflectliteValue.unpack (args.getD 0 (.tuple #[]))) Tryd.func98 (by kernel_rfl) (by kernel_rfl) (by kernel_rfl) (by kernel_rfl)
  have h99 := @run_callFunc_extern Tryd.prog 99 _ (ReflectliteValue.methodAny (ReflectliteValue.valueError "reflectlite.Value.Type" 0) (fun t _ _ _ => ReflectliteType.toType t)) Tryd.func99 (by kernel_rfl) (by kernel_rfl) (by kernel_rfl) (by kernel_rfl)
  have h100 := @run_callFunc_extern Tryd.prog 100 _ (ReflectliteValue.method (ReflectliteValue.valueError "reflectlite.Value.IsNil" 0) ReflectliteValue.isNil) Tryd.func100 (by kernel_rfl) (by kernel_rfl) (by kernel_rfl) (by kernel_rfl)
  have h163 := @run_callFunc_extern Tryd.prog 163 _ (ReflectliteType.abiMethod fun t => do pure (.int .u8 (← Rtype.kind t))) Tryd.func163 (by kernel_rfl) (by kernel_rfl) (by kernel_rfl) (by kernel_rfl)
  have h176 := @run_callFunc_extern Tryd.prog 176 _ (ReflectliteType.method ReflectliteType.elem) Tryd.func176 (by kernel_rfl) (by kernel_rfl) (by kernel_rfl) (by kernel_rfl)
  have h177 := @run_callFunc_extern Tryd.prog 177 _ (ReflectliteType.relation "Implements" ReflectliteType.implements_) Tryd.func177 (by kernel_rfl) (by kernel_rfl) (by kernel_rfl) (by kernel_rfl)
  have h88 := @run_callFunc_extern Tryd.prog 88 _ ReflectliteType.typeOf Tryd.func88 (by kernel_rfl) (by kernel_rfl) (by kernel_rfl) (by kernel_rfl)
  have h174 := @run_callFunc_extern Tryd.prog 174 _ (ReflectliteType.relation "AssignableTo" ReflectliteType.assignableTo) Tryd.func174 (by kernel_rfl) (by kernel_rfl) (by kernel_rfl) (by kernel_rfl)
  have h115 := @run_callFunc_extern Tryd.prog 115 _ (ReflectliteValue.method (ReflectliteValue.valueError "reflectlite.Value.Elem" 0) ReflectliteValue.elem) Tryd.func115 (by kernel_rfl) (by kernel_rfl) (by kernel_rfl) (by kernel_rfl)
  have h116 := @run_callFunc_extern Tryd.prog 116 _ ReflectliteValue.set Tryd.func116 (by kernel_rfl) (by kernel_rfl) (by kernel_rfl) (by kernel_rfl)
  have tO := Tryd.asTypeOfE
  have mA := Tryd.asMAssign
  have a25 := Tryd.asAssignE
  have v25 := Tryd.asValueE
  have f6 := Tryd.asValueP
  have f7 := Tryd.asTypeP
  have mK := Tryd.asMKind
  have mE := Tryd.asMElem
  have mI := Tryd.asMImpl
  have k27 := Tryd.asKindP
  have k25 := Tryd.asKindE
  have e27 := Tryd.asElemP
  have i25 := Tryd.asImplE
  have n8 := Tryd.asIsNil ⟨w.heap.size, 0, none⟩ ⟨g, 0, none⟩ ((w.alloc (.cells #[.pointer (some ⟨g, 0, none⟩)] 143)).alloc (.cells #[.pointer (some ⟨13, 143, none⟩), .pointer (some ⟨w.heap.size, 0, none⟩), .int .u64 150] 169)) (by simp)
  have hlt : 7 < w.heap.size := by
    rcases Nat.lt_or_ge 7 w.heap.size with h | h
    · exact h
    · simp [World.cell?, Array.getElem?_eq_none h] at hg
  have hg2 : ((w.alloc (.cells #[.pointer (some ⟨g, 0, none⟩)] 143)).alloc (.cells #[.pointer (some ⟨13, 143, none⟩), .pointer (some ⟨w.heap.size, 0, none⟩), .int .u64 150] 169)).cell? ⟨7, 0, none⟩ = some (.iface 184 (.agg #[.pointer (some ⟨13, 87, none⟩)])) := by
    rw [World.cell?_alloc_lt _ _ ⟨7, 0, none⟩ (by simp; omega), World.cell?_alloc_lt _ _ ⟨7, 0, none⟩ hlt]; exact hg
  have el := Tryd.asElemV ⟨w.heap.size, 0, none⟩ ⟨g, 0, none⟩ (((w.alloc (.cells #[.pointer (some ⟨g, 0, none⟩)] 143)).alloc (.cells #[.pointer (some ⟨13, 143, none⟩), .pointer (some ⟨w.heap.size, 0, none⟩), .int .u64 150] 169)).alloc (.cells #[.pointer (some ⟨13, 143, none⟩), .pointer (some ⟨w.heap.size, 0, none⟩), .int .u64 150] 169)) (by rw [World.cell?_alloc_lt _ _ ⟨w.heap.size, 0, none⟩ (by simp; omega)]; simp)
  have st := Tryd.asSet g (w.heap.size + 1 + 1 + 1) x y u v ((((w.alloc (.cells #[.pointer (some ⟨g, 0, none⟩)] 143)).alloc (.cells #[.pointer (some ⟨13, 143, none⟩), .pointer (some ⟨w.heap.size, 0, none⟩), .int .u64 150] 169)).alloc (.cells #[.pointer (some ⟨13, 143, none⟩), .pointer (some ⟨w.heap.size, 0, none⟩), .int .u64 150] 169)).alloc (.cells #[x, y] 134))
    (by have := heap_alloc_new (((w.alloc (.cells #[.pointer (some ⟨g, 0, none⟩)] 143)).alloc (.cells #[.pointer (some ⟨13, 143, none⟩), .pointer (some ⟨w.heap.size, 0, none⟩), .int .u64 150] 169)).alloc (.cells #[.pointer (some ⟨13, 143, none⟩), .pointer (some ⟨w.heap.size, 0, none⟩), .int .u64 150] 169)) (.cells #[x, y] 134); simpa [Cel] using this)
    ((((ht.on (below_one _ _)).on (below_one _ _)).on (below_one _ _)).on (below_one _ _)) h1 h2
  go_enter Tryd.func79, Tryd.ntmps79
  go_wp2
  refine wp_loop_rounds 1 ?_
  rw [rounds_succ]
  go_wp2
  go_ret
  exact ⟨rfl, rfl⟩
theorem as_hit2 (g : Nat) (x y u v : Value) (w : World) (hg : w.cell? ⟨7, 0, none⟩ = some (.iface 184 (.agg #[.pointer (some ⟨13, 87, none⟩)]))) (ht : Cel w g 134 [u, v]) (h1 : x.oneCell' = true) (h2 : y.oneCell' = true) :
    Calls Tryd.prog 79 #[.iface 134 (.agg #[x, y]), .iface 143 (.pointer (some ⟨g, 0, none⟩))] w fun ev w' => ev = .returned (.bool true) ∧ Cel w' g 134 [x, y] ∧ But g w w' := by
  refine (as_hit g x y u v w hg ht h1 h2).mono ?_
  rintro ev w' ⟨rfl, rfl⟩
  have hb : Below w.heap.size w ((((w.alloc (.cells #[.pointer (some ⟨g, 0, none⟩)] 143)).alloc (.cells #[.pointer (some ⟨13, 143, none⟩), .pointer (some ⟨w.heap.size, 0, none⟩), .int .u64 150] 169)).alloc (.cells #[.pointer (some ⟨13, 143, none⟩), .pointer (some ⟨w.heap.size, 0, none⟩), .int .u64 150] 169)).alloc (.cells #[x, y] 134)) := below_on (below_on (below_on (below_one _ _) (below_one _ _)) (below_one _ _)) (below_one _ _)
  exact ⟨rfl, setRow_heap _ g _ _ 134 _ (ht.on hb), (Below.but hb).trans (but_setRow _ _ _)⟩
theorem line_nil (W : World) : Calls Tryd.prog 54 #[.nilIface] W fun e W' => e = .returned (.int .i64 0) ∧ Below W.heap.size W W' := by
  have HA := hid (fun t w => as_nil t w)
  go_enter Tryd.func54, Tryd.ntmps54
  go_wp2_with (first | (go_at_call 79; refine (HA.out _ _).mono ?_; rintro e w' ⟨rfl, rfl⟩))
  go_ret
  exact ⟨rfl, below_one _ _⟩
theorem line_at (W : World) (k : Int) (a : Addr) (hg : W.cell? ⟨7, 0, none⟩ = some (.iface 184 (.agg #[.pointer (some ⟨13, 87, none⟩)]))) :
    Calls Tryd.prog 54 #[.iface 134 (.agg #[.int .i64 k, .iface 235 (.pointer (some a))])] W fun e W' => e = .returned (.int .i64 k) ∧ Below W.heap.size W W' := by
  have hlt : 7 < W.heap.size := by
    rcases Nat.lt_or_ge 7 W.heap.size with h | h
    · exact h
    · simp [World.cell?, Array.getElem?_eq_none h] at hg
  obtain ⟨X, hX⟩ : ∃ X, X = W.alloc (.cells #[.int .i64 0, .nilIface] 134) := ⟨_, rfl⟩
  have hB : Below W.heap.size W X := by rw [hX]; exact below_one _ _
  have HA := hid (as_hit2 W.heap.size (.int .i64 k) (.iface 235 (.pointer (some a))) (.int .i64 0) .nilIface X ((hB.cell (p := ⟨7, 0, none⟩) hlt).trans hg) (by rw [hX]; exact heap_alloc_new _ _) rfl rfl)
  have HB := hid hB
  clear hB hg hlt
  go_enter Tryd.func54, Tryd.ntmps54
  go_upto_region 2 with fail
  rw [← hX]
  clear hX
  generalize hgz : W.heap.size = g at *
  go_upto_region 4 with (first | (go_at_call 79; refine HA.out.mono ?_; rintro e w2 ⟨rfl, hc, hb⟩))
  have c0 : w2.cell? ⟨g, 0, none⟩ = some (.int .i64 k) := hc.cell 0
  have HQ := hid (hb)
  clear hb hc HA
  go_wp2_with fail
  go_ret
  subst hgz
  exact ⟨rfl, HB.out.trans (HQ.out.below (Nat.le_refl _) HB.out.size)⟩
/-! ### errors.Is of a refusal at a line -/
theorem Tryd.noIsA (v : Value) (xT : TypeId) (w : World) : (Instr.typeAssert (.iface 134 v) xT 186 true).run Tryd.prog w = .ok (.tuple #[.nilIface, .bool false]) w := run_typeAssert_lacksB Tryd.underlying186 (by kernel_rfl) (by kernel_rfl) v xT w
theorem Tryd.unwrapA (v : Value) (xT : TypeId) (w : World) : (Instr.typeAssert (.iface 134 v) xT 189 true).run Tryd.prog w = .ok (.tuple #[.iface 134 v, .bool true]) w := run_typeAssert_hasB Tryd.underlying189 (by kernel_rfl) v xT w
theorem Tryd.isMethodUnwrap (v : Value) (w : World) : (Go.method 366 134 v "Unwrap").run Tryd.prog w = .ok (169, v) w := by kernel_rfl
theorem unwrap_any (k : Int) (y : Value) (w : World) : Calls Tryd.prog 169 #[.agg #[.int .i64 k, y]] w fun e w' => e = .returned y ∧ w' = w.alloc (.cells #[.int .i64 k, y] 134) := by
  have c1 : (w.alloc (.cells #[.int .i64 k, y] 134)).cell? ⟨w.heap.size, 1, none⟩ = some y := (show Cel (w.alloc (.cells #[.int .i64 k, y] 134)) w.heap.size 134 [.int .i64 k, y] from heap_alloc_new _ _).cell 1
  go_enter Tryd.func169, Tryd.ntmps169
  go_wp2_with fail
  go_ret
  exact ⟨rfl, rfl⟩
theorem is_at_same (k : Int) (a : Addr) (w : World) :
    Calls Tryd.prog 71 #[.iface 134 (.agg #[.int .i64 k, .iface 235 (.pointer (some a))]), .iface 235 (.pointer (some a))] w fun e w' => e = .returned (.bool true) ∧ Below w.heap.size w w' := by
  obtain ⟨i, hi, hcmp⟩ := Option.map_eq_some_iff.1 Tryd.isComp
  obtain ⟨j, hj, hjs⟩ := Option.map_eq_some_iff.1 Tryd.isSize
  have h8 := @run_callFunc_extern Tryd.prog 88 _ Extern.ReflectliteType.typeOf Tryd.func88 (by kernel_rfl) (by kernel_rfl) (by kernel_rfl) (by kernel_rfl)
  have h32 := @run_callFunc_extern Tryd.prog 175 _ (Extern.ReflectliteType.method cmpX) Tryd.func175 (by kernel_rfl) (by kernel_rfl) (by kernel_rfl) (by kernel_rfl)
  have tT := Tryd.isTypeOf
  have cT := Tryd.isComparable
  have mR := Tryd.isMethodComparable
  have nE := Tryd.noIsA
  have uE := Tryd.unwrapA
  have mU := Tryd.isMethodUnwrap
  have HU := hid (fun w => unwrap_any k (.iface 235 (.pointer (some a))) w)
  have heq0 := run_eql_iface_types (P := Tryd.prog) 134 235 (.agg #[.int .i64 k, .iface 235 (.pointer (some a))]) (.pointer (some a)) Tryd.underlying87 (by decide) w
  have heq := run_eql_iface_ptr_same (P := Tryd.prog) (w.alloc (.cells #[.int .i64 k, .iface 235 (.pointer (some a))] 134)) a Tryd.underlying87 Tryd.underlying235 hi hcmp hj
  go_enter Tryd.func71, Tryd.ntmps71
  go_wp2
  refine wp_loop_rounds 2 ?_
  rw [rounds_succ]
  go_wp2_with (first | (go_at_call 169; refine (HU.out _).mono ?_; rintro e w2 ⟨rfl, rfl⟩))
  rw [rounds_succ]
  go_wp2
  go_ret
  exact ⟨rfl, below_one _ _⟩
theorem is_at_other (k : Int) (a b : Addr) (ca cb : Array Value) (ta tb : TypeId) (w : World) (hne : a ≠ b) (ha : w.heap[a.block]? = some (.cells ca ta (0, 0))) (hb : w.heap[b.block]? = some (.cells cb tb (0, 0))) :
    Calls Tryd.prog 71 #[.iface 134 (.agg #[.int .i64 k, .iface 235 (.pointer (some a))]), .iface 235 (.pointer (some b))] w fun e w' => e = .returned (.bool false) ∧ Below w.heap.size w w' := by
  obtain ⟨i, hi, hcmp⟩ := Option.map_eq_some_iff.1 Tryd.isComp
  obtain ⟨j, hj, hjs⟩ := Option.map_eq_some_iff.1 Tryd.isSize
  have h8 := @run_callFunc_extern Tryd.prog 88 _ Extern.ReflectliteType.typeOf Tryd.func88 (by kernel_rfl) (by kernel_rfl) (by kernel_rfl) (by kernel_rfl)
  have h32 := @run_callFunc_extern Tryd.prog 175 _ (Extern.ReflectliteType.method cmpX) Tryd.func175 (by kernel_rfl) (by kernel_rfl) (by kernel_rfl) (by kernel_rfl)
  have tT := Tryd.isTypeOf
  have cT := Tryd.isComparable
  have mR := Tryd.isMethodComparable
  have nE := Tryd.noIsA
  have uE := Tryd.unwrapA
  have mU := Tryd.isMethodUnwrap
  have nE2 := Tryd.noIsE
  have uE2 := Tryd.noUnwrapE
  have vE2 := Tryd.noUnwrapsE
  have HU := hid (fun w => unwrap_any k (.iface 235 (.pointer (some a))) w)
  have heq0 := run_eql_iface_types (P := Tryd.prog) 134 235 (.agg #[.int .i64 k, .iface 235 (.pointer (some a))]) (.pointer (some b)) Tryd.underlying87 (by decide) w
  have hal := (Array.getElem?_eq_some_iff.1 ha).1
  have hbl := (Array.getElem?_eq_some_iff.1 hb).1
  have heq := run_eql_iface_ptr_other (P := Tryd.prog) (w.alloc (.cells #[.int .i64 k, .iface 235 (.pointer (some a))] 134)) Tryd.underlying87 Tryd.underlying235 hi hcmp hj (by rw [hjs]; decide) hne (((below_one w _).block a.block hal).trans ha) (((below_one w _).block b.block hbl).trans hb)
  clear hal hbl
  go_enter Tryd.func71, Tryd.ntmps71
  go_wp2
  refine wp_loop_rounds 2 ?_
  rw [rounds_succ]
  go_wp2_with (first | (go_at_call 169; refine (HU.out _).mono ?_; rintro e w2 ⟨rfl, rfl⟩))
  rw [rounds_succ]
  go_wp2
  go_ret
  exact ⟨rfl, below_one _ _⟩
theorem ErrS.isAt {W : World} {E : Nat → Addr} (h : ErrS W E) (k : Int) (i j : Nat) (h1 : 1 ≤ i) (h2 : i ≤ 6) (h3 : 1 ≤ j) (h4 : j ≤ 6) (hn : i ≠ j) :
    Calls Tryd.prog 71 #[.iface 134 (.agg #[.int .i64 k, .iface 235 (.pointer (some (E i)))]), .iface 235 (.pointer (some (E j)))] W fun e w' => e = .returned (.bool false) ∧ Below W.heap.size W w' := by
  obtain ⟨ca, ta, ha⟩ := h.row i h1 h2
  obtain ⟨cb, tb, hb⟩ := h.row j h3 h4
  exact is_at_other k _ _ ca cb ta tb W (h.ne i j h1 h2 h3 h4 hn) ha hb
theorem number_at (W : World) (E : Nat → Addr) (h : ErrS W E) (k : Int) : Calls Tryd.prog 44 #[.iface 134 (.agg #[.int .i64 k, .iface 235 (.pointer (some (E 6)))])] W fun e w' => e = .returned (.int .i64 161) ∧ Below W.heap.size W w' := by
  have I4 := hid (fun (w : World) (h : ErrS w E) => h.isAt k 6 4 (by decide) (by decide) (by decide) (by decide) (by decide))
  have I5 := hid (fun (w : World) (h : ErrS w E) => h.isAt k 6 5 (by decide) (by decide) (by decide) (by decide) (by decide))
  have I6 := hid (fun (w : World) => is_at_same k (E 6) w)
  have c4 := h.cell 4 (by decide) (by decide)
  have H0 := hid h
  clear h
  go_enter Tryd.func44, Tryd.ntmps44
  go_upto_region 3 with (first | (go_at_call 71; refine (I4.out _ H0.out).mono ?_; rintro e w1 ⟨rfl, hb⟩; have H1 := hid (H0.out.on hb); have B1 := hid hb; clear hb I4 c4; have c5 := H1.out.cell 5 (by decide) (by decide)))
  clear H0
  go_upto_region 5 with (first | (go_at_call 71; refine (I5.out _ H1.out).mono ?_; rintro e w2 ⟨rfl, hb⟩; have H2 := hid (H1.out.on hb); have B2 := hid (below_on B1.out hb); clear hb I5 c5; have c6 := H2.out.cell 6 (by decide) (by decide)))
  clear H1 B1
  go_wp2_with (first | (go_at_call 71; refine (I6.out _).mono ?_; rintro e w3 ⟨rfl, hb⟩; have B3 := hid (below_on B2.out hb); clear hb I6 c6))
  go_ret
  exact ⟨rfl, B3.out⟩
end Go.Proofs.YtbpdmkohihgnjaaDoor
