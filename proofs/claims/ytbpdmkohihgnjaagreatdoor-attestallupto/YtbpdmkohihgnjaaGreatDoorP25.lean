import Derived.Test.YtbpdmkohihgnjaaGreatDoorP07
import Derived.Test.YtbpdmkohihgnjaaGreatDoorP17
namespace Go.Proofs.YtbpdmkohihgnjaaGreatDoor
open Go.RowKit Go.Extern.Stop Go.Stop Go.Extern
set_option maxRecDepth 100000
set_option maxHeartbeats 4000000
theorem as_nil (t : Value) (w : World) : Calls Tryz.prog 24 #[.nilIface, t] w fun e w' => e = .returned (.bool false) ∧ w' = w := by
  go_enter Tryz.func24, Tryz.ntmps24
  go_wp2
  go_ret
  exact ⟨rfl, rfl⟩
theorem Tryz.asValueP (t : Addr) (w : World) : (ReflectliteValue.unpack (.iface 73 (.pointer (some t)))).run Tryz.prog w = .ok (.agg #[.pointer (some ⟨13, 73, none⟩), .pointer (some ⟨w.heap.size, 0, none⟩), .int .u64 150]) (w.alloc (.cells #[.pointer (some t)] 73)) := by kernel_rfl
theorem Tryz.asTypeP (a : Addr) (w : World) : (ReflectliteValue.methodAny (ReflectliteValue.valueError "reflectlite.Value.Type" 0) (fun t _ _ _ => ReflectliteType.toType t) #[.agg #[.pointer (some ⟨13, 73, none⟩), .pointer (some a), .int .u64 150]]).run Tryz.prog w = .ok (.iface 150 (.agg #[.pointer (some ⟨13, 73, none⟩)])) w := by kernel_rfl
theorem Tryz.asMKind (h : Value) (w : World) : (Go.method 376 150 (.agg #[h]) "Kind").run Tryz.prog w = .ok (172, h) w := by kernel_rfl
theorem Tryz.asKindP (w : World) : ((ReflectliteType.abiMethod fun t => (fun a : Nat => Value.int IntKind.u8 (a : Int)) <$> Rtype.kind t) #[.pointer (some ⟨13, 73, none⟩)]).run Tryz.prog w = .ok (.int .u8 22) w := by kernel_rfl
theorem Tryz.asKindE (w : World) : ((ReflectliteType.abiMethod fun t => (fun a : Nat => Value.int IntKind.u8 (a : Int)) <$> Rtype.kind t) #[.pointer (some ⟨13, 71, none⟩)]).run Tryz.prog w = .ok (.int .u8 25) w := by kernel_rfl
theorem as_rlm (z : Sem Value) (f : TypeId → Addr → Nat → Nat → Sem Value) (v : Value) :
    ReflectliteValue.method z f #[v] = (do match ← ReflectliteValue.parts v with | none => z | some (t, a, fl) => f t a fl (fl % 32)) := rfl
theorem Tryz.asPartsP (a : Addr) (w : World) : (ReflectliteValue.parts (.agg #[.pointer (some ⟨13, 73, none⟩), .pointer (some a), .int .u64 150])).run Tryz.prog w = .ok (some (73, a, 150)) w := by kernel_rfl
theorem Tryz.asIsNil (a p : Addr) (W : World) (ha : W.cell? a = some (.pointer (some p))) :
    (ReflectliteValue.method (ReflectliteValue.valueError "reflectlite.Value.IsNil" 0) ReflectliteValue.isNil #[.agg #[.pointer (some ⟨13, 73, none⟩), .pointer (some a), .int .u64 150]]).run Tryz.prog W = .ok (.bool false) W := by
  rw [as_rlm]
  simp only [Sem.run_bind, Tryz.asPartsP, Result.andThen]
  simp [ReflectliteValue.isNil, loadVar, isAgg, underlying, Tryz.underlying73, ha, Result.andThen]
theorem Tryz.asMElem (h : Value) (w : World) : (Go.method 376 150 (.agg #[h]) "Elem").run Tryz.prog w = .ok (184, .agg #[h]) w := by kernel_rfl
theorem Tryz.asMImpl (h : Value) (w : World) : (Go.method 376 150 (.agg #[h]) "Implements").run Tryz.prog w = .ok (185, .agg #[h]) w := by kernel_rfl
theorem Tryz.asMAssign (h : Value) (w : World) : (Go.method 376 150 (.agg #[h]) "AssignableTo").run Tryz.prog w = .ok (182, .agg #[h]) w := by kernel_rfl
theorem Tryz.asElemP (w : World) : (ReflectliteType.method ReflectliteType.elem #[.agg #[.pointer (some ⟨13, 73, none⟩)]]).run Tryz.prog w = .ok (.iface 150 (.agg #[.pointer (some ⟨13, 71, none⟩)])) w := by kernel_rfl
theorem Tryz.asImplE (w : World) : (ReflectliteType.relation "Implements" ReflectliteType.implements_ #[.agg #[.pointer (some ⟨13, 71, none⟩)], .iface 150 (.agg #[.pointer (some ⟨13, 47, none⟩)])]).run Tryz.prog w = .ok (.bool true) w := by kernel_rfl
theorem Tryz.asTypeOfE (v : Value) (w : World) : (ReflectliteType.typeOf #[.iface 71 v]).run Tryz.prog w = .ok (.iface 150 (.agg #[.pointer (some ⟨13, 71, none⟩)])) w := by kernel_rfl
theorem Tryz.asAssignE (w : World) : (ReflectliteType.relation "AssignableTo" ReflectliteType.assignableTo #[.agg #[.pointer (some ⟨13, 71, none⟩)], .iface 150 (.agg #[.pointer (some ⟨13, 71, none⟩)])]).run Tryz.prog w = .ok (.bool true) w := by kernel_rfl
theorem Tryz.asValueE (x y : Value) (w : World) : (ReflectliteValue.unpack (.iface 71 (.agg #[x, y]))).run Tryz.prog w = .ok (.agg #[.pointer (some ⟨13, 71, none⟩), .pointer (some ⟨w.heap.size, 0, none⟩), .int .u64 153]) (w.alloc (.cells #[x, y] 71)) := by kernel_rfl
theorem Tryz.asElemOf (w : World) : (Rtype.elem? 73).run Tryz.prog w = .ok (some 71) w := by kernel_rfl
theorem Tryz.asMk (p : Addr) (w : World) : (ReflectliteValue.mk 71 p ReflectliteValue.flagAddr).run Tryz.prog w = .ok (.agg #[.pointer (some ⟨13, 71, none⟩), .pointer (some p), .int .u64 409]) w := by kernel_rfl
theorem Tryz.asElemV (a p : Addr) (W : World) (ha : W.cell? a = some (.pointer (some p))) :
    (ReflectliteValue.method (ReflectliteValue.valueError "reflectlite.Value.Elem" 0) ReflectliteValue.elem #[.agg #[.pointer (some ⟨13, 73, none⟩), .pointer (some a), .int .u64 150]]).run Tryz.prog W = .ok (.agg #[.pointer (some ⟨13, 71, none⟩), .pointer (some p), .int .u64 409]) W := by
  rw [as_rlm]
  simp only [Sem.run_bind, Tryz.asPartsP, Result.andThen]
  simp [ReflectliteValue.elem, loadVar, isAgg, underlying, Tryz.underlying73, ha, Result.andThen, Tryz.asElemOf, Tryz.asMk]
theorem as_rls (v x : Value) : ReflectliteValue.set #[v, x] = (do
    let (some (dst, a, fl), some (src, b, _)) := (← ReflectliteValue.parts v, ← ReflectliteValue.parts x)
      | unsupported (.noEntry "extern/(internal/reflectlite.Value).Set.zeroValue")
    if fl / ReflectliteValue.flagAddr % 2 == 0 then unsupported (.noEntry "extern/(internal/reflectlite.Value).Set.unaddressable")
    let val ← loadVar src b
    if ← Rtype.directlyAssignable dst src then storeVar dst a val
    else if ← Rtype.implements dst src then
      if (← Rtype.kind src) == 20 then
        match val with
        | .nilIface => unsupported (.noEntry "extern/reflectlite: a nil value of one interface type handed on as a value of another")
        | _ => storeVar dst a val
      else storeVar dst a (.iface src val)
    else panicString ("reflectlite.Set: value of type " ++ (← Rtype.spelt src) ++ " is not assignable to type " ++ (← Rtype.spelt dst))
    pure (.tuple #[])) := rfl
theorem Tryz.asPartsEa (a : Addr) (w : World) : (ReflectliteValue.parts (.agg #[.pointer (some ⟨13, 71, none⟩), .pointer (some a), .int .u64 409])).run Tryz.prog w = .ok (some (71, a, 409)) w := by kernel_rfl
theorem Tryz.asPartsE (a : Addr) (w : World) : (ReflectliteValue.parts (.agg #[.pointer (some ⟨13, 71, none⟩), .pointer (some a), .int .u64 153])).run Tryz.prog w = .ok (some (71, a, 153)) w := by kernel_rfl
theorem Tryz.asDirect (w : World) : (Rtype.directlyAssignable 71 71).run Tryz.prog w = .ok true w := by kernel_rfl
theorem Tryz.asSize : (Tryz.prog.info? 71).map (·.size) = some 2 := by kernel_rfl
theorem Tryz.asSet (g b : Nat) (x y u v : Value) (W : World) (hb : Cel W b 71 [x, y]) (ht : Cel W g 71 [u, v]) (h1 : x.oneCell' = true) (h2 : y.oneCell' = true) :
    (ReflectliteValue.set #[.agg #[.pointer (some ⟨13, 71, none⟩), .pointer (some ⟨g, 0, none⟩), .int .u64 409], .agg #[.pointer (some ⟨13, 71, none⟩), .pointer (some ⟨b, 0, none⟩), .int .u64 153]]).run Tryz.prog W = .ok (.tuple #[]) (W.setRow g #[x, y]) := by
  have hl : (loadVar 71 ⟨b, 0, none⟩).run Tryz.prog W = .ok (.agg #[x, y]) W := run_loadVar_row W b 71 71 #[x, y] (0, 0) _ hb Tryz.underlying71 rfl Tryz.asSize
  have hs : (storeVar 71 ⟨g, 0, none⟩ (.agg #[x, y])).run Tryz.prog W = .ok () (W.setRow g #[x, y]) := run_storeVar_row W g 71 71 #[u, v] #[x, y] ht Tryz.asSize rfl (by simp [h1, h2])
  rw [as_rls]
  simp only [Sem.run_bind, Tryz.asPartsEa, Tryz.asPartsE, Result.andThen]
  simp [ReflectliteValue.flagAddr, hl, Result.andThen, Tryz.asDirect, hs]
theorem as_hit (g : Nat) (x y u v : Value) (w : World) (hg : w.cell? ⟨6, 0, none⟩ = some (.iface 150 (.agg #[.pointer (some ⟨13, 47, none⟩)]))) (ht : Cel w g 71 [u, v]) (h1 : x.oneCell' = true) (h2 : y.oneCell' = true) :
    Calls Tryz.prog 24 #[.iface 71 (.agg #[x, y]), .iface 73 (.pointer (some ⟨g, 0, none⟩))] w fun ev w' => ev = .returned (.bool true) ∧ w' = ((((w.alloc (.cells #[.pointer (some ⟨g, 0, none⟩)] 73)).alloc (.cells #[.pointer (some ⟨13, 73, none⟩), .pointer (some ⟨w.heap.size, 0, none⟩), .int .u64 150] 111)).alloc (.cells #[.pointer (some ⟨13, 73, none⟩), .pointer (some ⟨w.heap.size, 0, none⟩), .int .u64 150] 111)).alloc (.cells #[x, y] 71)).setRow g #[x, y] := by
  have h98 := @run_callFunc_extern Tryz.prog 47 _ (fun args => ReflectliteValue.unpack (args.getD 0 (.tuple #[]))) Tryz.func47 (by kernel_rfl) (by kernel_rfl) (by kernel_rfl) (by kernel_rfl)
  have h99 := @run_callFunc_extern Tryz.prog 48 _ (ReflectliteValue.methodAny (ReflectliteValue.valueError "reflectlite.Value.Type" 0) (fun t _ _ _ => ReflectliteType.toType t)) Tryz.func48 (by kernel_rfl) (by kernel_rfl) (by kernel_rfl) (by kernel_rfl)
  have h100 := @run_callFunc_extern Tryz.prog 49 _ (ReflectliteValue.method (ReflectliteValue.valueError "reflectlite.Value.IsNil" 0) ReflectliteValue.isNil) Tryz.func49 (by kernel_rfl) (by kernel_rfl) (by kernel_rfl) (by kernel_rfl)
  have h163 := @run_callFunc_extern Tryz.prog 172 _ (ReflectliteType.abiMethod fun t => do pure (.int .u8 (← Rtype.kind t))) Tryz.func172 (by kernel_rfl) (by kernel_rfl) (by kernel_rfl) (by kernel_rfl)
  have h176 := @run_callFunc_extern Tryz.prog 184 _ (ReflectliteType.method ReflectliteType.elem) Tryz.func184 (by kernel_rfl) (by kernel_rfl) (by kernel_rfl) (by kernel_rfl)
  have h177 := @run_callFunc_extern Tryz.prog 185 _ (ReflectliteType.relation "Implements" ReflectliteType.implements_) Tryz.func185 (by kernel_rfl) (by kernel_rfl) (by kernel_rfl) (by kernel_rfl)
  have h88 := @run_callFunc_extern Tryz.prog 51 _ ReflectliteType.typeOf Tryz.func51 (by kernel_rfl) (by kernel_rfl) (by kernel_rfl) (by kernel_rfl)
  have h174 := @run_callFunc_extern Tryz.prog 182 _ (ReflectliteType.relation "AssignableTo" ReflectliteType.assignableTo) Tryz.func182 (by kernel_rfl) (by kernel_rfl) (by kernel_rfl) (by kernel_rfl)
  have h115 := @run_callFunc_extern Tryz.prog 76 _ (ReflectliteValue.method (ReflectliteValue.valueError "reflectlite.Value.Elem" 0) ReflectliteValue.elem) Tryz.func76 (by kernel_rfl) (by kernel_rfl) (by kernel_rfl) (by kernel_rfl)
  have h116 := @run_callFunc_extern Tryz.prog 77 _ ReflectliteValue.set Tryz.func77 (by kernel_rfl) (by kernel_rfl) (by kernel_rfl) (by kernel_rfl)
  have tO := Tryz.asTypeOfE
  have mA := Tryz.asMAssign
  have a25 := Tryz.asAssignE
  have v25 := Tryz.asValueE
  have f6 := Tryz.asValueP
  have f7 := Tryz.asTypeP
  have mK := Tryz.asMKind
  have mE := Tryz.asMElem
  have mI := Tryz.asMImpl
  have k27 := Tryz.asKindP
  have k25 := Tryz.asKindE
  have e27 := Tryz.asElemP
  have i25 := Tryz.asImplE
  have n8 := Tryz.asIsNil ⟨w.heap.size, 0, none⟩ ⟨g, 0, none⟩ ((w.alloc (.cells #[.pointer (some ⟨g, 0, none⟩)] 73)).alloc (.cells #[.pointer (some ⟨13, 73, none⟩), .pointer (some ⟨w.heap.size, 0, none⟩), .int .u64 150] 111)) (by simp)
  have hlt : 6 < w.heap.size := by
    rcases Nat.lt_or_ge 6 w.heap.size with h | h
    · exact h
    · simp [World.cell?, Array.getElem?_eq_none h] at hg
  have hg2 : ((w.alloc (.cells #[.pointer (some ⟨g, 0, none⟩)] 73)).alloc (.cells #[.pointer (some ⟨13, 73, none⟩), .pointer (some ⟨w.heap.size, 0, none⟩), .int .u64 150] 111)).cell? ⟨6, 0, none⟩ = some (.iface 150 (.agg #[.pointer (some ⟨13, 47, none⟩)])) := by
    rw [World.cell?_alloc_lt _ _ ⟨6, 0, none⟩ (by simp; omega), World.cell?_alloc_lt _ _ ⟨6, 0, none⟩ hlt]; exact hg
  have el := Tryz.asElemV ⟨w.heap.size, 0, none⟩ ⟨g, 0, none⟩ (((w.alloc (.cells #[.pointer (some ⟨g, 0, none⟩)] 73)).alloc (.cells #[.pointer (some ⟨13, 73, none⟩), .pointer (some ⟨w.heap.size, 0, none⟩), .int .u64 150] 111)).alloc (.cells #[.pointer (some ⟨13, 73, none⟩), .pointer (some ⟨w.heap.size, 0, none⟩), .int .u64 150] 111)) (by rw [World.cell?_alloc_lt _ _ ⟨w.heap.size, 0, none⟩ (by simp; omega)]; simp)
  have st := Tryz.asSet g (w.heap.size + 1 + 1 + 1) x y u v ((((w.alloc (.cells #[.pointer (some ⟨g, 0, none⟩)] 73)).alloc (.cells #[.pointer (some ⟨13, 73, none⟩), .pointer (some ⟨w.heap.size, 0, none⟩), .int .u64 150] 111)).alloc (.cells #[.pointer (some ⟨13, 73, none⟩), .pointer (some ⟨w.heap.size, 0, none⟩), .int .u64 150] 111)).alloc (.cells #[x, y] 71))
    (by have := heap_alloc_new (((w.alloc (.cells #[.pointer (some ⟨g, 0, none⟩)] 73)).alloc (.cells #[.pointer (some ⟨13, 73, none⟩), .pointer (some ⟨w.heap.size, 0, none⟩), .int .u64 150] 111)).alloc (.cells #[.pointer (some ⟨13, 73, none⟩), .pointer (some ⟨w.heap.size, 0, none⟩), .int .u64 150] 111)) (.cells #[x, y] 71); simpa [Cel] using this)
    ((((ht.on (below_one _ _)).on (below_one _ _)).on (below_one _ _)).on (below_one _ _)) h1 h2
  go_enter Tryz.func24, Tryz.ntmps24
  go_wp2
  refine wp_loop_rounds 1 ?_
  rw [rounds_succ]
  go_wp2
  go_ret
  exact ⟨rfl, rfl⟩
theorem as_hit2 (g : Nat) (x y u v : Value) (w : World) (hg : w.cell? ⟨6, 0, none⟩ = some (.iface 150 (.agg #[.pointer (some ⟨13, 47, none⟩)]))) (ht : Cel w g 71 [u, v]) (h1 : x.oneCell' = true) (h2 : y.oneCell' = true) :
    Calls Tryz.prog 24 #[.iface 71 (.agg #[x, y]), .iface 73 (.pointer (some ⟨g, 0, none⟩))] w fun ev w' => ev = .returned (.bool true) ∧ Cel w' g 71 [x, y] ∧ But g w w' := by
  refine (as_hit g x y u v w hg ht h1 h2).mono ?_
  rintro ev w' ⟨rfl, rfl⟩
  have hb : Below w.heap.size w ((((w.alloc (.cells #[.pointer (some ⟨g, 0, none⟩)] 73)).alloc (.cells #[.pointer (some ⟨13, 73, none⟩), .pointer (some ⟨w.heap.size, 0, none⟩), .int .u64 150] 111)).alloc (.cells #[.pointer (some ⟨13, 73, none⟩), .pointer (some ⟨w.heap.size, 0, none⟩), .int .u64 150] 111)).alloc (.cells #[x, y] 71)) := below_on (below_on (below_on (below_one _ _) (below_one _ _)) (below_one _ _)) (below_one _ _)
  exact ⟨rfl, setRow_heap _ g _ _ 71 _ (ht.on hb), (Below.but hb).trans (but_setRow _ _ _)⟩
theorem line_nil (W : World) : Calls Tryz.prog 14 #[.nilIface] W fun e W' => e = .returned (.int .i64 0) ∧ Below W.heap.size W W' := by
  have HA := hid (fun t w => as_nil t w)
  go_enter Tryz.func14, Tryz.ntmps14
  go_wp2_with (first | (go_at_call 24; refine (HA.out _ _).mono ?_; rintro e w' ⟨rfl, rfl⟩))
  go_ret
  exact ⟨rfl, below_one _ _⟩
theorem line_at (W : World) (k : Int) (a : Addr) (hg : W.cell? ⟨6, 0, none⟩ = some (.iface 150 (.agg #[.pointer (some ⟨13, 47, none⟩)]))) :
    Calls Tryz.prog 14 #[.iface 71 (.agg #[.int .i64 k, .iface 245 (.pointer (some a))])] W fun e W' => e = .returned (.int .i64 k) ∧ Below W.heap.size W W' := by
  have hlt : 6 < W.heap.size := by
    rcases Nat.lt_or_ge 6 W.heap.size with h | h
    · exact h
    · simp [World.cell?, Array.getElem?_eq_none h] at hg
  obtain ⟨X, hX⟩ : ∃ X, X = W.alloc (.cells #[.int .i64 0, .nilIface] 71) := ⟨_, rfl⟩
  have hB : Below W.heap.size W X := by rw [hX]; exact below_one _ _
  have HA := hid (as_hit2 W.heap.size (.int .i64 k) (.iface 245 (.pointer (some a))) (.int .i64 0) .nilIface X ((hB.cell (p := ⟨6, 0, none⟩) hlt).trans hg) (by rw [hX]; exact heap_alloc_new _ _) rfl rfl)
  have HB := hid hB
  clear hB hg hlt
  go_enter Tryz.func14, Tryz.ntmps14
  go_upto_region 2 with fail
  rw [← hX]
  clear hX
  generalize hgz : W.heap.size = g at *
  go_upto_region 4 with (first | (go_at_call 24; refine HA.out.mono ?_; rintro e w2 ⟨rfl, hc, hb⟩))
  have c0 : w2.cell? ⟨g, 0, none⟩ = some (.int .i64 k) := hc.cell 0
  have HQ := hid (hb)
  clear hb hc HA
  go_wp2_with fail
  go_ret
  subst hgz
  exact ⟨rfl, HB.out.trans (HQ.out.below (Nat.le_refl _) HB.out.size)⟩
/-! ### errors.Is of a refusal at a line -/
theorem Tryz.noIsA (v : Value) (xT : TypeId) (w : World) : (Instr.typeAssert (.iface 71 v) xT 162 true).run Tryz.prog w = .ok (.tuple #[.nilIface, .bool false]) w := run_typeAssert_lacksB Tryz.underlying162 (by kernel_rfl) (by kernel_rfl) v xT w
theorem Tryz.unwrapA (v : Value) (xT : TypeId) (w : World) : (Instr.typeAssert (.iface 71 v) xT 157 true).run Tryz.prog w = .ok (.tuple #[.iface 71 v, .bool true]) w := run_typeAssert_hasB Tryz.underlying157 (by kernel_rfl) v xT w
theorem Tryz.isMethodUnwrap (v : Value) (w : World) : (Go.method 376 71 v "Unwrap").run Tryz.prog w = .ok (176, v) w := by kernel_rfl
theorem unwrap_any (k : Int) (y : Value) (w : World) : Calls Tryz.prog 176 #[.agg #[.int .i64 k, y]] w fun e w' => e = .returned y ∧ w' = w.alloc (.cells #[.int .i64 k, y] 71) := by
  have c1 : (w.alloc (.cells #[.int .i64 k, y] 71)).cell? ⟨w.heap.size, 1, none⟩ = some y := (show Cel (w.alloc (.cells #[.int .i64 k, y] 71)) w.heap.size 71 [.int .i64 k, y] from heap_alloc_new _ _).cell 1
  go_enter Tryz.func176, Tryz.ntmps176
  go_wp2_with fail
  go_ret
  exact ⟨rfl, rfl⟩
theorem is_at_same (k : Int) (a : Addr) (w : World) :
    Calls Tryz.prog 25 #[.iface 71 (.agg #[.int .i64 k, .iface 245 (.pointer (some a))]), .iface 245 (.pointer (some a))] w fun e w' => e = .returned (.bool true) ∧ Below w.heap.size w w' := by
  obtain ⟨i, hi, hcmp⟩ := Option.map_eq_some_iff.1 Tryz.isComp
  obtain ⟨j, hj, hjs⟩ := Option.map_eq_some_iff.1 Tryz.isSize
  have h8 := @run_callFunc_extern Tryz.prog 51 _ Extern.ReflectliteType.typeOf Tryz.func51 (by kernel_rfl) (by kernel_rfl) (by kernel_rfl) (by kernel_rfl)
  have h32 := @run_callFunc_extern Tryz.prog 183 _ (Extern.ReflectliteType.method cmpX) Tryz.func183 (by kernel_rfl) (by kernel_rfl) (by kernel_rfl) (by kernel_rfl)
  have tT := Tryz.isTypeOf
  have cT := Tryz.isComparable
  have mR := Tryz.isMethodComparable
  have nE := Tryz.noIsA
  have uE := Tryz.unwrapA
  have mU := Tryz.isMethodUnwrap
  have HU := hid (fun w => unwrap_any k (.iface 245 (.pointer (some a))) w)
  have heq0 := run_eql_iface_types (P := Tryz.prog) 71 245 (.agg #[.int .i64 k, .iface 245 (.pointer (some a))]) (.pointer (some a)) Tryz.underlying47 (by decide) w
  have heq := run_eql_iface_ptr_same (P := Tryz.prog) (w.alloc (.cells #[.int .i64 k, .iface 245 (.pointer (some a))] 71)) a Tryz.underlying47 Tryz.underlying245 hi hcmp hj
  go_enter Tryz.func25, Tryz.ntmps25
  go_wp2
  refine wp_loop_rounds 2 ?_
  rw [rounds_succ]
  go_wp2_with (first | (go_at_call 176; refine (HU.out _).mono ?_; rintro e w2 ⟨rfl, rfl⟩))
  rw [rounds_succ]
  go_wp2
  go_ret
  exact ⟨rfl, below_one _ _⟩
theorem is_at_other (k : Int) (a b : Addr) (ca cb : Array Value) (ta tb : TypeId) (w : World) (hne : a ≠ b) (ha : w.heap[a.block]? = some (.cells ca ta (0, 0))) (hb : w.heap[b.block]? = some (.cells cb tb (0, 0))) :
    Calls Tryz.prog 25 #[.iface 71 (.agg #[.int .i64 k, .iface 245 (.pointer (some a))]), .iface 245 (.pointer (some b))] w fun e w' => e = .returned (.bool false) ∧ Below w.heap.size w w' := by
  obtain ⟨i, hi, hcmp⟩ := Option.map_eq_some_iff.1 Tryz.isComp
  obtain ⟨j, hj, hjs⟩ := Option.map_eq_some_iff.1 Tryz.isSize
  have h8 := @run_callFunc_extern Tryz.prog 51 _ Extern.ReflectliteType.typeOf Tryz.func51 (by kernel_rfl) (by kernel_rfl) (by kernel_rfl) (by kernel_rfl)
  have h32 := @run_callFunc_extern Tryz.prog 183 _ (Extern.ReflectliteType.method cmpX) Tryz.func183 (by kernel_rfl) (by kernel_rfl) (by kernel_rfl) (by kernel_rfl)
  have tT := Tryz.isTypeOf
  have cT := Tryz.isComparable
  have mR := Tryz.isMethodComparable
  have nE := Tryz.noIsA
  have uE := Tryz.unwrapA
  have mU := Tryz.isMethodUnwrap
  have nE2 := Tryz.noIsE
  have uE2 := Tryz.noUnwrapE
  have vE2 := Tryz.noUnwrapsE
  have HU := hid (fun w => unwrap_any k (.iface 245 (.pointer (some a))) w)
  have heq0 := run_eql_iface_types (P := Tryz.prog) 71 245 (.agg #[.int .i64 k, .iface 245 (.pointer (some a))]) (.pointer (some b)) Tryz.underlying47 (by decide) w
  have hal := (Array.getElem?_eq_some_iff.1 ha).1
  have hbl := (Array.getElem?_eq_some_iff.1 hb).1
  have heq := run_eql_iface_ptr_other (P := Tryz.prog) (w.alloc (.cells #[.int .i64 k, .iface 245 (.pointer (some a))] 71)) Tryz.underlying47 Tryz.underlying245 hi hcmp hj (by rw [hjs]; decide) hne (((below_one w _).block a.block hal).trans ha) (((below_one w _).block b.block hbl).trans hb)
  clear hal hbl
  go_enter Tryz.func25, Tryz.ntmps25
  go_wp2
  refine wp_loop_rounds 2 ?_
  rw [rounds_succ]
  go_wp2_with (first | (go_at_call 176; refine (HU.out _).mono ?_; rintro e w2 ⟨rfl, rfl⟩))
  rw [rounds_succ]
  go_wp2
  go_ret
  exact ⟨rfl, below_one _ _⟩
theorem ErrS.isAt {W : World} {E : Nat → Addr} (h : ErrS W E) (k : Int) (i j : Nat) (h1 : 1 ≤ i) (h2 : i ≤ 6) (h3 : 1 ≤ j) (h4 : j ≤ 6) (hn : i ≠ j) :
    Calls Tryz.prog 25 #[.iface 71 (.agg #[.int .i64 k, .iface 245 (.pointer (some (E i)))]), .iface 245 (.pointer (some (E j)))] W fun e w' => e = .returned (.bool false) ∧ Below W.heap.size W w' := by
  obtain ⟨ca, ta, ha⟩ := h.row i h1 h2
  obtain ⟨cb, tb, hb⟩ := h.row j h3 h4
  exact is_at_other k _ _ ca cb ta tb W (h.ne i j h1 h2 h3 h4 hn) ha hb
theorem number_at (W : World) (E : Nat → Addr) (h : ErrS W E) (k : Int) : Calls Tryz.prog 15 #[.iface 71 (.agg #[.int .i64 k, .iface 245 (.pointer (some (E 6)))])] W fun e w' => e = .returned (.int .i64 161) ∧ Below W.heap.size W w' := by
  have I4 := hid (fun (w : World) (h : ErrS w E) => h.isAt k 6 4 (by decide) (by decide) (by decide) (by decide) (by decide))
  have I5 := hid (fun (w : World) (h : ErrS w E) => h.isAt k 6 5 (by decide) (by decide) (by decide) (by decide) (by decide))
  have I6 := hid (fun (w : World) => is_at_same k (E 6) w)
  have c4 := h.k4
  have H0 := hid h
  clear h
  go_enter Tryz.func15, Tryz.ntmps15
  go_upto_region 3 with (first | (go_at_call 25; refine (I4.out _ H0.out).mono ?_; rintro e w1 ⟨rfl, hb⟩; have H1 := hid (H0.out.on hb); have B1 := hid hb; clear hb I4 c4; have c5 := H1.out.k5))
  clear H0
  go_upto_region 5 with (first | (go_at_call 25; refine (I5.out _ H1.out).mono ?_; rintro e w2 ⟨rfl, hb⟩; have H2 := hid (H1.out.on hb); have B2 := hid (below_on B1.out hb); clear hb I5 c5; have c6 := H2.out.k6))
  clear H1 B1
  go_wp2_with (first | (go_at_call 25; refine (I6.out _).mono ?_; rintro e w3 ⟨rfl, hb⟩; have B3 := hid (below_on B2.out hb); clear hb I6 c6))
  go_ret
  exact ⟨rfl, B3.out⟩
end Go.Proofs.YtbpdmkohihgnjaaGreatDoor
