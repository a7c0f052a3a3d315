import Derived.Test.YtncnogndopgknaaGreatDoorP15
import Derived.Test.YtncnogndopgknaaGreatDoorP28
namespace Go.Proofs.YtncnogndopgknaaGreatDoor
open Go.RowKit Go.Extern.Stop Go.Stop Go.Extern
def ErrT (w : World) : Prop := w.cell? ⟨2, 0, none⟩ = some (.iface 200 (.agg #[.pointer (some ⟨13, 70, none⟩)]))
theorem ErrT.on {w w' : World} (h : ErrT w) (hb : Below w.heap.size w w') : ErrT w' := by
  unfold ErrT at h ⊢
  have hlt : 2 < w.heap.size := by
    rcases Nat.lt_or_ge 2 w.heap.size with h0 | h0
    · exact h0
    · simp [World.cell?, Array.getElem?_eq_none h0] at h
  rw [hb.cell (p := ⟨2, 0, none⟩) hlt]
  exact h
set_option maxRecDepth 40000 in
set_option maxHeartbeats 4000000 in
theorem as_hit (e l c : Int) (g : Nat) (cs : List Value) (h3 : cs.length = 3) (w : World) (hg0 : ErrT w) (ht0 : Cel w g 113 cs) :
    Calls Tryz.prog 40 #[bk e l c, .iface 115 (.pointer (some ⟨g, 0, none⟩))] w fun ev w' => ev = .returned (.bool true) ∧ w' = ((((w.alloc (.cells #[.pointer (some ⟨g, 0, none⟩)] 115)).alloc (.cells #[.pointer (some ⟨13, 115, none⟩), .pointer (some ⟨w.heap.size, 0, none⟩), .int .u64 150] 160)).alloc (.cells #[.pointer (some ⟨13, 115, none⟩), .pointer (some ⟨w.heap.size, 0, none⟩), .int .u64 150] 160)).alloc (.cells #[.int .i64 e, .int .i64 l, .int .i64 c] 113)).setRow g [.int .i64 e, .int .i64 l, .int .i64 c].toArray := by
  have h64 := @run_callFunc_extern Tryz.prog 64 _ (fun args => ReflectliteValue.unpack (args.getD 0 (.tuple #[]))) Tryz.func64 (by kernel_rfl) (by kernel_rfl) (by kernel_rfl) (by kernel_rfl)
  have h65 := @run_callFunc_extern Tryz.prog 65 _ (ReflectliteValue.methodAny (ReflectliteValue.valueError "reflectlite.Value.Type" 0) (fun t _ _ _ => ReflectliteType.toType t)) Tryz.func65 (by kernel_rfl) (by kernel_rfl) (by kernel_rfl) (by kernel_rfl)
  have h66 := @run_callFunc_extern Tryz.prog 66 _ (ReflectliteValue.method (ReflectliteValue.valueError "reflectlite.Value.IsNil" 0) ReflectliteValue.isNil) Tryz.func66 (by kernel_rfl) (by kernel_rfl) (by kernel_rfl) (by kernel_rfl)
  have h188 := @run_callFunc_extern Tryz.prog 188 _ (ReflectliteType.abiMethod fun t => do pure (.int .u8 (← Rtype.kind t))) Tryz.func188 (by kernel_rfl) (by kernel_rfl) (by kernel_rfl) (by kernel_rfl)
  have h199 := @run_callFunc_extern Tryz.prog 199 _ (ReflectliteType.method ReflectliteType.elem) Tryz.func199 (by kernel_rfl) (by kernel_rfl) (by kernel_rfl) (by kernel_rfl)
  have h200 := @run_callFunc_extern Tryz.prog 200 _ (ReflectliteType.relation "Implements" ReflectliteType.implements_) Tryz.func200 (by kernel_rfl) (by kernel_rfl) (by kernel_rfl) (by kernel_rfl)
  have h93 := @run_callFunc_extern Tryz.prog 93 _ ReflectliteType.typeOf Tryz.func93 (by kernel_rfl) (by kernel_rfl) (by kernel_rfl) (by kernel_rfl)
  have h197 := @run_callFunc_extern Tryz.prog 197 _ (ReflectliteType.relation "AssignableTo" ReflectliteType.assignableTo) Tryz.func197 (by kernel_rfl) (by kernel_rfl) (by kernel_rfl) (by kernel_rfl)
  have h94 := @run_callFunc_extern Tryz.prog 94 _ (ReflectliteValue.method (ReflectliteValue.valueError "reflectlite.Value.Elem" 0) ReflectliteValue.elem) Tryz.func94 (by kernel_rfl) (by kernel_rfl) (by kernel_rfl) (by kernel_rfl)
  have h95 := @run_callFunc_extern Tryz.prog 95 _ ReflectliteValue.set Tryz.func95 (by kernel_rfl) (by kernel_rfl) (by kernel_rfl) (by kernel_rfl)
  have tO := Tryz.typeOf113
  have mA := Tryz.methodAssignableTo
  have a25 := Tryz.assignable113
  have v25 := Tryz.valueOf113
  have f6 := Tryz.valueOf115
  have f7 := Tryz.type115
  have mK := Tryz.methodKind
  have mE := Tryz.methodElem
  have mI := Tryz.methodImplements
  have k27 := Tryz.kind115
  have k25 := Tryz.kind113
  have e27 := Tryz.elem115
  have i25 := Tryz.implements113
  have n8 := Tryz.isNil115 ⟨w.heap.size, 0, none⟩ ⟨g, 0, none⟩ ((w.alloc (.cells #[.pointer (some ⟨g, 0, none⟩)] 115)).alloc (.cells #[.pointer (some ⟨13, 115, none⟩), .pointer (some ⟨w.heap.size, 0, none⟩), .int .u64 150] 160)) (by simp)
  have hg2 : ((w.alloc (.cells #[.pointer (some ⟨g, 0, none⟩)] 115)).alloc (.cells #[.pointer (some ⟨13, 115, none⟩), .pointer (some ⟨w.heap.size, 0, none⟩), .int .u64 150] 160)).cell? ⟨2, 0, none⟩ = some (.iface 200 (.agg #[.pointer (some ⟨13, 70, none⟩)])) := (hg0.on (below_one _ _)).on (below_one _ _)
  have el := Tryz.elemV115 ⟨w.heap.size, 0, none⟩ ⟨g, 0, none⟩ (((w.alloc (.cells #[.pointer (some ⟨g, 0, none⟩)] 115)).alloc (.cells #[.pointer (some ⟨13, 115, none⟩), .pointer (some ⟨w.heap.size, 0, none⟩), .int .u64 150] 160)).alloc (.cells #[.pointer (some ⟨13, 115, none⟩), .pointer (some ⟨w.heap.size, 0, none⟩), .int .u64 150] 160)) (by rw [World.cell?_alloc_lt _ _ ⟨w.heap.size, 0, none⟩ (by simp; omega)]; simp)
  have hcg := ((((ht0.on (below_one _ (Obj.cells #[.pointer (some ⟨g, 0, none⟩)] 115))).on (below_one _ (Obj.cells #[.pointer (some ⟨13, 115, none⟩), .pointer (some ⟨w.heap.size, 0, none⟩), .int .u64 150] 160))).on (below_one _ (Obj.cells #[.pointer (some ⟨13, 115, none⟩), .pointer (some ⟨w.heap.size, 0, none⟩), .int .u64 150] 160))).on (below_one _ (Obj.cells #[.int .i64 e, .int .i64 l, .int .i64 c] 113)))
  have hcb := Cel.new (((w.alloc (.cells #[.pointer (some ⟨g, 0, none⟩)] 115)).alloc (.cells #[.pointer (some ⟨13, 115, none⟩), .pointer (some ⟨w.heap.size, 0, none⟩), .int .u64 150] 160)).alloc (.cells #[.pointer (some ⟨13, 115, none⟩), .pointer (some ⟨w.heap.size, 0, none⟩), .int .u64 150] 160)) 113 [.int .i64 e, .int .i64 l, .int .i64 c]
  rw [alloc_size, alloc_size, alloc_size] at hcb
  have st := Tryz.set113 g (w.heap.size + 1 + 1 + 1) cs [.int .i64 e, .int .i64 l, .int .i64 c] _ hcb hcg rfl h3 rfl
  clear hcg hcb
  simp only [bk]
  go_enter Tryz.func40, Tryz.ntmps40
  go_wp2
  refine wp_loop_rounds 1 ?_
  rw [rounds_succ]
  go_wp2
  go_ret
  exact ⟨rfl, rfl⟩
end Go.Proofs.YtncnogndopgknaaGreatDoor
