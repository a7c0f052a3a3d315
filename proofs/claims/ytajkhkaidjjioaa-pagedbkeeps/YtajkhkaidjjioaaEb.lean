/- Entries as values; blocks of the call's own; no function of the program. -/
import Derived.Test.YtajkhkaidjjioaaMb
import Derived.WalkKit
import Derived.WalkSpells
import Derived.WalkLawsBesides
import Derived.Deep.QuietTactic
import Derived.BigQuiet
import Derived.BigRegion
import Derived.Handy
import Derived.Deep.RegionHeld3
import Derived.Deep.RegionWith
import Derived.Deep.DrawnRows
import Derived.Deep.MidRow
import Derived.Deep.WholeRow
import Derived.Laws.CopyRow
import Derived.Laws.AppendOwnNone
import Derived.Lib.SliceRun
import Derived.Laws.StructEq
import Derived.Deep.DeepCutAuto
import Derived.ChangeKeysEq
namespace Go.Proofs.Ytajkhkaidjjioaa
open Go.RowKit

/-- All that was there stays, but for these blocks. -/
theorem new_at (W : World) (o : Obj) : (W.alloc o).heap[W.heap.size]? = some o := by show (W.heap.push o)[W.heap.size]? = some o; simp
theorem new_at2 (W : World) (o p : Obj) : ((W.alloc o).alloc p).heap[W.heap.size + 1]? = some p := by have := new_at (W.alloc o) p; rwa [show (W.alloc o).heap.size = W.heap.size + 1 by show (W.heap.push o).size = _; simp] at this
theorem below_two (W : World) (o p : Obj) : Below W.heap.size W ((W.alloc o).alloc p) := Below.alloc (below_one W o) (by show _ ≤ (W.heap.push o).size; simp) _
theorem ret_st {P : Program} {fn : Func} {p : Tmp} {ty e : TypeId} {fr : Nat × Nat} {d : TypeDesc} {a : Act} {w : World} {post : Ending → World → Prop} (hr : fn.results = #[.cell p ty]) (hd : a.defers = []) (g : Nat) (cs : Array Value)
    (hp : a.tmps.getD p undef = .pointer (some ⟨g, 0, none⟩)) (hg : w.heap[g]? = some (.cells cs e fr)) (hu : P.underlying ty = some d) (hdd : (match d with | .struct _ | .array _ _ => true | _ => false) = true) (hi : (P.info? ty).map (·.size) = some cs.size) (h : post (.returned (.agg cs)) w) :
    bodyPost P fn post .ret a w := bodyPost_ret (results_cell_row hr _ _ g e _ fr _ hp hg hu hdd hi) hd h
theorem ret_st2 {P : Program} {fn : Func} {p q : Tmp} {ty e : TypeId} {d : TypeDesc} {a : Act} {w : World} {post : Ending → World → Prop} (hr : fn.results = #[.cell p ty, .tmp q]) (hd : a.defers = []) (g : Nat) (cs : List Value)
    (hp : a.tmps.getD p undef = .pointer (some ⟨g, 0, none⟩)) (hb : Cel w g e cs) (hu : P.underlying ty = some d) (hdd : (match d with | .struct _ | .array _ _ => true | _ => false) = true) (hi : (P.info? ty).map (·.size) = some cs.length) (h : post (.returned (.tuple #[.agg cs.toArray, a.tmps.getD q undef])) w) :
    bodyPost P fn post .ret a w := by
  refine bodyPost_ret (v := .tuple #[.agg cs.toArray, a.tmps.getD q undef]) ?_ hd h
  have hp' : a.tmps[p]?.getD undef = .pointer (some ⟨g, 0, none⟩) := by simpa using hp
  have := run_loadVar_row (P := P) w g e ty _ (0, 0) _ hb hu hdd (by rw [hi]; simp)
  simp [results, hr, hp', asAddr, this]
theorem wpList_store_st {P : Program} {ops : Array Oper} {rest : List Oper} {o : Oper} {a : Act} {w : World} {Q : Exit → Act → World → Prop} (hgd : o.guard = none) (ty : TypeId) (x y : Operand) (ho : o.op = .store ty x y)
    (g : Nat) (vs : List Value) (hx : a.eval x = .pointer (some ⟨g, 0, none⟩)) (hy : a.eval y = .agg vs.toArray) {e : TypeId} {cs : List Value} (hg : Cel w g e cs) (hi : (P.info? ty).map (·.size) = some vs.length) (hl : cs.length = vs.length) (h1 : vs.all (·.oneCell') = true)
    (h : ∀ w', Cel w' g e vs → ButL [g] w w' → w'.heap.size = w.heap.size → wpList P ops Q rest (a.put o.dst undef) w') : wpList P ops Q (o :: rest) a w :=
  wpList_store_row hgd ty x y ho g _ hx hy e _ hg (by rw [hi]; simp) (by simp [hl]) (by simpa using h1) (h _ (hg.set _) (ButL.setRow _ _ _ (by simp)) (by simp))
theorem wp_store_st {P : Program} {op : Oper} {a : Act} {w : World} {K : Act → World → Prop} {Q : Exit → Act → World → Prop} (ty : TypeId) (x y : Operand) (ho : op.op = .store ty x y)
    (g : Nat) (vs : List Value) (hx : a.eval x = .pointer (some ⟨g, 0, none⟩)) (hy : a.eval y = .agg vs.toArray) {e : TypeId} {cs : List Value} (hg : Cel w g e cs) (hi : (P.info? ty).map (·.size) = some vs.length) (hl : cs.length = vs.length) (h1 : vs.all (·.oneCell') = true)
    (h : ∀ w', Cel w' g e vs → ButL [g] w w' → w'.heap.size = w.heap.size → K (a.put op.dst undef) w') : op.wp P a w K Q := by
  have hs : (Instr.storeAt ty (.pointer (some ⟨g, 0, none⟩)) (.agg vs.toArray)).run P w = .ok () (w.setRow g vs.toArray) := by
    simp only [Instr.storeAt, Instr.sureAddr, Sem.run_bind, Sem.run_pure, Result.andThen]
    exact run_storeVar_row w g e ty _ _ hg (by rw [hi]; simp) (by simp [hl]) (by simpa using h1)
  unfold Oper.wp execOp
  simp only [ho, hx, hy, Sem.run_bind, Sem.run_pure, hs, Result.andThen_ok]
  exact h _ (hg.set _) (.setRow _ _ _ (by simp)) (by simp)
theorem wpList_build_f {ops : Array Oper} {rest : List Oper} {o : Oper} {a : Act} {w : World} {Q : Exit → Act → World → Prop} (hgd : o.guard = none) (t : TypeId) (xs : Array (Nat × Operand)) (ho : o.op = .build t xs)
    (ps : Array (Nat × Value)) (hp : xs.map (fun x => (x.1, a.eval x.2)) = ps) (cs : Array Value) (hb : Try.prog.built t ps.toList = some cs)
    (h : wpList Try.prog ops Q rest (a.put o.dst (.agg cs)) w) : wpList Try.prog ops Q (o :: rest) a w := by
  refine wpList_plain hgd fun K hK => ?_
  unfold Oper.wp execOp
  simp only [ho, Sem.run_bind, hp, run_build w t ps _ hb, Result.andThen_ok]
  exact hK _ _ h

/-- An entry. -/
structure En where
  t : Int
  o : Int
  r : Int
  s : Int
  e : Bool
def En.cs (x : En) : List Value := [.int .i64 x.t, .int .i64 x.o, .int .i64 x.r, .int .i64 x.s, .bool x.e]
def En.v (x : En) : Value := .agg x.cs.toArray
def En.zero : En := ⟨0, 0, 0, 0, false⟩
def En.same (x y : En) : Bool := x.t == y.t && (x.o == y.o && (x.r == y.r && (x.s == y.s && x.e == y.e)))
theorem En.same_iff (x y : En) : x.same y = true ↔ x = y := by
  obtain ⟨a, b, c, d, e⟩ := x
  obtain ⟨a', b', c', d', e'⟩ := y
  simp [En.same]
theorem En.same_self (x : En) : x.same x = true := (x.same_iff x).2 rfl
def two (a b : Int) : List Value := [.int .u32 a, .int .u32 b]
def twoV (a b : Int) : Value := .agg (two a b).toArray
def same2 (a b c d : Int) : Bool := a == c && b == d
theorem same2_iff (a b c d : Int) : same2 a b c d = true ↔ a = c ∧ b = d := by simp [same2]
theorem under3 : Try.prog.underlying 3 = some (.int .i64) := by kernel_rfl
theorem under4 : Try.prog.underlying 4 = some .bool := by kernel_rfl
theorem underW : Try.prog.underlying 27 = some (.int .u32) := by kernel_rfl
theorem underT : Try.prog.underlying 44 = some (.int .i64) := by kernel_rfl
theorem underS : Try.prog.underlying 60 = some (.int .i64) := by kernel_rfl
theorem underE : Try.prog.underlying 62 = some (.struct (Try.prog.fieldsOf 62)) := by kernel_rfl
theorem underR : Try.prog.underlying 124 = some (.struct (Try.prog.fieldsOf 124)) := by kernel_rfl
theorem underA : Try.prog.underlying 137 = some (.array 2 27) := by kernel_rfl
theorem sizeW : (Try.prog.info? 27).map (·.size) = some 1 := by kernel_rfl
theorem sizeE : (Try.prog.info? 62).map (·.size) = some 5 := by kernel_rfl
theorem sizeR : (Try.prog.info? 124).map (·.size) = some 5 := by kernel_rfl
theorem sizeA : (Try.prog.info? 137).map (·.size) = some 2 := by kernel_rfl
theorem fieldsE : (Try.prog.fieldsOf 62).toList.map (fun f => (f.name, f.type, f.offset)) = [("Type", 44, 0), ("Owner", 3, 1), ("Refs", 3, 2), ("State", 60, 3), ("Entered", 4, 4)] := by kernel_rfl
theorem fieldsR : (Try.prog.fieldsOf 124).toList.map (fun f => (f.name, f.type, f.offset)) = [("Type", 3, 0), ("Owner", 3, 1), ("Refs", 3, 2), ("State", 3, 3), ("Entered", 4, 4)] := by kernel_rfl
theorem part_i {T : TypeId} (hT : Try.prog.underlying T = some (.int .i64)) (w : World) (f : List Value) (k : Nat) (x : Int) (h : f[k]? = some (.int .i64 x)) : (part T f.toArray k).run Try.prog w = .ok (.int .i64 x) w := by
  simp [part, isAgg, run_underlying hT, h]
theorem part_b (w : World) (f : List Value) (k : Nat) (x : Bool) (h : f[k]? = some (.bool x)) : (part 4 f.toArray k).run Try.prog w = .ok (.bool x) w := by
  simp [part, isAgg, run_underlying under4, h]
theorem run_equalIn_en {T A B : TypeId} (hu : Try.prog.underlying T = some (.struct (Try.prog.fieldsOf T))) (hA : Try.prog.underlying A = some (.int .i64)) (hB : Try.prog.underlying B = some (.int .i64))
    (h : (Try.prog.fieldsOf T).toList.map (fun f => (f.name, f.type, f.offset)) = [("Type", A, 0), ("Owner", 3, 1), ("Refs", 3, 2), ("State", B, 3), ("Entered", 4, 4)])
    (hn : Try.prog.stoodInHeld T = false) (w : World) (d : Nat) (x y : En) : (Op.equalIn (d + 4) T x.v y.v).run Try.prog w = .ok (x.same y) w := by
  rw [En.v, En.v, run_equalIn_struct w (d + 3) T _ _ hu hn]
  generalize (Try.prog.fieldsOf T).toList = L at h ⊢
  have hl : L.length = 5 := by have := congrArg List.length h; simpa using this
  match L, hl with
  | [f1, f2, f3, f4, f5], _ =>
    simp only [List.map_cons, List.map_nil, List.cons.injEq, Prod.mk.injEq, and_true] at h
    obtain ⟨⟨a1, a2, a3⟩, ⟨b1, b2, b3⟩, ⟨c1, c2, c3⟩, ⟨d1, d2, d3⟩, e1, e2, e3⟩ := h
    have eA := fun (x y : Int) => run_equalIn_int (P := Try.prog) w (d + 2) A .i64 .i64 x y hA
    have eB := fun (x y : Int) => run_equalIn_int (P := Try.prog) w (d + 2) B .i64 .i64 x y hB
    have e3' := fun (x y : Int) => run_equalIn_int (P := Try.prog) w (d + 2) 3 .i64 .i64 x y under3
    have e4 := fun (x y : Bool) => run_equalIn_bool' (P := Try.prog) w (d + 2) 4 x y under4
    have p0 := fun (z : En) => part_i hA w z.cs 0 z.t rfl
    have p1 := fun (z : En) => part_i under3 w z.cs 1 z.o rfl
    have p2 := fun (z : En) => part_i under3 w z.cs 2 z.r rfl
    have p3 := fun (z : En) => part_i hB w z.cs 3 z.s rfl
    have p4 := fun (z : En) => part_b w z.cs 4 z.e rfl
    simp only [Op.eqFields, a1, a2, a3, b1, b2, b3, c1, c2, c3, d1, d2, d3, e1, e2, e3, Sem.run_bind, p0, p1, p2, p3, p4, Result.andThen_ok, eA, eB, e3', e4, Sem.run_ite, Sem.run_pure]
    unfold En.same
    cases (x.t == y.t) <;> cases (x.o == y.o) <;> cases (x.r == y.r) <;> cases (x.s == y.s) <;> cases (x.e == y.e) <;> rfl
theorem run_equalIn_two (w : World) (d : Nat) (a b c e : Int) : (Op.equalIn (d + 2) 137 (twoV a b) (twoV c e)).run Try.prog w = .ok (same2 a b c e) w := by
  have hsz : ∀ w, (sizeOf 27).run Try.prog w = .ok 1 w := fun w => by
    have := sizeW
    cases hq : Try.prog.info? 27 with
    | none => simp [hq] at this
    | some i => simp [hq] at this; simp [sizeOf, typeInfo, hq, this]
  rw [twoV, twoV, Op.equalIn]
  simp only [Sem.run_bind, run_underlying underA, Result.andThen_ok, hsz, Std.Legacy.Range.forIn_eq_forIn_range', Std.Legacy.Range.size, Nat.sub_zero, Nat.add_sub_cancel, Nat.div_one]
  have p0 : ∀ (w : World) (x y : Int), (part 27 (two x y).toArray 0).run Try.prog w = .ok (.int .u32 x) w := fun w x y => by simp [part, isAgg, run_underlying underW, two]
  have p1 : ∀ (w : World) (x y : Int), (part 27 (two x y).toArray 1).run Try.prog w = .ok (.int .u32 y) w := fun w x y => by simp [part, isAgg, run_underlying underW, two]
  have pe : ∀ (w : World) (x y : Int), (Op.equalIn (d + 1) 27 (.int .u32 x) (.int .u32 y)).run Try.prog w = .ok (x == y) w := fun w x y => run_equalIn_int w d 27 .u32 .u32 _ _ underW
  rw [show List.range' 0 2 1 = [0, 1] from rfl]
  simp only [List.forIn_cons, List.forIn_nil, Sem.run_bind, Nat.zero_mul, Nat.one_mul, p0, pe, Result.andThen_ok, same2]
  cases h1 : (a == c)
  · simp
  · simp only [Bool.not_true, Bool.false_eq_true, if_false, Sem.run_pure, Sem.run_bind, Result.andThen_ok, p1, pe]
    cases h2 : (b == e) <;> simp
theorem stE : Try.prog.stoodInHeld 62 = false := by kernel_rfl
theorem stR : Try.prog.stoodInHeld 124 = false := by kernel_rfl
theorem guardE : Try.prog.eqGuardType Try.prog.depth 62 = false := by kernel_rfl
theorem guardR : Try.prog.eqGuardType Try.prog.depth 124 = false := by kernel_rfl
theorem guardA : Try.prog.eqGuardType Try.prog.depth 137 = false := by kernel_rfl
theorem eqE (w : World) (d : Nat) (x y : En) : (Op.equalIn (d + 4) 62 x.v y.v).run Try.prog w = .ok (x.same y) w := run_equalIn_en underE underT underS fieldsE stE w d x y
theorem eqR (w : World) (d : Nat) (x y : En) : (Op.equalIn (d + 4) 124 x.v y.v).run Try.prog w = .ok (x.same y) w := run_equalIn_en underR under3 under3 fieldsR stR w d x y
theorem exec_eq {a : Act} {w : World} {o : Oper} (T : TypeId) (x y : Operand) (ho : o.op = .binOp .eql T x y T) (u v : Array Value) (hx : a.eval x = .agg u) (hy : a.eval y = .agg v) (hg : Try.prog.eqGuardType Try.prog.depth T = false) (b : Bool) (hb : (Op.equalIn 10000 T (.agg u) (.agg v)).run Try.prog w = .ok b w) :
    (execOp a.eval o).run Try.prog w = .ok (.value (.bool b)) w := by
  have hg' : (eqGuard .eql T x y (.agg u) (.agg v)).run Try.prog w = .ok () w := run_eqGuard_agg w .eql T x y _ _ hg
  have hr : (binOp .eql T (.agg u) (.agg v)).run Try.prog w = .ok (.bool b) w := by rw [run_eql_struct, hb]; rfl
  unfold execOp
  simp only [ho, hx, hy, Sem.run_bind, Sem.run_pure, hg', hr, Result.andThen_ok]
theorem exec_ne {a : Act} {w : World} {o : Oper} (T : TypeId) (x y : Operand) (ho : o.op = .binOp .neq T x y T) (u v : Array Value) (hx : a.eval x = .agg u) (hy : a.eval y = .agg v) (hg : Try.prog.eqGuardType Try.prog.depth T = false) (b : Bool) (hb : (Op.equalIn 10000 T (.agg u) (.agg v)).run Try.prog w = .ok b w) :
    (execOp a.eval o).run Try.prog w = .ok (.value (.bool (!b))) w := by
  have hg' : (eqGuard .neq T x y (.agg u) (.agg v)).run Try.prog w = .ok () w := run_eqGuard_agg w .neq T x y _ _ hg
  have hr : (binOp .neq T (.agg u) (.agg v)).run Try.prog w = .ok (.bool (!b)) w := by rw [run_neq_struct, hb]; rfl
  unfold execOp
  simp only [ho, hx, hy, Sem.run_bind, Sem.run_pure, hg', hr, Result.andThen_ok]
theorem wpList_eq {ops : Array Oper} {rest : List Oper} {o : Oper} {a : Act} {w : World} {Q : Exit → Act → World → Prop} (hw : Region.wanted o (yielded ops a.tmps) = true) (T : TypeId) (x y : Operand) (ho : o.op = .binOp .eql T x y T) (u v : Array Value) (hx : a.eval x = .agg u) (hy : a.eval y = .agg v) (hg : Try.prog.eqGuardType Try.prog.depth T = false) (b : Bool) (hb : (Op.equalIn 10000 T (.agg u) (.agg v)).run Try.prog w = .ok b w)
    (h : wpList Try.prog ops Q rest (a.put o.dst (.bool b)) w) : wpList Try.prog ops Q (o :: rest) a w := by
  rw [wpList, if_pos hw]
  refine .inl ?_
  unfold Oper.wp
  rw [exec_eq T x y ho u v hx hy hg b hb]
  exact h
theorem wpList_ne {ops : Array Oper} {rest : List Oper} {o : Oper} {a : Act} {w : World} {Q : Exit → Act → World → Prop} (hw : Region.wanted o (yielded ops a.tmps) = true) (T : TypeId) (x y : Operand) (ho : o.op = .binOp .neq T x y T) (u v : Array Value) (hx : a.eval x = .agg u) (hy : a.eval y = .agg v) (hg : Try.prog.eqGuardType Try.prog.depth T = false) (b : Bool) (hb : (Op.equalIn 10000 T (.agg u) (.agg v)).run Try.prog w = .ok b w)
    (h : wpList Try.prog ops Q rest (a.put o.dst (.bool (!b))) w) : wpList Try.prog ops Q (o :: rest) a w := by
  rw [wpList, if_pos hw]
  refine .inl ?_
  unfold Oper.wp
  rw [exec_ne T x y ho u v hx hy hg b hb]
  exact h
end Go.Proofs.Ytajkhkaidjjioaa
