/- Files as values; blocks of the call's own; no function of the program. Files: whole loads, builds, comparisons. -/
import Derived.Test.YteldpapacdbbiaaGreatDoorMb
namespace Go.Proofs.YteldpapacdbbiaaGreatDoor
open Go.RowKit

theorem new_at (W : World) (o : Obj) : (W.alloc o).heap[W.heap.size]? = some o := by show (W.heap.push o)[W.heap.size]? = some o; simp
theorem new_at2 (W : World) (o p : Obj) : ((W.alloc o).alloc p).heap[W.heap.size + 1]? = some p := by have := new_at (W.alloc o) p; rwa [show (W.alloc o).heap.size = W.heap.size + 1 by show (W.heap.push o).size = _; simp] at this
theorem below_two (W : World) (o p : Obj) : Below W.heap.size W ((W.alloc o).alloc p) := Below.alloc (below_one W o) (by show _ ≤ (W.heap.push o).size; simp) _
theorem ret_st {P : Program} {fn : Func} {p : Tmp} {ty e : TypeId} {fr : Nat × Nat} {d : TypeDesc} {a : Act} {w : World} {post : Ending → World → Prop} (hr : fn.results = #[.cell p ty]) (hd : a.defers = []) (g : Nat) (cs : Array Value)
    (hp : a.tmps.getD p undef = .pointer (some ⟨g, 0, none⟩)) (hg : w.heap[g]? = some (.cells cs e fr)) (hu : P.underlying ty = some d) (hdd : (match d with | .struct _ | .array _ _ => true | _ => false) = true) (hi : (P.info? ty).map (·.size) = some cs.size) (h : post (.returned (.agg cs)) w) :
    bodyPost P fn post .ret a w := bodyPost_ret (results_cell_row hr _ _ g e _ fr _ hp hg hu hdd hi) hd h
theorem ret_st2 {P : Program} {fn : Func} {p q : Tmp} {ty e : TypeId} {d : TypeDesc} {a : Act} {w : World} {post : Ending → World → Prop} (hr : fn.results = #[.cell p ty, .tmp q]) (hd : a.defers = []) (g : Nat) (cs : List Value)
    (hp : a.tmps.getD p undef = .pointer (some ⟨g, 0, none⟩)) (hb : Cel w g e cs) (hu : P.underlying ty = some d) (hdd : (match d with | .struct _ | .array _ _ => true | _ => false) = true) (hi : (P.info? ty).map (·.size) = some cs.length) (h : post (.returned (.tuple #[.agg cs.toArray, a.tmps.getD q undef])) w) :
    bodyPost P fn post .ret a w := by
  refine bodyPost_ret (v := .tuple #[.agg cs.toArray, a.tmps.getD q undef]) ?_ hd h
  have hp' : a.tmps[p]?.getD undef = .pointer (some ⟨g, 0, none⟩) := by simpa using hp
  have := run_loadVar_row (P := P) w g e ty _ (0, 0) _ hb hu hdd (by rw [hi]; simp)
  simp [results, hr, hp', asAddr, this]
structure F where
  r : Nat → Int
  pc : Int
  z : Bool
  n : Bool
  l : Bool
def rs (r : Nat → Int) : List Value := (List.range 15).map fun k => .int .u32 (r k)
def F.cs (f : F) : List Value := rs f.r ++ [.int .u32 f.pc, .bool f.z, .bool f.n, .bool f.l]
def F.v (f : F) : Value := .agg f.cs.toArray
def F.zero : F := ⟨fun _ => 0, 0, false, false, false⟩
def F.put (f : F) (k : Nat) (v : Int) : F := { f with r := fun j => if j = k then v else f.r j }
theorem rs_len (r : Nat → Int) : (rs r).length = 15 := by simp [rs]
theorem rs_at (r : Nat → Int) (k : Nat) (h : k < 15) : (rs r)[k]? = some (.int .u32 (r k)) := by simp [rs, h]
theorem F.len (f : F) : f.cs.length = 19 := by simp [F.cs, rs_len]
theorem F.at (f : F) (k : Nat) (h : k < 15) : f.cs[k]? = some (.int .u32 (f.r k)) := by rw [F.cs, List.getElem?_append_left (by rw [rs_len]; exact h), rs_at _ _ h]
theorem F.at15 (f : F) : f.cs[15]? = some (.int .u32 f.pc) := by rw [F.cs, List.getElem?_append_right (by rw [rs_len]; decide), rs_len]; rfl
theorem F.at16 (f : F) : f.cs[16]? = some (.bool f.z) := by rw [F.cs, List.getElem?_append_right (by rw [rs_len]; decide), rs_len]; rfl
theorem F.at17 (f : F) : f.cs[17]? = some (.bool f.n) := by rw [F.cs, List.getElem?_append_right (by rw [rs_len]; decide), rs_len]; rfl
theorem F.at18 (f : F) : f.cs[18]? = some (.bool f.l) := by rw [F.cs, List.getElem?_append_right (by rw [rs_len]; decide), rs_len]; rfl
theorem rs_set (r : Nat → Int) (k : Nat) (v : Int) : (rs r).set k (.int .u32 v) = rs fun j => if j = k then v else r j := by
  apply List.ext_getElem?
  intro j
  by_cases hj : j < 15
  · rw [List.getElem?_set]
    by_cases e : k = j
    · subst e
      rw [if_pos rfl, rs_len, if_pos hj, rs_at _ _ hj, if_pos rfl]
    · rw [if_neg e, rs_at _ _ hj, rs_at _ _ hj, if_neg (fun h => e h.symm)]
  · rw [List.getElem?_eq_none (by rw [List.length_set, rs_len]; omega), List.getElem?_eq_none (by rw [rs_len]; omega)]
theorem F.set (f : F) (k : Nat) (h : k < 15) (v : Int) : f.cs.set k (.int .u32 v) = (f.put k v).cs := by
  rw [F.cs, List.set_append_left _ _ (by rw [rs_len]; exact h), rs_set]; rfl
theorem F.set16 (f : F) (b : Bool) : f.cs.set 16 (.bool b) = { f with z := b }.cs := by rw [F.cs, List.set_append_right _ _ (by rw [rs_len]; decide), rs_len]; rfl
theorem F.set17 (f : F) (b : Bool) : f.cs.set 17 (.bool b) = { f with n := b }.cs := by rw [F.cs, List.set_append_right _ _ (by rw [rs_len]; decide), rs_len]; rfl
theorem F.set18 (f : F) (b : Bool) : f.cs.set 18 (.bool b) = { f with l := b }.cs := by rw [F.cs, List.set_append_right _ _ (by rw [rs_len]; decide), rs_len]; rfl
theorem F.set15 (f : F) (b : Int) : f.cs.set 15 (.int .u32 b) = { f with pc := b }.cs := by rw [F.cs, List.set_append_right _ _ (by rw [rs_len]; decide), rs_len]; rfl
theorem F.one (f : F) : ∀ v ∈ f.cs, v.oneCell' = true := by
  intro v hv
  simp only [F.cs, rs, List.mem_append, List.mem_map, List.mem_cons, List.not_mem_nil, or_false] at hv
  rcases hv with ⟨_, _, rfl⟩ | rfl | rfl | rfl | rfl <;> rfl
theorem F.all (f : F) : f.cs.all (·.oneCell') = true := List.all_eq_true.2 f.one
theorem rs_all (r : Nat → Int) : (rs r).all (·.oneCell') = true := by
  rw [List.all_eq_true]
  intro v hv
  simp only [rs, List.mem_map] at hv
  obtain ⟨_, _, rfl⟩ := hv
  rfl
theorem F.eta (f : F) : (⟨f.r, f.pc, f.z, f.n, f.l⟩ : F) = f := rfl
theorem wpList_store_st {P : Program} {ops : Array Oper} {rest : List Oper} {o : Oper} {a : Act} {w : World} {Q : Exit → Act → World → Prop} (hgd : o.guard = none) (ty : TypeId) (x y : Operand) (ho : o.op = .store ty x y)
    (g : Nat) (vs : List Value) (hx : a.eval x = .pointer (some ⟨g, 0, none⟩)) (hy : a.eval y = .agg vs.toArray) {e : TypeId} {cs : List Value} (hg : Cel w g e cs) (hi : (P.info? ty).map (·.size) = some vs.length) (hl : cs.length = vs.length) (h1 : vs.all (·.oneCell') = true)
    (h : ∀ w', Cel w' g e vs → ButL [g] w w' → w'.heap.size = w.heap.size → wpList P ops Q rest (a.put o.dst undef) w') : wpList P ops Q (o :: rest) a w :=
  wpList_store_row hgd ty x y ho g _ hx hy e _ hg (by rw [hi]; simp) (by simp [hl]) (by simpa using h1) (h _ (hg.set _) (ButL.setRow _ _ _ (by simp)) (by simp))
theorem under27 : Tryz.prog.underlying 26 = some (.struct (Tryz.prog.fieldsOf 26)) := by kernel_rfl
theorem under23 : Tryz.prog.underlying 24 = some (.array 15 23) := by kernel_rfl
theorem size27 : (Tryz.prog.info? 26).map (·.size) = some 19 := by kernel_rfl
theorem size23 : (Tryz.prog.info? 24).map (·.size) = some 15 := by kernel_rfl
end Go.Proofs.YteldpapacdbbiaaGreatDoor
namespace Go.Proofs.YteldpapacdbbiaaGreatDoor
open Go.RowKit
theorem under22 : Tryz.prog.underlying 23 = some (.int .u32) := by kernel_rfl
theorem under4 : Tryz.prog.underlying 4 = some .bool := by kernel_rfl
theorem size22 : (Tryz.prog.info? 23).map (·.size) = some 1 := by kernel_rfl
def rV (r : Nat → Int) : Value := .agg (rs r).toArray
theorem wpList_load_f {ops : Array Oper} {rest : List Oper} {o : Oper} {a : Act} {w : World} {Q : Exit → Act → World → Prop} (hgd : o.guard = none) (x : Operand) (ho : o.op = .load 26 x)
    (g : Nat) {t : TypeId} (f : F) (hx : a.eval x = .pointer (some ⟨g, 0, none⟩)) (hg : Cel w g t f.cs)
    (h : wpList Tryz.prog ops Q rest (a.put o.dst f.v) w) : wpList Tryz.prog ops Q (o :: rest) a w :=
  wpList_load_mid hgd 26 x ho g 0 hx _ _ hg.range under27 rfl (by rw [size27, F.len]) h
theorem F.rng {w : World} {g : Nat} {t : TypeId} {f : F} (h : Cel w g t f.cs) : w.rangeAt g 0 (rs f.r) := fun j v hv => h.range j v (by
  have hj : j < 15 := by
    by_cases hj : j < 15
    · exact hj
    · rw [List.getElem?_eq_none (by rw [rs_len]; omega)] at hv; cases hv
  rw [F.cs, List.getElem?_append_left (by rw [rs_len]; exact hj)]; exact hv)
theorem wpList_load_r {ops : Array Oper} {rest : List Oper} {o : Oper} {a : Act} {w : World} {Q : Exit → Act → World → Prop} (hgd : o.guard = none) (x : Operand) (ho : o.op = .load 24 x)
    (g : Nat) {t : TypeId} (f : F) (hx : a.eval x = .pointer (some ⟨g, 0, none⟩)) (hg : Cel w g t f.cs)
    (h : wpList Tryz.prog ops Q rest (a.put o.dst (rV f.r)) w) : wpList Tryz.prog ops Q (o :: rest) a w :=
  wpList_load_mid hgd 24 x ho g 0 hx _ _ (F.rng hg) under23 rfl (by rw [size23, rs_len]) h
theorem wpList_store_f {ops : Array Oper} {rest : List Oper} {o : Oper} {a : Act} {w : World} {Q : Exit → Act → World → Prop} (hgd : o.guard = none) (x y : Operand) (ho : o.op = .store 26 x y)
    (g : Nat) {t : TypeId} (f f' : F) (hx : a.eval x = .pointer (some ⟨g, 0, none⟩)) (hy : a.eval y = f'.v) (hg : Cel w g t f.cs)
    (h : ∀ w', Cel w' g t f'.cs → ButL [g] w w' → w'.heap.size = w.heap.size → wpList Tryz.prog ops Q rest (a.put o.dst undef) w') : wpList Tryz.prog ops Q (o :: rest) a w :=
  wpList_store_st hgd 26 x y ho g f'.cs hx hy hg (by rw [size27, F.len]) (by rw [F.len, F.len]) f'.all h
theorem wpList_build_f {ops : Array Oper} {rest : List Oper} {o : Oper} {a : Act} {w : World} {Q : Exit → Act → World → Prop} (hgd : o.guard = none) (t : TypeId) (xs : Array (Nat × Operand)) (ho : o.op = .build t xs)
    (ps : Array (Nat × Value)) (hp : xs.map (fun x => (x.1, a.eval x.2)) = ps) (cs : Array Value) (hb : Tryz.prog.built t ps.toList = some cs)
    (h : wpList Tryz.prog ops Q rest (a.put o.dst (.agg cs)) w) : wpList Tryz.prog ops Q (o :: rest) a w := by
  refine wpList_plain hgd fun K hK => ?_
  unfold Oper.wp execOp
  simp only [ho, Sem.run_bind, hp, run_build w t ps _ hb, Result.andThen_ok]
  exact hK _ _ h
theorem built_file (f : F) : Tryz.prog.built 26 [(0, rV f.r), (1, .int .u32 f.pc), (2, .bool f.z), (3, .bool f.n), (4, .bool f.l)] = some f.cs.toArray := by kernel_rfl
theorem built_zero : Tryz.prog.built 26 [] = some F.zero.cs.toArray := by kernel_rfl
theorem built_pc (p : Int) : Tryz.prog.built 26 [(1, .int .u32 p)] = some (F.cs ⟨fun _ => 0, p, false, false, false⟩).toArray := by kernel_rfl
def st3 (a b c : Int) (k : Nat) : Int := if k = 0 then a else if k = 1 then b else if k = 2 then c else 0
theorem built_r3 (a b c : Int) : Tryz.prog.built 24 [(0, .int .u32 a), (1, .int .u32 b), (2, .int .u32 c)] = some (rs (st3 a b c)).toArray := by kernel_rfl
theorem built_start (p : Int) (r : Nat → Int) : Tryz.prog.built 26 [(0, rV r), (1, .int .u32 p)] = some (F.cs ⟨r, p, false, false, false⟩).toArray := by kernel_rfl

theorem wpList_build_file {ops : Array Oper} {rest : List Oper} {o : Oper} {a : Act} {w : World} {Q : Exit → Act → World → Prop} (hgd : o.guard = none) (x0 x1 x2 x3 x4 : Operand) (ho : o.op = .build 26 #[(0, x0), (1, x1), (2, x2), (3, x3), (4, x4)])
    (f : F) (h0 : a.eval x0 = rV f.r) (h1 : a.eval x1 = .int .u32 f.pc) (h2 : a.eval x2 = .bool f.z) (h3 : a.eval x3 = .bool f.n) (h4 : a.eval x4 = .bool f.l)
    (h : wpList Tryz.prog ops Q rest (a.put o.dst f.v) w) : wpList Tryz.prog ops Q (o :: rest) a w :=
  wpList_build_f hgd 26 _ ho #[(0, rV f.r), (1, .int .u32 f.pc), (2, .bool f.z), (3, .bool f.n), (4, .bool f.l)] (by simp only [List.map_toArray, List.map_cons, List.map_nil, h0, h1, h2, h3, h4]) _ (built_file f) h
theorem wpList_build_zero {ops : Array Oper} {rest : List Oper} {o : Oper} {a : Act} {w : World} {Q : Exit → Act → World → Prop} (hgd : o.guard = none) (ho : o.op = .build 26 #[])
    (h : wpList Tryz.prog ops Q rest (a.put o.dst F.zero.v) w) : wpList Tryz.prog ops Q (o :: rest) a w :=
  wpList_build_f hgd 26 _ ho #[] (by simp) _ built_zero h
theorem wpList_build_pc {ops : Array Oper} {rest : List Oper} {o : Oper} {a : Act} {w : World} {Q : Exit → Act → World → Prop} (hgd : o.guard = none) (x : Operand) (ho : o.op = .build 26 #[(1, x)]) (p : Int) (hx : a.eval x = .int .u32 p)
    (h : wpList Tryz.prog ops Q rest (a.put o.dst (F.v ⟨fun _ => 0, p, false, false, false⟩)) w) : wpList Tryz.prog ops Q (o :: rest) a w :=
  wpList_build_f hgd 26 _ ho #[(1, .int .u32 p)] (by simp only [List.map_toArray, List.map_cons, List.map_nil, hx]) _ (built_pc p) h
theorem wpList_build_r3 {ops : Array Oper} {rest : List Oper} {o : Oper} {a : Act} {w : World} {Q : Exit → Act → World → Prop} (hgd : o.guard = none) (x y z : Operand) (ho : o.op = .build 24 #[(0, x), (1, y), (2, z)]) (p q r : Int) (hx : a.eval x = .int .u32 p) (hy : a.eval y = .int .u32 q) (hz : a.eval z = .int .u32 r)
    (h : wpList Tryz.prog ops Q rest (a.put o.dst (rV (st3 p q r))) w) : wpList Tryz.prog ops Q (o :: rest) a w :=
  wpList_build_f hgd 24 _ ho #[(0, .int .u32 p), (1, .int .u32 q), (2, .int .u32 r)] (by simp only [List.map_toArray, List.map_cons, List.map_nil, hx, hy, hz]) _ (built_r3 p q r) h
theorem wpList_build_start {ops : Array Oper} {rest : List Oper} {o : Oper} {a : Act} {w : World} {Q : Exit → Act → World → Prop} (hgd : o.guard = none) (x y : Operand) (ho : o.op = .build 26 #[(0, x), (1, y)]) (r : Nat → Int) (p : Int) (hx : a.eval x = rV r) (hy : a.eval y = .int .u32 p)
    (h : wpList Tryz.prog ops Q rest (a.put o.dst (F.v ⟨r, p, false, false, false⟩)) w) : wpList Tryz.prog ops Q (o :: rest) a w :=
  wpList_build_f hgd 26 _ ho #[(0, rV r), (1, .int .u32 p)] (by simp only [List.map_toArray, List.map_cons, List.map_nil, hx, hy]) _ (built_start p r) h
def sameR (r s : Nat → Int) : Bool := (List.range 15).all fun i => r i == s i
def F.same (f g : F) : Bool := sameR f.r g.r && (f.pc == g.pc && (f.z == g.z && (f.n == g.n && f.l == g.l)))
theorem sameR_iff (r s : Nat → Int) : sameR r s = true ↔ ∀ k, k < 15 → r k = s k := by
  simp only [sameR, List.all_eq_true, List.mem_range, beq_iff_eq]
theorem F.same_iff (f g : F) : f.same g = true ↔ (∀ k, k < 15 → f.r k = g.r k) ∧ f.pc = g.pc ∧ f.z = g.z ∧ f.n = g.n ∧ f.l = g.l := by
  simp only [F.same, Bool.and_eq_true, sameR_iff, beq_iff_eq]
theorem F.same_self (f : F) : f.same f = true := (f.same_iff f).2 ⟨fun _ _ => rfl, rfl, rfl, rfl, rfl⟩
theorem F.cs_eq (f g : F) (h : f.same g = true) : f.cs = g.cs := by
  obtain ⟨h1, h2, h3, h4, h5⟩ := (f.same_iff g).1 h
  unfold F.cs rs
  rw [h2, h3, h4, h5]
  congr 1
  exact List.map_congr_left fun k hk => by rw [h1 k (by simpa using hk)]
theorem run_equalIn_rs (w : World) (d : Nat) (r s : Nat → Int) : (Op.equalIn (d + 2) 24 (rV r) (rV s)).run Tryz.prog w = .ok (sameR r s) w := by
  have hsz : ∀ w, (sizeOf 23).run Tryz.prog w = .ok 1 w := fun w => by
    have := size22
    cases hq : Tryz.prog.info? 23 with
    | none => simp [hq] at this
    | some i => simp [hq] at this; simp [sizeOf, typeInfo, hq, this]
  rw [sameR, List.range_eq_range', rV, rV, Op.equalIn]
  simp only [Sem.run_bind, run_underlying under23, Result.andThen_ok, hsz, Std.Legacy.Range.forIn_eq_forIn_range', Std.Legacy.Range.size, Nat.sub_zero, Nat.add_sub_cancel, Nat.div_one]
  have hl : ∀ i ∈ List.range' 0 15 1, i < 15 := fun i hi => by simpa using (List.mem_range'_1.1 hi).2
  generalize List.range' 0 15 1 = l at hl ⊢
  induction l with
  | nil => simp
  | cons i l ih =>
    have hi : i < 15 := hl i (by simp)
    have px : (part 23 (rs r).toArray (i * 1)).run Tryz.prog w = .ok (.int .u32 (r i)) w := by
      simp [part, isAgg, run_underlying under22, rs_at r i hi]
    have py : (part 23 (rs s).toArray (i * 1)).run Tryz.prog w = .ok (.int .u32 (s i)) w := by
      simp [part, isAgg, run_underlying under22, rs_at s i hi]
    have pe : (Op.equalIn (d + 1) 23 (.int .u32 (r i)) (.int .u32 (s i))).run Tryz.prog w = .ok (r i == s i) w := run_equalIn_int w d 23 .u32 .u32 _ _ under22
    simp only [List.forIn_cons, Sem.run_bind, px, py, pe, Result.andThen_ok, List.all_cons]
    cases hb : (r i == s i)
    · simp
    · simp only [Bool.not_true, Bool.false_eq_true, if_false, Sem.run_pure, Result.andThen_ok, Bool.true_and]
      exact ih fun j hj => hl j (by simp [hj])
theorem fields27 : (Tryz.prog.fieldsOf 26).toList.map (fun f => (f.name, f.type, f.offset)) = [("R", 24, 0), ("PC", 23, 15), ("Z", 4, 16), ("N", 4, 17), ("L", 4, 18)] := by kernel_rfl
theorem part_r (w : World) (f : F) : (part 24 f.cs.toArray 0).run Tryz.prog w = .ok (rV f.r) w := by
  have hsz : ∀ w, (sizeOf 24).run Tryz.prog w = .ok 15 w := fun w => by
    have := size23
    cases hq : Tryz.prog.info? 24 with
    | none => simp [hq] at this
    | some i => simp [hq] at this; simp [sizeOf, typeInfo, hq, this]
  have he : List.take 15 f.cs = rs f.r := by
    rw [F.cs, List.take_append_of_le_length (by rw [rs_len]; decide), List.take_of_length_le (by rw [rs_len]; decide)]
  simp [part, isAgg, run_underlying under23, hsz, he, rV]
theorem part_i (w : World) (f : F) (k : Nat) (x : Int) (h : f.cs[k]? = some (.int .u32 x)) : (part 23 f.cs.toArray k).run Tryz.prog w = .ok (.int .u32 x) w := by
  simp [part, isAgg, run_underlying under22, h]
theorem part_b (w : World) (f : F) (k : Nat) (x : Bool) (h : f.cs[k]? = some (.bool x)) : (part 4 f.cs.toArray k).run Tryz.prog w = .ok (.bool x) w := by
  simp [part, isAgg, run_underlying under4, h]
theorem run_equalIn_f (w : World) (d : Nat) (f g : F) : (Op.equalIn (d + 4) 26 f.v g.v).run Tryz.prog w = .ok (f.same g) w := by
  rw [F.v, F.v, run_equalIn_struct w (d + 3) 26 _ _ under27 (by kernel_rfl)]
  have h := fields27
  generalize (Tryz.prog.fieldsOf 26).toList = L at h ⊢
  have hl : L.length = 5 := by have := congrArg List.length h; simpa using this
  match L, hl with
  | [f1, f2, f3, f4, f5], _ =>
    simp only [List.map_cons, List.map_nil, List.cons.injEq, Prod.mk.injEq, and_true] at h
    obtain ⟨⟨a1, a2, a3⟩, ⟨b1, b2, b3⟩, ⟨c1, c2, c3⟩, ⟨d1, d2, d3⟩, e1, e2, e3⟩ := h
    have e22 := fun (x y : Int) => run_equalIn_int (P := Tryz.prog) w (d + 2) 23 .u32 .u32 x y under22
    have e4 := fun (x y : Bool) => run_equalIn_bool' (P := Tryz.prog) w (d + 2) 4 x y under4
    have e23 := run_equalIn_rs w (d + 1) f.r g.r
    simp only [Op.eqFields, a1, a2, a3, b1, b2, b3, c1, c2, c3, d1, d2, d3, e1, e2, e3, Sem.run_bind, part_r, part_i w f 15 _ f.at15, part_i w g 15 _ g.at15, part_b w f 16 _ f.at16, part_b w g 16 _ g.at16, part_b w f 17 _ f.at17, part_b w g 17 _ g.at17, part_b w f 18 _ f.at18, part_b w g 18 _ g.at18, Result.andThen_ok, e22, e4, e23, Sem.run_ite, Sem.run_pure]
    unfold F.same
    cases sameR f.r g.r <;> cases (f.pc == g.pc) <;> cases (f.z == g.z) <;> cases (f.n == g.n) <;> cases (f.l == g.l) <;> rfl
theorem guard27 : Tryz.prog.eqGuardType Tryz.prog.depth 26 = false := by kernel_rfl
theorem wpList_eql_f {ops : Array Oper} {rest : List Oper} {o : Oper} {a : Act} {w : World} {Q : Exit → Act → World → Prop} (hgd : o.guard = none) (x y : Operand) (ho : o.op = .binOp .eql 26 x y 26)
    (f g : F) (hx : a.eval x = f.v) (hy : a.eval y = g.v)
    (h : wpList Tryz.prog ops Q rest (a.put o.dst (.bool (f.same g))) w) : wpList Tryz.prog ops Q (o :: rest) a w := by
  refine wpList_plain hgd fun K hK => ?_
  have hg : (eqGuard .eql 26 x y f.v g.v).run Tryz.prog w = .ok () w := run_eqGuard_agg w .eql 26 x y _ _ guard27
  have hr : (binOp .eql 26 f.v g.v).run Tryz.prog w = .ok (.bool (f.same g)) w := by
    have := run_equalIn_f w 9996 f g
    rw [F.v, F.v] at this ⊢
    rw [run_eql_struct, this]; rfl
  unfold Oper.wp execOp
  simp only [ho, hx, hy, Sem.run_bind, hg, hr, Result.andThen_ok]
  exact hK _ _ h
theorem wpList_neq_f {ops : Array Oper} {rest : List Oper} {o : Oper} {a : Act} {w : World} {Q : Exit → Act → World → Prop} (hgd : o.guard = none) (x y : Operand) (ho : o.op = .binOp .neq 26 x y 26)
    (f g : F) (hx : a.eval x = f.v) (hy : a.eval y = g.v)
    (h : wpList Tryz.prog ops Q rest (a.put o.dst (.bool (!f.same g))) w) : wpList Tryz.prog ops Q (o :: rest) a w := by
  refine wpList_plain hgd fun K hK => ?_
  have hg : (eqGuard .neq 26 x y f.v g.v).run Tryz.prog w = .ok () w := run_eqGuard_agg w .neq 26 x y _ _ guard27
  have hr : (binOp .neq 26 f.v g.v).run Tryz.prog w = .ok (.bool (!f.same g)) w := by
    have := run_equalIn_f w 9996 f g
    rw [F.v, F.v] at this ⊢
    rw [run_neq_struct, this]; rfl
  unfold Oper.wp execOp
  simp only [ho, hx, hy, Sem.run_bind, hg, hr, Result.andThen_ok]
  exact hK _ _ h
end Go.Proofs.YteldpapacdbbiaaGreatDoor
