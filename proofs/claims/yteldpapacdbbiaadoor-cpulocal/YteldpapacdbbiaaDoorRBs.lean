/- Files as values; blocks of the call's own; no function of the program. -/
import Derived.Test.YteldpapacdbbiaaDoorMb
namespace Go.Proofs.YteldpapacdbbiaaDoor
open Go.RowKit

theorem new_at (W : World) (o : Obj) : (W.alloc o).heap[W.heap.size]? = some o := by show (W.heap.push o)[W.heap.size]? = some o; simp
theorem new_at2 (W : World) (o p : Obj) : ((W.alloc o).alloc p).heap[W.heap.size + 1]? = some p := by have := new_at (W.alloc o) p; rwa [show (W.alloc o).heap.size = W.heap.size + 1 by show (W.heap.push o).size = _; simp] at this
theorem below_two (W : World) (o p : Obj) : Below W.heap.size W ((W.alloc o).alloc p) := Below.alloc (below_one W o) (by show _ ≤ (W.heap.push o).size; simp) _
theorem ret_st {P : Program} {fn : Func} {p : Tmp} {ty e : TypeId} {fr : Nat × Nat} {d : TypeDesc} {a : Act} {w : World} {post : Ending → World → Prop} (hr : fn.results = #[.cell p ty]) (hd : a.defers = []) (g : Nat) (cs : Array Value)
    (hp : a.tmps.getD p undef = .pointer (some ⟨g, 0, none⟩)) (hg : w.heap[g]? = some (.cells cs e fr)) (hu : P.underlying ty = some d) (hdd : (match d with | .struct _ | .array _ _ => true | _ => false) = true) (hi : (P.info? ty).map (·.size) = some cs.size) (h : post (.returned (.agg cs)) w) :
    bodyPost P fn post .ret a w := bodyPost_ret (results_cell_row hr _ _ g e _ fr _ hp hg hu hdd hi) hd h
theorem ret_st2 {P : Program} {fn : Func} {p q : Tmp} {ty e : TypeId} {d : TypeDesc} {a : Act} {w : World} {post : Ending → World → Prop} (hr : fn.results = #[.cell p ty, .tmp q]) (hd : a.defers = []) (g : Nat) (cs : List Value)
    (hp : a.tmps.getD p undef = .pointer (some ⟨g, 0, none⟩)) (hb : Cel w g e cs) (hu : P.underlying ty = some d) (hdd : (match d with | .struct _ | .array _ _ => true | _ => false) = true) (hi : (P.info? ty).map (·.size) = some cs.length) (h : post (.returned (.tuple #[.agg cs.toArray, a.tmps.getD q undef])) w) :
    bodyPost P fn post .ret a w := by
  refine bodyPost_ret (v := .tuple #[.agg cs.toArray, a.tmps.getD q undef]) ?_ hd h
  have hp' : a.tmps[p]?.getD undef = .pointer (some ⟨g, 0, none⟩) := by simpa using hp
  have := run_loadVar_row (P := P) w g e ty _ (0, 0) _ hb hu hdd (by rw [hi]; simp)
  simp [results, hr, hp', asAddr, this]
structure F where
  r : Nat → Int
  pc : Int
  z : Bool
  n : Bool
  l : Bool
def rs (r : Nat → Int) : List Value := (List.range 15).map fun k => .int .u32 (r k)
def F.cs (f : F) : List Value := rs f.r ++ [.int .u32 f.pc, .bool f.z, .bool f.n, .bool f.l]
def F.v (f : F) : Value := .agg f.cs.toArray
def F.zero : F := ⟨fun _ => 0, 0, false, false, false⟩
def F.put (f : F) (k : Nat) (v : Int) : F := { f with r := fun j => if j = k then v else f.r j }
theorem rs_len (r : Nat → Int) : (rs r).length = 15 := by simp [rs]
theorem rs_at (r : Nat → Int) (k : Nat) (h : k < 15) : (rs r)[k]? = some (.int .u32 (r k)) := by simp [rs, h]
theorem F.len (f : F) : f.cs.length = 19 := by simp [F.cs, rs_len]
theorem F.at (f : F) (k : Nat) (h : k < 15) : f.cs[k]? = some (.int .u32 (f.r k)) := by rw [F.cs, List.getElem?_append_left (by rw [rs_len]; exact h), rs_at _ _ h]
theorem F.at15 (f : F) : f.cs[15]? = some (.int .u32 f.pc) := by rw [F.cs, List.getElem?_append_right (by rw [rs_len]; decide), rs_len]; rfl
theorem F.at16 (f : F) : f.cs[16]? = some (.bool f.z) := by rw [F.cs, List.getElem?_append_right (by rw [rs_len]; decide), rs_len]; rfl
theorem F.at17 (f : F) : f.cs[17]? = some (.bool f.n) := by rw [F.cs, List.getElem?_append_right (by rw [rs_len]; decide), rs_len]; rfl
theorem F.at18 (f : F) : f.cs[18]? = some (.bool f.l) := by rw [F.cs, List.getElem?_append_right (by rw [rs_len]; decide), rs_len]; rfl
theorem rs_set (r : Nat → Int) (k : Nat) (v : Int) : (rs r).set k (.int .u32 v) = rs fun j => if j = k then v else r j := by
  apply List.ext_getElem?
  intro j
  by_cases hj : j < 15
  · rw [List.getElem?_set]
    by_cases e : k = j
    · subst e
      rw [if_pos rfl, rs_len, if_pos hj, rs_at _ _ hj, if_pos rfl]
    · rw [if_neg e, rs_at _ _ hj, rs_at _ _ hj, if_neg (fun h => e h.symm)]
  · rw [List.getElem?_eq_none (by rw [List.length_set, rs_len]; omega), List.getElem?_eq_none (by rw [rs_len]; omega)]
theorem F.set (f : F) (k : Nat) (h : k < 15) (v : Int) : f.cs.set k (.int .u32 v) = (f.put k v).cs := by
  rw [F.cs, List.set_append_left _ _ (by rw [rs_len]; exact h), rs_set]; rfl
theorem F.set16 (f : F) (b : Bool) : f.cs.set 16 (.bool b) = { f with z := b }.cs := by rw [F.cs, List.set_append_right _ _ (by rw [rs_len]; decide), rs_len]; rfl
theorem F.set17 (f : F) (b : Bool) : f.cs.set 17 (.bool b) = { f with n := b }.cs := by rw [F.cs, List.set_append_right _ _ (by rw [rs_len]; decide), rs_len]; rfl
theorem F.set18 (f : F) (b : Bool) : f.cs.set 18 (.bool b) = { f with l := b }.cs := by rw [F.cs, List.set_append_right _ _ (by rw [rs_len]; decide), rs_len]; rfl
theorem F.set15 (f : F) (b : Int) : f.cs.set 15 (.int .u32 b) = { f with pc := b }.cs := by rw [F.cs, List.set_append_right _ _ (by rw [rs_len]; decide), rs_len]; rfl
theorem F.one (f : F) : ∀ v ∈ f.cs, v.oneCell' = true := by
  intro v hv
  simp only [F.cs, rs, List.mem_append, List.mem_map, List.mem_cons, List.not_mem_nil, or_false] at hv
  rcases hv with ⟨_, _, rfl⟩ | rfl | rfl | rfl | rfl <;> rfl
theorem F.all (f : F) : f.cs.all (·.oneCell') = true := List.all_eq_true.2 f.one
theorem rs_all (r : Nat → Int) : (rs r).all (·.oneCell') = true := by
  rw [List.all_eq_true]
  intro v hv
  simp only [rs, List.mem_map] at hv
  obtain ⟨_, _, rfl⟩ := hv
  rfl
theorem F.eta (f : F) : (⟨f.r, f.pc, f.z, f.n, f.l⟩ : F) = f := rfl
theorem wpList_store_st {P : Program} {ops : Array Oper} {rest : List Oper} {o : Oper} {a : Act} {w : World} {Q : Exit → Act → World → Prop} (hgd : o.guard = none) (ty : TypeId) (x y : Operand) (ho : o.op = .store ty x y)
    (g : Nat) (vs : List Value) (hx : a.eval x = .pointer (some ⟨g, 0, none⟩)) (hy : a.eval y = .agg vs.toArray) {e : TypeId} {cs : List Value} (hg : Cel w g e cs) (hi : (P.info? ty).map (·.size) = some vs.length) (hl : cs.length = vs.length) (h1 : vs.all (·.oneCell') = true)
    (h : ∀ w', Cel w' g e vs → ButL [g] w w' → w'.heap.size = w.heap.size → wpList P ops Q rest (a.put o.dst undef) w') : wpList P ops Q (o :: rest) a w :=
  wpList_store_row hgd ty x y ho g _ hx hy e _ hg (by rw [hi]; simp) (by simp [hl]) (by simpa using h1) (h _ (hg.set _) (ButL.setRow _ _ _ (by simp)) (by simp))
theorem under27 : Tryd.prog.underlying 26 = some (.struct (Tryd.prog.fieldsOf 26)) := by kernel_rfl
theorem under23 : Tryd.prog.underlying 24 = some (.array 15 23) := by kernel_rfl
theorem size27 : (Tryd.prog.info? 26).map (·.size) = some 19 := by kernel_rfl
theorem size23 : (Tryd.prog.info? 24).map (·.size) = some 15 := by kernel_rfl
end Go.Proofs.YteldpapacdbbiaaDoor
