import Derived.Test.YtildhjiddidghaaGreatDoorChecked
import Derived.WalkKit
import Derived.WalkSpells
import Derived.WalkLawsBesides
import Derived.Deep.QuietTactic
import Derived.BigQuiet
import Derived.BigRegion
import Derived.Handy
import Derived.Deep.RegionHeld3
import Derived.Deep.RegionWith
import Derived.Deep.DrawnRows
import Derived.Deep.MidRow
import Derived.Deep.WholeRow
import Derived.Laws.CopyRow
import Derived.Laws.AppendOwnNone
import Derived.Lib.SliceRun
import Derived.Deep.DeepCutAuto
import Derived.Test.YtildhjiddidghaaGreatDoorP01
import Derived.Laws.CopyOwn
namespace Go.Proofs.YtildhjiddidghaaGreatDoor.R
open Go.RowKit

theorem ret_int {k : IntKind} {a b : Int} (h : a = b) : Ending.returned (.int k a) = .returned (.int k b) := by rw [h]
theorem ret_bool {a b : Bool} (h : a = b) : Ending.returned (.bool a) = .returned (.bool b) := by rw [h]
theorem below_one (W : World) (o : Obj) : Below W.heap.size W (W.alloc o) := (Below.refl W.heap.size W).alloc (Nat.le_refl _) o
theorem below_on {X w w' : World} (h : Below X.heap.size X w) (k : Below w.heap.size w w') : Below X.heap.size X w' := h.trans (k.mono h.size)
theorem below_to {B : Nat} {a b c : World} (h : Below B a b) (hB : B ≤ b.heap.size) (k : Below b.heap.size b c) : Below B a c := h.trans (k.mono hB)
def Cel (w : World) (g : Nat) (t : TypeId) (cs : List Value) : Prop := w.heap[g]? = some (.cells cs.toArray t (0, 0))
theorem Cel.lt {w : World} {g : Nat} {t : TypeId} {cs : List Value} (h : Cel w g t cs) : g < w.heap.size := (Array.getElem?_eq_some_iff.1 h).1
theorem Cel.below {w w' : World} {B g : Nat} {t : TypeId} {cs : List Value} (h : Cel w g t cs) (hb : Below B w w') (hg : g < B) : Cel w' g t cs := (hb.block g hg).trans h
theorem Cel.on {w w' : World} {g : Nat} {t : TypeId} {cs : List Value} (h : Cel w g t cs) (hb : Below w.heap.size w w') : Cel w' g t cs := h.below hb h.lt
theorem Cel.cell {w : World} {g : Nat} {t : TypeId} {cs : List Value} (h : Cel w g t cs) (j : Nat) : w.cell? ⟨g, j, none⟩ = cs[j]? := by
  rw [cell_of_row w g j _ t (0, 0) h]; simp
theorem Cel.range {w : World} {g : Nat} {t : TypeId} {cs : List Value} (h : Cel w g t cs) : w.rangeAt g 0 cs := fun j v hv => by rw [Nat.zero_add, h.cell j, hv]
theorem Cel.new (w : World) (t : TypeId) (cs : List Value) : Cel (w.alloc (.cells cs.toArray t)) w.heap.size t cs := heap_alloc_new _ _
theorem Cel.set {w : World} {g : Nat} {t : TypeId} {cs : List Value} (h : Cel w g t cs) (vs : List Value) : Cel (w.setRow g vs.toArray) g t vs := setRow_heap w g _ vs.toArray t _ h
theorem Cel.setCell {w : World} {g : Nat} {t : TypeId} {cs : List Value} (h : Cel w g t cs) (j : Nat) (u : Value) : Cel (w.setCell ⟨g, j, none⟩ u) g t (cs.set j u) := by
  unfold Cel at h ⊢
  rw [heap_setCell_same w g j _ t _ h, List.setIfInBounds_toArray]
theorem Cel.free {w : World} {g : Nat} {t : TypeId} {cs : List Value} (h : Cel w g t cs) (j : Nat) : w.frozen? ⟨g, j, none⟩ = false := frozen_of_row w g j _ t h
theorem Cel.ty {w : World} {g : Nat} {t t' : TypeId} {cs cs' : List Value} (h : Cel w g t cs) (h' : Cel w g t' cs') : t = t' := by
  unfold Cel at h h'
  rw [h] at h'
  injection h' with h'
  injection h' with _ h2 _
structure ButL (G : List Nat) (w w' : World) : Prop where
  os : w'.os = w.os
  tape : w'.tape = w.tape
  output : w'.output = w.output
  size : w.heap.size ≤ w'.heap.size
  block : ∀ k, k < w.heap.size → k ∉ G → w'.heap[k]? = w.heap[k]?
theorem ButL.refl (G : List Nat) (w : World) : ButL G w w := ⟨rfl, rfl, rfl, Nat.le_refl _, fun _ _ _ => rfl⟩
theorem ButL.trans {G : List Nat} {a b c : World} (h : ButL G a b) (h' : ButL G b c) : ButL G a c := ⟨h'.os.trans h.os, h'.tape.trans h.tape, h'.output.trans h.output, Nat.le_trans h.size h'.size, fun k hk hg => (h'.block k (by have := h.size; omega) hg).trans (h.block k hk hg)⟩
theorem ButL.trans' {G : List Nat} {g : Nat} {a b c : World} (h : ButL G a b) (h' : ButL [g] b c) (hg : a.heap.size ≤ g) : ButL G a c := ⟨h'.os.trans h.os, h'.tape.trans h.tape, h'.output.trans h.output, Nat.le_trans h.size h'.size, fun k hk hn => (h'.block k (by have := h.size; omega) (by rw [List.mem_singleton]; omega)).trans (h.block k hk hn)⟩
theorem ButL.of {G : List Nat} {w w' : World} (h : Below w.heap.size w w') : ButL G w w' := ⟨h.os, h.tape, h.output, h.size, fun k hk _ => h.block k hk⟩
theorem ButL.on {G : List Nat} {a b c : World} (h : ButL G a b) (k : Below b.heap.size b c) : ButL G a c := h.trans (.of k)
theorem ButL.below {G : List Nat} {B : Nat} {w w' : World} (h : ButL G w w') (hG : ∀ k ∈ G, B ≤ k) (hs : B ≤ w.heap.size) : Below B w w' := ⟨h.os, h.tape, h.output, h.size, fun k hk => h.block k (by omega) (fun hm => by have := hG k hm; omega)⟩
theorem ButL.mono {G G' : List Nat} {w w' : World} (h : ButL G w w') (hG : ∀ k ∈ G, k ∈ G') : ButL G' w w' := ⟨h.os, h.tape, h.output, h.size, fun k hk hn => h.block k hk (fun hm => hn (hG k hm))⟩
theorem ButL.setRow {G : List Nat} (w : World) (g : Nat) (cs : Array Value) (hg : g ∈ G) : ButL G w (w.setRow g cs) := ⟨rfl, rfl, rfl, by simp, fun k _ hk => Go.setRow_other w g k cs (fun h => hk (h ▸ hg))⟩
theorem ButL.setCell {G : List Nat} (w : World) (g j : Nat) (u : Value) (hg : g ∈ G) : ButL G w (w.setCell ⟨g, j, none⟩ u) := ⟨rfl, rfl, rfl, by simp, fun k _ hk => heap_setCell_other w ⟨g, j, none⟩ k u (fun h => hk (by have h' : k = g := h; rw [h']; exact hg))⟩
theorem Cel.but {G : List Nat} {w w' : World} {g : Nat} {t : TypeId} {cs : List Value} (h : Cel w g t cs) (hb : ButL G w w') (hg : g ∉ G) : Cel w' g t cs := (hb.block g h.lt hg).trans h

theorem hid {p : Prop} (h : p) : Hid p := h
theorem new_at (W : World) (o : Obj) : (W.alloc o).heap[W.heap.size]? = some o := by show (W.heap.push o)[W.heap.size]? = some o; simp
theorem new_at2 (W : World) (o p : Obj) : ((W.alloc o).alloc p).heap[W.heap.size + 1]? = some p := by have := new_at (W.alloc o) p; rwa [show (W.alloc o).heap.size = W.heap.size + 1 by show (W.heap.push o).size = _; simp] at this
theorem below_two (W : World) (o p : Obj) : Below W.heap.size W ((W.alloc o).alloc p) := Below.alloc (below_one W o) (by show _ ≤ (W.heap.push o).size; simp) _
theorem ret_st {P : Program} {fn : Func} {p : Tmp} {ty e : TypeId} {fr : Nat × Nat} {d : TypeDesc} {a : Act} {w : World} {post : Ending → World → Prop} (hr : fn.results = #[.cell p ty]) (hd : a.defers = []) (g : Nat) (cs : Array Value)
    (hp : a.tmps.getD p undef = .pointer (some ⟨g, 0, none⟩)) (hg : w.heap[g]? = some (.cells cs e fr)) (hu : P.underlying ty = some d) (hdd : (match d with | .struct _ | .array _ _ => true | _ => false) = true) (hi : (P.info? ty).map (·.size) = some cs.size) (h : post (.returned (.agg cs)) w) :
    bodyPost P fn post .ret a w := bodyPost_ret (results_cell_row hr _ _ g e _ fr _ hp hg hu hdd hi) hd h
theorem ret_st2 {P : Program} {fn : Func} {p q : Tmp} {ty e : TypeId} {d : TypeDesc} {a : Act} {w : World} {post : Ending → World → Prop} (hr : fn.results = #[.cell p ty, .tmp q]) (hd : a.defers = []) (g : Nat) (cs : List Value)
    (hp : a.tmps.getD p undef = .pointer (some ⟨g, 0, none⟩)) (hb : Cel w g e cs) (hu : P.underlying ty = some d) (hdd : (match d with | .struct _ | .array _ _ => true | _ => false) = true) (hi : (P.info? ty).map (·.size) = some cs.length) (h : post (.returned (.tuple #[.agg cs.toArray, a.tmps.getD q undef])) w) :
    bodyPost P fn post .ret a w := by
  refine bodyPost_ret (v := .tuple #[.agg cs.toArray, a.tmps.getD q undef]) ?_ hd h
  have hp' : a.tmps[p]?.getD undef = .pointer (some ⟨g, 0, none⟩) := by simpa using hp
  have := run_loadVar_row (P := P) w g e ty _ (0, 0) _ hb hu hdd (by rw [hi]; simp)
  simp [results, hr, hp', asAddr, this]
structure F where
  r : Nat → Int
  pc : Int
  z : Bool
  n : Bool
  l : Bool
def rs (r : Nat → Int) : List Value := (List.range 15).map fun k => .int .u32 (r k)
def F.cs (f : F) : List Value := rs f.r ++ [.int .u32 f.pc, .bool f.z, .bool f.n, .bool f.l]
def F.v (f : F) : Value := .agg f.cs.toArray
def F.zero : F := ⟨fun _ => 0, 0, false, false, false⟩
def F.put (f : F) (k : Nat) (v : Int) : F := { f with r := fun j => if j = k then v else f.r j }
theorem rs_len (r : Nat → Int) : (rs r).length = 15 := by simp [rs]
theorem rs_at (r : Nat → Int) (k : Nat) (h : k < 15) : (rs r)[k]? = some (.int .u32 (r k)) := by simp [rs, h]
theorem F.len (f : F) : f.cs.length = 19 := by simp [F.cs, rs_len]
theorem F.at (f : F) (k : Nat) (h : k < 15) : f.cs[k]? = some (.int .u32 (f.r k)) := by rw [F.cs, List.getElem?_append_left (by rw [rs_len]; exact h), rs_at _ _ h]
theorem F.at15 (f : F) : f.cs[15]? = some (.int .u32 f.pc) := by rw [F.cs, List.getElem?_append_right (by rw [rs_len]; decide), rs_len]; rfl
theorem F.at16 (f : F) : f.cs[16]? = some (.bool f.z) := by rw [F.cs, List.getElem?_append_right (by rw [rs_len]; decide), rs_len]; rfl
theorem F.at17 (f : F) : f.cs[17]? = some (.bool f.n) := by rw [F.cs, List.getElem?_append_right (by rw [rs_len]; decide), rs_len]; rfl
theorem F.at18 (f : F) : f.cs[18]? = some (.bool f.l) := by rw [F.cs, List.getElem?_append_right (by rw [rs_len]; decide), rs_len]; rfl
theorem rs_set (r : Nat → Int) (k : Nat) (v : Int) : (rs r).set k (.int .u32 v) = rs fun j => if j = k then v else r j := by
  apply List.ext_getElem?
  intro j
  by_cases hj : j < 15
  · rw [List.getElem?_set]
    by_cases e : k = j
    · subst e
      rw [if_pos rfl, rs_len, if_pos hj, rs_at _ _ hj, if_pos rfl]
    · rw [if_neg e, rs_at _ _ hj, rs_at _ _ hj, if_neg (fun h => e h.symm)]
  · rw [List.getElem?_eq_none (by rw [List.length_set, rs_len]; omega), List.getElem?_eq_none (by rw [rs_len]; omega)]
theorem F.set (f : F) (k : Nat) (h : k < 15) (v : Int) : f.cs.set k (.int .u32 v) = (f.put k v).cs := by
  rw [F.cs, List.set_append_left _ _ (by rw [rs_len]; exact h), rs_set]; rfl
theorem F.set16 (f : F) (b : Bool) : f.cs.set 16 (.bool b) = { f with z := b }.cs := by rw [F.cs, List.set_append_right _ _ (by rw [rs_len]; decide), rs_len]; rfl
theorem F.set17 (f : F) (b : Bool) : f.cs.set 17 (.bool b) = { f with n := b }.cs := by rw [F.cs, List.set_append_right _ _ (by rw [rs_len]; decide), rs_len]; rfl
theorem F.set18 (f : F) (b : Bool) : f.cs.set 18 (.bool b) = { f with l := b }.cs := by rw [F.cs, List.set_append_right _ _ (by rw [rs_len]; decide), rs_len]; rfl
theorem F.set15 (f : F) (b : Int) : f.cs.set 15 (.int .u32 b) = { f with pc := b }.cs := by rw [F.cs, List.set_append_right _ _ (by rw [rs_len]; decide), rs_len]; rfl
theorem F.one (f : F) : ∀ v ∈ f.cs, v.oneCell' = true := by
  intro v hv
  simp only [F.cs, rs, List.mem_append, List.mem_map, List.mem_cons, List.not_mem_nil, or_false] at hv
  rcases hv with ⟨_, _, rfl⟩ | rfl | rfl | rfl | rfl <;> rfl
theorem F.all (f : F) : f.cs.all (·.oneCell') = true := List.all_eq_true.2 f.one
theorem rs_all (r : Nat → Int) : (rs r).all (·.oneCell') = true := by
  rw [List.all_eq_true]
  intro v hv
  simp only [rs, List.mem_map] at hv
  obtain ⟨_, _, rfl⟩ := hv
  rfl
theorem wpList_store_st {P : Program} {ops : Array Oper} {rest : List Oper} {o : Oper} {a : Act} {w : World} {Q : Exit → Act → World → Prop} (hgd : o.guard = none) (ty : TypeId) (x y : Operand) (ho : o.op = .store ty x y)
    (g : Nat) (vs : List Value) (hx : a.eval x = .pointer (some ⟨g, 0, none⟩)) (hy : a.eval y = .agg vs.toArray) {e : TypeId} {cs : List Value} (hg : Cel w g e cs) (hi : (P.info? ty).map (·.size) = some vs.length) (hl : cs.length = vs.length) (h1 : vs.all (·.oneCell') = true)
    (h : ∀ w', Cel w' g e vs → ButL [g] w w' → w'.heap.size = w.heap.size → wpList P ops Q rest (a.put o.dst undef) w') : wpList P ops Q (o :: rest) a w :=
  wpList_store_row hgd ty x y ho g _ hx hy e _ hg (by rw [hi]; simp) (by simp [hl]) (by simpa using h1) (h _ (hg.set _) (ButL.setRow _ _ _ (by simp)) (by simp))
theorem under27 : Tryz.prog.underlying 191 = some (.struct (Tryz.prog.fieldsOf 191)) := by kernel_rfl
theorem under25 : Tryz.prog.underlying 207 = some (.struct (Tryz.prog.fieldsOf 207)) := by kernel_rfl
theorem under23 : Tryz.prog.underlying 189 = some (.array 15 22) := by kernel_rfl
theorem size27 : (Tryz.prog.info? 191).map (·.size) = some 19 := by kernel_rfl
theorem size25 : (Tryz.prog.info? 207).map (·.size) = some 19 := by kernel_rfl
theorem size23 : (Tryz.prog.info? 189).map (·.size) = some 15 := by kernel_rfl
end Go.Proofs.YtildhjiddidghaaGreatDoor.R
namespace Go.Proofs.YtildhjiddidghaaGreatDoor.R
open Go.RowKit
theorem under22 : Tryz.prog.underlying 22 = some (.int .u32) := by kernel_rfl
theorem under4 : Tryz.prog.underlying 4 = some .bool := by kernel_rfl
theorem size22 : (Tryz.prog.info? 22).map (·.size) = some 1 := by kernel_rfl
def rV (r : Nat → Int) : Value := .agg (rs r).toArray
theorem wpList_load_f {ops : Array Oper} {rest : List Oper} {o : Oper} {a : Act} {w : World} {Q : Exit → Act → World → Prop} (hgd : o.guard = none) (x : Operand) (ho : o.op = .load 191 x)
    (g : Nat) {t : TypeId} (f : F) (hx : a.eval x = .pointer (some ⟨g, 0, none⟩)) (hg : Cel w g t f.cs)
    (h : wpList Tryz.prog ops Q rest (a.put o.dst f.v) w) : wpList Tryz.prog ops Q (o :: rest) a w :=
  wpList_load_mid hgd 191 x ho g 0 hx _ _ hg.range under27 rfl (by rw [size27, F.len]) h
theorem wpList_load_g {ops : Array Oper} {rest : List Oper} {o : Oper} {a : Act} {w : World} {Q : Exit → Act → World → Prop} (hgd : o.guard = none) (x : Operand) (ho : o.op = .load 207 x)
    (g : Nat) {t : TypeId} (f : F) (hx : a.eval x = .pointer (some ⟨g, 0, none⟩)) (hg : Cel w g t f.cs)
    (h : wpList Tryz.prog ops Q rest (a.put o.dst f.v) w) : wpList Tryz.prog ops Q (o :: rest) a w :=
  wpList_load_mid hgd 207 x ho g 0 hx _ _ hg.range under25 rfl (by rw [size25, F.len]) h
theorem F.rng {w : World} {g : Nat} {t : TypeId} {f : F} (h : Cel w g t f.cs) : w.rangeAt g 0 (rs f.r) := fun j v hv => h.range j v (by
  have hj : j < 15 := by
    by_cases hj : j < 15
    · exact hj
    · rw [List.getElem?_eq_none (by rw [rs_len]; omega)] at hv; cases hv
  rw [F.cs, List.getElem?_append_left (by rw [rs_len]; exact hj)]; exact hv)
theorem wpList_store_f {ops : Array Oper} {rest : List Oper} {o : Oper} {a : Act} {w : World} {Q : Exit → Act → World → Prop} (hgd : o.guard = none) (x y : Operand) (ho : o.op = .store 191 x y)
    (g : Nat) {t : TypeId} (f f' : F) (hx : a.eval x = .pointer (some ⟨g, 0, none⟩)) (hy : a.eval y = f'.v) (hg : Cel w g t f.cs)
    (h : ∀ w', Cel w' g t f'.cs → ButL [g] w w' → w'.heap.size = w.heap.size → wpList Tryz.prog ops Q rest (a.put o.dst undef) w') : wpList Tryz.prog ops Q (o :: rest) a w :=
  wpList_store_st hgd 191 x y ho g f'.cs hx hy hg (by rw [size27, F.len]) (by rw [F.len, F.len]) f'.all h
theorem wpList_store_g {ops : Array Oper} {rest : List Oper} {o : Oper} {a : Act} {w : World} {Q : Exit → Act → World → Prop} (hgd : o.guard = none) (x y : Operand) (ho : o.op = .store 207 x y)
    (g : Nat) {t : TypeId} (f f' : F) (hx : a.eval x = .pointer (some ⟨g, 0, none⟩)) (hy : a.eval y = f'.v) (hg : Cel w g t f.cs)
    (h : ∀ w', Cel w' g t f'.cs → ButL [g] w w' → w'.heap.size = w.heap.size → wpList Tryz.prog ops Q rest (a.put o.dst undef) w') : wpList Tryz.prog ops Q (o :: rest) a w :=
  wpList_store_st hgd 207 x y ho g f'.cs hx hy hg (by rw [size25, F.len]) (by rw [F.len, F.len]) f'.all h
theorem wpList_build_f {ops : Array Oper} {rest : List Oper} {o : Oper} {a : Act} {w : World} {Q : Exit → Act → World → Prop} (hgd : o.guard = none) (t : TypeId) (xs : Array (Nat × Operand)) (ho : o.op = .build t xs)
    (ps : Array (Nat × Value)) (hp : xs.map (fun x => (x.1, a.eval x.2)) = ps) (cs : Array Value) (hb : Tryz.prog.built t ps.toList = some cs)
    (h : wpList Tryz.prog ops Q rest (a.put o.dst (.agg cs)) w) : wpList Tryz.prog ops Q (o :: rest) a w := by
  refine wpList_plain hgd fun K hK => ?_
  unfold Oper.wp execOp
  simp only [ho, Sem.run_bind, hp, run_build w t ps _ hb, Result.andThen_ok]
  exact hK _ _ h
theorem built_zero : Tryz.prog.built 191 [] = some F.zero.cs.toArray := by kernel_rfl
theorem built_zero' : Tryz.prog.built 207 [] = some F.zero.cs.toArray := by kernel_rfl
theorem built_pc (p : Int) : Tryz.prog.built 191 [(1, .int .u32 p)] = some (F.cs ⟨fun _ => 0, p, false, false, false⟩).toArray := by kernel_rfl
def st3 (a b c : Int) (k : Nat) : Int := if k = 0 then a else if k = 1 then b else if k = 2 then c else 0
theorem wpList_build_zero {ops : Array Oper} {rest : List Oper} {o : Oper} {a : Act} {w : World} {Q : Exit → Act → World → Prop} (hgd : o.guard = none) (ho : o.op = .build 191 #[])
    (h : wpList Tryz.prog ops Q rest (a.put o.dst F.zero.v) w) : wpList Tryz.prog ops Q (o :: rest) a w :=
  wpList_build_f hgd 191 _ ho #[] (by simp) _ built_zero h
theorem wpList_build_zero' {ops : Array Oper} {rest : List Oper} {o : Oper} {a : Act} {w : World} {Q : Exit → Act → World → Prop} (hgd : o.guard = none) (ho : o.op = .build 207 #[])
    (h : wpList Tryz.prog ops Q rest (a.put o.dst F.zero.v) w) : wpList Tryz.prog ops Q (o :: rest) a w :=
  wpList_build_f hgd 207 _ ho #[] (by simp) _ built_zero' h
theorem wpList_build_pc {ops : Array Oper} {rest : List Oper} {o : Oper} {a : Act} {w : World} {Q : Exit → Act → World → Prop} (hgd : o.guard = none) (x : Operand) (ho : o.op = .build 191 #[(1, x)]) (p : Int) (hx : a.eval x = .int .u32 p)
    (h : wpList Tryz.prog ops Q rest (a.put o.dst (F.v ⟨fun _ => 0, p, false, false, false⟩)) w) : wpList Tryz.prog ops Q (o :: rest) a w :=
  wpList_build_f hgd 191 _ ho #[(1, .int .u32 p)] (by simp only [List.map_toArray, List.map_cons, List.map_nil, hx]) _ (built_pc p) h
def sameR (r s : Nat → Int) : Bool := (List.range 15).all fun i => r i == s i
def F.same (f g : F) : Bool := sameR f.r g.r && (f.pc == g.pc && (f.z == g.z && (f.n == g.n && f.l == g.l)))
theorem sameR_iff (r s : Nat → Int) : sameR r s = true ↔ ∀ k, k < 15 → r k = s k := by
  simp only [sameR, List.all_eq_true, List.mem_range, beq_iff_eq]
theorem F.same_iff (f g : F) : f.same g = true ↔ (∀ k, k < 15 → f.r k = g.r k) ∧ f.pc = g.pc ∧ f.z = g.z ∧ f.n = g.n ∧ f.l = g.l := by
  simp only [F.same, Bool.and_eq_true, sameR_iff, beq_iff_eq]
theorem F.same_self (f : F) : f.same f = true := (f.same_iff f).2 ⟨fun _ _ => rfl, rfl, rfl, rfl, rfl⟩
theorem F.cs_eq (f g : F) (h : f.same g = true) : f.cs = g.cs := by
  obtain ⟨h1, h2, h3, h4, h5⟩ := (f.same_iff g).1 h
  unfold F.cs rs
  rw [h2, h3, h4, h5]
  congr 1
  exact List.map_congr_left fun k hk => by rw [h1 k (by simpa using hk)]
theorem run_equalIn_rs (w : World) (d : Nat) (r s : Nat → Int) : (Op.equalIn (d + 2) 189 (rV r) (rV s)).run Tryz.prog w = .ok (sameR r s) w := by
  have hsz : ∀ w, (sizeOf 22).run Tryz.prog w = .ok 1 w := fun w => by
    have := size22
    cases hq : Tryz.prog.info? 22 with
    | none => simp [hq] at this
    | some i => simp [hq] at this; simp [sizeOf, typeInfo, hq, this]
  rw [sameR, List.range_eq_range', rV, rV, Op.equalIn]
  simp only [Sem.run_bind, run_underlying under23, Result.andThen_ok, hsz, Std.Legacy.Range.forIn_eq_forIn_range', Std.Legacy.Range.size, Nat.sub_zero, Nat.add_sub_cancel, Nat.div_one]
  have hl : ∀ i ∈ List.range' 0 15 1, i < 15 := fun i hi => by simpa using (List.mem_range'_1.1 hi).2
  generalize List.range' 0 15 1 = l at hl ⊢
  induction l with
  | nil => simp
  | cons i l ih =>
    have hi : i < 15 := hl i (by simp)
    have px : (part 22 (rs r).toArray (i * 1)).run Tryz.prog w = .ok (.int .u32 (r i)) w := by
      simp [part, isAgg, run_underlying under22, rs_at r i hi]
    have py : (part 22 (rs s).toArray (i * 1)).run Tryz.prog w = .ok (.int .u32 (s i)) w := by
      simp [part, isAgg, run_underlying under22, rs_at s i hi]
    have pe : (Op.equalIn (d + 1) 22 (.int .u32 (r i)) (.int .u32 (s i))).run Tryz.prog w = .ok (r i == s i) w := run_equalIn_int w d 22 .u32 .u32 _ _ under22
    simp only [List.forIn_cons, Sem.run_bind, px, py, pe, Result.andThen_ok, List.all_cons]
    cases hb : (r i == s i)
    · simp
    · simp only [Bool.not_true, Bool.false_eq_true, if_false, Sem.run_pure, Result.andThen_ok, Bool.true_and]
      exact ih fun j hj => hl j (by simp [hj])
theorem fields27 : (Tryz.prog.fieldsOf 191).toList.map (fun f => (f.name, f.type, f.offset)) = [("R", 189, 0), ("PC", 22, 15), ("Z", 4, 16), ("N", 4, 17), ("L", 4, 18)] := by kernel_rfl
theorem part_r (w : World) (f : F) : (part 189 f.cs.toArray 0).run Tryz.prog w = .ok (rV f.r) w := by
  have hsz : ∀ w, (sizeOf 189).run Tryz.prog w = .ok 15 w := fun w => by
    have := size23
    cases hq : Tryz.prog.info? 189 with
    | none => simp [hq] at this
    | some i => simp [hq] at this; simp [sizeOf, typeInfo, hq, this]
  have he : List.take 15 f.cs = rs f.r := by
    rw [F.cs, List.take_append_of_le_length (by rw [rs_len]; decide), List.take_of_length_le (by rw [rs_len]; decide)]
  simp [part, isAgg, run_underlying under23, hsz, he, rV]
theorem part_i (w : World) (f : F) (k : Nat) (x : Int) (h : f.cs[k]? = some (.int .u32 x)) : (part 22 f.cs.toArray k).run Tryz.prog w = .ok (.int .u32 x) w := by
  simp [part, isAgg, run_underlying under22, h]
theorem part_b (w : World) (f : F) (k : Nat) (x : Bool) (h : f.cs[k]? = some (.bool x)) : (part 4 f.cs.toArray k).run Tryz.prog w = .ok (.bool x) w := by
  simp [part, isAgg, run_underlying under4, h]
theorem run_equalIn_f (w : World) (d : Nat) (f g : F) : (Op.equalIn (d + 4) 191 f.v g.v).run Tryz.prog w = .ok (f.same g) w := by
  rw [F.v, F.v, run_equalIn_struct w (d + 3) 191 _ _ under27 (by kernel_rfl)]
  have h := fields27
  generalize (Tryz.prog.fieldsOf 191).toList = L at h ⊢
  have hl : L.length = 5 := by have := congrArg List.length h; simpa using this
  match L, hl with
  | [f1, f2, f3, f4, f5], _ =>
    simp only [List.map_cons, List.map_nil, List.cons.injEq, Prod.mk.injEq, and_true] at h
    obtain ⟨⟨a1, a2, a3⟩, ⟨b1, b2, b3⟩, ⟨c1, c2, c3⟩, ⟨d1, d2, d3⟩, e1, e2, e3⟩ := h
    have e22 := fun (x y : Int) => run_equalIn_int (P := Tryz.prog) w (d + 2) 22 .u32 .u32 x y under22
    have e4 := fun (x y : Bool) => run_equalIn_bool' (P := Tryz.prog) w (d + 2) 4 x y under4
    have e23 := run_equalIn_rs w (d + 1) f.r g.r
    simp only [Op.eqFields, a1, a2, a3, b1, b2, b3, c1, c2, c3, d1, d2, d3, e1, e2, e3, Sem.run_bind, part_r, part_i w f 15 _ f.at15, part_i w g 15 _ g.at15, part_b w f 16 _ f.at16, part_b w g 16 _ g.at16, part_b w f 17 _ f.at17, part_b w g 17 _ g.at17, part_b w f 18 _ f.at18, part_b w g 18 _ g.at18, Result.andThen_ok, e22, e4, e23, Sem.run_ite, Sem.run_pure]
    unfold F.same
    cases sameR f.r g.r <;> cases (f.pc == g.pc) <;> cases (f.z == g.z) <;> cases (f.n == g.n) <;> cases (f.l == g.l) <;> rfl
theorem guard27 : Tryz.prog.eqGuardType Tryz.prog.depth 191 = false := by kernel_rfl
end Go.Proofs.YtildhjiddidghaaGreatDoor.R
namespace Go.Proofs.YtildhjiddidghaaGreatDoor.R
open Go.RowKit

attribute [-simp] Tryz.isAgg191 Tryz.sizeOf191 Tryz.isAgg207 Tryz.sizeOf207 Tryz.isAgg189
structure Prep (W X : World) (t u : TypeId) (f : F) : Prop where
  box : Cel X W.heap.size t f.cs
  res : Cel X (W.heap.size + 1) u F.zero.cs
  below : Below W.heap.size W X
  size : X.heap.size = W.heap.size + 2
theorem zc : (#[.int .u32 0, .int .u32 0, .int .u32 0, .int .u32 0, .int .u32 0, .int .u32 0, .int .u32 0, .int .u32 0, .int .u32 0, .int .u32 0, .int .u32 0, .int .u32 0, .int .u32 0, .int .u32 0, .int .u32 0, .int .u32 0, .bool false, .bool false, .bool false] : Array Value) = F.zero.cs.toArray := by kernel_rfl
theorem prep (W : World) (t u : TypeId) (f : F) : Prep W ((W.alloc (.cells f.cs.toArray t)).alloc (.cells #[.int .u32 0, .int .u32 0, .int .u32 0, .int .u32 0, .int .u32 0, .int .u32 0, .int .u32 0, .int .u32 0, .int .u32 0, .int .u32 0, .int .u32 0, .int .u32 0, .int .u32 0, .int .u32 0, .int .u32 0, .int .u32 0, .bool false, .bool false, .bool false] u)) t u f := by
  rw [zc]
  have c1 := Cel.new (W.alloc (.cells f.cs.toArray t)) u F.zero.cs
  rw [show (W.alloc (Obj.cells f.cs.toArray t)).heap.size = W.heap.size + 1 by show (W.heap.push _).size = _; simp] at c1
  exact ⟨(Cel.new W t f.cs).on (below_one _ _), c1, below_two _ _ _, by show ((W.heap.push _).push _).size = _; simp⟩
theorem Prep.ret {W X w' : World} {t u : TypeId} {f f' : F} (h : Prep W X t u f) (hc : Cel w' (W.heap.size + 1) u f'.cs) (hb : ButL [W.heap.size + 1] X w') : Cel w' (W.heap.size + 1) u f'.cs ∧ Below W.heap.size W w' :=
  ⟨hc, h.below.trans (hb.below (by simp) (by rw [h.size]; omega))⟩
theorem Prep.set {W X : World} {t u : TypeId} {f f' : F} (h : Prep W X t u f) (j : Nat) (x : Value) (hs : f.cs.set j x = f'.cs) : Prep W (X.setCell ⟨W.heap.size, j, none⟩ x) t u f' := by
  have hb := ButL.setCell (G := [W.heap.size]) X W.heap.size j x (by simp)
  exact ⟨by rw [← hs]; exact h.box.setCell j x, h.res.but hb (by rw [List.mem_singleton]; omega), h.below.trans (hb.below (by simp) (by rw [h.size]; omega)), by simpa using h.size⟩
end Go.Proofs.YtildhjiddidghaaGreatDoor.R
namespace Go.Proofs.YtildhjiddidghaaGreatDoor.R
open Go.RowKit
set_option maxRecDepth 100000
set_option maxHeartbeats 1000000
attribute [-simp] Tryz.isAgg191 Tryz.sizeOf191 Tryz.isAgg207 Tryz.sizeOf207 Tryz.isAgg189
def F.fl (f : F) (z n l : Bool) : F := { f with z := z, n := n, l := l }
def F.cmp (f : F) (a b : Int) : F := f.fl (a == b) (decide (wrap32 a < wrap32 b)) (decide (a < b))
theorem Prep.set3 {W X : World} {t u : TypeId} {f : F} (h : Prep W X t u f) (z n l : Bool) : Prep W (((X.setCell ⟨W.heap.size, 16, none⟩ (.bool z)).setCell ⟨W.heap.size, 17, none⟩ (.bool n)).setCell ⟨W.heap.size, 18, none⟩ (.bool l)) t u (f.fl z n l) :=
  ((h.set (f' := { f with z := z }) 16 (.bool z) (f.set16 z)).set (f' := { f with z := z, n := n }) 17 (.bool n) (F.set17 _ n)).set (f' := f.fl z n l) 18 (.bool l) (F.set18 _ l)
theorem Prep.set2 {W X : World} {t u : TypeId} {f : F} (h : Prep W X t u f) (n l : Bool) : Prep W ((X.setCell ⟨W.heap.size, 17, none⟩ (.bool n)).setCell ⟨W.heap.size, 18, none⟩ (.bool l)) t u (f.fl f.z n l) :=
  (h.set (f' := { f with n := n }) 17 (.bool n) (f.set17 n)).set (f' := f.fl f.z n l) 18 (.bool l) (F.set18 _ l)
def F.stl (f : F) : F := if f.z then f.fl true false false else f
theorem settled_any (W : World) (f : F) : Calls Tryz.prog 184 #[f.v] W fun e W' => e = .returned f.stl.v ∧ Below W.heap.size W W' := by
  have hP := prep W 191 191 f
  have HP := hid hP
  have y16 := (hP.box.cell 16).trans f.at16
  have y17 := (hP.box.cell 17).trans f.at17
  have y18 := (hP.box.cell 18).trans f.at18
  have z17 := hP.box.free 17
  have z18 := hP.box.free 18
  have HQ := hid (hP.set2 false false)
  clear hP
  cases hz : f.z with
  | true =>
    have HS : Hid (f.fl f.z false false = f.stl) := hid (by unfold F.stl; rw [hz]; rfl)
    rw [HS.out] at HQ
    clear HS
    generalize f.stl = f' at *
    rw [hz] at y16
    clear hz
    unfold F.v
    generalize hc : f.cs.toArray = C at *
    clear hc
    go_enter Tryz.func184, Tryz.ntmps184
    go_upto_region 1 with fail
    generalize hX : (W.alloc _).alloc _ = X at *
    clear hX
    go_wp2_with (first | (refine wpList_load_f rfl _ rfl W.heap.size f' rfl HQ.out.box ?_) | (refine wpList_store_f rfl _ _ rfl (W.heap.size + 1) F.zero f' rfl rfl HQ.out.res ?_; intro w1 hc1 hb1 hs1; have HRR := hid (HQ.out.ret hc1 hb1); clear hc1 hb1 hs1))
    refine ret_st rfl rfl (W.heap.size + 1) _ rfl HRR.out.1 under27 rfl (by rw [size27]; simp [F.len]) ⟨rfl, HRR.out.2⟩
  | false =>
    have HS : Hid (f = f.stl) := hid (by unfold F.stl; rw [hz]; rfl)
    rw [← HS.out]
    clear HS HQ
    rw [hz] at y16
    clear hz
    unfold F.v
    generalize hc : f.cs.toArray = C at *
    have HC := hid hc
    clear hc
    go_enter Tryz.func184, Tryz.ntmps184
    go_upto_region 1 with fail
    generalize hX : (W.alloc _).alloc _ = X at *
    clear hX
    go_wp2_with (first | (refine wpList_load_f rfl _ rfl W.heap.size f rfl HP.out.box ?_) | (refine wpList_store_f rfl _ _ rfl (W.heap.size + 1) F.zero f rfl rfl HP.out.res ?_; intro w1 hc1 hb1 hs1; have HRR := hid (HP.out.ret hc1 hb1); clear hc1 hb1 hs1))
    refine ret_st rfl rfl (W.heap.size + 1) _ rfl HRR.out.1 under27 rfl (by rw [size27]; simp [F.len]) ⟨by rw [← HC.out], HRR.out.2⟩
end Go.Proofs.YtildhjiddidghaaGreatDoor.R
namespace Go.Proofs.YtildhjiddidghaaGreatDoor.R
open Go.RowKit
set_option maxRecDepth 100000
set_option maxHeartbeats 1000000
attribute [-simp] Tryz.isAgg191 Tryz.sizeOf191 Tryz.isAgg207 Tryz.sizeOf207 Tryz.isAgg189
def flw (z n l : Bool) : Int := if z then 1 else (if n then 2 else 0) + (if l then 4 else 0)
def F.flags (f : F) : Int := flw f.z f.n f.l
def bv (b : Bool) (x : Int) : Int := if b then x else 0
end Go.Proofs.YtildhjiddidghaaGreatDoor.R
namespace Go.Proofs.YtildhjiddidghaaGreatDoor.R
open Go.RowKit
set_option maxRecDepth 100000
set_option maxHeartbeats 1000000
attribute [-simp] Tryz.isAgg191 Tryz.sizeOf191 Tryz.isAgg207 Tryz.sizeOf207 Tryz.isAgg189
structure Pr (W X : World) (t u : TypeId) (f : F) : Prop where
  box : Cel X W.heap.size t f.cs
  res : Cel X (W.heap.size + 1) u F.zero.cs
  below : Below W.heap.size W X
theorem Prep.pr {W X : World} {t u : TypeId} {f : F} (h : Prep W X t u f) : Pr W X t u f := ⟨h.box, h.res, h.below⟩
theorem Pr.on {W X Y : World} {t u : TypeId} {f : F} (h : Pr W X t u f) (hb : Below X.heap.size X Y) : Pr W Y t u f := ⟨h.box.on hb, h.res.on hb, below_on h.below hb⟩
theorem Pr.ret {W X w' : World} {t u : TypeId} {f f' : F} (h : Pr W X t u f) (hc : Cel w' (W.heap.size + 1) u f'.cs) (hb : ButL [W.heap.size + 1] X w') : Cel w' (W.heap.size + 1) u f'.cs ∧ Below W.heap.size W w' :=
  ⟨hc, h.below.trans (hb.below (by simp) h.below.size)⟩
theorem exec_neq_f {a : Act} {w : World} {o : Oper} (x y : Operand) (ho : o.op = .binOp .neq 191 x y 191) (f g : F) (hx : a.eval x = f.v) (hy : a.eval y = g.v) (b : Bool) (hb : (!f.same g) = b) :
    (execOp a.eval o).run Tryz.prog w = .ok (.value (.bool b)) w := by
  have hg : (eqGuard .neq 191 x y f.v g.v).run Tryz.prog w = .ok () w := run_eqGuard_agg w .neq 191 x y _ _ guard27
  have hr : (binOp .neq 191 f.v g.v).run Tryz.prog w = .ok (.bool (!f.same g)) w := by
    have := run_equalIn_f w 9996 f g
    rw [F.v, F.v] at this ⊢
    rw [run_neq_struct, this]; rfl
  unfold execOp
  simp only [ho, hx, hy, Sem.run_bind, Sem.run_pure, hg, hr, Result.andThen_ok, hb]
def F.read (f : F) (w : Int) : F := f.fl (bits .and .u32 w 1 != 0) (bits .and .u32 w 2 != 0) (bits .and .u32 w 4 != 0)
theorem flagged_A (W : World) (f : F) (w : Int) (h8 : 8 ≤ w) : Calls Tryz.prog 171 #[f.v, .int .u32 w] W fun e W' => e = .returned (.tuple #[F.zero.v, .int .i64 80]) ∧ Below W.heap.size W W' := by
  have hP := prep W 191 191 f
  have y16 := (hP.box.cell 16).trans f.at16
  have y17 := (hP.box.cell 17).trans f.at17
  have y18 := (hP.box.cell 18).trans f.at18
  have z16 := hP.box.free 16
  have z17 := hP.box.free 17
  have z18 := hP.box.free 18
  have HP := hid (hP.set3 (bits .and .u32 w 1 != 0) (bits .and .u32 w 2 != 0) (bits .and .u32 w 4 != 0)).pr
  rw [show f.fl (bits .and .u32 w 1 != 0) (bits .and .u32 w 2 != 0) (bits .and .u32 w 4 != 0) = f.read w from rfl] at HP
  clear hP
  generalize f.read w = f' at *
  unfold F.v
  generalize hc : f.cs.toArray = C at *
  clear hc
  go_enter Tryz.func171, Tryz.ntmps171
  go_upto_region 1 with fail
  generalize hX : (W.alloc _).alloc _ = X at *
  clear hX
  go_wp2_with fail
  generalize hZ : ((X.setCell _ _).setCell _ _).setCell _ _ = Z at *
  clear hZ y16 y17 y18 z16 z17 z18
  have HPD := hid (HP.out.on (Below.refl _ _).drew)
  clear HP
  refine wp_region_held_drew (S := fun x => Pr W x 191 191 f') (by kernel_rfl) HPD.out (fun hHeld => ?_)
  refine tk 0 (some 18) (.int .u32 w) ?_
  simp only [Act.put, tqA, tqZ, tqS]
  refine tk 1 (some 19) (.bool true) ?_
  simp only [Act.put, tqA, tqZ, tqS]
  refine tk 2 (some 20) (.bool true) ?_
  simp only [Act.put, tqA, tqZ, tqS]
  refine tk 3 (some 21) undef ?_ (hy := Or.inr ⟨by rfl, rfl⟩)
  simp only [Act.put, tqA, tqZ, tqS]
  refine tk 4 (some 22) undef ?_ (hy := Or.inr ⟨by rfl, rfl⟩)
  simp only [Act.put, tqA, tqZ, tqS]
  refine tk 5 (some 23) undef ?_ (hy := Or.inr ⟨by rfl, rfl⟩)
  simp only [Act.put, tqA, tqZ, tqS]
  refine tk 6 (some 24) undef ?_ (hy := Or.inr ⟨by rfl, rfl⟩)
  simp only [Act.put, tqA, tqZ, tqS]
  refine tk 7 (some 25) (.bool true) ?_
  simp only [Act.put, tqA, tqZ, tqS]
  refine wpAnyH_done (by kernel_rfl) ?_ _
  go_wp2_with (first | (refine wpList_build_zero rfl rfl ?_) | (refine wpList_store_f rfl _ _ rfl (W.heap.size + 1) F.zero F.zero rfl rfl HPD.out.res ?_; intro w1 hc1 hb1 hs1; have HRR := hid (HPD.out.ret hc1 hb1); clear hc1 hb1 hs1))
  refine ret_st2 rfl rfl (W.heap.size + 1) _ rfl HRR.out.1 under27 rfl (by rw [size27]; simp [F.len]) ⟨rfl, HRR.out.2⟩
theorem flagged_B (W : World) (f : F) (w : Int) (h8 : w < 8) (hs : (!(f.read w).same (f.read w).stl) = false) : Calls Tryz.prog 171 #[f.v, .int .u32 w] W fun e W' => e = .returned (.tuple #[(f.read w).v, .int .i64 0]) ∧ Below W.heap.size W W' := by
  have HS := hid hs
  clear hs
  have hP := prep W 191 191 f
  have y16 := (hP.box.cell 16).trans f.at16
  have y17 := (hP.box.cell 17).trans f.at17
  have y18 := (hP.box.cell 18).trans f.at18
  have z16 := hP.box.free 16
  have z17 := hP.box.free 17
  have z18 := hP.box.free 18
  have HP := hid (hP.set3 (bits .and .u32 w 1 != 0) (bits .and .u32 w 2 != 0) (bits .and .u32 w 4 != 0)).pr
  rw [show f.fl (bits .and .u32 w 1 != 0) (bits .and .u32 w 2 != 0) (bits .and .u32 w 4 != 0) = f.read w from rfl] at HP
  clear hP
  generalize f.read w = f' at *
  unfold F.v
  generalize hc : f.cs.toArray = C at *
  clear hc
  go_enter Tryz.func171, Tryz.ntmps171
  go_upto_region 1 with fail
  generalize hX : (W.alloc _).alloc _ = X at *
  clear hX
  go_wp2_with fail
  generalize hZ : ((X.setCell _ _).setCell _ _).setCell _ _ = Z at *
  clear hZ y16 y17 y18 z16 z17 z18
  have HPD := hid (HP.out.on (Below.refl _ _).drew)
  clear HP
  refine wp_region_held_drew (S := fun x => Pr W x 191 191 f') (by kernel_rfl) HPD.out (fun hHeld => ?_)
  refine tk 0 (some 18) (.int .u32 w) ?_
  simp only [Act.put, tqA, tqZ, tqS]
  refine tk 1 (some 19) (.bool false) ?_
  simp only [Act.put, tqA, tqZ, tqS]
  refine tk 2 (some 20) (.bool false) ?_
  simp only [Act.put, tqA, tqZ, tqS]
  refine tk 3 (some 21) f'.v ?_ (hy := yieldsIf_load_mid (by rfl) 191 _ rfl W.heap.size 0 rfl f'.cs _ (fun w hSw => hSw.box.range) under27 rfl (by rw [size27, F.len]))
  simp only [Act.put, tqA, tqZ, tqS]
  refine tk 4 (some 22) f'.v ?_ (hy := yieldsIf_load_mid (by rfl) 191 _ rfl W.heap.size 0 rfl f'.cs _ (fun w hSw => hSw.box.range) under27 rfl (by rw [size27, F.len]))
  simp only [Act.put, tqA, tqZ, tqS]
  refine wpAnyH_ready (rs := [5]) (by kernel_rfl) (by simp) (AllReadyH.cons (o := ⟨some 23, .call { callee := .value (.func 184), args := #[.tmp 22], argTypes := #[191] }, 191, "flags.go:56", #[⟨4, .data⟩, ⟨2, .chain⟩, ⟨2, .guard⟩], some (2, false)⟩) rfl (fun KQ hK => ?_) AllReadyH.nil)
  go_simp
  refine (settled_any _ _).mono ?_
  rintro e w2 ⟨rfl, hb2⟩
  have HP2 := hid (HPD.out.on hb2)
  clear hb2
  go_wp2_with fail
  refine hK.out _ _ HP2.out (fun hHeld => ?_)
  clear hK KQ
  try simp only [Act.put, tqA, tqZ, tqS]
  clear HPD
  have HPD := HP2
  clear HP2
  refine tk 6 (some 24) (.bool false) ?_ (hy := Or.inl ⟨by rfl, fun w hSw => exec_neq_f _ _ rfl f' f'.stl rfl rfl _ HS.out⟩)
  simp only [Act.put, tqA, tqZ, tqS]
  refine tk 7 (some 25) (.bool false) ?_
  simp only [Act.put, tqA, tqZ, tqS]
  refine wpAnyH_done (by kernel_rfl) ?_ _
  go_wp2_with (first | (refine wpList_load_f rfl _ rfl W.heap.size f' rfl HPD.out.box ?_) | (refine wpList_store_f rfl _ _ rfl (W.heap.size + 1) F.zero f' rfl rfl HPD.out.res ?_; intro w1 hc1 hb1 hs1; have HRR := hid (HPD.out.ret hc1 hb1); clear hc1 hb1 hs1))
  refine ret_st2 rfl rfl (W.heap.size + 1) _ rfl HRR.out.1 under27 rfl (by rw [size27]; simp [F.len]) ⟨rfl, HRR.out.2⟩
theorem flagged_C (W : World) (f : F) (w : Int) (h8 : w < 8) (hs : (!(f.read w).same (f.read w).stl) = true) : Calls Tryz.prog 171 #[f.v, .int .u32 w] W fun e W' => e = .returned (.tuple #[F.zero.v, .int .i64 80]) ∧ Below W.heap.size W W' := by
  have HS := hid hs
  clear hs
  have hP := prep W 191 191 f
  have y16 := (hP.box.cell 16).trans f.at16
  have y17 := (hP.box.cell 17).trans f.at17
  have y18 := (hP.box.cell 18).trans f.at18
  have z16 := hP.box.free 16
  have z17 := hP.box.free 17
  have z18 := hP.box.free 18
  have HP := hid (hP.set3 (bits .and .u32 w 1 != 0) (bits .and .u32 w 2 != 0) (bits .and .u32 w 4 != 0)).pr
  rw [show f.fl (bits .and .u32 w 1 != 0) (bits .and .u32 w 2 != 0) (bits .and .u32 w 4 != 0) = f.read w from rfl] at HP
  clear hP
  generalize f.read w = f' at *
  unfold F.v
  generalize hc : f.cs.toArray = C at *
  clear hc
  go_enter Tryz.func171, Tryz.ntmps171
  go_upto_region 1 with fail
  generalize hX : (W.alloc _).alloc _ = X at *
  clear hX
  go_wp2_with fail
  generalize hZ : ((X.setCell _ _).setCell _ _).setCell _ _ = Z at *
  clear hZ y16 y17 y18 z16 z17 z18
  have HPD := hid (HP.out.on (Below.refl _ _).drew)
  clear HP
  refine wp_region_held_drew (S := fun x => Pr W x 191 191 f') (by kernel_rfl) HPD.out (fun hHeld => ?_)
  refine tk 0 (some 18) (.int .u32 w) ?_
  simp only [Act.put, tqA, tqZ, tqS]
  refine tk 1 (some 19) (.bool false) ?_
  simp only [Act.put, tqA, tqZ, tqS]
  refine tk 2 (some 20) (.bool false) ?_
  simp only [Act.put, tqA, tqZ, tqS]
  refine tk 3 (some 21) f'.v ?_ (hy := yieldsIf_load_mid (by rfl) 191 _ rfl W.heap.size 0 rfl f'.cs _ (fun w hSw => hSw.box.range) under27 rfl (by rw [size27, F.len]))
  simp only [Act.put, tqA, tqZ, tqS]
  refine tk 4 (some 22) f'.v ?_ (hy := yieldsIf_load_mid (by rfl) 191 _ rfl W.heap.size 0 rfl f'.cs _ (fun w hSw => hSw.box.range) under27 rfl (by rw [size27, F.len]))
  simp only [Act.put, tqA, tqZ, tqS]
  refine wpAnyH_ready (rs := [5]) (by kernel_rfl) (by simp) (AllReadyH.cons (o := ⟨some 23, .call { callee := .value (.func 184), args := #[.tmp 22], argTypes := #[191] }, 191, "flags.go:56", #[⟨4, .data⟩, ⟨2, .chain⟩, ⟨2, .guard⟩], some (2, false)⟩) rfl (fun KQ hK => ?_) AllReadyH.nil)
  go_simp
  refine (settled_any _ _).mono ?_
  rintro e w2 ⟨rfl, hb2⟩
  have HP2 := hid (HPD.out.on hb2)
  clear hb2
  go_wp2_with fail
  refine hK.out _ _ HP2.out (fun hHeld => ?_)
  clear hK KQ
  try simp only [Act.put, tqA, tqZ, tqS]
  clear HPD
  have HPD := HP2
  clear HP2
  refine tk 6 (some 24) (.bool true) ?_ (hy := Or.inl ⟨by rfl, fun w hSw => exec_neq_f _ _ rfl f' f'.stl rfl rfl _ HS.out⟩)
  simp only [Act.put, tqA, tqZ, tqS]
  refine tk 7 (some 25) (.bool true) ?_
  simp only [Act.put, tqA, tqZ, tqS]
  refine wpAnyH_done (by kernel_rfl) ?_ _
  go_wp2_with (first | (refine wpList_build_zero rfl rfl ?_) | (refine wpList_store_f rfl _ _ rfl (W.heap.size + 1) F.zero F.zero rfl rfl HPD.out.res ?_; intro w1 hc1 hb1 hs1; have HRR := hid (HPD.out.ret hc1 hb1); clear hc1 hb1 hs1))
  refine ret_st2 rfl rfl (W.heap.size + 1) _ rfl HRR.out.1 under27 rfl (by rw [size27]; simp [F.len]) ⟨rfl, HRR.out.2⟩
theorem same_stl (f : F) (z n l : Bool) : (f.fl z n l).same (f.fl z n l).stl = (!z || (!n && !l)) := by
  cases z
  · rw [show (f.fl false n l).stl = f.fl false n l from rfl, F.same_self]; rfl
  · rw [show (f.fl true n l).stl = f.fl true false false from rfl, Bool.eq_iff_iff, F.same_iff]
    cases n <;> cases l <;> simp [F.fl]
def gw (w : Int) : Bool := w == 0 || w == 1 || w == 2 || w == 4 || w == 6
def F.flagged (f : F) (w : Int) : F := f.fl (w == 1) (w == 2 || w == 6) (w == 4 || w == 6)
def flaggedV (f : F) (w : Int) : Value := if gw w then .tuple #[(f.flagged w).v, .int .i64 0] else .tuple #[F.zero.v, .int .i64 80]
theorem flagged_any (W : World) (f : F) (w : Int) (h0 : 0 ≤ w) : Calls Tryz.prog 171 #[f.v, .int .u32 w] W fun e W' => e = .returned (flaggedV f w) ∧ Below W.heap.size W W' := by
  by_cases h8 : 8 ≤ w
  · have hg : gw w = false := by simp only [gw, Bool.or_eq_false_iff, beq_eq_false_iff_ne]; omega
    unfold flaggedV
    rw [hg]
    exact flagged_A W f w h8
  · have hB := fun hs => flagged_B W f w (by omega) hs
    have hC := fun hs => flagged_C W f w (by omega) hs
    rw [show f.read w = f.fl (bits .and .u32 w 1 != 0) (bits .and .u32 w 2 != 0) (bits .and .u32 w 4 != 0) from rfl] at hB hC
    rw [same_stl] at hB hC
    unfold flaggedV F.flagged
    rcases (show w = 0 ∨ w = 1 ∨ w = 2 ∨ w = 3 ∨ w = 4 ∨ w = 5 ∨ w = 6 ∨ w = 7 by omega) with rfl | rfl | rfl | rfl | rfl | rfl | rfl | rfl
    · exact hB (by decide)
    · exact hB (by decide)
    · exact hB (by decide)
    · exact hC (by decide)
    · exact hB (by decide)
    · exact hC (by decide)
    · exact hB (by decide)
    · exact hC (by decide)
end Go.Proofs.YtildhjiddidghaaGreatDoor.R
namespace Go.Proofs.YtildhjiddidghaaGreatDoor.R
open Go.RowKit
set_option maxRecDepth 100000
set_option maxHeartbeats 1000000
attribute [-simp] Tryz.isAgg191 Tryz.sizeOf191 Tryz.isAgg207 Tryz.sizeOf207 Tryz.isAgg189
theorem under45 : Tryz.prog.underlying 40 = some (.slice 22) := by kernel_rfl
def zs17 : List Value := List.replicate 17 (.int .u32 0)
def pk (r : Nat → Int) (p q : Int) : List Value := rs r ++ [.int .u32 p, .int .u32 q]
theorem wp_store_st {P : Program} {op : Oper} {a : Act} {w : World} {K : Act → World → Prop} {Q : Exit → Act → World → Prop} (ty : TypeId) (x y : Operand) (ho : op.op = .store ty x y)
    (g : Nat) (vs : List Value) (hx : a.eval x = .pointer (some ⟨g, 0, none⟩)) (hy : a.eval y = .agg vs.toArray) {e : TypeId} {cs : List Value} (hg : Cel w g e cs) (hi : (P.info? ty).map (·.size) = some vs.length) (hl : cs.length = vs.length) (h1 : vs.all (·.oneCell') = true)
    (h : K (a.put op.dst undef) (w.setRow g vs.toArray)) : op.wp P a w K Q := by
  have hs : (Instr.storeAt ty (.pointer (some ⟨g, 0, none⟩)) (.agg vs.toArray)).run P w = .ok () (w.setRow g vs.toArray) := by
    simp only [Instr.storeAt, Instr.sureAddr, Sem.run_bind, Sem.run_pure, Result.andThen]
    exact run_storeVar_row w g e ty _ _ hg (by rw [hi]; simp) (by simp [hl]) (by simpa using h1)
  unfold Oper.wp execOp
  simp only [ho, hx, hy, Sem.run_bind, Sem.run_pure, hs, Result.andThen_ok]
  exact h
structure Pq (W X : World) (f : F) : Prop where
  box : Cel X W.heap.size 191 f.cs
  res : Cel X (W.heap.size + 1) 46 zs17
  below : Below W.heap.size W X
theorem Pq.on {W X Y : World} {f : F} (h : Pq W X f) (hb : Below X.heap.size X Y) : Pq W Y f := ⟨h.box.on hb, h.res.on hb, below_on h.below hb⟩
theorem Pq.gt {W X : World} {f : F} (h : Pq W X f) : W.heap.size + 2 ≤ X.heap.size := h.res.lt
theorem Pq.but {W X Y : World} {f : F} {g : Nat} (h : Pq W X f) (hg : W.heap.size + 2 ≤ g) (hb : ButL [g] X Y) : Pq W Y f :=
  ⟨h.box.but hb (by rw [List.mem_singleton]; omega), h.res.but hb (by rw [List.mem_singleton]; omega), h.below.trans (hb.below (by simp; omega) h.below.size)⟩
theorem Pq.ret {W X w' : World} {f : F} {vs : List Value} (h : Pq W X f) (hc : Cel w' (W.heap.size + 1) 46 vs) (hb : ButL [W.heap.size + 1] X w') : Cel w' (W.heap.size + 1) 46 vs ∧ Below W.heap.size W w' :=
  ⟨hc, h.below.trans (hb.below (by simp) h.below.size)⟩
end Go.Proofs.YtildhjiddidghaaGreatDoor.R
namespace Go.Proofs.YtildhjiddidghaaGreatDoor.R
open Go.RowKit
set_option maxRecDepth 100000
set_option maxHeartbeats 1000000
attribute [-simp] Tryz.isAgg191 Tryz.sizeOf191 Tryz.isAgg207 Tryz.sizeOf207 Tryz.isAgg189
structure W17 (W : World) (g o : Nat) (x : Nat → Int) : Prop where
  lt : g < W.heap.size
  at' : ∀ k, k < 17 → W.cell? ⟨g, o + k, none⟩ = some (.int .u32 (x k))
theorem W17.on {W w : World} {g o : Nat} {x : Nat → Int} (h : W17 W g o x) (hb : Below W.heap.size W w) : W17 w g o x :=
  ⟨Nat.lt_of_lt_of_le h.lt hb.size, fun k hk => (hb.cell (p := ⟨g, o + k, none⟩) h.lt).trans (h.at' k hk)⟩
def up (x : Nat → Int) (p : Int) : F := ⟨x, p, false, false, false⟩
def unpackV (x : Nat → Int) : Value := flaggedV (up x (x 15)) (x 16)
theorem flaggedV_form (f : F) (w : Int) : ∃ f' e, flaggedV f w = .tuple #[F.v f', .int .i64 e] := by
  unfold flaggedV
  split
  · exact ⟨_, _, rfl⟩
  · exact ⟨_, _, rfl⟩
structure Pu (W X : World) (gf g o : Nat) (x : Nat → Int) (f : F) : Prop where
  gt : W.heap.size < gf
  res : Cel X W.heap.size 191 F.zero.cs
  fil : Cel X gf 191 f.cs
  wds : W17 X g o x
  below : Below W.heap.size W X
theorem Pu.on {W X Y : World} {gf g o : Nat} {x : Nat → Int} {f : F} (h : Pu W X gf g o x f) (hb : Below X.heap.size X Y) : Pu W Y gf g o x f := ⟨h.gt, h.res.on hb, h.fil.on hb, h.wds.on hb, below_on h.below hb⟩
theorem Pu.set {W X w' : World} {gf g o : Nat} {x : Nat → Int} {f f' : F} (hg : g < W.heap.size) (h : Pu W X gf g o x f) (hc : Cel w' gf 191 f'.cs) (hb : ButL [gf] X w') : Pu W w' gf g o x f' := by
  have ht := h.gt
  have hB : Below W.heap.size X w' := hb.below (by simp; omega) h.below.size
  exact ⟨ht, h.res.but hb (by rw [List.mem_singleton]; omega), hc, ⟨Nat.lt_of_lt_of_le h.wds.lt hb.size, fun k hk => (hB.cell (p := ⟨g, o + k, none⟩) hg).trans (h.wds.at' k hk)⟩, h.below.trans hB⟩
theorem pu_new {W X : World} {g o : Nat} {x : Nat → Int} (hr : Cel X W.heap.size 191 F.zero.cs) (hw : W17 X g o x) (hb : Below W.heap.size W X) : Pu W (X.alloc (.cells #[.int .u32 0, .int .u32 0, .int .u32 0, .int .u32 0, .int .u32 0, .int .u32 0, .int .u32 0, .int .u32 0, .int .u32 0, .int .u32 0, .int .u32 0, .int .u32 0, .int .u32 0, .int .u32 0, .int .u32 0, .int .u32 0, .bool false, .bool false, .bool false] 191)) X.heap.size g o x F.zero := by
  rw [zc]
  exact ⟨hr.lt, hr.on (below_one _ _), Cel.new X 191 F.zero.cs, hw.on (below_one _ _), below_on hb (below_one _ _)⟩
theorem Pu.ret {W X w' : World} {gf g o : Nat} {x : Nat → Int} {f f' : F} (h : Pu W X gf g o x f) (hc : Cel w' W.heap.size 191 f'.cs) (hb : ButL [W.heap.size] X w') : Cel w' W.heap.size 191 f'.cs ∧ Below W.heap.size W w' :=
  ⟨hc, h.below.trans (hb.below (by simp) h.below.size)⟩
structure Su (X : World) (gf g o : Nat) (x : Nat → Int) (f : F) : Prop where
  fil : Cel X gf 191 f.cs
  wds : W17 X g o x
theorem Pu.su {W X : World} {gf g o : Nat} {x : Nat → Int} {f : F} (h : Pu W X gf g o x f) : Su X gf g o x f := ⟨h.fil, h.wds⟩
theorem Pu.su' {W X w' : World} {gf g o : Nat} {x : Nat → Int} {f : F} (hg : g < W.heap.size) (h : Pu W X gf g o x f) (hb : ButL [W.heap.size] X w') : Su w' gf g o x f :=
  ⟨h.fil.but hb (by rw [List.mem_singleton]; have := h.gt; omega), ⟨Nat.lt_of_lt_of_le h.wds.lt hb.size, fun k hk => ((hb.below (B := W.heap.size) (by simp) h.below.size).cell (p := ⟨g, o + k, none⟩) hg).trans (h.wds.at' k hk)⟩⟩
theorem w17_src {w : World} {g o : Nat} {x : Nat → Int} (h : W17 w g o x) : ∀ j v, (rs x)[j]? = some v → w.cell? ((⟨g, o, none⟩ : Addr).add j) = some v := fun j v hv => by
  rw [Addr.add_mid]
  have hj : j < 15 := by
    by_cases hj : j < 15
    · exact hj
    · rw [List.getElem?_eq_none (by rw [rs_len]; omega)] at hv; cases hv
  rw [rs_at _ _ hj] at hv
  rw [h.at' j (by omega)]
  exact hv
theorem up_cs (x y : Nat → Int) (p : Int) : (up y p).cs.toArray.toList.take 0 ++ (rs x ++ (up y p).cs.toArray.toList.drop (0 + (rs x).length)) = (up x p).cs := by
  rw [rs_len]
  simp only [up, F.cs, List.take_zero, List.nil_append, Nat.zero_add]
  rw [List.drop_append_of_le_length (by rw [rs_len]; decide), List.drop_of_length_le (by rw [rs_len]; decide)]
  rfl
theorem unpack_yes (W : World) (g o c : Nat) (x : Nat → Int) (hw : W17 W g o x) (h0 : 0 ≤ x 16) : Calls Tryz.prog 150 #[.slice (some ⟨g, o, none⟩) 17 c] W fun e W' => e = .returned (unpackV x) ∧ Below W.heap.size W W' := by
  have hlt := hw.lt
  have hb := hid (below_one W (.cells #[.int .u32 0, .int .u32 0, .int .u32 0, .int .u32 0, .int .u32 0, .int .u32 0, .int .u32 0, .int .u32 0, .int .u32 0, .int .u32 0, .int .u32 0, .int .u32 0, .int .u32 0, .int .u32 0, .int .u32 0, .int .u32 0, .bool false, .bool false, .bool false] 191))
  have c1 : Hid (Cel (W.alloc (.cells #[.int .u32 0, .int .u32 0, .int .u32 0, .int .u32 0, .int .u32 0, .int .u32 0, .int .u32 0, .int .u32 0, .int .u32 0, .int .u32 0, .int .u32 0, .int .u32 0, .int .u32 0, .int .u32 0, .int .u32 0, .int .u32 0, .bool false, .bool false, .bool false] 191)) W.heap.size 191 F.zero.cs) := by rw [zc]; exact hid (Cel.new W 191 F.zero.cs)
  have HW := hid (hw.on hb.out)
  have HL := hid hlt
  have y15 := HW.out.at' 15 (by decide)
  have HU := hid (pu_new c1.out HW.out hb.out)
  have z15 := HU.out.wds.at' 15 (by decide)
  obtain ⟨f', er, hf⟩ := flaggedV_form (up x (x 15)) (x 16)
  have HV : Hid (Value.tuple #[F.v f', .int .i64 er] = unpackV x) := hid hf.symm
  have HF : Hid (∀ w, Calls Tryz.prog 171 #[(up x (x 15)).v, .int .u32 (x 16)] w fun e W' => e = .returned (.tuple #[F.v f', .int .i64 er]) ∧ Below w.heap.size w W') := hid fun w => by rw [← hf]; exact flagged_any w _ _ h0
  clear hf h0 hw
  generalize x 15 = p at *
  obtain ⟨q, HQ16⟩ : ∃ q, Hid (x 16 = q) := ⟨_, rfl⟩
  rw [HQ16.out] at HF
  go_enter Tryz.func150, Tryz.ntmps150
  go_upto_region 1 with fail
  generalize hX : W.alloc _ = X at *
  clear hX
  go_wp2_with (first | (refine wpList_build_pc rfl _ rfl p rfl ?_) | (refine wpList_store_f rfl _ _ rfl X.heap.size F.zero (up (fun _ => 0) p) rfl rfl HU.out.fil ?_; intro w1 hc1 hb1 hs1; have HU1 := hid (HU.out.set HL.out hc1 hb1); clear hc1 hb1 hs1 HU) | (refine wpList_copy_own rfl _ _ 40 40 rfl 22 under45 size22 X.heap.size 0 15 15 ⟨g, o, none⟩ 17 c rfl rfl _ 191 HU1.out.fil (rs x) (by rw [rs_len]; rfl) (w17_src HU1.out.wds) (by rw [rs_len]; simp [F.len]) (fun v hv => List.all_eq_true.1 (rs_all x) v hv) ?_; rw [up_cs]; have HU2 := hid (HU1.out.set HL.out (HU1.out.fil.set (up x p).cs) (ButL.setRow _ _ _ (by simp))); clear HU1))
  generalize hg : X.heap.size = gf at *
  clear hg
  generalize hz : World.setRow _ gf _ = Y at *
  clear hz
  have HU := hid (HU2.out.on (Below.refl _ _).drew)
  clear HU2
  refine wp_region_held_drew (S := fun x' => Su x' gf g o x (up x p)) (by kernel_rfl) HU.out.su (fun hHeld => ?_)
  refine tk 0 (some 17) ((up x p).v) ?_ (hy := yieldsIf_load_mid (by rfl) 191 _ rfl gf 0 rfl (up x p).cs _ (fun w hSw => hSw.fil.range) under27 rfl (by rw [size27, F.len]))
  simp only [Act.put, tqA, tqZ, tqS]
  refine tk 1 (some 18) (.slice (some ⟨g, o, none⟩) 17 c) ?_
  simp only [Act.put, tqA, tqZ, tqS]
  refine tk 2 (some 19) (.pointer (some ⟨g, o + 16, none⟩)) ?_
  simp only [Act.put, tqA, tqZ, tqS]
  refine tk 3 (some 20) (.int .u32 q) ?_ (hy := Or.inl ⟨by rfl, by intro w hSw; have y := hSw.wds.at' 16 (by decide); rw [HQ16.out] at y; go_simp⟩)
  simp only [Act.put, tqA, tqZ, tqS]
  refine wpAnyH_ready (rs := [4]) (by kernel_rfl) (by simp) (AllReadyH.cons (o := ⟨some 21, .call { callee := .value (.func 171), args := #[.tmp 17, .tmp 20], argTypes := #[191, 22] }, 192, "pack.go:26", #[⟨0, .data⟩, ⟨3, .data⟩], none⟩) rfl (fun KQ hK => ?_) AllReadyH.nil)
  go_simp
  refine (HF.out _).mono ?_
  rintro e w2 ⟨rfl, hb2⟩
  have HU3 := hid (HU.out.on hb2)
  clear hb2 HU
  go_wp2_with fail
  refine hK.out _ _ HU3.out.su (fun hHeld => ?_)
  clear hK KQ
  try simp only [Act.put, tqA, tqZ, tqS]
  refine tk 5 (some 22) f'.v ?_
  simp only [Act.put, tqA, tqZ, tqS]
  refine tk 6 (some 23) (.int .i64 er) ?_
  simp only [Act.put, tqA, tqZ, tqS]
  refine wpAnyH_ready (rs := [7]) (by kernel_rfl) (by simp) (AllReadyH.cons (o := ⟨none, .store 191 (.tmp 2) (.tmp 22), 0, "pack.go:26", #[⟨5, .data⟩, ⟨4, .chain⟩, ⟨0, .phase⟩, ⟨1, .phase⟩, ⟨2, .phase⟩, ⟨3, .phase⟩, ⟨4, .phase⟩, ⟨5, .phase⟩, ⟨6, .phase⟩], none⟩) rfl (fun KQ hK => ?_) AllReadyH.nil)
  rw [if_pos (by rfl)]
  refine wp_store_st 191 _ _ rfl W.heap.size f'.cs rfl rfl HU3.out.res (by rw [size27, F.len]) (by rw [F.len, F.len]) f'.all ?_
  have HSU := hid (HU3.out.su' HL.out (ButL.setRow _ W.heap.size f'.cs.toArray (by simp)))
  have HRR := hid (HU3.out.ret (HU3.out.res.set f'.cs) (ButL.setRow _ _ _ (by simp)))
  clear HU3
  generalize hy : World.setRow _ W.heap.size _ = Y2 at *
  clear hy
  refine hK.out _ _ HSU.out (fun hHeld => ?_)
  clear hK KQ
  try simp only [Act.put]
  refine wpAnyH_ready (rs := [8]) (by kernel_rfl) (by simp) (AllReadyH.cons (o := ⟨some 3, .assign (.tmp 23), 54, "pack.go:26", #[⟨6, .data⟩, ⟨7, .chain⟩, ⟨0, .phase⟩, ⟨1, .phase⟩, ⟨2, .phase⟩, ⟨3, .phase⟩, ⟨4, .phase⟩, ⟨5, .phase⟩, ⟨6, .phase⟩, ⟨7, .phase⟩], none⟩) rfl (fun KQ hK => ?_) AllReadyH.nil)
  go_simp
  refine hK.out _ _ HSU.out (fun hHeld => ?_)
  clear hK KQ
  try simp only [Act.put, tqA, tqZ, tqS]
  refine wpAnyH_done (by kernel_rfl) ?_ _
  go_wp2_with fail
  refine ret_st2 rfl rfl W.heap.size _ rfl HRR.out.1 under27 rfl (by rw [size27]; simp [F.len]) ⟨congrArg _ HV.out, HRR.out.2⟩
end Go.Proofs.YtildhjiddidghaaGreatDoor.R
