import Derived.Test.YtdfnbcbnmiohnaaGreatDoorChecked
import Derived.Test.YtdfnbcbnmiohnaaGreatDoorP01
import Derived.WalkKit
import Derived.WalkSpells
import Derived.WalkLawsBesides
import Derived.Deep.QuietTactic
import Derived.BigQuiet
import Derived.BigRegion
import Derived.Handy
import Derived.Deep.RegionHeld3
import Derived.Deep.RegionWith
import Derived.Deep.DrawnRows
import Derived.Deep.MidRow
import Derived.Deep.WholeRow
import Derived.Laws.CopyRow
import Derived.Laws.AppendOwnNone
import Derived.Lib.SliceRun
import Derived.Laws.StructEq
import Derived.Deep.DeepCutAuto
import Derived.ChangeKeysEq
import Derived.Laws.BitsAllLaws
namespace Go.Proofs.YtdfnbcbnmiohnaaGreatDoor
open Go.RowKit

theorem ret_int {k : IntKind} {a b : Int} (h : a = b) : Ending.returned (.int k a) = .returned (.int k b) := by rw [h]
theorem ret_bool {a b : Bool} (h : a = b) : Ending.returned (.bool a) = .returned (.bool b) := by rw [h]
theorem below_one (W : World) (o : Obj) : Below W.heap.size W (W.alloc o) := (Below.refl W.heap.size W).alloc (Nat.le_refl _) o
theorem below_on {X w w' : World} (h : Below X.heap.size X w) (k : Below w.heap.size w w') : Below X.heap.size X w' := h.trans (k.mono h.size)
def Cel (w : World) (g : Nat) (t : TypeId) (cs : List Value) : Prop := w.heap[g]? = some (.cells cs.toArray t (0, 0))
theorem Cel.lt {w : World} {g : Nat} {t : TypeId} {cs : List Value} (h : Cel w g t cs) : g < w.heap.size := (Array.getElem?_eq_some_iff.1 h).1
theorem Cel.below {w w' : World} {B g : Nat} {t : TypeId} {cs : List Value} (h : Cel w g t cs) (hb : Below B w w') (hg : g < B) : Cel w' g t cs := (hb.block g hg).trans h
theorem Cel.on {w w' : World} {g : Nat} {t : TypeId} {cs : List Value} (h : Cel w g t cs) (hb : Below w.heap.size w w') : Cel w' g t cs := h.below hb h.lt
theorem Cel.cell {w : World} {g : Nat} {t : TypeId} {cs : List Value} (h : Cel w g t cs) (j : Nat) : w.cell? ⟨g, j, none⟩ = cs[j]? := by
  rw [cell_of_row w g j _ t (0, 0) h]; simp
theorem Cel.range {w : World} {g : Nat} {t : TypeId} {cs : List Value} (h : Cel w g t cs) : w.rangeAt g 0 cs := fun j v hv => by rw [Nat.zero_add, h.cell j, hv]
theorem Cel.new (w : World) (t : TypeId) (cs : List Value) : Cel (w.alloc (.cells cs.toArray t)) w.heap.size t cs := heap_alloc_new _ _
theorem Cel.set {w : World} {g : Nat} {t : TypeId} {cs : List Value} (h : Cel w g t cs) (vs : List Value) : Cel (w.setRow g vs.toArray) g t vs := setRow_heap w g _ vs.toArray t _ h
theorem Cel.setCell {w : World} {g : Nat} {t : TypeId} {cs : List Value} (h : Cel w g t cs) (j : Nat) (u : Value) : Cel (w.setCell ⟨g, j, none⟩ u) g t (cs.set j u) := by
  unfold Cel at h ⊢
  rw [heap_setCell_same w g j _ t _ h, tqA]
theorem Cel.free {w : World} {g : Nat} {t : TypeId} {cs : List Value} (h : Cel w g t cs) (j : Nat) : w.frozen? ⟨g, j, none⟩ = false := frozen_of_row w g j _ t h
theorem Cel.ty {w : World} {g : Nat} {t t' : TypeId} {cs cs' : List Value} (h : Cel w g t cs) (h' : Cel w g t' cs') : t = t' := by
  unfold Cel at h h'
  rw [h] at h'
  injection h' with h'
  injection h' with _ h2 _
structure ButL (G : List Nat) (w w' : World) : Prop where
  os : w'.os = w.os
  tape : w'.tape = w.tape
  output : w'.output = w.output
  size : w.heap.size ≤ w'.heap.size
  block : ∀ k, k < w.heap.size → k ∉ G → w'.heap[k]? = w.heap[k]?
theorem ButL.refl (G : List Nat) (w : World) : ButL G w w := ⟨rfl, rfl, rfl, Nat.le_refl _, fun _ _ _ => rfl⟩
theorem ButL.trans {G : List Nat} {a b c : World} (h : ButL G a b) (h' : ButL G b c) : ButL G a c := ⟨h'.os.trans h.os, h'.tape.trans h.tape, h'.output.trans h.output, Nat.le_trans h.size h'.size, fun k hk hg => (h'.block k (by have := h.size; omega) hg).trans (h.block k hk hg)⟩
theorem ButL.trans' {G : List Nat} {g : Nat} {a b c : World} (h : ButL G a b) (h' : ButL [g] b c) (hg : a.heap.size ≤ g) : ButL G a c := ⟨h'.os.trans h.os, h'.tape.trans h.tape, h'.output.trans h.output, Nat.le_trans h.size h'.size, fun k hk hn => (h'.block k (by have := h.size; omega) (by rw [List.mem_singleton]; omega)).trans (h.block k hk hn)⟩
theorem ButL.of {G : List Nat} {w w' : World} (h : Below w.heap.size w w') : ButL G w w' := ⟨h.os, h.tape, h.output, h.size, fun k hk _ => h.block k hk⟩
theorem ButL.on {G : List Nat} {a b c : World} (h : ButL G a b) (k : Below b.heap.size b c) : ButL G a c := h.trans (.of k)
theorem ButL.below {G : List Nat} {B : Nat} {w w' : World} (h : ButL G w w') (hG : ∀ k ∈ G, B ≤ k) (hs : B ≤ w.heap.size) : Below B w w' := ⟨h.os, h.tape, h.output, h.size, fun k hk => h.block k (by omega) (fun hm => by have := hG k hm; omega)⟩
theorem ButL.mono {G G' : List Nat} {w w' : World} (h : ButL G w w') (hG : ∀ k ∈ G, k ∈ G') : ButL G' w w' := ⟨h.os, h.tape, h.output, h.size, fun k hk hn => h.block k hk (fun hm => hn (hG k hm))⟩
theorem ButL.setRow {G : List Nat} (w : World) (g : Nat) (cs : Array Value) (hg : g ∈ G) : ButL G w (w.setRow g cs) := ⟨rfl, rfl, rfl, by simp, fun k _ hk => Go.setRow_other w g k cs (fun h => hk (h ▸ hg))⟩
theorem ButL.setCell {G : List Nat} (w : World) (g j : Nat) (u : Value) (hg : g ∈ G) : ButL G w (w.setCell ⟨g, j, none⟩ u) := ⟨rfl, rfl, rfl, by simp, fun k _ hk => heap_setCell_other w ⟨g, j, none⟩ k u (fun h => hk (by have h' : k = g := h; rw [h']; exact hg))⟩
theorem Cel.but {G : List Nat} {w w' : World} {g : Nat} {t : TypeId} {cs : List Value} (h : Cel w g t cs) (hb : ButL G w w') (hg : g ∉ G) : Cel w' g t cs := (hb.block g h.lt hg).trans h

theorem hid {p : Prop} (h : p) : Hid p := h
def ptr (g : Nat) : Value := .pointer (some ⟨g, 0, none⟩)
def u32s (L : List Int) : List Value := L.map (Value.int .u32)
theorem u32s_len (L : List Int) : (u32s L).length = L.length := by simp [u32s]
structure MS where
  ns : Nat
  P : List (List Int)
  c : Int
structure Fp where
  gm : Nat
  gs : Nat
  gi : Nat
  bs : List Nat
def Fp.b (f : Fp) (k : Nat) : Nat := f.bs.getD k 0
def MS.p (m : MS) (k : Nat) : List Int := m.P.getD k []
def wd (L : List Int) (j : Nat) : Int := L.getD j 0
def Fp.all (f : Fp) : List Nat := f.gm :: f.gs :: f.gi :: f.bs
def Fp.w (f : Fp) : List Nat := f.gm :: f.bs
def MS.at (m : MS) (s : Bool) (p : Int) : Option Nat :=
  if 0 ≤ p then (if s then (if p < (m.ns : Int) then some p.toNat else none) else (if p < ((m.P.length - m.ns : Nat) : Int) then some (m.ns + p.toNat) else none)) else none
structure Mem (w : World) (f : Fp) (m : MS) : Prop where
  cel : Cel w f.gm 96 [.slice (some ⟨f.gs, 0, none⟩) m.ns m.ns, .slice (some ⟨f.gi, 0, none⟩) (m.P.length - m.ns) (m.P.length - m.ns), .int .i64 m.c]
  sec : Cel w f.gs 129 ((f.bs.take m.ns).map ptr)
  ins : Cel w f.gi 129 ((f.bs.drop m.ns).map ptr)
  len : f.bs.length = m.P.length
  ns0 : m.ns ≤ m.P.length
  most : m.P.length ≤ 128
  pg : ∀ k, k < m.P.length → Cel w (f.b k) 132 (u32s (m.p k))
  full : ∀ k, k < m.P.length → (m.p k).length = 1024
  nodup : f.bs.Nodup
theorem MS.at_lt {m : MS} {s : Bool} {p : Int} {k : Nat} (h0 : m.ns ≤ m.P.length) (h : m.at s p = some k) : k < m.P.length := by
  unfold MS.at at h
  split at h
  · cases s <;> simp at h <;> omega
  · cases h
theorem Mem.mem {w : World} {f : Fp} {m : MS} (h : Mem w f m) (k : Nat) (hk : k < m.P.length) : f.b k ∈ f.bs := by
  unfold Fp.b
  rw [List.getD_eq_getElem?_getD, List.getElem?_eq_getElem (by rw [h.len]; exact hk)]
  simp
theorem Mem.lt {w : World} {f : Fp} {m : MS} (h : Mem w f m) : ∀ k ∈ f.all, k < w.heap.size := by
  intro k hk
  simp only [Fp.all, List.mem_cons] at hk
  rcases hk with rfl | rfl | rfl | hk
  · exact h.cel.lt
  · exact h.sec.lt
  · exact h.ins.lt
  · obtain ⟨i, hi, rfl⟩ := List.mem_iff_getElem.1 hk
    have := (h.pg i (by rw [← h.len]; exact hi)).lt
    simpa [Fp.b, List.getD_eq_getElem?_getD, hi] using this
theorem Mem.frame {w w' : World} {f : Fp} {m : MS} {G : List Nat} (h : Mem w f m) (hb : ButL G w w') (hd : ∀ k ∈ f.all, k ∉ G) : Mem w' f m :=
  ⟨h.cel.but hb (hd _ (by simp [Fp.all])), h.sec.but hb (hd _ (by simp [Fp.all])), h.ins.but hb (hd _ (by simp [Fp.all])), h.len, h.ns0, h.most,
   fun k hk => (h.pg k hk).but hb (hd _ (by simp only [Fp.all, List.mem_cons]; exact .inr (.inr (.inr (h.mem k hk))))), h.full, h.nodup⟩
theorem Mem.on {w w' : World} {f : Fp} {m : MS} (h : Mem w f m) (hb : Below w.heap.size w w') : Mem w' f m := h.frame (G := []) (.of hb) (by simp)
theorem Mem.cm {w : World} {f : Fp} {m : MS} (h : Mem w f m) : w.cell? ⟨f.gm, 2, none⟩ = some (.int .i64 m.c) := h.cel.cell 2
theorem Mem.meter {w : World} {f : Fp} {m : MS} (h : Mem w f m) (c : Int) : Mem (w.setCell ⟨f.gm, 2, none⟩ (.int .i64 c)) f { m with c := c } := by
  have hb := ButL.setCell (G := [f.gm]) w f.gm 2 (.int .i64 c) (by simp)
  have h1 : f.gs ∉ [f.gm] := fun hm => by rw [List.mem_singleton] at hm; have := h.sec; rw [hm] at this; exact absurd (this.ty h.cel) (by decide)
  have h2 : f.gi ∉ [f.gm] := fun hm => by rw [List.mem_singleton] at hm; have := h.ins; rw [hm] at this; exact absurd (this.ty h.cel) (by decide)
  exact ⟨h.cel.setCell 2 _, h.sec.but hb h1, h.ins.but hb h2, h.len, h.ns0, h.most, fun k hk => (h.pg k hk).but hb (fun hm => by rw [List.mem_singleton] at hm; have := h.pg k hk; rw [hm] at this; exact absurd (this.ty h.cel) (by decide)), h.full, h.nodup⟩
theorem Mem.page {w w' : World} {f : Fp} {m : MS} (h : Mem w f m) (k : Nat) (hk : k < m.P.length) (L : List Int) (hL : L.length = 1024) (hb : ButL [f.b k] w w') (hc : Cel w' (f.b k) 132 (u32s L)) : Mem w' f { m with P := m.P.set k L } := by
  have hp := h.pg k hk
  have hne : ∀ g t cs, Cel w g t cs → t ≠ 132 → g ∉ [f.b k] := fun g t cs hg ht hm => by rw [List.mem_singleton] at hm; rw [hm] at hg; exact ht (hg.ty hp)
  refine ⟨?_, ?_, ?_, by simp [h.len], by simpa using h.ns0, by simpa using h.most, ?_, ?_, h.nodup⟩
  · simpa using h.cel.but hb (hne _ _ _ h.cel (by decide))
  · exact h.sec.but hb (hne _ _ _ h.sec (by decide))
  · exact h.ins.but hb (hne _ _ _ h.ins (by decide))
  · intro j hj
    simp only [List.length_set] at hj
    by_cases e : j = k
    · subst e
      simp only [MS.p, List.getD_eq_getElem?_getD, List.getElem?_set_self hj, Option.getD_some] at hc ⊢
      exact hc
    · have := (h.pg j hj).but hb (by
        rw [List.mem_singleton]
        intro he
        have h1 : j < f.bs.length := by rw [h.len]; exact hj
        have h2 : k < f.bs.length := by rw [h.len]; exact hk
        simp only [Fp.b, List.getD_eq_getElem?_getD, List.getElem?_eq_getElem h1, List.getElem?_eq_getElem h2, Option.getD_some] at he
        rcases Nat.lt_or_gt_of_ne e with hlt | hlt
        · exact List.pairwise_iff_getElem.1 h.nodup j k h1 h2 hlt he
        · exact List.pairwise_iff_getElem.1 h.nodup k j h2 h1 hlt he.symm)
      simpa [MS.p, List.getD_eq_getElem?_getD, List.getElem?_set_ne (Ne.symm e)] using this
  · intro j hj
    simp only [List.length_set] at hj
    by_cases e : j = k
    · subst e; simp [MS.p, List.getD_eq_getElem?_getD, List.getElem?_set_self hj, hL]
    · simpa [MS.p, List.getD_eq_getElem?_getD, List.getElem?_set_ne (Ne.symm e)] using h.full j hj
theorem Mem.secAt {w : World} {f : Fp} {m : MS} (h : Mem w f m) (k : Nat) (hk : k < m.ns) : w.cell? ⟨f.gs, k, none⟩ = some (ptr (f.b k)) := by
  have := h.len; have := h.ns0
  rw [h.sec.cell k, List.getElem?_map, List.getElem?_take_of_lt hk, List.getElem?_eq_getElem (by omega)]
  simp [Fp.b, List.getD_eq_getElem?_getD, List.getElem?_eq_getElem (show k < f.bs.length by omega)]
theorem Mem.insAt {w : World} {f : Fp} {m : MS} (h : Mem w f m) (k : Nat) (hk : k < m.P.length - m.ns) : w.cell? ⟨f.gi, k, none⟩ = some (ptr (f.b (m.ns + k))) := by
  have := h.len; have := h.ns0
  rw [h.ins.cell k, List.getElem?_map, List.getElem?_drop, List.getElem?_eq_getElem (by omega)]
  simp [Fp.b, List.getD_eq_getElem?_getD, List.getElem?_eq_getElem (show m.ns + k < f.bs.length by omega)]
def pv (f : Fp) : Option Nat → Value
  | none => .pointer none
  | some k => ptr (f.b k)
def fr (s : Bool) (p : Int) : Value := .agg #[.bool s, .int .i64 p]

theorem ret_st {P : Program} {fn : Func} {p : Tmp} {ty e : TypeId} {fr : Nat × Nat} {d : TypeDesc} {a : Act} {w : World} {post : Ending → World → Prop} (hr : fn.results = #[.cell p ty]) (hd : a.defers = []) (g : Nat) (cs : Array Value)
    (hp : a.tmps.getD p undef = .pointer (some ⟨g, 0, none⟩)) (hg : w.heap[g]? = some (.cells cs e fr)) (hu : P.underlying ty = some d) (hdd : (match d with | .struct _ | .array _ _ => true | _ => false) = true) (hi : (P.info? ty).map (·.size) = some cs.size) (h : post (.returned (.agg cs)) w) :
    bodyPost P fn post .ret a w := bodyPost_ret (results_cell_row hr _ _ g e _ fr _ hp hg hu hdd hi) hd h
theorem ret_st2 {P : Program} {fn : Func} {p q : Tmp} {ty e : TypeId} {d : TypeDesc} {a : Act} {w : World} {post : Ending → World → Prop} (hr : fn.results = #[.cell p ty, .tmp q]) (hd : a.defers = []) (g : Nat) (cs : List Value)
    (hp : a.tmps.getD p undef = .pointer (some ⟨g, 0, none⟩)) (hb : Cel w g e cs) (hu : P.underlying ty = some d) (hdd : (match d with | .struct _ | .array _ _ => true | _ => false) = true) (hi : (P.info? ty).map (·.size) = some cs.length) (h : post (.returned (.tuple #[.agg cs.toArray, a.tmps.getD q undef])) w) :
    bodyPost P fn post .ret a w := by
  refine bodyPost_ret (v := .tuple #[.agg cs.toArray, a.tmps.getD q undef]) ?_ hd h
  have hp' : a.tmps[p]?.getD undef = .pointer (some ⟨g, 0, none⟩) := by simpa using hp
  have := run_loadVar_row (P := P) w g e ty _ (0, 0) _ hb hu hdd (by rw [hi]; simp)
  simp [results, hr, hp', asAddr, this]
theorem wpList_store_st {P : Program} {ops : Array Oper} {rest : List Oper} {o : Oper} {a : Act} {w : World} {Q : Exit → Act → World → Prop} (hgd : o.guard = none) (ty : TypeId) (x y : Operand) (ho : o.op = .store ty x y)
    (g : Nat) (vs : List Value) (hx : a.eval x = .pointer (some ⟨g, 0, none⟩)) (hy : a.eval y = .agg vs.toArray) {e : TypeId} {cs : List Value} (hg : Cel w g e cs) (hi : (P.info? ty).map (·.size) = some vs.length) (hl : cs.length = vs.length) (h1 : vs.all (·.oneCell') = true)
    (h : ∀ w', Cel w' g e vs → ButL [g] w w' → w'.heap.size = w.heap.size → wpList P ops Q rest (a.put o.dst undef) w') : wpList P ops Q (o :: rest) a w :=
  wpList_store_row hgd ty x y ho g _ hx hy e _ hg (by rw [hi]; simp) (by simp [hl]) (by simpa using h1) (h _ (hg.set _) (ButL.setRow _ _ _ (by simp)) (by simp))
theorem wp_store_st {P : Program} {op : Oper} {a : Act} {w : World} {K : Act → World → Prop} {Q : Exit → Act → World → Prop} (ty : TypeId) (x y : Operand) (ho : op.op = .store ty x y)
    (g : Nat) (vs : List Value) (hx : a.eval x = .pointer (some ⟨g, 0, none⟩)) (hy : a.eval y = .agg vs.toArray) {e : TypeId} {cs : List Value} (hg : Cel w g e cs) (hi : (P.info? ty).map (·.size) = some vs.length) (hl : cs.length = vs.length) (h1 : vs.all (·.oneCell') = true)
    (h : ∀ w', Cel w' g e vs → ButL [g] w w' → w'.heap.size = w.heap.size → K (a.put op.dst undef) w') : op.wp P a w K Q := by
  have hs : (Instr.storeAt ty (.pointer (some ⟨g, 0, none⟩)) (.agg vs.toArray)).run P w = .ok () (w.setRow g vs.toArray) := by
    simp only [Instr.storeAt, Instr.sureAddr, Sem.run_bind, Sem.run_pure, Result.andThen]
    exact run_storeVar_row w g e ty _ _ hg (by rw [hi]; simp) (by simp [hl]) (by simpa using h1)
  unfold Oper.wp execOp
  simp only [ho, hx, hy, Sem.run_bind, Sem.run_pure, hs, Result.andThen_ok]
  exact h _ (hg.set _) (.setRow _ _ _ (by simp)) (by simp)
theorem wpList_build_f {ops : Array Oper} {rest : List Oper} {o : Oper} {a : Act} {w : World} {Q : Exit → Act → World → Prop} (hgd : o.guard = none) (t : TypeId) (xs : Array (Nat × Operand)) (ho : o.op = .build t xs)
    (ps : Array (Nat × Value)) (hp : xs.map (fun x => (x.1, a.eval x.2)) = ps) (cs : Array Value) (hb : Tryz.prog.built t ps.toList = some cs)
    (h : wpList Tryz.prog ops Q rest (a.put o.dst (.agg cs)) w) : wpList Tryz.prog ops Q (o :: rest) a w := by
  refine wpList_plain hgd fun K hK => ?_
  unfold Oper.wp execOp
  simp only [ho, Sem.run_bind, hp, run_build w t ps _ hb, Result.andThen_ok]
  exact hK _ _ h

structure En where
  t : Int
  o : Int
  r : Int
  s : Int
  e : Bool
def En.cs (x : En) : List Value := [.int .i64 x.t, .int .i64 x.o, .int .i64 x.r, .int .i64 x.s, .bool x.e]
def En.v (x : En) : Value := .agg x.cs.toArray
def En.zero : En := ⟨0, 0, 0, 0, false⟩
def En.same (x y : En) : Bool := x.t == y.t && (x.o == y.o && (x.r == y.r && (x.s == y.s && x.e == y.e)))
theorem En.same_iff (x y : En) : x.same y = true ↔ x = y := by
  obtain ⟨a, b, c, d, e⟩ := x
  obtain ⟨a', b', c', d', e'⟩ := y
  simp [En.same]
def two (a b : Int) : List Value := [.int .u32 a, .int .u32 b]
def twoV (a b : Int) : Value := .agg (two a b).toArray
def same2 (a b c d : Int) : Bool := a == c && b == d
theorem under3 : Tryz.prog.underlying 3 = some (.int .i64) := by kernel_rfl
theorem under4 : Tryz.prog.underlying 4 = some .bool := by kernel_rfl
theorem underW : Tryz.prog.underlying 43 = some (.int .u32) := by kernel_rfl
theorem underT : Tryz.prog.underlying 27 = some (.int .i64) := by kernel_rfl
theorem underS : Tryz.prog.underlying 28 = some (.int .i64) := by kernel_rfl
theorem underE : Tryz.prog.underlying 30 = some (.struct (Tryz.prog.fieldsOf 30)) := by kernel_rfl
theorem underR : Tryz.prog.underlying 144 = some (.struct (Tryz.prog.fieldsOf 144)) := by kernel_rfl
theorem underA : Tryz.prog.underlying 162 = some (.array 2 43) := by kernel_rfl
theorem sizeW : (Tryz.prog.info? 43).map (·.size) = some 1 := by kernel_rfl
theorem sizeE : (Tryz.prog.info? 30).map (·.size) = some 5 := by kernel_rfl
theorem sizeR : (Tryz.prog.info? 144).map (·.size) = some 5 := by kernel_rfl
theorem sizeA : (Tryz.prog.info? 162).map (·.size) = some 2 := by kernel_rfl
theorem fieldsE : (Tryz.prog.fieldsOf 30).toList.map (fun f => (f.name, f.type, f.offset)) = [("Type", 27, 0), ("Owner", 3, 1), ("Refs", 3, 2), ("State", 28, 3), ("Entered", 4, 4)] := by kernel_rfl
theorem part_i {T : TypeId} (hT : Tryz.prog.underlying T = some (.int .i64)) (w : World) (f : List Value) (k : Nat) (x : Int) (h : f[k]? = some (.int .i64 x)) : (part T f.toArray k).run Tryz.prog w = .ok (.int .i64 x) w := by
  simp [part, isAgg, run_underlying hT, h]
theorem part_b (w : World) (f : List Value) (k : Nat) (x : Bool) (h : f[k]? = some (.bool x)) : (part 4 f.toArray k).run Tryz.prog w = .ok (.bool x) w := by
  simp [part, isAgg, run_underlying under4, h]
theorem run_equalIn_en {T A B : TypeId} (hu : Tryz.prog.underlying T = some (.struct (Tryz.prog.fieldsOf T))) (hA : Tryz.prog.underlying A = some (.int .i64)) (hB : Tryz.prog.underlying B = some (.int .i64))
    (h : (Tryz.prog.fieldsOf T).toList.map (fun f => (f.name, f.type, f.offset)) = [("Type", A, 0), ("Owner", 3, 1), ("Refs", 3, 2), ("State", B, 3), ("Entered", 4, 4)])
    (hn : Tryz.prog.stoodInHeld T = false) (w : World) (d : Nat) (x y : En) : (Op.equalIn (d + 4) T x.v y.v).run Tryz.prog w = .ok (x.same y) w := by
  rw [En.v, En.v, run_equalIn_struct w (d + 3) T _ _ hu hn]
  generalize (Tryz.prog.fieldsOf T).toList = L at h ⊢
  have hl : L.length = 5 := by have := congrArg List.length h; simpa using this
  match L, hl with
  | [f1, f2, f3, f4, f5], _ =>
    simp only [List.map_cons, List.map_nil, List.cons.injEq, Prod.mk.injEq, and_true] at h
    obtain ⟨⟨a1, a2, a3⟩, ⟨b1, b2, b3⟩, ⟨c1, c2, c3⟩, ⟨d1, d2, d3⟩, e1, e2, e3⟩ := h
    have eA := fun (x y : Int) => run_equalIn_int (P := Tryz.prog) w (d + 2) A .i64 .i64 x y hA
    have eB := fun (x y : Int) => run_equalIn_int (P := Tryz.prog) w (d + 2) B .i64 .i64 x y hB
    have e3' := fun (x y : Int) => run_equalIn_int (P := Tryz.prog) w (d + 2) 3 .i64 .i64 x y under3
    have e4 := fun (x y : Bool) => run_equalIn_bool' (P := Tryz.prog) w (d + 2) 4 x y under4
    have p0 := fun (z : En) => part_i hA w z.cs 0 z.t rfl
    have p1 := fun (z : En) => part_i under3 w z.cs 1 z.o rfl
    have p2 := fun (z : En) => part_i under3 w z.cs 2 z.r rfl
    have p3 := fun (z : En) => part_i hB w z.cs 3 z.s rfl
    have p4 := fun (z : En) => part_b w z.cs 4 z.e rfl
    simp only [Op.eqFields, a1, a2, a3, b1, b2, b3, c1, c2, c3, d1, d2, d3, e1, e2, e3, Sem.run_bind, p0, p1, p2, p3, p4, Result.andThen_ok, eA, eB, e3', e4, Sem.run_ite, Sem.run_pure]
    unfold En.same
    cases (x.t == y.t) <;> cases (x.o == y.o) <;> cases (x.r == y.r) <;> cases (x.s == y.s) <;> cases (x.e == y.e) <;> rfl
theorem run_equalIn_two (w : World) (d : Nat) (a b c e : Int) : (Op.equalIn (d + 2) 162 (twoV a b) (twoV c e)).run Tryz.prog w = .ok (same2 a b c e) w := by
  have hsz : ∀ w, (sizeOf 43).run Tryz.prog w = .ok 1 w := fun w => by
    have := sizeW
    cases hq : Tryz.prog.info? 43 with
    | none => simp [hq] at this
    | some i => simp [hq] at this; simp [sizeOf, typeInfo, hq, this]
  rw [twoV, twoV, Op.equalIn]
  simp only [Sem.run_bind, run_underlying underA, Result.andThen_ok, hsz, Std.Legacy.Range.forIn_eq_forIn_range', Std.Legacy.Range.size, Nat.sub_zero, Nat.add_sub_cancel, Nat.div_one]
  have p0 : ∀ (w : World) (x y : Int), (part 43 (two x y).toArray 0).run Tryz.prog w = .ok (.int .u32 x) w := fun w x y => by simp [part, isAgg, run_underlying underW, two]
  have p1 : ∀ (w : World) (x y : Int), (part 43 (two x y).toArray 1).run Tryz.prog w = .ok (.int .u32 y) w := fun w x y => by simp [part, isAgg, run_underlying underW, two]
  have pe : ∀ (w : World) (x y : Int), (Op.equalIn (d + 1) 43 (.int .u32 x) (.int .u32 y)).run Tryz.prog w = .ok (x == y) w := fun w x y => run_equalIn_int w d 43 .u32 .u32 _ _ underW
  rw [show List.range' 0 2 1 = [0, 1] from rfl]
  simp only [List.forIn_cons, List.forIn_nil, Sem.run_bind, Nat.zero_mul, Nat.one_mul, p0, pe, Result.andThen_ok, same2]
  cases h1 : (a == c)
  · simp
  · simp only [Bool.not_true, Bool.false_eq_true, if_false, Sem.run_pure, Sem.run_bind, Result.andThen_ok, p1, pe]
    cases h2 : (b == e) <;> simp
theorem stE : Tryz.prog.stoodInHeld 30 = false := by kernel_rfl
theorem guardE : Tryz.prog.eqGuardType Tryz.prog.depth 30 = false := by kernel_rfl
theorem guardA : Tryz.prog.eqGuardType Tryz.prog.depth 162 = false := by kernel_rfl
theorem eqE (w : World) (d : Nat) (x y : En) : (Op.equalIn (d + 4) 30 x.v y.v).run Tryz.prog w = .ok (x.same y) w := run_equalIn_en underE underT underS fieldsE stE w d x y
theorem exec_ne {a : Act} {w : World} {o : Oper} (T : TypeId) (x y : Operand) (ho : o.op = .binOp .neq T x y T) (u v : Array Value) (hx : a.eval x = .agg u) (hy : a.eval y = .agg v) (hg : Tryz.prog.eqGuardType Tryz.prog.depth T = false) (b : Bool) (hb : (Op.equalIn 10000 T (.agg u) (.agg v)).run Tryz.prog w = .ok b w) :
    (execOp a.eval o).run Tryz.prog w = .ok (.value (.bool (!b))) w := by
  have hg' : (eqGuard .neq T x y (.agg u) (.agg v)).run Tryz.prog w = .ok () w := run_eqGuard_agg w .neq T x y _ _ hg
  have hr : (binOp .neq T (.agg u) (.agg v)).run Tryz.prog w = .ok (.bool (!b)) w := by rw [run_neq_struct, hb]; rfl
  unfold execOp
  simp only [ho, hx, hy, Sem.run_bind, Sem.run_pure, hg', hr, Result.andThen_ok]
theorem wpList_ne {ops : Array Oper} {rest : List Oper} {o : Oper} {a : Act} {w : World} {Q : Exit → Act → World → Prop} (hw : Region.wanted o (yielded ops a.tmps) = true) (T : TypeId) (x y : Operand) (ho : o.op = .binOp .neq T x y T) (u v : Array Value) (hx : a.eval x = .agg u) (hy : a.eval y = .agg v) (hg : Tryz.prog.eqGuardType Tryz.prog.depth T = false) (b : Bool) (hb : (Op.equalIn 10000 T (.agg u) (.agg v)).run Tryz.prog w = .ok b w)
    (h : wpList Tryz.prog ops Q rest (a.put o.dst (.bool (!b))) w) : wpList Tryz.prog ops Q (o :: rest) a w := by
  rw [wpList, if_pos hw]
  refine .inl ?_
  unfold Oper.wp
  rw [exec_ne T x y ho u v hx hy hg b hb]
  exact h
def En.used (x : En) : En := if x.t = 1 then ⟨x.t, x.o, x.r, x.s, false⟩ else if x.t = 2 then ⟨x.t, x.o, 0, 0, x.e⟩ else if x.t = 3 ∨ x.t = 4 ∨ x.t = 5 ∨ x.t = 6 then ⟨x.t, x.o, 0, 0, false⟩ else En.zero
def blw (n : Int) : Bool := decide (0 ≤ n ∧ n < 64)
def fit (s t : Int) : Bool := if t = 1 then decide (0 < s ∧ s < 4) else s == 0
def En.ok (x : En) : Bool := x.same x.used && (blw x.o && (blw x.r && fit x.s x.t))
structure En.Ok (x : En) : Prop where
  t0 : 0 ≤ x.t
  t1 : x.t ≤ 6
  o0 : 0 ≤ x.o
  o1 : x.o < 64
  r0 : 0 ≤ x.r
  r1 : x.r < 64
  s0 : 0 ≤ x.s
  s1 : x.s < 4
  z : x.t = 0 → x.o = 0
  sp : x.t = 1 → 1 ≤ x.s
  ns : x.t ≠ 1 → x.r = 0 ∧ x.s = 0
  en : x.e = true → x.t = 2
theorem En.ok_iff (x : En) : x.ok = true ↔ x.Ok := by
  obtain ⟨t, o, r, s, e⟩ := x
  simp only [En.ok, Bool.and_eq_true, En.same_iff, blw, fit, decide_eq_true_eq, En.used]
  constructor
  · rintro ⟨h, ho, hr, hs⟩
    split at h
    · rename_i ht
      subst ht
      simp only [En.mk.injEq, true_and] at h
      simp only [if_true, decide_eq_true_eq] at hs
      exact ⟨by simp, by simp, ho.1, ho.2, hr.1, hr.2, by simp only; omega, by simp only; omega, by simp, by simp only; omega, by simp, by simp [h]⟩
    · rename_i h1
      rw [if_neg h1] at hs
      simp only [beq_iff_eq] at hs
      split at h
      · rename_i h2
        subst h2
        simp only [En.mk.injEq, true_and, and_true] at h
        exact ⟨by simp, by simp, ho.1, ho.2, hr.1, hr.2, by simp only; omega, by simp only; omega, by simp, by simp, by simp only; omega, by simp⟩
      · split at h
        · rename_i h2 h3
          simp only [En.mk.injEq, true_and] at h
          exact ⟨by simp only; omega, by simp only; omega, ho.1, ho.2, hr.1, hr.2, by simp only; omega, by simp only; omega, by simp only; omega, by simp only; omega, by simp only; omega, by simp [h]⟩
        · simp only [En.zero, En.mk.injEq] at h
          obtain ⟨rfl, rfl, rfl, rfl, rfl⟩ := h
          exact ⟨by simp, by simp, by simp, by simp, by simp, by simp, by simp, by simp, by simp, by simp, by simp, by simp⟩
  · rintro ⟨t0, t1, o0, o1, r0, r1, s0, s1, z, sp, ns, en⟩
    simp only at *
    refine ⟨?_, ⟨o0, o1⟩, ⟨r0, r1⟩, ?_⟩
    · by_cases h1 : t = 1
      · rw [if_pos h1]
        cases e
        · rfl
        · have := en rfl; omega
      · obtain ⟨hr, hs⟩ := ns h1
        subst hr hs
        rw [if_neg h1]
        by_cases h2 : t = 2
        · rw [if_pos h2]
        · rw [if_neg h2]
          cases e
          · by_cases h3 : t = 3 ∨ t = 4 ∨ t = 5 ∨ t = 6
            · rw [if_pos h3]
            · rw [if_neg h3]
              have h4 : t = 0 := by omega
              have h5 := z h4
              subst h4 h5
              rfl
          · exact absurd (en rfl) h2
    · by_cases h1 : t = 1
      · rw [if_pos h1]; have := sp h1; simp; omega
      · rw [if_neg h1]; simp [(ns h1).2]
def chk (x : En) : Int := if x.ok = true then 0 else 110
def En.w (x : En) : Int := x.t + 16 * x.s + 65536 * x.o + (if x.e then 256 else 0)
def fld (a b : Int) : En := ⟨a % 8, a / 65536 % 64, b % 64, a / 16 % 4, a / 256 % 2 == 1⟩
theorem En.w_range {x : En} (h : x.Ok) : 0 ≤ x.w ∧ x.w < 4294967296 := by
  obtain ⟨t0, t1, o0, o1, r0, r1, s0, s1, z, sp, ns, en⟩ := h
  unfold En.w
  split <;> omega
theorem fld_w {x : En} (h : x.Ok) : fld x.w x.r = x := by
  obtain ⟨t0, t1, o0, o1, r0, r1, s0, s1, z, sp, ns, en⟩ := h
  obtain ⟨t, o, r, s, e⟩ := x
  simp only [fld, En.w] at *
  cases e
  · simp only [Bool.false_eq_true, if_false, En.mk.injEq]
    refine ⟨by omega, by omega, by omega, by omega, ?_⟩
    rw [beq_eq_false_iff_ne]; omega
  · have ht := en rfl
    subst ht
    obtain ⟨rfl, rfl⟩ := ns (by decide)
    simp only [if_true, En.mk.injEq]
    refine ⟨by omega, by omega, by omega, by omega, ?_⟩
    rw [beq_iff_eq]; omega
def e0 (x : En) : Int := if x.ok = true then x.w else 0
def e1 (x : En) : Int := if x.ok = true then x.r else 0
def dok (a b : Int) : Bool := (fld a b).ok && same2 (e0 (fld a b)) (e1 (fld a b)) a b
def dec (a b : Int) : En := if dok a b = true then fld a b else En.zero
def decE (a b : Int) : Int := if dok a b = true then 0 else 110
theorem dok_w {x : En} (h : x.ok = true) : dok (e0 x) (e1 x) = true ∧ fld (e0 x) (e1 x) = x := by
  have hf : fld (e0 x) (e1 x) = x := by unfold e0 e1; rw [if_pos h, if_pos h]; exact fld_w (x.ok_iff.1 h)
  exact ⟨by simp [dok, hf, h, same2], hf⟩
theorem or_add (k : Nat) (a b c : Int) (hb : b = c * 2 ^ k) (ha0 : 0 ≤ a) (ha : a < 2 ^ k) (hc : 0 ≤ c) (hk : b < 4294967296) (hk2 : a < 4294967296) : bits .or .u32 a b = a + b := by
  have hp : (0 : Int) < 2 ^ k := Int.pow_pos (by decide)
  have hb0 : 0 ≤ b := by rw [hb]; exact Int.mul_nonneg hc (Int.le_of_lt hp)
  rw [u32_or a b ha0 hk2 hb0 hk]
  have e : b.toNat = c.toNat <<< k := by
    rw [Nat.shiftLeft_eq]
    have : ((c.toNat * 2 ^ k : Nat) : Int) = b := by rw [hb]; push_cast; rw [Int.toNat_of_nonneg hc]
    omega
  have e2 : a.toNat < 2 ^ k := by
    have : ((2 ^ k : Nat) : Int) = 2 ^ k := by push_cast; rfl
    omega
  rw [e, Nat.or_comm, ← Nat.shiftLeft_add_eq_or_of_lt e2, ← e]
  omega
theorem or_256 (o : Int) (h0 : 0 ≤ o) (h1 : o < 64) : bits .or .u32 (2 + 65536 * o) 256 = 2 + 65536 * o + 256 := by
  rw [u32_or _ 256 (by omega) (by omega) (by decide) (by decide)]
  have : ∀ k : Fin 64, ((2 + 65536 * k.val) ||| 256) = 2 + 65536 * k.val + 256 := by decide
  have e := this ⟨o.toNat, by omega⟩
  simp only at e
  have e2 : (2 + 65536 * o).toNat = 2 + 65536 * o.toNat := by omega
  rw [e2, show (256 : Int).toNat = 256 from rfl, e]
  omega
theorem and_mask (k : Nat) (m a : Int) (hm : m = 2 ^ k - 1) (h0 : 0 ≤ a) (h1 : a < 4294967296) (hm1 : m < 4294967296) : bits .and .u32 a m = a % 2 ^ k := by
  have hp : ((2 ^ k : Nat) : Int) = 2 ^ k := by push_cast; rfl
  have hp0 : 0 < 2 ^ k := Nat.two_pow_pos k
  rw [u32_and a m h0 h1 (by omega) hm1]
  have : m.toNat = 2 ^ k - 1 := by omega
  rw [this, Nat.and_two_pow_sub_one_eq_mod, ← hp]
  have ea : a = (a.toNat : Int) := by omega
  rw [ea]
  simp
set_option maxHeartbeats 4000000
set_option maxRecDepth 100000
theorem below_any (W : World) (n : Int) : Calls Tryz.prog 152 #[.int .i64 n] W fun e W' => e = .returned (.bool (blw n)) ∧ W = W' := by
  unfold blw
  by_cases h0 : 0 ≤ n
  · by_cases h1 : n < 64
    · have hd : decide (0 ≤ n ∧ n < 64) = true := decide_eq_true ⟨h0, h1⟩
      rw [hd]
      go_enter Tryz.func152, Tryz.ntmps152
      go_wp2
      go_ret
      exact ⟨rfl, rfl⟩
    · have hd : decide (0 ≤ n ∧ n < 64) = false := decide_eq_false (by omega)
      rw [hd]
      go_enter Tryz.func152, Tryz.ntmps152
      go_wp2
      go_ret
      exact ⟨rfl, rfl⟩
  · have hd : decide (0 ≤ n ∧ n < 64) = false := decide_eq_false (by omega)
    rw [hd]
    go_enter Tryz.func152, Tryz.ntmps152
    go_wp2
    go_ret
    exact ⟨rfl, rfl⟩
theorem fits_any (W : World) (s t : Int) : Calls Tryz.prog 153 #[.int .i64 s, .int .i64 t] W fun e W' => e = .returned (.bool (fit s t)) ∧ W = W' := by
  unfold fit
  by_cases ht : t = 1
  · subst ht
    rw [if_pos rfl]
    by_cases h0 : 0 < s
    · by_cases h1 : s < 4
      · have hd : decide (0 < s ∧ s < 4) = true := decide_eq_true ⟨h0, h1⟩
        rw [hd]
        go_enter Tryz.func153, Tryz.ntmps153
        go_wp2
        go_ret
        exact ⟨rfl, rfl⟩
      · have hd : decide (0 < s ∧ s < 4) = false := decide_eq_false (by omega)
        rw [hd]
        go_enter Tryz.func153, Tryz.ntmps153
        go_wp2
        go_ret
        exact ⟨rfl, rfl⟩
    · have hd : decide (0 < s ∧ s < 4) = false := decide_eq_false (by omega)
      rw [hd]
      go_enter Tryz.func153, Tryz.ntmps153
      go_wp2
      go_ret
      exact ⟨rfl, rfl⟩
  · rw [if_neg ht]
    have h' : (t == 1) = false := by simpa using ht
    clear ht
    go_enter Tryz.func153, Tryz.ntmps153
    go_wp2
    go_ret
    exact ⟨rfl, rfl⟩
structure Bx (W x : World) (g h : Nat) (t u : TypeId) (cs ds : List Value) : Prop where
  a : Cel x g t cs
  b : Cel x h u ds
  below : Below W.heap.size W x
  lh : W.heap.size ≤ h
theorem Bx.new (W : World) (t u : TypeId) (cs ds : List Value) : Bx W ((W.alloc (.cells cs.toArray t)).alloc (.cells ds.toArray u)) W.heap.size (W.heap.size + 1) t u cs ds := by
  have h := Cel.new (W.alloc (.cells cs.toArray t)) u ds
  rw [World.size_alloc] at h
  exact ⟨(Cel.new W t cs).on (below_one _ _), h, below_on (below_one _ _) (below_one _ _), by omega⟩
theorem Bx.on {W x x' : World} {g h : Nat} {t u : TypeId} {cs ds : List Value} (k : Bx W x g h t u cs ds) (hb : Below x.heap.size x x') : Bx W x' g h t u cs ds := ⟨k.a.on hb, k.b.on hb, below_on k.below hb, k.lh⟩
theorem Bx.put {W x x' : World} {g h : Nat} {t u : TypeId} {cs ds es : List Value} (k : Bx W x g h t u cs ds) (hc : Cel x' h u es) (hb : ButL [h] x x') : Cel x' h u es ∧ Below W.heap.size W x' :=
  ⟨hc, k.below.trans (hb.below (B := W.heap.size) (by simpa using k.lh) k.below.size)⟩
theorem used_any (W : World) (x : En) : Calls Tryz.prog 151 #[x.v] W fun e W' => e = .returned x.used.v ∧ Below W.heap.size W W' := by
  have HX := hid (Bx.new W 30 30 x.cs En.zero.cs)
  obtain ⟨t, o, r, s, e⟩ := x
  generalize hu : En.used ⟨t, o, r, s, e⟩ = u
  simp only [En.v, En.cs, En.zero] at HX ⊢
  unfold En.used at hu
  simp only [En.zero] at hu
  by_cases h1 : t = 1
  · subst h1
    rw [if_pos rfl] at hu
    subst hu
    go_enter Tryz.func151, Tryz.ntmps151
    go_upto_region 1 with fail
    generalize hX : (W.alloc _).alloc _ = X at *
    clear hX
    generalize W.heap.size + 1 = g2 at *
    generalize W.heap.size = g1 at *
    have c0 := HX.out.a.cell 0
    have c1 := HX.out.a.cell 1
    have c2 := HX.out.a.cell 2
    have c3 := HX.out.a.cell 3
    have c4 := HX.out.a.cell 4
    simp only [tqG, tqH] at c0 c1 c2 c3 c4
    go_wp2_with (refine wpList_store_st rfl 30 _ _ rfl g2 [.int .i64 1, .int .i64 o, .int .i64 r, .int .i64 s, .bool false] rfl rfl HX.out.b sizeE rfl rfl ?_; intro w2 hc2 hb2 hs2; have HF := hid (HX.out.put hc2 hb2); clear hc2 hb2 hs2)
    exact ret_st rfl rfl g2 _ rfl HF.out.1 underE rfl (by rw [sizeE]; rfl) ⟨rfl, HF.out.2⟩
  rw [if_neg h1] at hu
  by_cases h2 : t = 2
  · subst h2
    rw [if_pos rfl] at hu
    subst hu
    clear h1
    go_enter Tryz.func151, Tryz.ntmps151
    go_upto_region 1 with fail
    generalize hX : (W.alloc _).alloc _ = X at *
    clear hX
    generalize W.heap.size + 1 = g2 at *
    generalize W.heap.size = g1 at *
    have c0 := HX.out.a.cell 0
    have c1 := HX.out.a.cell 1
    have c2 := HX.out.a.cell 2
    have c3 := HX.out.a.cell 3
    have c4 := HX.out.a.cell 4
    simp only [tqG, tqH] at c0 c1 c2 c3 c4
    go_wp2_with (refine wpList_store_st rfl 30 _ _ rfl g2 [.int .i64 2, .int .i64 o, .int .i64 0, .int .i64 0, .bool e] rfl rfl HX.out.b sizeE rfl rfl ?_; intro w2 hc2 hb2 hs2; have HF := hid (HX.out.put hc2 hb2); clear hc2 hb2 hs2)
    exact ret_st rfl rfl g2 _ rfl HF.out.1 underE rfl (by rw [sizeE]; rfl) ⟨rfl, HF.out.2⟩
  rw [if_neg h2] at hu
  by_cases h3 : t = 3
  · subst h3
    rw [if_pos (by decide)] at hu
    subst hu
    clear h1 h2
    go_enter Tryz.func151, Tryz.ntmps151
    go_upto_region 1 with fail
    generalize hX : (W.alloc _).alloc _ = X at *
    clear hX
    generalize W.heap.size + 1 = g2 at *
    generalize W.heap.size = g1 at *
    have c0 := HX.out.a.cell 0
    have c1 := HX.out.a.cell 1
    have c2 := HX.out.a.cell 2
    have c3 := HX.out.a.cell 3
    have c4 := HX.out.a.cell 4
    simp only [tqG, tqH] at c0 c1 c2 c3 c4
    go_wp2_with (refine wpList_store_st rfl 30 _ _ rfl g2 [.int .i64 3, .int .i64 o, .int .i64 0, .int .i64 0, .bool false] rfl rfl HX.out.b sizeE rfl rfl ?_; intro w2 hc2 hb2 hs2; have HF := hid (HX.out.put hc2 hb2); clear hc2 hb2 hs2)
    exact ret_st rfl rfl g2 _ rfl HF.out.1 underE rfl (by rw [sizeE]; rfl) ⟨rfl, HF.out.2⟩
  by_cases h4 : t = 4
  · subst h4
    rw [if_pos (by decide)] at hu
    subst hu
    clear h1 h2 h3
    go_enter Tryz.func151, Tryz.ntmps151
    go_upto_region 1 with fail
    generalize hX : (W.alloc _).alloc _ = X at *
    clear hX
    generalize W.heap.size + 1 = g2 at *
    generalize W.heap.size = g1 at *
    have c0 := HX.out.a.cell 0
    have c1 := HX.out.a.cell 1
    have c2 := HX.out.a.cell 2
    have c3 := HX.out.a.cell 3
    have c4 := HX.out.a.cell 4
    simp only [tqG, tqH] at c0 c1 c2 c3 c4
    go_wp2_with (refine wpList_store_st rfl 30 _ _ rfl g2 [.int .i64 4, .int .i64 o, .int .i64 0, .int .i64 0, .bool false] rfl rfl HX.out.b sizeE rfl rfl ?_; intro w2 hc2 hb2 hs2; have HF := hid (HX.out.put hc2 hb2); clear hc2 hb2 hs2)
    exact ret_st rfl rfl g2 _ rfl HF.out.1 underE rfl (by rw [sizeE]; rfl) ⟨rfl, HF.out.2⟩
  by_cases h5 : t = 5
  · subst h5
    rw [if_pos (by decide)] at hu
    subst hu
    clear h1 h2 h3 h4
    go_enter Tryz.func151, Tryz.ntmps151
    go_upto_region 1 with fail
    generalize hX : (W.alloc _).alloc _ = X at *
    clear hX
    generalize W.heap.size + 1 = g2 at *
    generalize W.heap.size = g1 at *
    have c0 := HX.out.a.cell 0
    have c1 := HX.out.a.cell 1
    have c2 := HX.out.a.cell 2
    have c3 := HX.out.a.cell 3
    have c4 := HX.out.a.cell 4
    simp only [tqG, tqH] at c0 c1 c2 c3 c4
    go_wp2_with (refine wpList_store_st rfl 30 _ _ rfl g2 [.int .i64 5, .int .i64 o, .int .i64 0, .int .i64 0, .bool false] rfl rfl HX.out.b sizeE rfl rfl ?_; intro w2 hc2 hb2 hs2; have HF := hid (HX.out.put hc2 hb2); clear hc2 hb2 hs2)
    exact ret_st rfl rfl g2 _ rfl HF.out.1 underE rfl (by rw [sizeE]; rfl) ⟨rfl, HF.out.2⟩
  by_cases h6 : t = 6
  · subst h6
    rw [if_pos (by decide)] at hu
    subst hu
    clear h1 h2 h3 h4 h5
    go_enter Tryz.func151, Tryz.ntmps151
    go_upto_region 1 with fail
    generalize hX : (W.alloc _).alloc _ = X at *
    clear hX
    generalize W.heap.size + 1 = g2 at *
    generalize W.heap.size = g1 at *
    have c0 := HX.out.a.cell 0
    have c1 := HX.out.a.cell 1
    have c2 := HX.out.a.cell 2
    have c3 := HX.out.a.cell 3
    have c4 := HX.out.a.cell 4
    simp only [tqG, tqH] at c0 c1 c2 c3 c4
    go_wp2_with (refine wpList_store_st rfl 30 _ _ rfl g2 [.int .i64 6, .int .i64 o, .int .i64 0, .int .i64 0, .bool false] rfl rfl HX.out.b sizeE rfl rfl ?_; intro w2 hc2 hb2 hs2; have HF := hid (HX.out.put hc2 hb2); clear hc2 hb2 hs2)
    exact ret_st rfl rfl g2 _ rfl HF.out.1 underE rfl (by rw [sizeE]; rfl) ⟨rfl, HF.out.2⟩
  · rw [if_neg (by omega)] at hu
    subst hu
    have q1 : (t == 1) = false := by simpa using h1
    have q2 : (t == 2) = false := by simpa using h2
    have q3 : (t == 3) = false := by simpa using h3
    have q4 : (t == 4) = false := by simpa using h4
    have q5 : (t == 5) = false := by simpa using h5
    have q6 : (t == 6) = false := by simpa using h6
    clear h1 h2 h3 h4 h5 h6
    go_enter Tryz.func151, Tryz.ntmps151
    go_upto_region 1 with fail
    generalize hX : (W.alloc _).alloc _ = X at *
    clear hX
    generalize W.heap.size + 1 = g2 at *
    generalize W.heap.size = g1 at *
    have c0 := HX.out.a.cell 0
    have c1 := HX.out.a.cell 1
    have c2 := HX.out.a.cell 2
    have c3 := HX.out.a.cell 3
    have c4 := HX.out.a.cell 4
    simp only [tqG, tqH] at c0 c1 c2 c3 c4
    go_wp2_with (refine wpList_store_st rfl 30 _ _ rfl g2 [.int .i64 0, .int .i64 0, .int .i64 0, .int .i64 0, .bool false] rfl rfl HX.out.b sizeE rfl rfl ?_; intro w2 hc2 hb2 hs2; have HF := hid (HX.out.put hc2 hb2); clear hc2 hb2 hs2)
    exact ret_st rfl rfl g2 _ rfl HF.out.1 underE rfl (by rw [sizeE]; rfl) ⟨rfl, HF.out.2⟩
end Go.Proofs.YtdfnbcbnmiohnaaGreatDoor
