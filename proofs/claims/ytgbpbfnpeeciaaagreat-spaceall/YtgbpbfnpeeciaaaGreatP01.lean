import Derived.OrdersHeld
import Derived.WalkKit
import Derived.WalkSpells
import Derived.WalkLawsBesides
import Derived.Test.YtgbpbfnpeeciaaaGreatChecked
import Derived.Deep.QuietTactic
import Derived.BigQuiet
import Derived.BigRegion
import Derived.Handy
import Derived.Deep.RegionHeld3
import Derived.Deep.RegionWith
import Derived.Deep.DrawnRows
import Derived.Deep.MidRow
import Derived.Deep.WholeRow
import Derived.Laws.CopyRow
import Derived.Laws.AppendOwnNone
import Derived.Lib.SliceRun
import Derived.Laws.StructEq
import Derived.Deep.DeepCutAuto
import Derived.ChangeKeysEq
import Derived.Test.YtgbpbfnpeeciaaaGreatRows
import Derived.ProofKit
import Derived.OpenShut
import Derived.ShutString
import Derived.ChangeOld
import Derived.Below
import Derived.Deep.DeepHandedRow
import Derived.SizedLaws
import Derived.Lib.LaidTab
namespace Go.Proofs.YtgbpbfnpeeciaaaGreat
open Go.RowKit
theorem tk {P : Program} {md : Region.Mode} {ops : Array Oper} {Q : Exit → Act → World → Prop} {S : World → Prop} (i : Nat) (oi : Oper) (v : Value) {fuel : Nat} {listed : Array Bool} {a : Act} {w : World}
    (h : wpAnyH P md ops Q S fuel (listed.setIfInBounds i true) (a.put oi.dst v) w) (hi : ops[i]? = some oi := by rfl) (hs : Region.noSelect ops = true := by kernel_rfl) (hf : Region.free md ops listed i = true := by kernel_rfl) (hr : (Region.ready md ops listed).contains i = true := by kernel_rfl)
    (hQ : ∀ c a w, Q (.panic c) (a.put oi.dst v) w → Q (.panic c) a w := by exact fun _ _ _ h => h) (hy : YieldsIf P ops S oi v a := by exact Or.inl ⟨by rfl, by intro w hSw; go_simp⟩) (hS : S w := by assumption) : wpAnyH P md ops Q S (fuel + 1) listed a w :=
  wpAnyH_take hi hs hf hr hQ hy hS h
end Go.Proofs.YtgbpbfnpeeciaaaGreat
namespace Go.Proofs.YtgbpbfnpeeciaaaGreat
open Go.RowKit

theorem ret_int {k : IntKind} {a b : Int} (h : a = b) : Ending.returned (.int k a) = .returned (.int k b) := by rw [h]
theorem ret_bool {a b : Bool} (h : a = b) : Ending.returned (.bool a) = .returned (.bool b) := by rw [h]
theorem below_one (W : World) (o : Obj) : Below W.heap.size W (W.alloc o) := (Below.refl W.heap.size W).alloc (Nat.le_refl _) o
theorem below_on {X w w' : World} (h : Below X.heap.size X w) (k : Below w.heap.size w w') : Below X.heap.size X w' := h.trans (k.mono h.size)
def Cel (w : World) (g : Nat) (t : TypeId) (cs : List Value) : Prop := w.heap[g]? = some (.cells cs.toArray t (0, 0))
theorem Cel.lt {w : World} {g : Nat} {t : TypeId} {cs : List Value} (h : Cel w g t cs) : g < w.heap.size := (Array.getElem?_eq_some_iff.1 h).1
theorem Cel.below {w w' : World} {B g : Nat} {t : TypeId} {cs : List Value} (h : Cel w g t cs) (hb : Below B w w') (hg : g < B) : Cel w' g t cs := (hb.block g hg).trans h
theorem Cel.on {w w' : World} {g : Nat} {t : TypeId} {cs : List Value} (h : Cel w g t cs) (hb : Below w.heap.size w w') : Cel w' g t cs := h.below hb h.lt
theorem Cel.cell {w : World} {g : Nat} {t : TypeId} {cs : List Value} (h : Cel w g t cs) (j : Nat) : w.cell? ⟨g, j, none⟩ = cs[j]? := by
  rw [cell_of_row w g j _ t (0, 0) h]; simp
theorem Cel.range {w : World} {g : Nat} {t : TypeId} {cs : List Value} (h : Cel w g t cs) : w.rangeAt g 0 cs := fun j v hv => by rw [Nat.zero_add, h.cell j, hv]
theorem Cel.new (w : World) (t : TypeId) (cs : List Value) : Cel (w.alloc (.cells cs.toArray t)) w.heap.size t cs := heap_alloc_new _ _
theorem Cel.set {w : World} {g : Nat} {t : TypeId} {cs : List Value} (h : Cel w g t cs) (vs : List Value) : Cel (w.setRow g vs.toArray) g t vs := setRow_heap w g _ vs.toArray t _ h
theorem Cel.setCell {w : World} {g : Nat} {t : TypeId} {cs : List Value} (h : Cel w g t cs) (j : Nat) (u : Value) : Cel (w.setCell ⟨g, j, none⟩ u) g t (cs.set j u) := by
  unfold Cel at h ⊢
  rw [heap_setCell_same w g j _ t _ h, List.setIfInBounds_toArray]
theorem Cel.free {w : World} {g : Nat} {t : TypeId} {cs : List Value} (h : Cel w g t cs) (j : Nat) : w.frozen? ⟨g, j, none⟩ = false := frozen_of_row w g j _ t h
theorem Cel.ty {w : World} {g : Nat} {t t' : TypeId} {cs cs' : List Value} (h : Cel w g t cs) (h' : Cel w g t' cs') : t = t' := by
  unfold Cel at h h'
  rw [h] at h'
  injection h' with h'
  injection h' with _ h2 _
structure ButL (G : List Nat) (w w' : World) : Prop where
  os : w'.os = w.os
  tape : w'.tape = w.tape
  output : w'.output = w.output
  size : w.heap.size ≤ w'.heap.size
  block : ∀ k, k < w.heap.size → k ∉ G → w'.heap[k]? = w.heap[k]?
theorem ButL.refl (G : List Nat) (w : World) : ButL G w w := ⟨rfl, rfl, rfl, Nat.le_refl _, fun _ _ _ => rfl⟩
theorem ButL.trans {G : List Nat} {a b c : World} (h : ButL G a b) (h' : ButL G b c) : ButL G a c := ⟨h'.os.trans h.os, h'.tape.trans h.tape, h'.output.trans h.output, Nat.le_trans h.size h'.size, fun k hk hg => (h'.block k (by have := h.size; omega) hg).trans (h.block k hk hg)⟩
theorem ButL.trans' {G : List Nat} {g : Nat} {a b c : World} (h : ButL G a b) (h' : ButL [g] b c) (hg : a.heap.size ≤ g) : ButL G a c := ⟨h'.os.trans h.os, h'.tape.trans h.tape, h'.output.trans h.output, Nat.le_trans h.size h'.size, fun k hk hn => (h'.block k (by have := h.size; omega) (by rw [List.mem_singleton]; omega)).trans (h.block k hk hn)⟩
theorem ButL.of {G : List Nat} {w w' : World} (h : Below w.heap.size w w') : ButL G w w' := ⟨h.os, h.tape, h.output, h.size, fun k hk _ => h.block k hk⟩
theorem ButL.on {G : List Nat} {a b c : World} (h : ButL G a b) (k : Below b.heap.size b c) : ButL G a c := h.trans (.of k)
theorem ButL.below {G : List Nat} {B : Nat} {w w' : World} (h : ButL G w w') (hG : ∀ k ∈ G, B ≤ k) (hs : B ≤ w.heap.size) : Below B w w' := ⟨h.os, h.tape, h.output, h.size, fun k hk => h.block k (by omega) (fun hm => by have := hG k hm; omega)⟩
theorem ButL.mono {G G' : List Nat} {w w' : World} (h : ButL G w w') (hG : ∀ k ∈ G, k ∈ G') : ButL G' w w' := ⟨h.os, h.tape, h.output, h.size, fun k hk hn => h.block k hk (fun hm => hn (hG k hm))⟩
theorem ButL.setRow {G : List Nat} (w : World) (g : Nat) (cs : Array Value) (hg : g ∈ G) : ButL G w (w.setRow g cs) := ⟨rfl, rfl, rfl, by simp, fun k _ hk => Go.setRow_other w g k cs (fun h => hk (h ▸ hg))⟩
theorem ButL.setCell {G : List Nat} (w : World) (g j : Nat) (u : Value) (hg : g ∈ G) : ButL G w (w.setCell ⟨g, j, none⟩ u) := ⟨rfl, rfl, rfl, by simp, fun k _ hk => heap_setCell_other w ⟨g, j, none⟩ k u (fun h => hk (by have h' : k = g := h; rw [h']; exact hg))⟩
theorem Cel.but {G : List Nat} {w w' : World} {g : Nat} {t : TypeId} {cs : List Value} (h : Cel w g t cs) (hb : ButL G w w') (hg : g ∉ G) : Cel w' g t cs := (hb.block g h.lt hg).trans h

theorem hid {p : Prop} (h : p) : Hid p := h
def ptr (g : Nat) : Value := .pointer (some ⟨g, 0, none⟩)
def u32s (L : List Int) : List Value := L.map (Value.int .u32)
theorem u32s_len (L : List Int) : (u32s L).length = L.length := by simp [u32s]
structure MS where
  ns : Nat
  P : List (List Int)
  c : Int
structure Fp where
  gm : Nat
  gs : Nat
  gi : Nat
  bs : List Nat
def Fp.b (f : Fp) (k : Nat) : Nat := f.bs.getD k 0
def MS.p (m : MS) (k : Nat) : List Int := m.P.getD k []
def wd (L : List Int) (j : Nat) : Int := L.getD j 0
def Fp.all (f : Fp) : List Nat := f.gm :: f.gs :: f.gi :: f.bs
def Fp.w (f : Fp) : List Nat := f.gm :: f.bs
def MS.at (m : MS) (s : Bool) (p : Int) : Option Nat :=
  if 0 ≤ p then (if s then (if p < (m.ns : Int) then some p.toNat else none) else (if p < ((m.P.length - m.ns : Nat) : Int) then some (m.ns + p.toNat) else none)) else none
structure Mem (w : World) (f : Fp) (m : MS) : Prop where
  cel : Cel w f.gm 111 [.slice (some ⟨f.gs, 0, none⟩) m.ns m.ns, .slice (some ⟨f.gi, 0, none⟩) (m.P.length - m.ns) (m.P.length - m.ns), .int .i64 m.c]
  sec : Cel w f.gs 181 ((f.bs.take m.ns).map ptr)
  ins : Cel w f.gi 181 ((f.bs.drop m.ns).map ptr)
  len : f.bs.length = m.P.length
  ns0 : m.ns ≤ m.P.length
  most : m.P.length ≤ 128
  pg : ∀ k, k < m.P.length → Cel w (f.b k) 183 (u32s (m.p k))
  full : ∀ k, k < m.P.length → (m.p k).length = 1024
  nodup : f.bs.Nodup
theorem MS.at_lt {m : MS} {s : Bool} {p : Int} {k : Nat} (h0 : m.ns ≤ m.P.length) (h : m.at s p = some k) : k < m.P.length := by
  unfold MS.at at h
  split at h
  · cases s <;> simp at h <;> omega
  · cases h
theorem Mem.mem {w : World} {f : Fp} {m : MS} (h : Mem w f m) (k : Nat) (hk : k < m.P.length) : f.b k ∈ f.bs := by
  unfold Fp.b
  rw [List.getD_eq_getElem?_getD, List.getElem?_eq_getElem (by rw [h.len]; exact hk)]
  simp
theorem Mem.lt {w : World} {f : Fp} {m : MS} (h : Mem w f m) : ∀ k ∈ f.all, k < w.heap.size := by
  intro k hk
  simp only [Fp.all, List.mem_cons] at hk
  rcases hk with rfl | rfl | rfl | hk
  · exact h.cel.lt
  · exact h.sec.lt
  · exact h.ins.lt
  · obtain ⟨i, hi, rfl⟩ := List.mem_iff_getElem.1 hk
    have := (h.pg i (by rw [← h.len]; exact hi)).lt
    simpa [Fp.b, List.getD_eq_getElem?_getD, hi] using this
theorem Mem.frame {w w' : World} {f : Fp} {m : MS} {G : List Nat} (h : Mem w f m) (hb : ButL G w w') (hd : ∀ k ∈ f.all, k ∉ G) : Mem w' f m :=
  ⟨h.cel.but hb (hd _ (by simp [Fp.all])), h.sec.but hb (hd _ (by simp [Fp.all])), h.ins.but hb (hd _ (by simp [Fp.all])), h.len, h.ns0, h.most,
   fun k hk => (h.pg k hk).but hb (hd _ (by simp only [Fp.all, List.mem_cons]; exact .inr (.inr (.inr (h.mem k hk))))), h.full, h.nodup⟩
theorem Mem.on {w w' : World} {f : Fp} {m : MS} (h : Mem w f m) (hb : Below w.heap.size w w') : Mem w' f m := h.frame (G := []) (.of hb) (by simp)
theorem Mem.cm {w : World} {f : Fp} {m : MS} (h : Mem w f m) : w.cell? ⟨f.gm, 2, none⟩ = some (.int .i64 m.c) := h.cel.cell 2
theorem Mem.meter {w : World} {f : Fp} {m : MS} (h : Mem w f m) (c : Int) : Mem (w.setCell ⟨f.gm, 2, none⟩ (.int .i64 c)) f { m with c := c } := by
  have hb := ButL.setCell (G := [f.gm]) w f.gm 2 (.int .i64 c) (by simp)
  have h1 : f.gs ∉ [f.gm] := fun hm => by rw [List.mem_singleton] at hm; have := h.sec; rw [hm] at this; exact absurd (this.ty h.cel) (by decide)
  have h2 : f.gi ∉ [f.gm] := fun hm => by rw [List.mem_singleton] at hm; have := h.ins; rw [hm] at this; exact absurd (this.ty h.cel) (by decide)
  exact ⟨h.cel.setCell 2 _, h.sec.but hb h1, h.ins.but hb h2, h.len, h.ns0, h.most, fun k hk => (h.pg k hk).but hb (fun hm => by rw [List.mem_singleton] at hm; have := h.pg k hk; rw [hm] at this; exact absurd (this.ty h.cel) (by decide)), h.full, h.nodup⟩
theorem Mem.page {w w' : World} {f : Fp} {m : MS} (h : Mem w f m) (k : Nat) (hk : k < m.P.length) (L : List Int) (hL : L.length = 1024) (hb : ButL [f.b k] w w') (hc : Cel w' (f.b k) 183 (u32s L)) : Mem w' f { m with P := m.P.set k L } := by
  have hp := h.pg k hk
  have hne : ∀ g t cs, Cel w g t cs → t ≠ 183 → g ∉ [f.b k] := fun g t cs hg ht hm => by rw [List.mem_singleton] at hm; rw [hm] at hg; exact ht (hg.ty hp)
  refine ⟨?_, ?_, ?_, by simp [h.len], by simpa using h.ns0, by simpa using h.most, ?_, ?_, h.nodup⟩
  · simpa using h.cel.but hb (hne _ _ _ h.cel (by decide))
  · exact h.sec.but hb (hne _ _ _ h.sec (by decide))
  · exact h.ins.but hb (hne _ _ _ h.ins (by decide))
  · intro j hj
    simp only [List.length_set] at hj
    by_cases e : j = k
    · subst e
      simp only [MS.p, List.getD_eq_getElem?_getD, List.getElem?_set_self hj, Option.getD_some] at hc ⊢
      exact hc
    · have := (h.pg j hj).but hb (by
        rw [List.mem_singleton]
        intro he
        have h1 : j < f.bs.length := by rw [h.len]; exact hj
        have h2 : k < f.bs.length := by rw [h.len]; exact hk
        simp only [Fp.b, List.getD_eq_getElem?_getD, List.getElem?_eq_getElem h1, List.getElem?_eq_getElem h2, Option.getD_some] at he
        rcases Nat.lt_or_gt_of_ne e with hlt | hlt
        · exact List.pairwise_iff_getElem.1 h.nodup j k h1 h2 hlt he
        · exact List.pairwise_iff_getElem.1 h.nodup k j h2 h1 hlt he.symm)
      simpa [MS.p, List.getD_eq_getElem?_getD, List.getElem?_set_ne (Ne.symm e)] using this
  · intro j hj
    simp only [List.length_set] at hj
    by_cases e : j = k
    · subst e; simp [MS.p, List.getD_eq_getElem?_getD, List.getElem?_set_self hj, hL]
    · simpa [MS.p, List.getD_eq_getElem?_getD, List.getElem?_set_ne (Ne.symm e)] using h.full j hj
theorem Mem.secAt {w : World} {f : Fp} {m : MS} (h : Mem w f m) (k : Nat) (hk : k < m.ns) : w.cell? ⟨f.gs, k, none⟩ = some (ptr (f.b k)) := by
  have := h.len; have := h.ns0
  rw [h.sec.cell k, List.getElem?_map, List.getElem?_take_of_lt hk, List.getElem?_eq_getElem (by omega)]
  simp [Fp.b, List.getD_eq_getElem?_getD, List.getElem?_eq_getElem (show k < f.bs.length by omega)]
theorem Mem.insAt {w : World} {f : Fp} {m : MS} (h : Mem w f m) (k : Nat) (hk : k < m.P.length - m.ns) : w.cell? ⟨f.gi, k, none⟩ = some (ptr (f.b (m.ns + k))) := by
  have := h.len; have := h.ns0
  rw [h.ins.cell k, List.getElem?_map, List.getElem?_drop, List.getElem?_eq_getElem (by omega)]
  simp [Fp.b, List.getD_eq_getElem?_getD, List.getElem?_eq_getElem (show m.ns + k < f.bs.length by omega)]
def pv (f : Fp) : Option Nat → Value
  | none => .pointer none
  | some k => ptr (f.b k)
def fr (s : Bool) (p : Int) : Value := .agg #[.bool s, .int .i64 p]
end Go.Proofs.YtgbpbfnpeeciaaaGreat
namespace Go.Proofs.YtgbpbfnpeeciaaaGreat
open Go.RowKit

theorem ret_st {P : Program} {fn : Func} {p : Tmp} {ty e : TypeId} {fr : Nat × Nat} {d : TypeDesc} {a : Act} {w : World} {post : Ending → World → Prop} (hr : fn.results = #[.cell p ty]) (hd : a.defers = []) (g : Nat) (cs : Array Value)
    (hp : a.tmps.getD p undef = .pointer (some ⟨g, 0, none⟩)) (hg : w.heap[g]? = some (.cells cs e fr)) (hu : P.underlying ty = some d) (hdd : (match d with | .struct _ | .array _ _ => true | _ => false) = true) (hi : (P.info? ty).map (·.size) = some cs.size) (h : post (.returned (.agg cs)) w) :
    bodyPost P fn post .ret a w := bodyPost_ret (results_cell_row hr _ _ g e _ fr _ hp hg hu hdd hi) hd h
theorem ret_st2 {P : Program} {fn : Func} {p q : Tmp} {ty e : TypeId} {d : TypeDesc} {a : Act} {w : World} {post : Ending → World → Prop} (hr : fn.results = #[.cell p ty, .tmp q]) (hd : a.defers = []) (g : Nat) (cs : List Value)
    (hp : a.tmps.getD p undef = .pointer (some ⟨g, 0, none⟩)) (hb : Cel w g e cs) (hu : P.underlying ty = some d) (hdd : (match d with | .struct _ | .array _ _ => true | _ => false) = true) (hi : (P.info? ty).map (·.size) = some cs.length) (h : post (.returned (.tuple #[.agg cs.toArray, a.tmps.getD q undef])) w) :
    bodyPost P fn post .ret a w := by
  refine bodyPost_ret (v := .tuple #[.agg cs.toArray, a.tmps.getD q undef]) ?_ hd h
  have hp' : a.tmps[p]?.getD undef = .pointer (some ⟨g, 0, none⟩) := by simpa using hp
  have := run_loadVar_row (P := P) w g e ty _ (0, 0) _ hb hu hdd (by rw [hi]; simp)
  simp [results, hr, hp', asAddr, this]
theorem wpList_store_st {P : Program} {ops : Array Oper} {rest : List Oper} {o : Oper} {a : Act} {w : World} {Q : Exit → Act → World → Prop} (hgd : o.guard = none) (ty : TypeId) (x y : Operand) (ho : o.op = .store ty x y)
    (g : Nat) (vs : List Value) (hx : a.eval x = .pointer (some ⟨g, 0, none⟩)) (hy : a.eval y = .agg vs.toArray) {e : TypeId} {cs : List Value} (hg : Cel w g e cs) (hi : (P.info? ty).map (·.size) = some vs.length) (hl : cs.length = vs.length) (h1 : vs.all (·.oneCell') = true)
    (h : ∀ w', Cel w' g e vs → ButL [g] w w' → w'.heap.size = w.heap.size → wpList P ops Q rest (a.put o.dst undef) w') : wpList P ops Q (o :: rest) a w :=
  wpList_store_row hgd ty x y ho g _ hx hy e _ hg (by rw [hi]; simp) (by simp [hl]) (by simpa using h1) (h _ (hg.set _) (ButL.setRow _ _ _ (by simp)) (by simp))
theorem wp_store_st {P : Program} {op : Oper} {a : Act} {w : World} {K : Act → World → Prop} {Q : Exit → Act → World → Prop} (ty : TypeId) (x y : Operand) (ho : op.op = .store ty x y)
    (g : Nat) (vs : List Value) (hx : a.eval x = .pointer (some ⟨g, 0, none⟩)) (hy : a.eval y = .agg vs.toArray) {e : TypeId} {cs : List Value} (hg : Cel w g e cs) (hi : (P.info? ty).map (·.size) = some vs.length) (hl : cs.length = vs.length) (h1 : vs.all (·.oneCell') = true)
    (h : ∀ w', Cel w' g e vs → ButL [g] w w' → w'.heap.size = w.heap.size → K (a.put op.dst undef) w') : op.wp P a w K Q := by
  have hs : (Instr.storeAt ty (.pointer (some ⟨g, 0, none⟩)) (.agg vs.toArray)).run P w = .ok () (w.setRow g vs.toArray) := by
    simp only [Instr.storeAt, Instr.sureAddr, Sem.run_bind, Sem.run_pure, Result.andThen]
    exact run_storeVar_row w g e ty _ _ hg (by rw [hi]; simp) (by simp [hl]) (by simpa using h1)
  unfold Oper.wp execOp
  simp only [ho, hx, hy, Sem.run_bind, Sem.run_pure, hs, Result.andThen_ok]
  exact h _ (hg.set _) (.setRow _ _ _ (by simp)) (by simp)
theorem wpList_build_f {ops : Array Oper} {rest : List Oper} {o : Oper} {a : Act} {w : World} {Q : Exit → Act → World → Prop} (hgd : o.guard = none) (t : TypeId) (xs : Array (Nat × Operand)) (ho : o.op = .build t xs)
    (ps : Array (Nat × Value)) (hp : xs.map (fun x => (x.1, a.eval x.2)) = ps) (cs : Array Value) (hb : Tryz.prog.built t ps.toList = some cs)
    (h : wpList Tryz.prog ops Q rest (a.put o.dst (.agg cs)) w) : wpList Tryz.prog ops Q (o :: rest) a w := by
  refine wpList_plain hgd fun K hK => ?_
  unfold Oper.wp execOp
  simp only [ho, Sem.run_bind, hp, run_build w t ps _ hb, Result.andThen_ok]
  exact hK _ _ h

structure En where
  t : Int
  o : Int
  r : Int
  s : Int
  e : Bool
def En.cs (x : En) : List Value := [.int .i64 x.t, .int .i64 x.o, .int .i64 x.r, .int .i64 x.s, .bool x.e]
def En.v (x : En) : Value := .agg x.cs.toArray
def En.zero : En := ⟨0, 0, 0, 0, false⟩
def En.same (x y : En) : Bool := x.t == y.t && (x.o == y.o && (x.r == y.r && (x.s == y.s && x.e == y.e)))
theorem En.same_iff (x y : En) : x.same y = true ↔ x = y := by
  obtain ⟨a, b, c, d, e⟩ := x
  obtain ⟨a', b', c', d', e'⟩ := y
  simp [En.same]
def two (a b : Int) : List Value := [.int .u32 a, .int .u32 b]
def twoV (a b : Int) : Value := .agg (two a b).toArray
def same2 (a b c d : Int) : Bool := a == c && b == d
theorem under3 : Tryz.prog.underlying 3 = some (.int .i64) := by kernel_rfl
theorem under4 : Tryz.prog.underlying 4 = some .bool := by kernel_rfl
theorem underW : Tryz.prog.underlying 29 = some (.int .u32) := by kernel_rfl
theorem underT : Tryz.prog.underlying 58 = some (.int .i64) := by kernel_rfl
theorem underS : Tryz.prog.underlying 64 = some (.int .i64) := by kernel_rfl
theorem underE : Tryz.prog.underlying 125 = some (.struct (Tryz.prog.fieldsOf 125)) := by kernel_rfl
theorem underR : Tryz.prog.underlying 122 = some (.struct (Tryz.prog.fieldsOf 122)) := by kernel_rfl
theorem underA : Tryz.prog.underlying 178 = some (.array 2 29) := by kernel_rfl
theorem sizeW : (Tryz.prog.info? 29).map (·.size) = some 1 := by kernel_rfl
theorem sizeE : (Tryz.prog.info? 125).map (·.size) = some 5 := by kernel_rfl
theorem sizeR : (Tryz.prog.info? 122).map (·.size) = some 5 := by kernel_rfl
theorem sizeA : (Tryz.prog.info? 178).map (·.size) = some 2 := by kernel_rfl
theorem fieldsE : (Tryz.prog.fieldsOf 125).toList.map (fun f => (f.name, f.type, f.offset)) = [("Type", 58, 0), ("Owner", 3, 1), ("Refs", 3, 2), ("State", 64, 3), ("Entered", 4, 4)] := by kernel_rfl
theorem part_i {T : TypeId} (hT : Tryz.prog.underlying T = some (.int .i64)) (w : World) (f : List Value) (k : Nat) (x : Int) (h : f[k]? = some (.int .i64 x)) : (part T f.toArray k).run Tryz.prog w = .ok (.int .i64 x) w := by
  simp [part, isAgg, run_underlying hT, h]
theorem part_b (w : World) (f : List Value) (k : Nat) (x : Bool) (h : f[k]? = some (.bool x)) : (part 4 f.toArray k).run Tryz.prog w = .ok (.bool x) w := by
  simp [part, isAgg, run_underlying under4, h]
theorem run_equalIn_en {T A B : TypeId} (hu : Tryz.prog.underlying T = some (.struct (Tryz.prog.fieldsOf T))) (hA : Tryz.prog.underlying A = some (.int .i64)) (hB : Tryz.prog.underlying B = some (.int .i64))
    (h : (Tryz.prog.fieldsOf T).toList.map (fun f => (f.name, f.type, f.offset)) = [("Type", A, 0), ("Owner", 3, 1), ("Refs", 3, 2), ("State", B, 3), ("Entered", 4, 4)])
    (hn : Tryz.prog.stoodInHeld T = false) (w : World) (d : Nat) (x y : En) : (Op.equalIn (d + 4) T x.v y.v).run Tryz.prog w = .ok (x.same y) w := by
  rw [En.v, En.v, run_equalIn_struct w (d + 3) T _ _ hu hn]
  generalize (Tryz.prog.fieldsOf T).toList = L at h ⊢
  have hl : L.length = 5 := by have := congrArg List.length h; simpa using this
  match L, hl with
  | [f1, f2, f3, f4, f5], _ =>
    simp only [List.map_cons, List.map_nil, List.cons.injEq, Prod.mk.injEq, and_true] at h
    obtain ⟨⟨a1, a2, a3⟩, ⟨b1, b2, b3⟩, ⟨c1, c2, c3⟩, ⟨d1, d2, d3⟩, e1, e2, e3⟩ := h
    have eA := fun (x y : Int) => run_equalIn_int (P := Tryz.prog) w (d + 2) A .i64 .i64 x y hA
    have eB := fun (x y : Int) => run_equalIn_int (P := Tryz.prog) w (d + 2) B .i64 .i64 x y hB
    have e3' := fun (x y : Int) => run_equalIn_int (P := Tryz.prog) w (d + 2) 3 .i64 .i64 x y under3
    have e4 := fun (x y : Bool) => run_equalIn_bool' (P := Tryz.prog) w (d + 2) 4 x y under4
    have p0 := fun (z : En) => part_i hA w z.cs 0 z.t rfl
    have p1 := fun (z : En) => part_i under3 w z.cs 1 z.o rfl
    have p2 := fun (z : En) => part_i under3 w z.cs 2 z.r rfl
    have p3 := fun (z : En) => part_i hB w z.cs 3 z.s rfl
    have p4 := fun (z : En) => part_b w z.cs 4 z.e rfl
    simp only [Op.eqFields, a1, a2, a3, b1, b2, b3, c1, c2, c3, d1, d2, d3, e1, e2, e3, Sem.run_bind, p0, p1, p2, p3, p4, Result.andThen_ok, eA, eB, e3', e4, Sem.run_ite, Sem.run_pure]
    unfold En.same
    cases (x.t == y.t) <;> cases (x.o == y.o) <;> cases (x.r == y.r) <;> cases (x.s == y.s) <;> cases (x.e == y.e) <;> rfl
theorem run_equalIn_two (w : World) (d : Nat) (a b c e : Int) : (Op.equalIn (d + 2) 178 (twoV a b) (twoV c e)).run Tryz.prog w = .ok (same2 a b c e) w := by
  have hsz : ∀ w, (sizeOf 29).run Tryz.prog w = .ok 1 w := fun w => by
    have := sizeW
    cases hq : Tryz.prog.info? 29 with
    | none => simp [hq] at this
    | some i => simp [hq] at this; simp [sizeOf, typeInfo, hq, this]
  rw [twoV, twoV, Op.equalIn]
  simp only [Sem.run_bind, run_underlying underA, Result.andThen_ok, hsz, Std.Legacy.Range.forIn_eq_forIn_range', Std.Legacy.Range.size, Nat.sub_zero, Nat.add_sub_cancel, Nat.div_one]
  have p0 : ∀ (w : World) (x y : Int), (part 29 (two x y).toArray 0).run Tryz.prog w = .ok (.int .u32 x) w := fun w x y => by simp [part, isAgg, run_underlying underW, two]
  have p1 : ∀ (w : World) (x y : Int), (part 29 (two x y).toArray 1).run Tryz.prog w = .ok (.int .u32 y) w := fun w x y => by simp [part, isAgg, run_underlying underW, two]
  have pe : ∀ (w : World) (x y : Int), (Op.equalIn (d + 1) 29 (.int .u32 x) (.int .u32 y)).run Tryz.prog w = .ok (x == y) w := fun w x y => run_equalIn_int w d 29 .u32 .u32 _ _ underW
  rw [show List.range' 0 2 1 = [0, 1] from rfl]
  simp only [List.forIn_cons, List.forIn_nil, Sem.run_bind, Nat.zero_mul, Nat.one_mul, p0, pe, Result.andThen_ok, same2]
  cases h1 : (a == c)
  · simp
  · simp only [Bool.not_true, Bool.false_eq_true, if_false, Sem.run_pure, Sem.run_bind, Result.andThen_ok, p1, pe]
    cases h2 : (b == e) <;> simp
theorem stE : Tryz.prog.stoodInHeld 125 = false := by kernel_rfl
theorem guardE : Tryz.prog.eqGuardType Tryz.prog.depth 125 = false := by kernel_rfl
theorem guardA : Tryz.prog.eqGuardType Tryz.prog.depth 178 = false := by kernel_rfl
theorem eqE (w : World) (d : Nat) (x y : En) : (Op.equalIn (d + 4) 125 x.v y.v).run Tryz.prog w = .ok (x.same y) w := run_equalIn_en underE underT underS fieldsE stE w d x y
theorem exec_ne {a : Act} {w : World} {o : Oper} (T : TypeId) (x y : Operand) (ho : o.op = .binOp .neq T x y T) (u v : Array Value) (hx : a.eval x = .agg u) (hy : a.eval y = .agg v) (hg : Tryz.prog.eqGuardType Tryz.prog.depth T = false) (b : Bool) (hb : (Op.equalIn 10000 T (.agg u) (.agg v)).run Tryz.prog w = .ok b w) :
    (execOp a.eval o).run Tryz.prog w = .ok (.value (.bool (!b))) w := by
  have hg' : (eqGuard .neq T x y (.agg u) (.agg v)).run Tryz.prog w = .ok () w := run_eqGuard_agg w .neq T x y _ _ hg
  have hr : (binOp .neq T (.agg u) (.agg v)).run Tryz.prog w = .ok (.bool (!b)) w := by rw [run_neq_struct, hb]; rfl
  unfold execOp
  simp only [ho, hx, hy, Sem.run_bind, Sem.run_pure, hg', hr, Result.andThen_ok]
theorem wpList_ne {ops : Array Oper} {rest : List Oper} {o : Oper} {a : Act} {w : World} {Q : Exit → Act → World → Prop} (hw : Region.wanted o (yielded ops a.tmps) = true) (T : TypeId) (x y : Operand) (ho : o.op = .binOp .neq T x y T) (u v : Array Value) (hx : a.eval x = .agg u) (hy : a.eval y = .agg v) (hg : Tryz.prog.eqGuardType Tryz.prog.depth T = false) (b : Bool) (hb : (Op.equalIn 10000 T (.agg u) (.agg v)).run Tryz.prog w = .ok b w)
    (h : wpList Tryz.prog ops Q rest (a.put o.dst (.bool (!b))) w) : wpList Tryz.prog ops Q (o :: rest) a w := by
  rw [wpList, if_pos hw]
  refine .inl ?_
  unfold Oper.wp
  rw [exec_ne T x y ho u v hx hy hg b hb]
  exact h
end Go.Proofs.YtgbpbfnpeeciaaaGreat
namespace Go.Proofs.YtgbpbfnpeeciaaaGreat
open Go.ChangeShapes Go.WideShapes Go.ChangeAt Go.RowKit
theorem own : ownKnob Tryz.prog.godebug = none := by kernel_rfl
theorem laidOut : laidOutB Tryz.prog = true := by kernel_rfl
theorem celI : Tryz.prog.cellsOf 3 = 1 := by kernel_rfl
theorem celB : Tryz.prog.cellsOf 4 = 1 := by kernel_rfl
theorem celW : Tryz.prog.cellsOf 29 = 1 := by kernel_rfl
theorem trodAll_below {H : Type} {enc : TypeId × Value → H} {P : Program} (hl : laidOutB P = true) {W W' : World} (hb : Below W.heap.size W W') (ts : List TypeId) : ∀ {vs : List Value} {ds : List (DataW H)} {ps : List MemPlace},
    (ts.all fun t => P.readableRec t && decide (t < P.types.size)) = true → DataW.TrodAll enc P W 0 (fun _ => true) true ts vs ds ps → (∀ x ∈ ps, x.block < W.heap.size) →
    DataW.TrodAll enc P W' 0 (fun b => decide (b < W.heap.size)) true ts vs ds ps := by
  induction ts with
  | nil =>
    intro vs ds ps _ h _
    obtain ⟨rfl, rfl, rfl⟩ := trodAll_nil h
    exact trodAll_mk0
  | cons t ts ih =>
    intro vs ds ps ht h hlt
    obtain ⟨v0, vs0, d0, ds0, p0, q0, rfl, rfl, rfl, h0, r0⟩ := trodAll_cons h
    simp only [List.all_cons, Bool.and_eq_true, decide_eq_true_eq] at ht
    exact trodAll_cons_mk (Below.trod hl ht.1.1 ht.1.2 h0 hb (fun x hx => hlt x (by simp [hx]))) (ih (by simpa using ht.2) r0 (fun x hx => hlt x (by simp [hx])))
theorem law_post {H : Type} {enc : TypeId × Value → H} {f : Func} {s : ChangeSpec} {W W' : World} {args : Array Value} {ds gs : List (DataW H)} {before : List MemPlace}
    (hts : (f.params.toList.all fun t => Tryz.prog.readableRec t && decide (t < Tryz.prog.types.size)) = true) (hr : f.resultTypes = #[4]) (hv : s.vars = [])
    (hs : s.fn H (ds ++ gs) = { results := [.lit (.bool true)], args := ds })
    (hW : DataW.Whole enc Tryz.prog f.params.toList s.vars false W args.toList ds gs before) (hb : Below W.heap.size W W') :
    s.post enc Tryz.prog f false true false false W args (.bool true) W' := by
  have hW' := hW
  have hlt := hW.lt
  obtain ⟨p, q, hA, hV, rfl, hfz, hnd⟩ := hW
  rw [hv] at hV
  obtain ⟨rfl, rfl⟩ := trodVars_none hV
  rw [List.append_nil] at hlt
  refine ⟨ds, [], _, [], p, [], hW', ?_, ?_, ?_, hb.frame _, fun h => by cases h⟩
  · rw [hs, hr]
    exact trodAll_mk1 (shut_bool under4 _)
  · rw [hs]
    exact trodAll_below laidOut hb _ hts hA hlt
  · rw [hs, hv]
    rfl
noncomputable def plainWorld (os : Os) : World := World.holding Tryz.prog os ⟨#[], #[], []⟩
theorem lit_u32 {n : Int} (h : (Lit.int .u32 n).wf = true) : 0 ≤ n ∧ n < 4294967296 := by
  simp only [Lit.wf, IntKind.min, IntKind.max, IntKind.signed, IntKind.bits, Bool.and_eq_true] at h
  obtain ⟨h1, h2⟩ := h
  simp at h1 h2
  omega
set_option maxRecDepth 100000 in
theorem open_slice {H : Type} {enc : TypeId × Value → H} {W : World} {fuel : Nat} {held : Bool} {cs0 : List Value} {y0 : DataW H × List MemPlace} {t e : TypeId} {st : Nat} (ht : Tryz.prog.underlying t = some (.slice e)) (hce : Tryz.prog.cellsOf e = st) (hst : 0 < st)
    (hf : DataW.trod enc Tryz.prog W 0 (fun _ => true) held fuel t cs0 = some y0) :
    ∃ (ao : Option Addr) (n cap b off : Nat), cs0 = [.slice ao n cap] ∧ n ≤ cap ∧ (0 < n → ao = some ⟨b, off, none⟩ ∧ b < W.heap.size) ∧
      (∀ k, k < n → ∃ cs m y, W.rangeAt b (off + k * st) cs ∧ DataW.trod enc Tryz.prog W 0 (fun _ => true) held m e cs = some y) ∧ (n = 0 ∨ ∃ elems spare, y0.1 = .slice elems spare ∧ elems.length = n) := by
  rcases DataW.trod_slice ht hf with ⟨hcs, hx⟩ | ⟨a, len, cap', elems, rest, m, rfl, hcs, hx, hb0, hl, hm, hlen, hel, hsp, hns⟩
  · exact ⟨none, 0, 0, 0, 0, hcs, Nat.le_refl _, fun h => absurd h (by decide), fun k hk => absurd hk (by omega), .inl rfl⟩
  · rw [hce] at hel
    have hd : len = 0 ∨ ∃ es sp, y0.1 = .slice es sp ∧ es.length = len := .inr ⟨_, _, by rw [hx], by rw [List.length_map]; exact hlen⟩
    rcases Nat.eq_zero_or_pos len with h0 | hn
    · subst h0
      exact ⟨_, 0, _, 0, 0, hcs, hl, fun h => absurd h (by decide), fun k hk => absurd hk (by omega), .inl rfl⟩
    · have each : ∀ k (hk : k < len), ∃ cs y, W.cells? 0 (a.add (k * st)) st = some cs ∧ DataW.trod enc Tryz.prog W 0 (fun _ => true) held m e cs = some y := fun k hk => by
        have he := hel k hk
        obtain ⟨y, hy⟩ : ∃ y, elems[k]? = some y := ⟨elems[k], List.getElem?_eq_getElem (by omega)⟩
        rw [hy] at he
        obtain ⟨cs, h1, h2⟩ := Option.bind_eq_some_iff.1 he
        exact ⟨cs, y, h1, h2⟩
      obtain ⟨b, off, spot⟩ := a
      have hspot : spot = none := by
        obtain ⟨cs, y, h1, _⟩ := each 0 hn
        have := (World.cells?_some h1).2.2 0 hst
        have hc := (World.cells?_some h1).2.1
        rw [List.getElem?_eq_getElem (by omega)] at this
        simpa [Addr.add] using World.cell?_spot this
      subst hspot
      have hadd : ∀ i j, ((⟨b, off, none⟩ : Addr).add i).add j = ⟨b, off + i + j, none⟩ := fun i j => by rw [Addr.add_mid, Addr.add_mid]
      have hblk : b < W.heap.size := by
        obtain ⟨cs, y, h1, _⟩ := each 0 hn
        have := World.cells?_block h1 hst
        simpa [Addr.add] using this
      refine ⟨_, len, cap', b, off, hcs, hl, fun _ => ⟨rfl, hblk⟩, fun k hk => ?_, hd⟩
      obtain ⟨cs, y, h1, h2⟩ := each k hk
      refine ⟨cs, m, y, fun j v hv => ?_, h2⟩
      have hj : j < st := by have := (List.getElem?_eq_some_iff.1 hv).1; have := (World.cells?_some h1).2.1; omega
      have := (World.cells?_some h1).2.2 j hj
      rw [hadd] at this
      rw [this, hv]
end Go.Proofs.YtgbpbfnpeeciaaaGreat
namespace Go.Proofs.YtgbpbfnpeeciaaaGreat
open Go.RowKit
theorem find_any (w : World) (f : Fp) (m : MS) (h : Mem w f m) (s : Bool) (p : Int) :
    Calls Tryz.prog 107 #[ptr f.gm, fr s p] w fun x w' => x = .returned (pv f (m.at s p)) ∧ Below w.heap.size w w' := by
  have hX := h.on (below_one w (.cells #[.bool s, .int .i64 p] 67))
  have hB := hid (below_one w (.cells #[.bool s, .int .i64 p] 67))
  have c0 := hX.cel.cell 0
  have c1 := hX.cel.cell 1
  have H := hid hX
  have h1 := h.ns0; have h2 := h.most
  clear h hX
  simp only [List.getElem?_cons_zero, List.getElem?_cons_succ] at c0 c1
  have HN : Hid (p < 0 ∨ (((if s then m.ns else m.P.length - m.ns) : Nat) : Int) ≤ p → m.at s p = none) := by
    intro hh; unfold MS.at; cases s <;> simp at hh ⊢ <;> omega
  have HS : Hid (s = true → 0 ≤ p → p < (m.ns : Int) → m.at s p = some p.toNat) := by
    intro hs a b; unfold MS.at; rw [if_pos a, if_pos hs, if_pos b]
  have HI : Hid (s = false → 0 ≤ p → p < ((m.P.length - m.ns : Nat) : Int) → m.at s p = some (m.ns + p.toNat)) := by
    intro hs a b; unfold MS.at; rw [if_pos a, if_neg (by simp [hs]), if_pos b]
  generalize m.at s p = r at *
  cases s
  · by_cases hp : p < 0 ∨ ((m.P.length - m.ns : Nat) : Int) ≤ p
    · have hr := HN.out (by simpa using hp)
      clear HN HS HI
      subst hr
      simp only [ptr, fr, pv] at *
      go_enter Tryz.func107, Tryz.ntmps107
      rcases hp with hp | hp
      all_goals go_wp2_with fail
      all_goals go_ret
      all_goals exact ⟨rfl, hB.out⟩
    · have q0 : 0 ≤ p := by omega
      have q1 : p < ((m.P.length - m.ns : Nat) : Int) := by omega
      have hr := HI.out rfl q0 q1
      clear HN HS HI hp
      subst hr
      have cc := H.out.insAt p.toNat (by omega)
      simp only [ptr, fr, pv] at *
      go_enter Tryz.func107, Tryz.ntmps107
      go_wp2_with fail
      all_goals go_ret
      all_goals exact ⟨rfl, hB.out⟩
  · by_cases hp : p < 0 ∨ (m.ns : Int) ≤ p
    · have hr := HN.out (by simpa using hp)
      clear HN HS HI
      subst hr
      simp only [ptr, fr, pv] at *
      go_enter Tryz.func107, Tryz.ntmps107
      rcases hp with hp | hp
      all_goals go_wp2_with fail
      all_goals go_ret
      all_goals exact ⟨rfl, hB.out⟩
    · have q0 : 0 ≤ p := by omega
      have q1 : p < (m.ns : Int) := by omega
      have hr := HS.out rfl q0 q1
      clear HN HS HI hp
      subst hr
      have cc := H.out.secAt p.toNat (by omega)
      simp only [ptr, fr, pv] at *
      go_enter Tryz.func107, Tryz.ntmps107
      go_wp2_with fail
      all_goals go_ret
      all_goals exact ⟨rfl, hB.out⟩
end Go.Proofs.YtgbpbfnpeeciaaaGreat
