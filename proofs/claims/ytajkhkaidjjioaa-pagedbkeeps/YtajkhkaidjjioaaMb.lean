/- Memories: blocks of the call's own; no function of the program. -/
import Derived.Test.YtajkhkaidjjioaaChecked
import Derived.WalkKit
import Derived.WalkSpells
import Derived.WalkLawsBesides
import Derived.Deep.QuietTactic
import Derived.BigQuiet
import Derived.BigRegion
import Derived.Handy
import Derived.Deep.RegionHeld3
import Derived.Deep.RegionWith
import Derived.Deep.DrawnRows
import Derived.Deep.MidRow
import Derived.Deep.WholeRow
import Derived.Laws.CopyRow
import Derived.Laws.AppendOwnNone
import Derived.Lib.SliceRun
namespace Go.Proofs.Ytajkhkaidjjioaa
open Go.RowKit

theorem ret_int {k : IntKind} {a b : Int} (h : a = b) : Ending.returned (.int k a) = .returned (.int k b) := by rw [h]
theorem ret_bool {a b : Bool} (h : a = b) : Ending.returned (.bool a) = .returned (.bool b) := by rw [h]
theorem below_one (W : World) (o : Obj) : Below W.heap.size W (W.alloc o) := (Below.refl W.heap.size W).alloc (Nat.le_refl _) o
theorem below_on {X w w' : World} (h : Below X.heap.size X w) (k : Below w.heap.size w w') : Below X.heap.size X w' := h.trans (k.mono h.size)
theorem below_to {B : Nat} {a b c : World} (h : Below B a b) (hB : B ≤ b.heap.size) (k : Below b.heap.size b c) : Below B a c := h.trans (k.mono hB)
def Cel (w : World) (g : Nat) (t : TypeId) (cs : List Value) : Prop := w.heap[g]? = some (.cells cs.toArray t (0, 0))
theorem Cel.lt {w : World} {g : Nat} {t : TypeId} {cs : List Value} (h : Cel w g t cs) : g < w.heap.size := (Array.getElem?_eq_some_iff.1 h).1
theorem Cel.below {w w' : World} {B g : Nat} {t : TypeId} {cs : List Value} (h : Cel w g t cs) (hb : Below B w w') (hg : g < B) : Cel w' g t cs := (hb.block g hg).trans h
theorem Cel.on {w w' : World} {g : Nat} {t : TypeId} {cs : List Value} (h : Cel w g t cs) (hb : Below w.heap.size w w') : Cel w' g t cs := h.below hb h.lt
theorem Cel.cell {w : World} {g : Nat} {t : TypeId} {cs : List Value} (h : Cel w g t cs) (j : Nat) : w.cell? ⟨g, j, none⟩ = cs[j]? := by
  rw [cell_of_row w g j _ t (0, 0) h]; simp
theorem Cel.range {w : World} {g : Nat} {t : TypeId} {cs : List Value} (h : Cel w g t cs) : w.rangeAt g 0 cs := fun j v hv => by rw [Nat.zero_add, h.cell j, hv]
theorem Cel.new (w : World) (t : TypeId) (cs : List Value) : Cel (w.alloc (.cells cs.toArray t)) w.heap.size t cs := heap_alloc_new _ _
theorem Cel.set {w : World} {g : Nat} {t : TypeId} {cs : List Value} (h : Cel w g t cs) (vs : List Value) : Cel (w.setRow g vs.toArray) g t vs := setRow_heap w g _ vs.toArray t _ h
theorem Cel.setCell {w : World} {g : Nat} {t : TypeId} {cs : List Value} (h : Cel w g t cs) (j : Nat) (u : Value) : Cel (w.setCell ⟨g, j, none⟩ u) g t (cs.set j u) := by
  unfold Cel at h ⊢
  rw [heap_setCell_same w g j _ t _ h, List.setIfInBounds_toArray]
theorem Cel.free {w : World} {g : Nat} {t : TypeId} {cs : List Value} (h : Cel w g t cs) (j : Nat) : w.frozen? ⟨g, j, none⟩ = false := frozen_of_row w g j _ t h
theorem Cel.ty {w : World} {g : Nat} {t t' : TypeId} {cs cs' : List Value} (h : Cel w g t cs) (h' : Cel w g t' cs') : t = t' := by
  unfold Cel at h h'
  rw [h] at h'
  injection h' with h'
  injection h' with _ h2 _
/-- All that was there stays, but for these blocks. -/
structure ButL (G : List Nat) (w w' : World) : Prop where
  os : w'.os = w.os
  tape : w'.tape = w.tape
  output : w'.output = w.output
  size : w.heap.size ≤ w'.heap.size
  block : ∀ k, k < w.heap.size → k ∉ G → w'.heap[k]? = w.heap[k]?
theorem ButL.refl (G : List Nat) (w : World) : ButL G w w := ⟨rfl, rfl, rfl, Nat.le_refl _, fun _ _ _ => rfl⟩
theorem ButL.trans {G : List Nat} {a b c : World} (h : ButL G a b) (h' : ButL G b c) : ButL G a c := ⟨h'.os.trans h.os, h'.tape.trans h.tape, h'.output.trans h.output, Nat.le_trans h.size h'.size, fun k hk hg => (h'.block k (by have := h.size; omega) hg).trans (h.block k hk hg)⟩
theorem ButL.trans' {G : List Nat} {g : Nat} {a b c : World} (h : ButL G a b) (h' : ButL [g] b c) (hg : a.heap.size ≤ g) : ButL G a c := ⟨h'.os.trans h.os, h'.tape.trans h.tape, h'.output.trans h.output, Nat.le_trans h.size h'.size, fun k hk hn => (h'.block k (by have := h.size; omega) (by rw [List.mem_singleton]; omega)).trans (h.block k hk hn)⟩
theorem ButL.of {G : List Nat} {w w' : World} (h : Below w.heap.size w w') : ButL G w w' := ⟨h.os, h.tape, h.output, h.size, fun k hk _ => h.block k hk⟩
theorem ButL.on {G : List Nat} {a b c : World} (h : ButL G a b) (k : Below b.heap.size b c) : ButL G a c := h.trans (.of k)
theorem ButL.below {G : List Nat} {B : Nat} {w w' : World} (h : ButL G w w') (hG : ∀ k ∈ G, B ≤ k) (hs : B ≤ w.heap.size) : Below B w w' := ⟨h.os, h.tape, h.output, h.size, fun k hk => h.block k (by omega) (fun hm => by have := hG k hm; omega)⟩
theorem ButL.mono {G G' : List Nat} {w w' : World} (h : ButL G w w') (hG : ∀ k ∈ G, k ∈ G') : ButL G' w w' := ⟨h.os, h.tape, h.output, h.size, fun k hk hn => h.block k hk (fun hm => hn (hG k hm))⟩
theorem ButL.setRow {G : List Nat} (w : World) (g : Nat) (cs : Array Value) (hg : g ∈ G) : ButL G w (w.setRow g cs) := ⟨rfl, rfl, rfl, by simp, fun k _ hk => Go.setRow_other w g k cs (fun h => hk (h ▸ hg))⟩
theorem ButL.setCell {G : List Nat} (w : World) (g j : Nat) (u : Value) (hg : g ∈ G) : ButL G w (w.setCell ⟨g, j, none⟩ u) := ⟨rfl, rfl, rfl, by simp, fun k _ hk => heap_setCell_other w ⟨g, j, none⟩ k u (fun h => hk (by have h' : k = g := h; rw [h']; exact hg))⟩
theorem Cel.but {G : List Nat} {w w' : World} {g : Nat} {t : TypeId} {cs : List Value} (h : Cel w g t cs) (hb : ButL G w w') (hg : g ∉ G) : Cel w' g t cs := (hb.block g h.lt hg).trans h

theorem hid {p : Prop} (h : p) : Hid p := h
def ptr (g : Nat) : Value := .pointer (some ⟨g, 0, none⟩)
def u32s (L : List Int) : List Value := L.map (Value.int .u32)
theorem u32s_len (L : List Int) : (u32s L).length = L.length := by simp [u32s]
/-- A memory's state: how many pages are secure; the pages; the meter. -/
structure MS where
  ns : Nat
  P : List (List Int)
  c : Int
/-- Where it lies. -/
structure Fp where
  gm : Nat
  gs : Nat
  gi : Nat
  bs : List Nat
def Fp.b (f : Fp) (k : Nat) : Nat := f.bs.getD k 0
def MS.p (m : MS) (k : Nat) : List Int := m.P.getD k []
def wd (L : List Int) (j : Nat) : Int := L.getD j 0
def Fp.all (f : Fp) : List Nat := f.gm :: f.gs :: f.gi :: f.bs
def Fp.w (f : Fp) : List Nat := f.gm :: f.bs
def MS.at (m : MS) (s : Bool) (p : Int) : Option Nat :=
  if 0 ≤ p then (if s then (if p < (m.ns : Int) then some p.toNat else none) else (if p < ((m.P.length - m.ns : Nat) : Int) then some (m.ns + p.toNat) else none)) else none
structure Mem (w : World) (f : Fp) (m : MS) : Prop where
  cel : Cel w f.gm 98 [.slice (some ⟨f.gs, 0, none⟩) m.ns m.ns, .slice (some ⟨f.gi, 0, none⟩) (m.P.length - m.ns) (m.P.length - m.ns), .int .i64 m.c]
  sec : Cel w f.gs 139 ((f.bs.take m.ns).map ptr)
  ins : Cel w f.gi 139 ((f.bs.drop m.ns).map ptr)
  len : f.bs.length = m.P.length
  ns0 : m.ns ≤ m.P.length
  most : m.P.length ≤ 128
  pg : ∀ k, k < m.P.length → Cel w (f.b k) 141 (u32s (m.p k))
  full : ∀ k, k < m.P.length → (m.p k).length = 1024
  nodup : f.bs.Nodup
theorem MS.at_lt {m : MS} {s : Bool} {p : Int} {k : Nat} (h0 : m.ns ≤ m.P.length) (h : m.at s p = some k) : k < m.P.length := by
  unfold MS.at at h
  split at h
  · cases s <;> simp at h <;> omega
  · cases h
theorem Mem.mem {w : World} {f : Fp} {m : MS} (h : Mem w f m) (k : Nat) (hk : k < m.P.length) : f.b k ∈ f.bs := by
  unfold Fp.b
  rw [List.getD_eq_getElem?_getD, List.getElem?_eq_getElem (by rw [h.len]; exact hk)]
  simp
theorem Mem.lt {w : World} {f : Fp} {m : MS} (h : Mem w f m) : ∀ k ∈ f.all, k < w.heap.size := by
  intro k hk
  simp only [Fp.all, List.mem_cons] at hk
  rcases hk with rfl | rfl | rfl | hk
  · exact h.cel.lt
  · exact h.sec.lt
  · exact h.ins.lt
  · obtain ⟨i, hi, rfl⟩ := List.mem_iff_getElem.1 hk
    have := (h.pg i (by rw [← h.len]; exact hi)).lt
    simpa [Fp.b, List.getD_eq_getElem?_getD, hi] using this
theorem Mem.frame {w w' : World} {f : Fp} {m : MS} {G : List Nat} (h : Mem w f m) (hb : ButL G w w') (hd : ∀ k ∈ f.all, k ∉ G) : Mem w' f m :=
  ⟨h.cel.but hb (hd _ (by simp [Fp.all])), h.sec.but hb (hd _ (by simp [Fp.all])), h.ins.but hb (hd _ (by simp [Fp.all])), h.len, h.ns0, h.most,
   fun k hk => (h.pg k hk).but hb (hd _ (by simp only [Fp.all, List.mem_cons]; exact .inr (.inr (.inr (h.mem k hk))))), h.full, h.nodup⟩
theorem Mem.on {w w' : World} {f : Fp} {m : MS} (h : Mem w f m) (hb : Below w.heap.size w w') : Mem w' f m := h.frame (G := []) (.of hb) (by simp)
theorem Mem.cm {w : World} {f : Fp} {m : MS} (h : Mem w f m) : w.cell? ⟨f.gm, 2, none⟩ = some (.int .i64 m.c) := h.cel.cell 2
/-- The meter is set. -/
theorem Mem.meter {w : World} {f : Fp} {m : MS} (h : Mem w f m) (c : Int) : Mem (w.setCell ⟨f.gm, 2, none⟩ (.int .i64 c)) f { m with c := c } := by
  have hb := ButL.setCell (G := [f.gm]) w f.gm 2 (.int .i64 c) (by simp)
  have h1 : f.gs ∉ [f.gm] := fun hm => by rw [List.mem_singleton] at hm; have := h.sec; rw [hm] at this; exact absurd (this.ty h.cel) (by decide)
  have h2 : f.gi ∉ [f.gm] := fun hm => by rw [List.mem_singleton] at hm; have := h.ins; rw [hm] at this; exact absurd (this.ty h.cel) (by decide)
  exact ⟨h.cel.setCell 2 _, h.sec.but hb h1, h.ins.but hb h2, h.len, h.ns0, h.most, fun k hk => (h.pg k hk).but hb (fun hm => by rw [List.mem_singleton] at hm; have := h.pg k hk; rw [hm] at this; exact absurd (this.ty h.cel) (by decide)), h.full, h.nodup⟩
/-- A page is written anew. -/
theorem Mem.page {w w' : World} {f : Fp} {m : MS} (h : Mem w f m) (k : Nat) (hk : k < m.P.length) (L : List Int) (hL : L.length = 1024) (hb : ButL [f.b k] w w') (hc : Cel w' (f.b k) 141 (u32s L)) : Mem w' f { m with P := m.P.set k L } := by
  have hp := h.pg k hk
  have hne : ∀ g t cs, Cel w g t cs → t ≠ 141 → g ∉ [f.b k] := fun g t cs hg ht hm => by rw [List.mem_singleton] at hm; rw [hm] at hg; exact ht (hg.ty hp)
  refine ⟨?_, ?_, ?_, by simp [h.len], by simpa using h.ns0, by simpa using h.most, ?_, ?_, h.nodup⟩
  · simpa using h.cel.but hb (hne _ _ _ h.cel (by decide))
  · exact h.sec.but hb (hne _ _ _ h.sec (by decide))
  · exact h.ins.but hb (hne _ _ _ h.ins (by decide))
  · intro j hj
    simp only [List.length_set] at hj
    by_cases e : j = k
    · subst e
      simp only [MS.p, List.getD_eq_getElem?_getD, List.getElem?_set_self hj, Option.getD_some] at hc ⊢
      exact hc
    · have := (h.pg j hj).but hb (by
        rw [List.mem_singleton]
        intro he
        have h1 : j < f.bs.length := by rw [h.len]; exact hj
        have h2 : k < f.bs.length := by rw [h.len]; exact hk
        simp only [Fp.b, List.getD_eq_getElem?_getD, List.getElem?_eq_getElem h1, List.getElem?_eq_getElem h2, Option.getD_some] at he
        rcases Nat.lt_or_gt_of_ne e with hlt | hlt
        · exact List.pairwise_iff_getElem.1 h.nodup j k h1 h2 hlt he
        · exact List.pairwise_iff_getElem.1 h.nodup k j h2 h1 hlt he.symm)
      simpa [MS.p, List.getD_eq_getElem?_getD, List.getElem?_set_ne (Ne.symm e)] using this
  · intro j hj
    simp only [List.length_set] at hj
    by_cases e : j = k
    · subst e; simp [MS.p, List.getD_eq_getElem?_getD, List.getElem?_set_self hj, hL]
    · simpa [MS.p, List.getD_eq_getElem?_getD, List.getElem?_set_ne (Ne.symm e)] using h.full j hj
/-- The cell of a page's pointer. -/
theorem Mem.secAt {w : World} {f : Fp} {m : MS} (h : Mem w f m) (k : Nat) (hk : k < m.ns) : w.cell? ⟨f.gs, k, none⟩ = some (ptr (f.b k)) := by
  have := h.len; have := h.ns0
  rw [h.sec.cell k, List.getElem?_map, List.getElem?_take_of_lt hk, List.getElem?_eq_getElem (by omega)]
  simp [Fp.b, List.getD_eq_getElem?_getD, List.getElem?_eq_getElem (show k < f.bs.length by omega)]
theorem Mem.insAt {w : World} {f : Fp} {m : MS} (h : Mem w f m) (k : Nat) (hk : k < m.P.length - m.ns) : w.cell? ⟨f.gi, k, none⟩ = some (ptr (f.b (m.ns + k))) := by
  have := h.len; have := h.ns0
  rw [h.ins.cell k, List.getElem?_map, List.getElem?_drop, List.getElem?_eq_getElem (by omega)]
  simp [Fp.b, List.getD_eq_getElem?_getD, List.getElem?_eq_getElem (show m.ns + k < f.bs.length by omega)]
/-- What find answers. -/
def pv (f : Fp) : Option Nat → Value
  | none => .pointer none
  | some k => ptr (f.b k)
def fr (s : Bool) (p : Int) : Value := .agg #[.bool s, .int .i64 p]
end Go.Proofs.Ytajkhkaidjjioaa
