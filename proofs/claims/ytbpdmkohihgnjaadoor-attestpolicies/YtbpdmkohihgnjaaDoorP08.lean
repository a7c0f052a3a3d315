import Derived.Test.YtbpdmkohihgnjaaDoorChecked
import Derived.Test.YtbpdmkohihgnjaaDoorP07
import Derived.WalkKit
import Derived.WalkSpells
import Derived.WalkLawsBesides
import Derived.Deep.QuietTactic
import Derived.BigQuiet
import Derived.BigRegion
import Derived.Handy
import Derived.Deep.RegionHeld3
import Derived.Deep.RegionWith
import Derived.Deep.AppendLies
import Derived.Deep.DrawnRows
import Derived.Deep.MidRow
import Derived.Deep.WholeRow
import Derived.Laws.AppendOwnNone
import Derived.Laws.CopyOwn
import Derived.Laws.CopyRow
namespace Go.Proofs.YtbpdmkohihgnjaaDoor
open Go.RowKit

theorem ret_int {k : IntKind} {a b : Int} (h : a = b) : Ending.returned (.int k a) = .returned (.int k b) := by rw [h]
theorem ret_bool {a b : Bool} (h : a = b) : Ending.returned (.bool a) = .returned (.bool b) := by rw [h]
def Row (W : World) (k : IntKind) (b off : Nat) (xs : List Int) : Prop := ∀ i, i < xs.length → W.cell? ⟨b, off + i, none⟩ = some (.int k (xs.getD i 0))
def Wds (xs : List Int) : Prop := ∀ i, 0 ≤ xs.getD i 0 ∧ xs.getD i 0 < 4294967296
def Bts (xs : List Int) : Prop := ∀ i, 0 ≤ xs.getD i 0 ∧ xs.getD i 0 < 256
theorem Row.drewN {W : World} {k : IntKind} {b off : Nat} {xs : List Int} (h : Row W k b off xs) (d : Nat) : Row (W.drewN d) k b off xs := fun i hi => (World.cell?_drewN W d _).trans (h i hi)
theorem Row.below {W w : World} {B : Nat} {k : IntKind} {b off : Nat} {xs : List Int} (h : Row W k b off xs) (hb : Below B W w) (hB : b < B) : Row w k b off xs := fun i hi => (hb.cell (p := ⟨b, off + i, none⟩) hB).trans (h i hi)
theorem Row.head {W : World} {k : IntKind} {b off : Nat} {xs ys : List Int} (h : Row W k b off (xs ++ ys)) : Row W k b off xs := by
  intro i hi
  have := h i (by simp; omega)
  rw [this]
  simp [List.getD_eq_getElem?_getD, List.getElem?_append_left hi]
theorem Row.take {W : World} {k : IntKind} {b off : Nat} {xs : List Int} (h : Row W k b off xs) (n : Nat) : Row W k b off (xs.take n) := by
  rw [← List.take_append_drop n xs] at h
  exact h.head
theorem Row.drop {W : World} {k : IntKind} {b off : Nat} {xs : List Int} (h : Row W k b off xs) (n : Nat) : Row W k b (off + n) (xs.drop n) := by
  intro i hi
  have := h (n + i) (by simp at hi; omega)
  rw [show off + n + i = off + (n + i) by omega, this]
  simp [List.getD_eq_getElem?_getD]
theorem Row.range {W : World} {k : IntKind} {b off : Nat} {xs : List Int} (h : Row W k b off xs) : W.rangeAt b off (xs.map (Value.int k)) := by
  intro j v hv
  have hj : j < xs.length := by
    rcases Nat.lt_or_ge j xs.length with h | h
    · exact h
    · simp [List.getElem?_eq_none (show (xs.map (Value.int k)).length ≤ j by simpa using h)] at hv
  rw [h j hj]
  simp [List.getElem?_eq_getElem hj] at hv
  simp [List.getD_eq_getElem?_getD, hj, hv]

def At (W : World) (k : IntKind) (ao : Option Addr) (xs : List Int) : Prop := xs = [] ∨ ∃ b off, ao = some ⟨b, off, none⟩ ∧ b < W.heap.size ∧ Row W k b off xs
theorem At.below {W w : World} {k : IntKind} {ao : Option Addr} {xs : List Int} (h : At W k ao xs) (hb : Below W.heap.size W w) : At w k ao xs := by
  rcases h with h | ⟨b, off, h1, h2, h3⟩
  · exact .inl h
  · exact .inr ⟨b, off, h1, by have := hb.size; omega, h3.below hb h2⟩
theorem below_one (W : World) (o : Obj) : Below W.heap.size W (W.alloc o) := (Below.refl W.heap.size W).alloc (Nat.le_refl _) o
theorem At.drewN {W : World} {k : IntKind} {ao : Option Addr} {xs : List Int} (h : At W k ao xs) (d : Nat) : At (W.drewN d) k ao xs := h.below (below_drewN (Below.refl _ _) d)
theorem At.cells {W : World} {k : IntKind} {a : Addr} {xs : List Int} (h : At W k (some a) xs) : ∀ j u, (xs.map (Value.int k))[j]? = some u → W.cell? (a.add j) = some u := by
  rcases h with rfl | ⟨b, off, hao, _, hr⟩
  · intro j u hu; simp at hu
  · intro j u hu
    obtain rfl := Option.some.inj hao
    have e1 : (⟨b, off, none⟩ : Addr).add j = ⟨b, off + j, none⟩ := by unfold Addr.add; split <;> simp_all
    have hj : j < xs.length := by
      rcases Nat.lt_or_ge j xs.length with h | h
      · exact h
      · simp [List.getElem?_eq_none (show (xs.map (Value.int k)).length ≤ j by simpa using h)] at hu
    rw [e1, hr j hj]
    simp [List.getElem?_eq_getElem hj] at hu
    simp [List.getD_eq_getElem?_getD, hj, hu]

def Blk (W : World) (g : Nat) (k : IntKind) (e : TypeId) (L : List Int) : Prop := W.heap[g]? = some (.cells (L.map (Value.int k)).toArray e (0, 0))
theorem Blk.below {W w : World} {B g : Nat} {k : IntKind} {e : TypeId} {L : List Int} (h : Blk W g k e L) (hb : Below B W w) (hg : g < B) : Blk w g k e L := (hb.block g hg).trans h
theorem Blk.lt {W : World} {g : Nat} {k : IntKind} {e : TypeId} {L : List Int} (h : Blk W g k e L) : g < W.heap.size := by
  rcases Nat.lt_or_ge g W.heap.size with h' | h'
  · exact h'
  · unfold Blk at h; rw [Array.getElem?_eq_none h'] at h; cases h
theorem Blk.row {W : World} {g : Nat} {k : IntKind} {e : TypeId} {L : List Int} (h : Blk W g k e L) : Row W k g 0 L := by
  intro i hi
  rw [Nat.zero_add, cell_of_row W g i _ e (0, 0) h]
  simp [List.getD_eq_getElem?_getD, hi]
theorem Blk.at {W : World} {g : Nat} {k : IntKind} {e : TypeId} {L : List Int} (h : Blk W g k e L) : At W k (some ⟨g, 0, none⟩) L := .inr ⟨g, 0, rfl, h.lt, h.row⟩
theorem Blk.other {w : World} {g b j : Nat} {k : IntKind} {e : TypeId} {L : List Int} (h : Blk w g k e L) (u : Value) (hb : g ≠ b) : Blk (w.setCell ⟨b, j, none⟩ u) g k e L := by
  unfold Blk at h ⊢
  rw [heap_setCell_other w ⟨b, j, none⟩ g u hb, h]
theorem Blk.set {w : World} {g : Nat} {k : IntKind} {e : TypeId} {L : List Int} (h : Blk w g k e L) (j : Nat) (u : Int) : Blk (w.setCell ⟨g, j, none⟩ (.int k u)) g k e (L.set j u) := by
  unfold Blk at h ⊢
  rw [heap_setCell_same w g j _ e _ h, List.setIfInBounds_toArray, List.map_set]
theorem Blk.free {W : World} {g : Nat} {k : IntKind} {e : TypeId} {L : List Int} (h : Blk W g k e L) (j : Nat) : W.frozen? ⟨g, j, none⟩ = false := frozen_of_row W g j _ e h
theorem Blk.cell {W : World} {g : Nat} {k : IntKind} {e : TypeId} {L : List Int} (h : Blk W g k e L) (j : Nat) (hj : j < L.length) : W.cell? ⟨g, j, none⟩ = some (.int k (L.getD j 0)) := by
  have := h.row j hj
  rwa [Nat.zero_add] at this
theorem Blk.drewN {W : World} {g : Nat} {k : IntKind} {e : TypeId} {L : List Int} (h : Blk W g k e L) (d : Nat) : Blk (W.drewN d) g k e L := h.below (below_drewN (Below.refl _ _) d) h.lt
theorem Blk.new (W : World) (k : IntKind) (e : TypeId) (L : List Int) : Blk (W.alloc (.cells (L.map (Value.int k)).toArray e)) W.heap.size k e L := heap_alloc_new _ _
theorem Blk.alloc {W : World} {g : Nat} {k : IntKind} {e : TypeId} {L : List Int} (h : Blk W g k e L) (o : Obj) : Blk (W.alloc o) g k e L := h.below (below_one W o) h.lt
theorem Blk.drew {W : World} {g : Nat} {k : IntKind} {e : TypeId} {L : List Int} (h : Blk W g k e L) : Blk W.drew g k e L := h
theorem Blk.setRow {w : World} {g : Nat} {k : IntKind} {e : TypeId} {L : List Int} (h : Blk w g k e L) (L' : List Int) : Blk (w.setRow g (L'.map (Value.int k)).toArray) g k e L' := setRow_heap w g _ _ e _ h
theorem Blk.setRow_other {w : World} {g b : Nat} {k : IntKind} {e : TypeId} {L : List Int} (h : Blk w g k e L) (cs : Array Value) (hb : g ≠ b) : Blk (w.setRow b cs) g k e L := by
  unfold Blk at h ⊢
  rw [Go.setRow_other w b g cs hb, h]

def Ag (L : List Int) : Value := .agg (L.map (Value.int .u32)).toArray
theorem ints_all (k : IntKind) (L : List Int) : (L.map (Value.int k)).toArray.all (·.oneCell') = true := all_oneCell_toArray (ints_oneCell k L)
theorem wpList_store_blk {P : Program} {ops : Array Oper} {rest : List Oper} {o : Oper} {a : Act} {w : World} {Q : Exit → Act → World → Prop} (hgd : o.guard = none) (ty : TypeId) (x y : Operand) (ho : o.op = .store ty x y)
    (g : Nat) (L' : List Int) (hx : a.eval x = .pointer (some ⟨g, 0, none⟩)) (hy : a.eval y = Ag L') {e : TypeId} {L : List Int} (hg : Blk w g .u32 e L) (hi : (P.info? ty).map (·.size) = some L'.length) (hl : L.length = L'.length)
    (h : wpList P ops Q rest (a.put o.dst undef) (w.setRow g (L'.map (Value.int .u32)).toArray)) : wpList P ops Q (o :: rest) a w :=
  wpList_store_row hgd ty x y ho g _ hx hy e _ hg (by rw [hi]; simp) (by simp [hl]) (ints_all _ _) h
structure But (g : Nat) (w w' : World) : Prop where
  os : w'.os = w.os
  tape : w'.tape = w.tape
  output : w'.output = w.output
  size : w.heap.size ≤ w'.heap.size
  block : ∀ k, k < w.heap.size → k ≠ g → w'.heap[k]? = w.heap[k]?
theorem But.blk {g : Nat} {w w' : World} (h : But g w w') {i : Nat} {k : IntKind} {e : TypeId} {L : List Int} (hb : Blk w i k e L) (hi : i ≠ g) : Blk w' i k e L := (h.block i hb.lt hi).trans hb
theorem But.row {g : Nat} {w w' : World} (h : But g w w') {k : IntKind} {b off : Nat} {L : List Int} (hr : Row w k b off L) (hb : b < w.heap.size) (hi : b ≠ g) : Row w' k b off L := fun i hL => by
  have e : w'.cell? ⟨b, off + i, none⟩ = w.cell? ⟨b, off + i, none⟩ := World.cell?_of_block (w := w) (h.block b hb hi)
  rw [e]; exact hr i hL
theorem But.below {g B : Nat} {w w' : World} (h : But g w w') (hB : B ≤ g) (hs : B ≤ w.heap.size) : Below B w w' := ⟨h.os, h.tape, h.output, h.size, fun k hk => h.block k (by omega) (by omega)⟩
theorem Below.but {g : Nat} {w w' : World} (h : Below w.heap.size w w') : But g w w' := ⟨h.os, h.tape, h.output, h.size, fun k hk _ => h.block k hk⟩
theorem But.trans {g : Nat} {a b c : World} (h : But g a b) (h' : But g b c) : But g a c := ⟨h'.os.trans h.os, h'.tape.trans h.tape, h'.output.trans h.output, Nat.le_trans h.size h'.size, fun k hk hg => (h'.block k (by have := h.size; omega) hg).trans (h.block k hk hg)⟩
theorem but_setRow (w : World) (g : Nat) (cs : Array Value) : But g w (w.setRow g cs) := ⟨rfl, rfl, rfl, by simp, fun k _ hk => Go.setRow_other w g k cs hk⟩
theorem but_setCell (w : World) (g j : Nat) (u : Value) : But g w (w.setCell ⟨g, j, none⟩ u) := ⟨rfl, rfl, rfl, by simp, fun k _ hk => heap_setCell_other w ⟨g, j, none⟩ k u hk⟩
theorem wpList_store_but {P : Program} {ops : Array Oper} {rest : List Oper} {o : Oper} {a : Act} {w : World} {Q : Exit → Act → World → Prop} (hgd : o.guard = none) (ty : TypeId) (x y : Operand) (ho : o.op = .store ty x y)
    (g : Nat) (L' : List Int) (hx : a.eval x = .pointer (some ⟨g, 0, none⟩)) (hy : a.eval y = Ag L') {e : TypeId} {L : List Int} (hg : Blk w g .u32 e L) (hi : (P.info? ty).map (·.size) = some L'.length) (hl : L.length = L'.length)
    (h : ∀ w', Blk w' g .u32 e L' → But g w w' → w'.heap.size = w.heap.size → wpList P ops Q rest (a.put o.dst undef) w') : wpList P ops Q (o :: rest) a w :=
  wpList_store_blk hgd ty x y ho g L' hx hy hg hi hl (h _ (hg.setRow _) (but_setRow _ _ _) (by simp))

structure Holds (W wr : World) (k : IntKind) (e : TypeId) (v : Value) (L : List Int) : Prop where
  own : wr.ownsRow W.heap.size e 1 v L.length (L.map (Value.int k))
  below : Below W.heap.size W wr
theorem Holds.start (W : World) (k : IntKind) (e : TypeId) : Holds W W k e (.slice none 0 0) [] := ⟨World.ownsRow_nil _ _ _ _, Below.refl _ _⟩
theorem Holds.grow {W wr w1 : World} {k : IntKind} {e : TypeId} {v v' : Value} {L' : List Int} {n : Nat} {news : List Value} (hb : Below W.heap.size W wr) (hv : ∀ g, v.ownBlock = some g → W.heap.size ≤ g) (hown : w1.ownsRow W.heap.size e 1 v' n news) (hg : wr.grownBy w1 v.ownBlock) (hn : n = L'.length) (hnews : news = L'.map (Value.int k)) : Holds W w1 k e v' L' := by
  subst hn hnews
  exact ⟨hown, hb.grown hg hb.size hv⟩
theorem Holds.form {W wr : World} {k : IntKind} {e : TypeId} {v : Value} {L : List Int} (h : Holds W wr k e v L) (hn : 0 < L.length) : ∃ g cap, v = .slice (some ⟨g, 0, none⟩) L.length cap ∧ L.length ≤ cap ∧ W.heap.size ≤ g ∧ g < wr.heap.size ∧ Row wr k g 0 L := by
  rcases h.own.2 with ⟨_, h0⟩ | ⟨g, cap, cur, rfl, hg, hh, hc, hm, hs, ht⟩
  · omega
  · refine ⟨g, cap, rfl, hc, hg, (h.own.lt g rfl).2, ?_⟩
    intro i hi
    rw [Nat.zero_add, h.own.cellAt i (by omega)]
    simp [List.getD_eq_getElem?_getD, hi]

structure Owned (W wr : World) (k : IntKind) (e : TypeId) (N : Nat) (L : List Int) : Prop where
  len : L.length = N
  own : wr.ownsRow W.heap.size e 1 (.slice (some ⟨W.heap.size, 0, none⟩) N N) N (L.map (Value.int k))
  below : Below W.heap.size W wr
theorem Owned.cell {W wr : World} {k : IntKind} {e : TypeId} {N : Nat} {L : List Int} (h : Owned W wr k e N L) (j : Nat) (hj : j < N) : wr.cell? ⟨W.heap.size, j, none⟩ = some (.int k (L.getD j 0)) := by
  rw [h.own.cellAt j (by omega)]
  have := h.len
  simp [List.getD_eq_getElem?_getD, show j < L.length by omega]
theorem Owned.free {W wr : World} {k : IntKind} {e : TypeId} {N : Nat} {L : List Int} (h : Owned W wr k e N L) (j : Nat) : wr.frozen? ⟨W.heap.size, j, none⟩ = false := h.own.frozenAt j
theorem Owned.drew {W wr : World} {k : IntKind} {e : TypeId} {N : Nat} {L : List Int} (h : Owned W wr k e N L) : Owned W wr.drew k e N L := ⟨h.len, h.own, h.below.drew⟩
theorem Owned.step {W wr : World} {k : IntKind} {e : TypeId} {N : Nat} {L L' : List Int} (h : Owned W wr k e N L) (j : Nat) (u : Int) (hL : L.set j u = L') : Owned W (wr.setCell ⟨W.heap.size, j, none⟩ (.int k u)) k e N L' := by
  subst hL
  refine ⟨by simp [h.len], ?_, h.below.setCell (Nat.le_refl _) _⟩
  have := (h.own.stored j (.int k u)).1
  rwa [← List.map_set] at this
theorem Owned.start {W w : World} {k : IntKind} {e : TypeId} {N : Nat} (h : w.ownsRow W.heap.size e 1 (.slice (some ⟨W.heap.size, 0, none⟩) N N) N (madeCells #[Value.int k 0] N).toList) (hg : W.grownBy w none) : Owned W w k e N (List.replicate N 0) := by
  refine ⟨by simp, ?_, (Below.refl _ W).grown hg (Nat.le_refl _) (fun _ h => by cases h)⟩
  rw [toList_madeCells_one] at h
  rw [List.map_replicate]
  exact h
theorem Owned.row {W wr : World} {k : IntKind} {e : TypeId} {N : Nat} {L : List Int} (h : Owned W wr k e N L) : Row wr k W.heap.size 0 L := by
  intro i hi
  rw [Nat.zero_add]
  exact h.cell i (by rw [← h.len]; exact hi)
theorem Owned.lt {W wr : World} {k : IntKind} {e : TypeId} {N : Nat} {L : List Int} (h : Owned W wr k e N L) : W.heap.size < wr.heap.size := (h.own.lt W.heap.size rfl).2
theorem Owned.at {W wr : World} {k : IntKind} {e : TypeId} {N : Nat} {L : List Int} (h : Owned W wr k e N L) : At wr k (some ⟨W.heap.size, 0, none⟩) L := .inr ⟨_, 0, rfl, h.lt, h.row⟩

theorem Tryd.info5 : (Tryd.prog.info? 5).map (fun i => (i.zero, i.size, i.bytes)) = some (some (.int .u8 0), 1, 1) := by kernel_rfl
theorem Tryd.info22 : (Tryd.prog.info? 22).map (fun i => (i.zero, i.size, i.bytes)) = some (some (.int .u32 0), 1, 4) := by kernel_rfl
theorem size26 : (Tryd.prog.info? 23).map (·.size) = some 8 := by kernel_rfl
end Go.Proofs.YtbpdmkohihgnjaaDoor
namespace Go.Proofs.YtbpdmkohihgnjaaDoor
open Go.RowKit

attribute [-simp] Tryd.isAgg23 Tryd.sizeOf23
end Go.Proofs.YtbpdmkohihgnjaaDoor
