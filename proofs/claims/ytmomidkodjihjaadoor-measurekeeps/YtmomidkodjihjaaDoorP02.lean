import Derived.WalkKit
import Derived.Laws.BitsAllLaws
import Derived.Test.YtmomidkodjihjaaDoorChecked
import Derived.WalkSpells
import Derived.WalkLawsBesides
import Derived.Deep.QuietTactic
import Derived.BigQuiet
import Derived.BigRegion
import Derived.Handy
import Derived.Deep.RegionHeld3
import Derived.Deep.RegionWith
import Derived.Deep.AppendLies
import Derived.Deep.DrawnRows
import Derived.Deep.MidRow
import Derived.Deep.WholeRow
import Derived.Laws.AppendOwnNone
import Derived.Laws.CopyOwn
import Derived.Laws.CopyRow
namespace Go.Proofs.YtmomidkodjihjaaDoor.H.S
open Go.RowKit

def ad (a b : Int) : Int := (a + b) % 4294967296
def xo (a b : Int) : Int := bits .xor .u32 a b
def an (a b : Int) : Int := bits .and .u32 a b
def no (a : Int) : Int := bits .xor .u32 4294967295 a
def rot (w : Int) (k : Nat) : Int := bits .or .u32 (w * 2 ^ (32 - k) % 4294967296) (w / 2 ^ k)
def K : List Int := [1116352408, 1899447441, 3049323471, 3921009573, 961987163, 1508970993, 2453635748, 2870763221, 3624381080, 310598401, 607225278, 1426881987, 1925078388, 2162078206, 2614888103, 3248222580, 3835390401, 4022224774, 264347078, 604807628, 770255983, 1249150122, 1555081692, 1996064986, 2554220882, 2821834349, 2952996808, 3210313671, 3336571891, 3584528711, 113926993, 338241895, 666307205, 773529912, 1294757372, 1396182291, 1695183700, 1986661051, 2177026350, 2456956037, 2730485921, 2820302411, 3259730800, 3345764771, 3516065817, 3600352804, 4094571909, 275423344, 430227734, 506948616, 659060556, 883997877, 958139571, 1322822218, 1537002063, 1747873779, 1955562222, 2024104815, 2227730452, 2361852424, 2428436474, 2756734187, 3204031479, 3329325298]
def First : List Int := [1779033703, 3144134277, 1013904242, 2773480762, 1359893119, 2600822924, 528734635, 1541459225]
def s0 (x : Int) : Int := xo (xo (rot x 7) (rot x 18)) (x / 8)
def s1 (x : Int) : Int := xo (xo (rot x 17) (rot x 19)) (x / 1024)
def S0 (x : Int) : Int := xo (xo (rot x 2) (rot x 13)) (rot x 22)
def S1 (x : Int) : Int := xo (xo (rot x 6) (rot x 11)) (rot x 25)
def ch (e f g : Int) : Int := xo (an e f) (an (no e) g)
def mj (a b c : Int) : Int := xo (xo (an a b) (an a c)) (an b c)
def next (L : List Int) (t : Nat) : Int := (s1 (L.getD (t - 2) 0) + L.getD (t - 7) 0 + s0 (L.getD (t - 15) 0) + L.getD (t - 16) 0) % 4294967296
def sched (B : List Int) : Nat → List Int
  | 0 => B
  | k + 1 => sched B k ++ [next (sched B k) (16 + k)]
def u1 (L : List Int) (x : Int) : Int := L.getD 7 0 + S1 (L.getD 4 0) + ch (L.getD 4 0) (L.getD 5 0) (L.getD 6 0) + x
def u2 (L : List Int) : Int := S0 (L.getD 0 0) + mj (L.getD 0 0) (L.getD 1 0) (L.getD 2 0)
def round (L : List Int) (x : Int) : List Int := [(u1 L x + u2 L) % 4294967296, L.getD 0 0, L.getD 1 0, L.getD 2 0, (L.getD 3 0 + u1 L x) % 4294967296, L.getD 4 0, L.getD 5 0, L.getD 6 0]
def rounds (S : List Int) (W : List Int) : Nat → List Int
  | 0 => S
  | k + 1 => round (rounds S W k) (ad (K.getD k 0) (W.getD k 0))
def plus (a b : List Int) (t : Nat) : List Int := (List.range 8).map fun i => if i < t then ad (a.getD i 0) (b.getD i 0) else a.getD i 0
def block (S B : List Int) : List Int := plus (rounds S (sched B 48) 64) S 8
end Go.Proofs.YtmomidkodjihjaaDoor.H.S
namespace Go.Proofs.YtmomidkodjihjaaDoor.H
open Go.RowKit

def Row (W : World) (k : IntKind) (b off : Nat) (xs : List Int) : Prop := ∀ i, i < xs.length → W.cell? ⟨b, off + i, none⟩ = some (.int k (xs.getD i 0))
def Wds (xs : List Int) : Prop := ∀ i, 0 ≤ xs.getD i 0 ∧ xs.getD i 0 < 4294967296
def Bts (xs : List Int) : Prop := ∀ i, 0 ≤ xs.getD i 0 ∧ xs.getD i 0 < 256
theorem Row.drewN {W : World} {k : IntKind} {b off : Nat} {xs : List Int} (h : Row W k b off xs) (d : Nat) : Row (W.drewN d) k b off xs := fun i hi => (World.cell?_drewN W d _).trans (h i hi)
theorem Row.below {W w : World} {B : Nat} {k : IntKind} {b off : Nat} {xs : List Int} (h : Row W k b off xs) (hb : Below B W w) (hB : b < B) : Row w k b off xs := fun i hi => (hb.cell (p := ⟨b, off + i, none⟩) hB).trans (h i hi)
theorem Row.head {W : World} {k : IntKind} {b off : Nat} {xs ys : List Int} (h : Row W k b off (xs ++ ys)) : Row W k b off xs := by
  intro i hi
  have := h i (by simp; omega)
  rw [this]
  simp [List.getD_eq_getElem?_getD, List.getElem?_append_left hi]
theorem Row.take {W : World} {k : IntKind} {b off : Nat} {xs : List Int} (h : Row W k b off xs) (n : Nat) : Row W k b off (xs.take n) := by
  rw [← List.take_append_drop n xs] at h
  exact h.head
theorem Row.drop {W : World} {k : IntKind} {b off : Nat} {xs : List Int} (h : Row W k b off xs) (n : Nat) : Row W k b (off + n) (xs.drop n) := by
  intro i hi
  have := h (n + i) (by simp at hi; omega)
  rw [show off + n + i = off + (n + i) by omega, this]
  simp [List.getD_eq_getElem?_getD]
theorem Row.range {W : World} {k : IntKind} {b off : Nat} {xs : List Int} (h : Row W k b off xs) : W.rangeAt b off (xs.map (Value.int k)) := by
  intro j v hv
  have hj : j < xs.length := by
    rcases Nat.lt_or_ge j xs.length with h | h
    · exact h
    · simp [List.getElem?_eq_none (show (xs.map (Value.int k)).length ≤ j by simpa using h)] at hv
  rw [h j hj]
  simp [List.getElem?_eq_getElem hj] at hv
  simp [List.getD_eq_getElem?_getD, hj, hv]

def At (W : World) (k : IntKind) (ao : Option Addr) (xs : List Int) : Prop := xs = [] ∨ ∃ b off, ao = some ⟨b, off, none⟩ ∧ b < W.heap.size ∧ Row W k b off xs
theorem At.below {W w : World} {k : IntKind} {ao : Option Addr} {xs : List Int} (h : At W k ao xs) (hb : Below W.heap.size W w) : At w k ao xs := by
  rcases h with h | ⟨b, off, h1, h2, h3⟩
  · exact .inl h
  · exact .inr ⟨b, off, h1, by have := hb.size; omega, h3.below hb h2⟩
theorem below_one (W : World) (o : Obj) : Below W.heap.size W (W.alloc o) := (Below.refl W.heap.size W).alloc (Nat.le_refl _) o
theorem At.drewN {W : World} {k : IntKind} {ao : Option Addr} {xs : List Int} (h : At W k ao xs) (d : Nat) : At (W.drewN d) k ao xs := h.below (below_drewN (Below.refl _ _) d)
theorem At.cells {W : World} {k : IntKind} {a : Addr} {xs : List Int} (h : At W k (some a) xs) : ∀ j u, (xs.map (Value.int k))[j]? = some u → W.cell? (a.add j) = some u := by
  rcases h with rfl | ⟨b, off, hao, _, hr⟩
  · intro j u hu; simp at hu
  · intro j u hu
    obtain rfl := Option.some.inj hao
    have e1 : (⟨b, off, none⟩ : Addr).add j = ⟨b, off + j, none⟩ := by unfold Addr.add; split <;> simp_all
    have hj : j < xs.length := by
      rcases Nat.lt_or_ge j xs.length with h | h
      · exact h
      · simp [List.getElem?_eq_none (show (xs.map (Value.int k)).length ≤ j by simpa using h)] at hu
    rw [e1, hr j hj]
    simp [List.getElem?_eq_getElem hj] at hu
    simp [List.getD_eq_getElem?_getD, hj, hu]

def Blk (W : World) (g : Nat) (k : IntKind) (e : TypeId) (L : List Int) : Prop := W.heap[g]? = some (.cells (L.map (Value.int k)).toArray e (0, 0))
theorem Blk.below {W w : World} {B g : Nat} {k : IntKind} {e : TypeId} {L : List Int} (h : Blk W g k e L) (hb : Below B W w) (hg : g < B) : Blk w g k e L := (hb.block g hg).trans h
theorem Blk.lt {W : World} {g : Nat} {k : IntKind} {e : TypeId} {L : List Int} (h : Blk W g k e L) : g < W.heap.size := by
  rcases Nat.lt_or_ge g W.heap.size with h' | h'
  · exact h'
  · unfold Blk at h; rw [Array.getElem?_eq_none h'] at h; cases h
theorem Blk.row {W : World} {g : Nat} {k : IntKind} {e : TypeId} {L : List Int} (h : Blk W g k e L) : Row W k g 0 L := by
  intro i hi
  rw [Nat.zero_add, cell_of_row W g i _ e (0, 0) h]
  simp [List.getD_eq_getElem?_getD, hi]
theorem Blk.at {W : World} {g : Nat} {k : IntKind} {e : TypeId} {L : List Int} (h : Blk W g k e L) : At W k (some ⟨g, 0, none⟩) L := .inr ⟨g, 0, rfl, h.lt, h.row⟩
theorem Blk.other {w : World} {g b j : Nat} {k : IntKind} {e : TypeId} {L : List Int} (h : Blk w g k e L) (u : Value) (hb : g ≠ b) : Blk (w.setCell ⟨b, j, none⟩ u) g k e L := by
  unfold Blk at h ⊢
  rw [heap_setCell_other w ⟨b, j, none⟩ g u hb, h]
theorem Blk.set {w : World} {g : Nat} {k : IntKind} {e : TypeId} {L : List Int} (h : Blk w g k e L) (j : Nat) (u : Int) : Blk (w.setCell ⟨g, j, none⟩ (.int k u)) g k e (L.set j u) := by
  unfold Blk at h ⊢
  rw [heap_setCell_same w g j _ e _ h, List.setIfInBounds_toArray, List.map_set]
theorem Blk.free {W : World} {g : Nat} {k : IntKind} {e : TypeId} {L : List Int} (h : Blk W g k e L) (j : Nat) : W.frozen? ⟨g, j, none⟩ = false := frozen_of_row W g j _ e h
theorem Blk.cell {W : World} {g : Nat} {k : IntKind} {e : TypeId} {L : List Int} (h : Blk W g k e L) (j : Nat) (hj : j < L.length) : W.cell? ⟨g, j, none⟩ = some (.int k (L.getD j 0)) := by
  have := h.row j hj
  rwa [Nat.zero_add] at this
theorem Blk.drewN {W : World} {g : Nat} {k : IntKind} {e : TypeId} {L : List Int} (h : Blk W g k e L) (d : Nat) : Blk (W.drewN d) g k e L := h.below (below_drewN (Below.refl _ _) d) h.lt
theorem Blk.new (W : World) (k : IntKind) (e : TypeId) (L : List Int) : Blk (W.alloc (.cells (L.map (Value.int k)).toArray e)) W.heap.size k e L := heap_alloc_new _ _
theorem Blk.alloc {W : World} {g : Nat} {k : IntKind} {e : TypeId} {L : List Int} (h : Blk W g k e L) (o : Obj) : Blk (W.alloc o) g k e L := h.below (below_one W o) h.lt
theorem Blk.newAt {W : World} {n : Nat} (hn : W.heap.size = n) (k : IntKind) (e : TypeId) (L : List Int) : Blk (W.alloc (.cells (L.map (Value.int k)).toArray e)) n k e L := by subst hn; exact Blk.new W k e L
theorem Blk.drew {W : World} {g : Nat} {k : IntKind} {e : TypeId} {L : List Int} (h : Blk W g k e L) : Blk W.drew g k e L := h
theorem Blk.setRow {w : World} {g : Nat} {k : IntKind} {e : TypeId} {L : List Int} (h : Blk w g k e L) (L' : List Int) : Blk (w.setRow g (L'.map (Value.int k)).toArray) g k e L' := setRow_heap w g _ _ e _ h
theorem Blk.setRow_other {w : World} {g b : Nat} {k : IntKind} {e : TypeId} {L : List Int} (h : Blk w g k e L) (cs : Array Value) (hb : g ≠ b) : Blk (w.setRow b cs) g k e L := by
  unfold Blk at h ⊢
  rw [Go.setRow_other w b g cs hb, h]

def Ag (L : List Int) : Value := .agg (L.map (Value.int .u32)).toArray
theorem ints_all (k : IntKind) (L : List Int) : (L.map (Value.int k)).toArray.all (·.oneCell') = true := all_oneCell_toArray (ints_oneCell k L)
theorem wpList_store_blk {P : Program} {ops : Array Oper} {rest : List Oper} {o : Oper} {a : Act} {w : World} {Q : Exit → Act → World → Prop} (hgd : o.guard = none) (ty : TypeId) (x y : Operand) (ho : o.op = .store ty x y)
    (g : Nat) (L' : List Int) (hx : a.eval x = .pointer (some ⟨g, 0, none⟩)) (hy : a.eval y = Ag L') {e : TypeId} {L : List Int} (hg : Blk w g .u32 e L) (hi : (P.info? ty).map (·.size) = some L'.length) (hl : L.length = L'.length)
    (h : wpList P ops Q rest (a.put o.dst undef) (w.setRow g (L'.map (Value.int .u32)).toArray)) : wpList P ops Q (o :: rest) a w :=
  wpList_store_row hgd ty x y ho g _ hx hy e _ hg (by rw [hi]; simp) (by simp [hl]) (ints_all _ _) h
theorem wpList_load_blk {P : Program} {ops : Array Oper} {rest : List Oper} {o : Oper} {a : Act} {w : World} {Q : Exit → Act → World → Prop} (hgd : o.guard = none) (ty : TypeId) (x : Operand) (ho : o.op = .load ty x)
    (g : Nat) (L : List Int) (hx : a.eval x = .pointer (some ⟨g, 0, none⟩)) {e t : TypeId} {n : Nat} (hg : Blk w g .u32 e L) (hu : P.underlying ty = some (.array n t)) (hi : (P.info? ty).map (·.size) = some L.length)
    (h : wpList P ops Q rest (a.put o.dst (Ag L)) w) : wpList P ops Q (o :: rest) a w :=
  wpList_load_row hgd ty x ho g hx e _ (0, 0) _ hg hu rfl (by rw [hi]; simp) h

structure But (g : Nat) (w w' : World) : Prop where
  os : w'.os = w.os
  tape : w'.tape = w.tape
  output : w'.output = w.output
  size : w.heap.size ≤ w'.heap.size
  block : ∀ k, k < w.heap.size → k ≠ g → w'.heap[k]? = w.heap[k]?
theorem But.blk {g : Nat} {w w' : World} (h : But g w w') {i : Nat} {k : IntKind} {e : TypeId} {L : List Int} (hb : Blk w i k e L) (hi : i ≠ g) : Blk w' i k e L := (h.block i hb.lt hi).trans hb
theorem But.row {g : Nat} {w w' : World} (h : But g w w') {k : IntKind} {b off : Nat} {L : List Int} (hr : Row w k b off L) (hb : b < w.heap.size) (hi : b ≠ g) : Row w' k b off L := fun i hL => by
  have e : w'.cell? ⟨b, off + i, none⟩ = w.cell? ⟨b, off + i, none⟩ := World.cell?_of_block (w := w) (h.block b hb hi)
  rw [e]; exact hr i hL
theorem But.below {g B : Nat} {w w' : World} (h : But g w w') (hB : B ≤ g) (hs : B ≤ w.heap.size) : Below B w w' := ⟨h.os, h.tape, h.output, h.size, fun k hk => h.block k (by omega) (by omega)⟩
theorem Below.but {g : Nat} {w w' : World} (h : Below w.heap.size w w') : But g w w' := ⟨h.os, h.tape, h.output, h.size, fun k hk _ => h.block k hk⟩
theorem But.trans {g : Nat} {a b c : World} (h : But g a b) (h' : But g b c) : But g a c := ⟨h'.os.trans h.os, h'.tape.trans h.tape, h'.output.trans h.output, Nat.le_trans h.size h'.size, fun k hk hg => (h'.block k (by have := h.size; omega) hg).trans (h.block k hk hg)⟩
theorem but_setRow (w : World) (g : Nat) (cs : Array Value) : But g w (w.setRow g cs) := ⟨rfl, rfl, rfl, by simp, fun k _ hk => Go.setRow_other w g k cs hk⟩
theorem but_setCell (w : World) (g j : Nat) (u : Value) : But g w (w.setCell ⟨g, j, none⟩ u) := ⟨rfl, rfl, rfl, by simp, fun k _ hk => heap_setCell_other w ⟨g, j, none⟩ k u hk⟩
theorem wpList_store_but {P : Program} {ops : Array Oper} {rest : List Oper} {o : Oper} {a : Act} {w : World} {Q : Exit → Act → World → Prop} (hgd : o.guard = none) (ty : TypeId) (x y : Operand) (ho : o.op = .store ty x y)
    (g : Nat) (L' : List Int) (hx : a.eval x = .pointer (some ⟨g, 0, none⟩)) (hy : a.eval y = Ag L') {e : TypeId} {L : List Int} (hg : Blk w g .u32 e L) (hi : (P.info? ty).map (·.size) = some L'.length) (hl : L.length = L'.length)
    (h : ∀ w', Blk w' g .u32 e L' → But g w w' → w'.heap.size = w.heap.size → wpList P ops Q rest (a.put o.dst undef) w') : wpList P ops Q (o :: rest) a w :=
  wpList_store_blk hgd ty x y ho g L' hx hy hg hi hl (h _ (hg.setRow _) (but_setRow _ _ _) (by simp))

theorem ret_cell {P : Program} {fn : Func} {p : Tmp} {ty e t : TypeId} {n : Nat} {a : Act} {w : World} {post : Ending → World → Prop} (hr : fn.results = #[.cell p ty]) (hd : a.defers = []) (g : Nat) (L : List Int)
    (hp : a.tmps.getD p undef = .pointer (some ⟨g, 0, none⟩)) (hb : Blk w g .u32 e L) (hu : P.underlying ty = some (.array n t)) (hi : (P.info? ty).map (·.size) = some L.length) (h : post (.returned (Ag L)) w) :
    bodyPost P fn post .ret a w :=
  bodyPost_ret (results_cell_row hr _ _ g e _ (0, 0) _ hp hb hu rfl (by rw [hi]; simp)) hd h

structure Holds (W wr : World) (k : IntKind) (e : TypeId) (v : Value) (L : List Int) : Prop where
  own : wr.ownsRow W.heap.size e 1 v L.length (L.map (Value.int k))
  below : Below W.heap.size W wr
theorem Holds.start (W : World) (k : IntKind) (e : TypeId) : Holds W W k e (.slice none 0 0) [] := ⟨World.ownsRow_nil _ _ _ _, Below.refl _ _⟩
theorem Holds.grow {W wr w1 : World} {k : IntKind} {e : TypeId} {v v' : Value} {L' : List Int} {n : Nat} {news : List Value} (hb : Below W.heap.size W wr) (hv : ∀ g, v.ownBlock = some g → W.heap.size ≤ g) (hown : w1.ownsRow W.heap.size e 1 v' n news) (hg : wr.grownBy w1 v.ownBlock) (hn : n = L'.length) (hnews : news = L'.map (Value.int k)) : Holds W w1 k e v' L' := by
  subst hn hnews
  exact ⟨hown, hb.grown hg hb.size hv⟩
theorem Holds.at' {W wr : World} {k : IntKind} {e : TypeId} {v : Value} {L : List Int} (h : Holds W wr k e v L) : ∃ ao cap, v = .slice ao L.length cap ∧ L.length ≤ cap ∧ At wr k ao L ∧ (ao = none → cap = 0 ∧ L.length = 0) := by
  rcases h.own.2 with ⟨rfl, h0⟩ | ⟨g, cap, cur, rfl, hg, hh, hn, hm, hs, ht⟩
  · exact ⟨none, 0, by rw [h0], by omega, .inl (List.eq_nil_of_length_eq_zero h0), fun _ => ⟨rfl, h0⟩⟩
  · refine ⟨some ⟨g, 0, none⟩, cap, rfl, hn, .inr ⟨g, 0, rfl, (h.own.lt g rfl).2, ?_⟩, fun h => by cases h⟩
    intro i hi
    rw [Nat.zero_add, h.own.cellAt i (by omega)]
    simp [List.getD_eq_getElem?_getD, hi]
theorem Holds.form {W wr : World} {k : IntKind} {e : TypeId} {v : Value} {L : List Int} (h : Holds W wr k e v L) (hn : 0 < L.length) : ∃ g cap, v = .slice (some ⟨g, 0, none⟩) L.length cap ∧ L.length ≤ cap ∧ W.heap.size ≤ g ∧ g < wr.heap.size ∧ Row wr k g 0 L := by
  rcases h.own.2 with ⟨_, h0⟩ | ⟨g, cap, cur, rfl, hg, hh, hc, hm, hs, ht⟩
  · omega
  · refine ⟨g, cap, rfl, hc, hg, (h.own.lt g rfl).2, ?_⟩
    intro i hi
    rw [Nat.zero_add, h.own.cellAt i (by omega)]
    simp [List.getD_eq_getElem?_getD, hi]

structure Owned (W wr : World) (k : IntKind) (e : TypeId) (N : Nat) (L : List Int) : Prop where
  len : L.length = N
  own : wr.ownsRow W.heap.size e 1 (.slice (some ⟨W.heap.size, 0, none⟩) N N) N (L.map (Value.int k))
  below : Below W.heap.size W wr
theorem Owned.cell {W wr : World} {k : IntKind} {e : TypeId} {N : Nat} {L : List Int} (h : Owned W wr k e N L) (j : Nat) (hj : j < N) : wr.cell? ⟨W.heap.size, j, none⟩ = some (.int k (L.getD j 0)) := by
  rw [h.own.cellAt j (by omega)]
  have := h.len
  simp [List.getD_eq_getElem?_getD, show j < L.length by omega]
theorem Owned.free {W wr : World} {k : IntKind} {e : TypeId} {N : Nat} {L : List Int} (h : Owned W wr k e N L) (j : Nat) : wr.frozen? ⟨W.heap.size, j, none⟩ = false := h.own.frozenAt j
theorem Owned.drew {W wr : World} {k : IntKind} {e : TypeId} {N : Nat} {L : List Int} (h : Owned W wr k e N L) : Owned W wr.drew k e N L := ⟨h.len, h.own, h.below.drew⟩
theorem Owned.step {W wr : World} {k : IntKind} {e : TypeId} {N : Nat} {L L' : List Int} (h : Owned W wr k e N L) (j : Nat) (u : Int) (hL : L.set j u = L') : Owned W (wr.setCell ⟨W.heap.size, j, none⟩ (.int k u)) k e N L' := by
  subst hL
  refine ⟨by simp [h.len], ?_, h.below.setCell (Nat.le_refl _) _⟩
  have := (h.own.stored j (.int k u)).1
  rwa [← List.map_set] at this
theorem Owned.start {W w : World} {k : IntKind} {e : TypeId} {N : Nat} (h : w.ownsRow W.heap.size e 1 (.slice (some ⟨W.heap.size, 0, none⟩) N N) N (madeCells #[Value.int k 0] N).toList) (hg : W.grownBy w none) : Owned W w k e N (List.replicate N 0) := by
  refine ⟨by simp, ?_, (Below.refl _ W).grown hg (Nat.le_refl _) (fun _ h => by cases h)⟩
  rw [toList_madeCells_one] at h
  rw [List.map_replicate]
  exact h
theorem Owned.row {W wr : World} {k : IntKind} {e : TypeId} {N : Nat} {L : List Int} (h : Owned W wr k e N L) : Row wr k W.heap.size 0 L := by
  intro i hi
  rw [Nat.zero_add]
  exact h.cell i (by rw [← h.len]; exact hi)
theorem Owned.lt {W wr : World} {k : IntKind} {e : TypeId} {N : Nat} {L : List Int} (h : Owned W wr k e N L) : W.heap.size < wr.heap.size := (h.own.lt W.heap.size rfl).2
theorem Owned.at {W wr : World} {k : IntKind} {e : TypeId} {N : Nat} {L : List Int} (h : Owned W wr k e N L) : At wr k (some ⟨W.heap.size, 0, none⟩) L := .inr ⟨_, 0, rfl, h.lt, h.row⟩

theorem Tryd.info24 : (Tryd.prog.info? 24).map (fun i => (i.zero, i.size, i.bytes)) = some (some (.int .u32 0), 1, 4) := by kernel_rfl
theorem size26 : (Tryd.prog.info? 24).map (·.size) = some 1 := by kernel_rfl
theorem size27 : (Tryd.prog.info? 44).map (·.size) = some 8 := by kernel_rfl
theorem size48 : (Tryd.prog.info? 139).map (·.size) = some 64 := by kernel_rfl
theorem size51 : (Tryd.prog.info? 119).map (·.size) = some 16 := by kernel_rfl
theorem size40 : (Tryd.prog.info? 37).map (·.size) = some 26 := by kernel_rfl
end Go.Proofs.YtmomidkodjihjaaDoor.H
namespace Go.Proofs.YtmomidkodjihjaaDoor.H
open Go.RowKit

theorem left_any (W : World) (x : Int) (k : Nat) (h0 : 1 ≤ k) (h1 : k ≤ 31) :
    Calls Tryd.prog 79 #[.int .u32 x, .int .i64 (-(k : Int))] W fun e W' => e = .returned (.int .u32 (S.rot x k)) ∧ W = W' := by
  have h : bits .and .u64 (18446744073709551616 - (k : Int)) 31 = ((32 - k : Nat) : Int) := by
    have : ∀ k : Fin 32, 1 ≤ k.val → bits .and .u64 (18446744073709551616 - (k.val : Int)) 31 = ((32 - k.val : Nat) : Int) := by decide +kernel
    exact this ⟨k, by omega⟩ h0
  have e1 : IntKind.u64.wrap (-(k : Int)) = 18446744073709551616 - (k : Int) := by rw [IntKind.wrap_u64]; omega
  have e2 : (32 : Int) - ((32 - k : Nat) : Int) = (k : Int) := by omega
  go_enter Tryd.func79, Tryd.ntmps79
  go_wp2
  go_ret
  exact ⟨rfl, rfl⟩
theorem right_any (W : World) (x : Int) (k : Nat) (h0 : 1 ≤ k) (h1 : k ≤ 31) :
    Calls Tryd.prog 78 #[.int .u32 x, .int .i64 (k : Int)] W fun e W' => e = .returned (.int .u32 (S.rot x k)) ∧ W = W' := by
  go_enter Tryd.func78, Tryd.ntmps78
  go_wp2_with (first | (go_at_call 79; refine (left_any _ x k h0 h1).mono ?_; rintro e w' ⟨rfl, rfl⟩))
  go_ret
  exact ⟨rfl, rfl⟩
theorem rot_any (W : World) (x : Int) (z : Int) (k : Nat) (hz : z = k) (h0 : 1 ≤ k) (h1 : k ≤ 31) :
    Calls Tryd.prog 78 #[.int .u32 x, .int .i64 z] W fun e W' => e = .returned (.int .u32 (S.rot x k)) ∧ W = W' := by
  subst hz
  exact right_any W x k h0 h1

theorem quiet_same {P : Program} {f : FuncId} {args : Array Value} {w : World} {n : Nat} {v : Value}
    (h : Calls P f args (w.drewN n) fun e w' => e = .returned v ∧ w.drewN n = w') : Calls P f args (w.drewN n) fun e w'' => e = .returned v ∧ ∃ m, w'' = w.drewN m :=
  h.mono fun _ _ ⟨he, hm⟩ => ⟨he, n, hm.symm⟩
attribute [-simp] Tryd.isAgg44 Tryd.sizeOf44
set_option maxRecDepth 20000 in
set_option maxHeartbeats 2000000 in
theorem round_eight (W : World) (a b c d e f g h x : Int) :
    Calls Tryd.prog 76 #[.agg #[.int .u32 a, .int .u32 b, .int .u32 c, .int .u32 d, .int .u32 e, .int .u32 f, .int .u32 g, .int .u32 h], .int .u32 x] W fun en W' => en = .returned (Ag (S.round [a, b, c, d, e, f, g, h] x)) ∧ Below W.heap.size W W' := by
  have R : Hid (∀ (w : World) (x : Int) (z : Int) (k : Nat), z = k → 1 ≤ k → k ≤ 31 → Calls Tryd.prog 78 #[.int .u32 x, .int .i64 z] w fun e W' => e = .returned (.int .u32 (S.rot x k)) ∧ w = W') := rot_any
  have HB := below_one W (Obj.cells #[.int .u32 a, .int .u32 b, .int .u32 c, .int .u32 d, .int .u32 e, .int .u32 f, .int .u32 g, .int .u32 h] 44)
  have hsg : (if IntKind.u32.signed = true then (-1 : Int) else IntKind.u32.max) = 4294967295 := by decide
  go_enter Tryd.func76, Tryd.ntmps76
  go_wp2
  go_quiet (fail)
  go_wp2
  have c7 : (World.drewN ((W.alloc (Obj.cells #[.int .u32 a, .int .u32 b, .int .u32 c, .int .u32 d, .int .u32 e, .int .u32 f, .int .u32 g, .int .u32 h] 44)).alloc (Obj.cells #[.int .u32 0, .int .u32 0, .int .u32 0, .int .u32 0, .int .u32 0, .int .u32 0, .int .u32 0, .int .u32 0] 44)) nq).cell? ⟨W.heap.size, 7, none⟩ = some (.int .u32 h) := by simp
  have c3 : (World.drewN ((W.alloc (Obj.cells #[.int .u32 a, .int .u32 b, .int .u32 c, .int .u32 d, .int .u32 e, .int .u32 f, .int .u32 g, .int .u32 h] 44)).alloc (Obj.cells #[.int .u32 0, .int .u32 0, .int .u32 0, .int .u32 0, .int .u32 0, .int .u32 0, .int .u32 0, .int .u32 0] 44)) nq).cell? ⟨W.heap.size, 3, none⟩ = some (.int .u32 d) := by simp
  have b0 : Blk (World.drewN ((W.alloc (Obj.cells #[.int .u32 a, .int .u32 b, .int .u32 c, .int .u32 d, .int .u32 e, .int .u32 f, .int .u32 g, .int .u32 h] 44)).alloc (Obj.cells #[.int .u32 0, .int .u32 0, .int .u32 0, .int .u32 0, .int .u32 0, .int .u32 0, .int .u32 0, .int .u32 0] 44)) nq) (W.heap.size + 1) .u32 44 [0, 0, 0, 0, 0, 0, 0, 0] := by
    have := (Blk.new (W.alloc (Obj.cells #[.int .u32 a, .int .u32 b, .int .u32 c, .int .u32 d, .int .u32 e, .int .u32 f, .int .u32 g, .int .u32 h] 44)) .u32 44 [0, 0, 0, 0, 0, 0, 0, 0]).drewN nq
    simpa using this
  have HX : Below W.heap.size W (World.drewN ((W.alloc (Obj.cells #[.int .u32 a, .int .u32 b, .int .u32 c, .int .u32 d, .int .u32 e, .int .u32 f, .int .u32 g, .int .u32 h] 44)).alloc (Obj.cells #[.int .u32 0, .int .u32 0, .int .u32 0, .int .u32 0, .int .u32 0, .int .u32 0, .int .u32 0, .int .u32 0] 44)) nq) := below_drewN (HB.alloc (by simp) _) nq
  generalize World.drewN _ nq = X at *
  have B0 : Hid (∀ n, Blk (X.drewN n) (W.heap.size + 1) .u32 44 [0, 0, 0, 0, 0, 0, 0, 0]) := fun n => b0.drewN n
  have HX' : Hid _ := HX
  clear HX b0 HB
  go_quiet (first | (go_at_call_of 78 (Value.int .i64 6); exact quiet_same (R.out _ _ _ 6 rfl (by decide) (by decide))) | (go_at_call_of 78 (Value.int .i64 11); exact quiet_same (R.out _ _ _ 11 rfl (by decide) (by decide))) | (go_at_call_of 78 (Value.int .i64 25); exact quiet_same (R.out _ _ _ 25 rfl (by decide) (by decide))))
  go_wp2_with (first | (refine wpList_store_blk rfl 44 _ _ rfl (W.heap.size + 1) (S.round [a, b, c, d, e, f, g, h] x) rfl rfl (B0.out _) size27 rfl ?_) | (go_at_call_of 78 (Value.int .i64 2); refine (R.out _ _ _ 2 rfl (by decide) (by decide)).mono ?_; rintro en w' ⟨rfl, rfl⟩) | (go_at_call_of 78 (Value.int .i64 13); refine (R.out _ _ _ 13 rfl (by decide) (by decide)).mono ?_; rintro en w' ⟨rfl, rfl⟩) | (go_at_call_of 78 (Value.int .i64 22); refine (R.out _ _ _ 22 rfl (by decide) (by decide)).mono ?_; rintro en w' ⟨rfl, rfl⟩))
  refine ret_cell rfl rfl (W.heap.size + 1) (S.round [a, b, c, d, e, f, g, h] x) rfl ((B0.out _).setRow _) Tryd.underlying44 size27 ⟨rfl, ?_⟩
  exact below_setRow (below_drewN HX'.out _) (by omega) _
theorem round_any (W : World) (L : List Int) (x : Int) (hL : L.length = 8) :
    Calls Tryd.prog 76 #[Ag L, .int .u32 x] W fun en W' => en = .returned (Ag (S.round L x)) ∧ Below W.heap.size W W' := by
  match L, hL with
  | [a, b, c, d, e, f, g, h], _ => exact round_eight W a b c d e f g h x
end Go.Proofs.YtmomidkodjihjaaDoor.H
