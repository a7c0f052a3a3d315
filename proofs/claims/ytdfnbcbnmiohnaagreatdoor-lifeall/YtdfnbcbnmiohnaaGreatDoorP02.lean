import Derived.WalkKit
import Derived.Laws.BitsAllLaws
import Derived.Test.YtdfnbcbnmiohnaaGreatDoorChecked
import Derived.Test.YtdfnbcbnmiohnaaGreatDoorP01
import Derived.WalkSpells
import Derived.WalkLawsBesides
import Derived.Deep.QuietTactic
import Derived.BigQuiet
import Derived.BigRegion
import Derived.Handy
import Derived.Deep.RegionHeld3
import Derived.Deep.RegionWith
import Derived.Deep.AppendLies
import Derived.Deep.DrawnRows
import Derived.Deep.MidRow
import Derived.Deep.WholeRow
import Derived.Laws.AppendOwnNone
import Derived.Laws.CopyOwn
import Derived.Laws.CopyRow
import Derived.Deep.RegionLaw
import Derived.Laws.Cover3
namespace Go.Proofs.YtdfnbcbnmiohnaaGreatDoor.H.S
open Go.RowKit

def ad (a b : Int) : Int := (a + b) % 4294967296
def xo (a b : Int) : Int := bits .xor .u32 a b
def an (a b : Int) : Int := bits .and .u32 a b
def no (a : Int) : Int := bits .xor .u32 4294967295 a
def rot (w : Int) (k : Nat) : Int := bits .or .u32 (w * 2 ^ (32 - k) % 4294967296) (w / 2 ^ k)
def K : List Int := [1116352408, 1899447441, 3049323471, 3921009573, 961987163, 1508970993, 2453635748, 2870763221, 3624381080, 310598401, 607225278, 1426881987, 1925078388, 2162078206, 2614888103, 3248222580, 3835390401, 4022224774, 264347078, 604807628, 770255983, 1249150122, 1555081692, 1996064986, 2554220882, 2821834349, 2952996808, 3210313671, 3336571891, 3584528711, 113926993, 338241895, 666307205, 773529912, 1294757372, 1396182291, 1695183700, 1986661051, 2177026350, 2456956037, 2730485921, 2820302411, 3259730800, 3345764771, 3516065817, 3600352804, 4094571909, 275423344, 430227734, 506948616, 659060556, 883997877, 958139571, 1322822218, 1537002063, 1747873779, 1955562222, 2024104815, 2227730452, 2361852424, 2428436474, 2756734187, 3204031479, 3329325298]
def First : List Int := [1779033703, 3144134277, 1013904242, 2773480762, 1359893119, 2600822924, 528734635, 1541459225]
def s0 (x : Int) : Int := xo (xo (rot x 7) (rot x 18)) (x / 8)
def s1 (x : Int) : Int := xo (xo (rot x 17) (rot x 19)) (x / 1024)
def S0 (x : Int) : Int := xo (xo (rot x 2) (rot x 13)) (rot x 22)
def S1 (x : Int) : Int := xo (xo (rot x 6) (rot x 11)) (rot x 25)
def ch (e f g : Int) : Int := xo (an e f) (an (no e) g)
def mj (a b c : Int) : Int := xo (xo (an a b) (an a c)) (an b c)
def next (L : List Int) (t : Nat) : Int := (s1 (L.getD (t - 2) 0) + L.getD (t - 7) 0 + s0 (L.getD (t - 15) 0) + L.getD (t - 16) 0) % 4294967296
def sched (B : List Int) : Nat → List Int
  | 0 => B
  | k + 1 => sched B k ++ [next (sched B k) (16 + k)]
def u1 (L : List Int) (x : Int) : Int := L.getD 7 0 + S1 (L.getD 4 0) + ch (L.getD 4 0) (L.getD 5 0) (L.getD 6 0) + x
def u2 (L : List Int) : Int := S0 (L.getD 0 0) + mj (L.getD 0 0) (L.getD 1 0) (L.getD 2 0)
def round (L : List Int) (x : Int) : List Int := [(u1 L x + u2 L) % 4294967296, L.getD 0 0, L.getD 1 0, L.getD 2 0, (L.getD 3 0 + u1 L x) % 4294967296, L.getD 4 0, L.getD 5 0, L.getD 6 0]
def rounds (S : List Int) (W : List Int) : Nat → List Int
  | 0 => S
  | k + 1 => round (rounds S W k) (ad (K.getD k 0) (W.getD k 0))
def plus (a b : List Int) (t : Nat) : List Int := (List.range 8).map fun i => if i < t then ad (a.getD i 0) (b.getD i 0) else a.getD i 0
def block (S B : List Int) : List Int := plus (rounds S (sched B 48) 64) S 8
end Go.Proofs.YtdfnbcbnmiohnaaGreatDoor.H.S
namespace Go.Proofs.YtdfnbcbnmiohnaaGreatDoor.H
open Go.RowKit

theorem ret_int {k : IntKind} {a b : Int} (h : a = b) : Ending.returned (.int k a) = .returned (.int k b) := by rw [h]
theorem ret_bool {a b : Bool} (h : a = b) : Ending.returned (.bool a) = .returned (.bool b) := by rw [h]
def Row (W : World) (k : IntKind) (b off : Nat) (xs : List Int) : Prop := ∀ i, i < xs.length → W.cell? ⟨b, off + i, none⟩ = some (.int k (xs.getD i 0))
def Wds (xs : List Int) : Prop := ∀ i, 0 ≤ xs.getD i 0 ∧ xs.getD i 0 < 4294967296
def Bts (xs : List Int) : Prop := ∀ i, 0 ≤ xs.getD i 0 ∧ xs.getD i 0 < 256
theorem Row.drewN {W : World} {k : IntKind} {b off : Nat} {xs : List Int} (h : Row W k b off xs) (d : Nat) : Row (W.drewN d) k b off xs := fun i hi => (World.cell?_drewN W d _).trans (h i hi)
theorem Row.below {W w : World} {B : Nat} {k : IntKind} {b off : Nat} {xs : List Int} (h : Row W k b off xs) (hb : Below B W w) (hB : b < B) : Row w k b off xs := fun i hi => (hb.cell (p := ⟨b, off + i, none⟩) hB).trans (h i hi)
theorem Row.head {W : World} {k : IntKind} {b off : Nat} {xs ys : List Int} (h : Row W k b off (xs ++ ys)) : Row W k b off xs := by
  intro i hi
  have := h i (by simp; omega)
  rw [this]
  simp [List.getD_eq_getElem?_getD, List.getElem?_append_left hi]
theorem Row.take {W : World} {k : IntKind} {b off : Nat} {xs : List Int} (h : Row W k b off xs) (n : Nat) : Row W k b off (xs.take n) := by
  rw [← List.take_append_drop n xs] at h
  exact h.head
theorem Row.drop {W : World} {k : IntKind} {b off : Nat} {xs : List Int} (h : Row W k b off xs) (n : Nat) : Row W k b (off + n) (xs.drop n) := by
  intro i hi
  have := h (n + i) (by simp at hi; omega)
  rw [show off + n + i = off + (n + i) by omega, this]
  simp [List.getD_eq_getElem?_getD]
theorem Row.range {W : World} {k : IntKind} {b off : Nat} {xs : List Int} (h : Row W k b off xs) : W.rangeAt b off (xs.map (Value.int k)) := by
  intro j v hv
  have hj : j < xs.length := by
    rcases Nat.lt_or_ge j xs.length with h | h
    · exact h
    · simp [List.getElem?_eq_none (show (xs.map (Value.int k)).length ≤ j by simpa using h)] at hv
  rw [h j hj]
  simp [List.getElem?_eq_getElem hj] at hv
  simp [List.getD_eq_getElem?_getD, hj, hv]

def At (W : World) (k : IntKind) (ao : Option Addr) (xs : List Int) : Prop := xs = [] ∨ ∃ b off, ao = some ⟨b, off, none⟩ ∧ b < W.heap.size ∧ Row W k b off xs
theorem At.below {W w : World} {k : IntKind} {ao : Option Addr} {xs : List Int} (h : At W k ao xs) (hb : Below W.heap.size W w) : At w k ao xs := by
  rcases h with h | ⟨b, off, h1, h2, h3⟩
  · exact .inl h
  · exact .inr ⟨b, off, h1, by have := hb.size; omega, h3.below hb h2⟩
theorem below_one (W : World) (o : Obj) : Below W.heap.size W (W.alloc o) := (Below.refl W.heap.size W).alloc (Nat.le_refl _) o
theorem At.drewN {W : World} {k : IntKind} {ao : Option Addr} {xs : List Int} (h : At W k ao xs) (d : Nat) : At (W.drewN d) k ao xs := h.below (below_drewN (Below.refl _ _) d)
theorem At.cells {W : World} {k : IntKind} {a : Addr} {xs : List Int} (h : At W k (some a) xs) : ∀ j u, (xs.map (Value.int k))[j]? = some u → W.cell? (a.add j) = some u := by
  rcases h with rfl | ⟨b, off, hao, _, hr⟩
  · intro j u hu; simp at hu
  · intro j u hu
    obtain rfl := Option.some.inj hao
    have e1 : (⟨b, off, none⟩ : Addr).add j = ⟨b, off + j, none⟩ := by unfold Addr.add; split <;> simp_all
    have hj : j < xs.length := by
      rcases Nat.lt_or_ge j xs.length with h | h
      · exact h
      · simp [List.getElem?_eq_none (show (xs.map (Value.int k)).length ≤ j by simpa using h)] at hu
    rw [e1, hr j hj]
    simp [List.getElem?_eq_getElem hj] at hu
    simp [List.getD_eq_getElem?_getD, hj, hu]

def Blk (W : World) (g : Nat) (k : IntKind) (e : TypeId) (L : List Int) : Prop := W.heap[g]? = some (.cells (L.map (Value.int k)).toArray e (0, 0))
theorem Blk.below {W w : World} {B g : Nat} {k : IntKind} {e : TypeId} {L : List Int} (h : Blk W g k e L) (hb : Below B W w) (hg : g < B) : Blk w g k e L := (hb.block g hg).trans h
theorem Blk.lt {W : World} {g : Nat} {k : IntKind} {e : TypeId} {L : List Int} (h : Blk W g k e L) : g < W.heap.size := by
  rcases Nat.lt_or_ge g W.heap.size with h' | h'
  · exact h'
  · unfold Blk at h; rw [Array.getElem?_eq_none h'] at h; cases h
theorem Blk.row {W : World} {g : Nat} {k : IntKind} {e : TypeId} {L : List Int} (h : Blk W g k e L) : Row W k g 0 L := by
  intro i hi
  rw [Nat.zero_add, cell_of_row W g i _ e (0, 0) h]
  simp [List.getD_eq_getElem?_getD, hi]
theorem Blk.at {W : World} {g : Nat} {k : IntKind} {e : TypeId} {L : List Int} (h : Blk W g k e L) : At W k (some ⟨g, 0, none⟩) L := .inr ⟨g, 0, rfl, h.lt, h.row⟩
theorem Blk.other {w : World} {g b j : Nat} {k : IntKind} {e : TypeId} {L : List Int} (h : Blk w g k e L) (u : Value) (hb : g ≠ b) : Blk (w.setCell ⟨b, j, none⟩ u) g k e L := by
  unfold Blk at h ⊢
  rw [heap_setCell_other w ⟨b, j, none⟩ g u hb, h]
theorem Blk.set {w : World} {g : Nat} {k : IntKind} {e : TypeId} {L : List Int} (h : Blk w g k e L) (j : Nat) (u : Int) : Blk (w.setCell ⟨g, j, none⟩ (.int k u)) g k e (L.set j u) := by
  unfold Blk at h ⊢
  rw [heap_setCell_same w g j _ e _ h, tqA, List.map_set]
theorem Blk.free {W : World} {g : Nat} {k : IntKind} {e : TypeId} {L : List Int} (h : Blk W g k e L) (j : Nat) : W.frozen? ⟨g, j, none⟩ = false := frozen_of_row W g j _ e h
theorem Blk.cell {W : World} {g : Nat} {k : IntKind} {e : TypeId} {L : List Int} (h : Blk W g k e L) (j : Nat) (hj : j < L.length) : W.cell? ⟨g, j, none⟩ = some (.int k (L.getD j 0)) := by
  have := h.row j hj
  rwa [Nat.zero_add] at this
theorem Blk.drewN {W : World} {g : Nat} {k : IntKind} {e : TypeId} {L : List Int} (h : Blk W g k e L) (d : Nat) : Blk (W.drewN d) g k e L := h.below (below_drewN (Below.refl _ _) d) h.lt
theorem Blk.new (W : World) (k : IntKind) (e : TypeId) (L : List Int) : Blk (W.alloc (.cells (L.map (Value.int k)).toArray e)) W.heap.size k e L := heap_alloc_new _ _
theorem Blk.alloc {W : World} {g : Nat} {k : IntKind} {e : TypeId} {L : List Int} (h : Blk W g k e L) (o : Obj) : Blk (W.alloc o) g k e L := h.below (below_one W o) h.lt
theorem Blk.newAt {W : World} {n : Nat} (hn : W.heap.size = n) (k : IntKind) (e : TypeId) (L : List Int) : Blk (W.alloc (.cells (L.map (Value.int k)).toArray e)) n k e L := by subst hn; exact Blk.new W k e L
theorem Blk.drew {W : World} {g : Nat} {k : IntKind} {e : TypeId} {L : List Int} (h : Blk W g k e L) : Blk W.drew g k e L := h
theorem Blk.setRow {w : World} {g : Nat} {k : IntKind} {e : TypeId} {L : List Int} (h : Blk w g k e L) (L' : List Int) : Blk (w.setRow g (L'.map (Value.int k)).toArray) g k e L' := setRow_heap w g _ _ e _ h
theorem Blk.setRow_other {w : World} {g b : Nat} {k : IntKind} {e : TypeId} {L : List Int} (h : Blk w g k e L) (cs : Array Value) (hb : g ≠ b) : Blk (w.setRow b cs) g k e L := by
  unfold Blk at h ⊢
  rw [Go.setRow_other w b g cs hb, h]

def Ag (L : List Int) : Value := .agg (L.map (Value.int .u32)).toArray
theorem ints_all (k : IntKind) (L : List Int) : (L.map (Value.int k)).toArray.all (·.oneCell') = true := all_oneCell_toArray (ints_oneCell k L)
theorem store_blk {P : Program} {w : World} {g : Nat} {e ty : TypeId} {L L' : List Int} (h : Blk w g .u32 e L) (hi : (P.info? ty).map (·.size) = some L.length) (hl : L.length = L'.length) :
    (Instr.storeAt ty (.pointer (some ⟨g, 0, none⟩)) (Ag L')).run P w = .ok () (w.setRow g (L'.map (Value.int .u32)).toArray) := by
  simp only [Instr.storeAt, Instr.sureAddr, Sem.run_bind, Sem.run_pure, Result.andThen, Ag]
  exact run_storeVar_row w g e ty _ _ h (by rw [hi, hl]; simp) (by simp [hl]) (ints_all _ _)

theorem wpList_store_blk {P : Program} {ops : Array Oper} {rest : List Oper} {o : Oper} {a : Act} {w : World} {Q : Exit → Act → World → Prop} (hgd : o.guard = none) (ty : TypeId) (x y : Operand) (ho : o.op = .store ty x y)
    (g : Nat) (L' : List Int) (hx : a.eval x = .pointer (some ⟨g, 0, none⟩)) (hy : a.eval y = Ag L') {e : TypeId} {L : List Int} (hg : Blk w g .u32 e L) (hi : (P.info? ty).map (·.size) = some L'.length) (hl : L.length = L'.length)
    (h : wpList P ops Q rest (a.put o.dst undef) (w.setRow g (L'.map (Value.int .u32)).toArray)) : wpList P ops Q (o :: rest) a w :=
  wpList_store_row hgd ty x y ho g _ hx hy e _ hg (by rw [hi]; simp) (by simp [hl]) (ints_all _ _) h
theorem wpList_load_blk {P : Program} {ops : Array Oper} {rest : List Oper} {o : Oper} {a : Act} {w : World} {Q : Exit → Act → World → Prop} (hgd : o.guard = none) (ty : TypeId) (x : Operand) (ho : o.op = .load ty x)
    (g : Nat) (L : List Int) (hx : a.eval x = .pointer (some ⟨g, 0, none⟩)) {e t : TypeId} {n : Nat} (hg : Blk w g .u32 e L) (hu : P.underlying ty = some (.array n t)) (hi : (P.info? ty).map (·.size) = some L.length)
    (h : wpList P ops Q rest (a.put o.dst (Ag L)) w) : wpList P ops Q (o :: rest) a w :=
  wpList_load_row hgd ty x ho g hx e _ (0, 0) _ hg hu rfl (by rw [hi]; simp) h

structure But (g : Nat) (w w' : World) : Prop where
  os : w'.os = w.os
  tape : w'.tape = w.tape
  output : w'.output = w.output
  size : w.heap.size ≤ w'.heap.size
  block : ∀ k, k < w.heap.size → k ≠ g → w'.heap[k]? = w.heap[k]?
theorem But.blk {g : Nat} {w w' : World} (h : But g w w') {i : Nat} {k : IntKind} {e : TypeId} {L : List Int} (hb : Blk w i k e L) (hi : i ≠ g) : Blk w' i k e L := (h.block i hb.lt hi).trans hb
theorem But.row {g : Nat} {w w' : World} (h : But g w w') {k : IntKind} {b off : Nat} {L : List Int} (hr : Row w k b off L) (hb : b < w.heap.size) (hi : b ≠ g) : Row w' k b off L := fun i hL => by
  have e : w'.cell? ⟨b, off + i, none⟩ = w.cell? ⟨b, off + i, none⟩ := World.cell?_of_block (w := w) (h.block b hb hi)
  rw [e]; exact hr i hL
theorem But.below {g B : Nat} {w w' : World} (h : But g w w') (hB : B ≤ g) (hs : B ≤ w.heap.size) : Below B w w' := ⟨h.os, h.tape, h.output, h.size, fun k hk => h.block k (by omega) (by omega)⟩
theorem Below.but {g : Nat} {w w' : World} (h : Below w.heap.size w w') : But g w w' := ⟨h.os, h.tape, h.output, h.size, fun k hk _ => h.block k hk⟩
theorem But.trans {g : Nat} {a b c : World} (h : But g a b) (h' : But g b c) : But g a c := ⟨h'.os.trans h.os, h'.tape.trans h.tape, h'.output.trans h.output, Nat.le_trans h.size h'.size, fun k hk hg => (h'.block k (by have := h.size; omega) hg).trans (h.block k hk hg)⟩
theorem but_setRow (w : World) (g : Nat) (cs : Array Value) : But g w (w.setRow g cs) := ⟨rfl, rfl, rfl, by simp, fun k _ hk => Go.setRow_other w g k cs hk⟩
theorem but_setCell (w : World) (g j : Nat) (u : Value) : But g w (w.setCell ⟨g, j, none⟩ u) := ⟨rfl, rfl, rfl, by simp, fun k _ hk => heap_setCell_other w ⟨g, j, none⟩ k u hk⟩
theorem wpList_store_but {P : Program} {ops : Array Oper} {rest : List Oper} {o : Oper} {a : Act} {w : World} {Q : Exit → Act → World → Prop} (hgd : o.guard = none) (ty : TypeId) (x y : Operand) (ho : o.op = .store ty x y)
    (g : Nat) (L' : List Int) (hx : a.eval x = .pointer (some ⟨g, 0, none⟩)) (hy : a.eval y = Ag L') {e : TypeId} {L : List Int} (hg : Blk w g .u32 e L) (hi : (P.info? ty).map (·.size) = some L'.length) (hl : L.length = L'.length)
    (h : ∀ w', Blk w' g .u32 e L' → But g w w' → w'.heap.size = w.heap.size → wpList P ops Q rest (a.put o.dst undef) w') : wpList P ops Q (o :: rest) a w :=
  wpList_store_blk hgd ty x y ho g L' hx hy hg hi hl (h _ (hg.setRow _) (but_setRow _ _ _) (by simp))

theorem ret_cell {P : Program} {fn : Func} {p : Tmp} {ty e t : TypeId} {n : Nat} {a : Act} {w : World} {post : Ending → World → Prop} (hr : fn.results = #[.cell p ty]) (hd : a.defers = []) (g : Nat) (L : List Int)
    (hp : a.tmps.getD p undef = .pointer (some ⟨g, 0, none⟩)) (hb : Blk w g .u32 e L) (hu : P.underlying ty = some (.array n t)) (hi : (P.info? ty).map (·.size) = some L.length) (h : post (.returned (Ag L)) w) :
    bodyPost P fn post .ret a w :=
  bodyPost_ret (results_cell_row hr _ _ g e _ (0, 0) _ hp hb hu rfl (by rw [hi]; simp)) hd h

structure Holds (W wr : World) (k : IntKind) (e : TypeId) (v : Value) (L : List Int) : Prop where
  own : wr.ownsRow W.heap.size e 1 v L.length (L.map (Value.int k))
  below : Below W.heap.size W wr
theorem Holds.start (W : World) (k : IntKind) (e : TypeId) : Holds W W k e (.slice none 0 0) [] := ⟨World.ownsRow_nil _ _ _ _, Below.refl _ _⟩
theorem Holds.grow {W wr w1 : World} {k : IntKind} {e : TypeId} {v v' : Value} {L' : List Int} {n : Nat} {news : List Value} (hb : Below W.heap.size W wr) (hv : ∀ g, v.ownBlock = some g → W.heap.size ≤ g) (hown : w1.ownsRow W.heap.size e 1 v' n news) (hg : wr.grownBy w1 v.ownBlock) (hn : n = L'.length) (hnews : news = L'.map (Value.int k)) : Holds W w1 k e v' L' := by
  subst hn hnews
  exact ⟨hown, hb.grown hg hb.size hv⟩
theorem Holds.at' {W wr : World} {k : IntKind} {e : TypeId} {v : Value} {L : List Int} (h : Holds W wr k e v L) : ∃ ao cap, v = .slice ao L.length cap ∧ L.length ≤ cap ∧ At wr k ao L ∧ (ao = none → cap = 0 ∧ L.length = 0) := by
  rcases h.own.2 with ⟨rfl, h0⟩ | ⟨g, cap, cur, rfl, hg, hh, hn, hm, hs, ht⟩
  · exact ⟨none, 0, by rw [h0], by omega, .inl (List.eq_nil_of_length_eq_zero h0), fun _ => ⟨rfl, h0⟩⟩
  · refine ⟨some ⟨g, 0, none⟩, cap, rfl, hn, .inr ⟨g, 0, rfl, (h.own.lt g rfl).2, ?_⟩, fun h => by cases h⟩
    intro i hi
    rw [Nat.zero_add, h.own.cellAt i (by omega)]
    simp [List.getD_eq_getElem?_getD, hi]
theorem Holds.form {W wr : World} {k : IntKind} {e : TypeId} {v : Value} {L : List Int} (h : Holds W wr k e v L) (hn : 0 < L.length) : ∃ g cap, v = .slice (some ⟨g, 0, none⟩) L.length cap ∧ L.length ≤ cap ∧ W.heap.size ≤ g ∧ g < wr.heap.size ∧ Row wr k g 0 L := by
  rcases h.own.2 with ⟨_, h0⟩ | ⟨g, cap, cur, rfl, hg, hh, hc, hm, hs, ht⟩
  · omega
  · refine ⟨g, cap, rfl, hc, hg, (h.own.lt g rfl).2, ?_⟩
    intro i hi
    rw [Nat.zero_add, h.own.cellAt i (by omega)]
    simp [List.getD_eq_getElem?_getD, hi]

structure Owned (W wr : World) (k : IntKind) (e : TypeId) (N : Nat) (L : List Int) : Prop where
  len : L.length = N
  own : wr.ownsRow W.heap.size e 1 (.slice (some ⟨W.heap.size, 0, none⟩) N N) N (L.map (Value.int k))
  below : Below W.heap.size W wr
theorem Owned.cell {W wr : World} {k : IntKind} {e : TypeId} {N : Nat} {L : List Int} (h : Owned W wr k e N L) (j : Nat) (hj : j < N) : wr.cell? ⟨W.heap.size, j, none⟩ = some (.int k (L.getD j 0)) := by
  rw [h.own.cellAt j (by omega)]
  have := h.len
  simp [List.getD_eq_getElem?_getD, show j < L.length by omega]
theorem Owned.free {W wr : World} {k : IntKind} {e : TypeId} {N : Nat} {L : List Int} (h : Owned W wr k e N L) (j : Nat) : wr.frozen? ⟨W.heap.size, j, none⟩ = false := h.own.frozenAt j
theorem Owned.drew {W wr : World} {k : IntKind} {e : TypeId} {N : Nat} {L : List Int} (h : Owned W wr k e N L) : Owned W wr.drew k e N L := ⟨h.len, h.own, h.below.drew⟩
theorem Owned.step {W wr : World} {k : IntKind} {e : TypeId} {N : Nat} {L L' : List Int} (h : Owned W wr k e N L) (j : Nat) (u : Int) (hL : L.set j u = L') : Owned W (wr.setCell ⟨W.heap.size, j, none⟩ (.int k u)) k e N L' := by
  subst hL
  refine ⟨by simp [h.len], ?_, h.below.setCell (Nat.le_refl _) _⟩
  have := (h.own.stored j (.int k u)).1
  rwa [← List.map_set] at this
theorem Owned.start {W w : World} {k : IntKind} {e : TypeId} {N : Nat} (h : w.ownsRow W.heap.size e 1 (.slice (some ⟨W.heap.size, 0, none⟩) N N) N (madeCells #[Value.int k 0] N).toList) (hg : W.grownBy w none) : Owned W w k e N (List.replicate N 0) := by
  refine ⟨by simp, ?_, (Below.refl _ W).grown hg (Nat.le_refl _) (fun _ h => by cases h)⟩
  rw [toList_madeCells_one] at h
  rw [List.map_replicate]
  exact h
theorem Owned.row {W wr : World} {k : IntKind} {e : TypeId} {N : Nat} {L : List Int} (h : Owned W wr k e N L) : Row wr k W.heap.size 0 L := by
  intro i hi
  rw [Nat.zero_add]
  exact h.cell i (by rw [← h.len]; exact hi)
theorem Owned.lt {W wr : World} {k : IntKind} {e : TypeId} {N : Nat} {L : List Int} (h : Owned W wr k e N L) : W.heap.size < wr.heap.size := (h.own.lt W.heap.size rfl).2
theorem Owned.at {W wr : World} {k : IntKind} {e : TypeId} {N : Nat} {L : List Int} (h : Owned W wr k e N L) : At wr k (some ⟨W.heap.size, 0, none⟩) L := .inr ⟨_, 0, rfl, h.lt, h.row⟩

theorem Tryz.info5 : (Tryz.prog.info? 5).map (fun i => (i.zero, i.size, i.bytes)) = some (some (.int .u8 0), 1, 1) := by kernel_rfl
theorem Tryz.info43 : (Tryz.prog.info? 43).map (fun i => (i.zero, i.size, i.bytes)) = some (some (.int .u32 0), 1, 4) := by kernel_rfl
theorem size26 : (Tryz.prog.info? 43).map (·.size) = some 1 := by kernel_rfl
theorem size27 : (Tryz.prog.info? 55).map (·.size) = some 8 := by kernel_rfl
theorem size48 : (Tryz.prog.info? 234).map (·.size) = some 64 := by kernel_rfl
theorem size51 : (Tryz.prog.info? 166).map (·.size) = some 16 := by kernel_rfl
theorem size40 : (Tryz.prog.info? 44).map (·.size) = some 26 := by kernel_rfl
end Go.Proofs.YtdfnbcbnmiohnaaGreatDoor.H
namespace Go.Proofs.YtdfnbcbnmiohnaaGreatDoor.H
open Go.RowKit

theorem left_any (W : World) (x : Int) (k : Nat) (h0 : 1 ≤ k) (h1 : k ≤ 31) :
    Calls Tryz.prog 163 #[.int .u32 x, .int .i64 (-(k : Int))] W fun e W' => e = .returned (.int .u32 (S.rot x k)) ∧ W = W' := by
  have h : bits .and .u64 (18446744073709551616 - (k : Int)) 31 = ((32 - k : Nat) : Int) := by
    have : ∀ k : Fin 32, 1 ≤ k.val → bits .and .u64 (18446744073709551616 - (k.val : Int)) 31 = ((32 - k.val : Nat) : Int) := by decide +kernel
    exact this ⟨k, by omega⟩ h0
  have e1 : IntKind.u64.wrap (-(k : Int)) = 18446744073709551616 - (k : Int) := by rw [IntKind.wrap_u64]; omega
  have e2 : (32 : Int) - ((32 - k : Nat) : Int) = (k : Int) := by omega
  go_enter Tryz.func163, Tryz.ntmps163
  go_wp2
  go_ret
  exact ⟨rfl, rfl⟩
theorem right_any (W : World) (x : Int) (k : Nat) (h0 : 1 ≤ k) (h1 : k ≤ 31) :
    Calls Tryz.prog 162 #[.int .u32 x, .int .i64 (k : Int)] W fun e W' => e = .returned (.int .u32 (S.rot x k)) ∧ W = W' := by
  go_enter Tryz.func162, Tryz.ntmps162
  go_wp2_with (first | (go_at_call 163; refine (left_any _ x k h0 h1).mono ?_; rintro e w' ⟨rfl, rfl⟩))
  go_ret
  exact ⟨rfl, rfl⟩
theorem rot_any (W : World) (x : Int) (z : Int) (k : Nat) (hz : z = k) (h0 : 1 ≤ k) (h1 : k ≤ 31) :
    Calls Tryz.prog 162 #[.int .u32 x, .int .i64 z] W fun e W' => e = .returned (.int .u32 (S.rot x k)) ∧ W = W' := by
  subst hz
  exact right_any W x k h0 h1

theorem quiet_same {P : Program} {f : FuncId} {args : Array Value} {w : World} {n : Nat} {v : Value}
    (h : Calls P f args (w.drewN n) fun e w' => e = .returned v ∧ w.drewN n = w') : Calls P f args (w.drewN n) fun e w'' => e = .returned v ∧ ∃ m, w'' = w.drewN m :=
  h.mono fun _ _ ⟨he, hm⟩ => ⟨he, n, hm.symm⟩
attribute [-simp] Tryz.isAgg55 Tryz.sizeOf55
set_option maxRecDepth 20000 in
set_option maxHeartbeats 2000000 in
theorem round_eight (W : World) (a b c d e f g h x : Int) :
    Calls Tryz.prog 159 #[.agg #[.int .u32 a, .int .u32 b, .int .u32 c, .int .u32 d, .int .u32 e, .int .u32 f, .int .u32 g, .int .u32 h], .int .u32 x] W fun en W' => en = .returned (Ag (S.round [a, b, c, d, e, f, g, h] x)) ∧ Below W.heap.size W W' := by
  have R : Hid (∀ (w : World) (x : Int) (z : Int) (k : Nat), z = k → 1 ≤ k → k ≤ 31 → Calls Tryz.prog 162 #[.int .u32 x, .int .i64 z] w fun e W' => e = .returned (.int .u32 (S.rot x k)) ∧ w = W') := rot_any
  have HB := below_one W (Obj.cells #[.int .u32 a, .int .u32 b, .int .u32 c, .int .u32 d, .int .u32 e, .int .u32 f, .int .u32 g, .int .u32 h] 55)
  have hsg : (if IntKind.u32.signed = true then (-1 : Int) else IntKind.u32.max) = 4294967295 := by decide
  go_enter Tryz.func159, Tryz.ntmps159
  go_wp2
  go_quiet (fail)
  go_wp2
  have c7 : (World.drewN ((W.alloc (Obj.cells #[.int .u32 a, .int .u32 b, .int .u32 c, .int .u32 d, .int .u32 e, .int .u32 f, .int .u32 g, .int .u32 h] 55)).alloc (Obj.cells #[.int .u32 0, .int .u32 0, .int .u32 0, .int .u32 0, .int .u32 0, .int .u32 0, .int .u32 0, .int .u32 0] 55)) nq).cell? ⟨W.heap.size, 7, none⟩ = some (.int .u32 h) := by simp
  have c3 : (World.drewN ((W.alloc (Obj.cells #[.int .u32 a, .int .u32 b, .int .u32 c, .int .u32 d, .int .u32 e, .int .u32 f, .int .u32 g, .int .u32 h] 55)).alloc (Obj.cells #[.int .u32 0, .int .u32 0, .int .u32 0, .int .u32 0, .int .u32 0, .int .u32 0, .int .u32 0, .int .u32 0] 55)) nq).cell? ⟨W.heap.size, 3, none⟩ = some (.int .u32 d) := by simp
  have b0 : Blk (World.drewN ((W.alloc (Obj.cells #[.int .u32 a, .int .u32 b, .int .u32 c, .int .u32 d, .int .u32 e, .int .u32 f, .int .u32 g, .int .u32 h] 55)).alloc (Obj.cells #[.int .u32 0, .int .u32 0, .int .u32 0, .int .u32 0, .int .u32 0, .int .u32 0, .int .u32 0, .int .u32 0] 55)) nq) (W.heap.size + 1) .u32 55 [0, 0, 0, 0, 0, 0, 0, 0] := by
    have := (Blk.new (W.alloc (Obj.cells #[.int .u32 a, .int .u32 b, .int .u32 c, .int .u32 d, .int .u32 e, .int .u32 f, .int .u32 g, .int .u32 h] 55)) .u32 55 [0, 0, 0, 0, 0, 0, 0, 0]).drewN nq
    simpa using this
  have HX : Below W.heap.size W (World.drewN ((W.alloc (Obj.cells #[.int .u32 a, .int .u32 b, .int .u32 c, .int .u32 d, .int .u32 e, .int .u32 f, .int .u32 g, .int .u32 h] 55)).alloc (Obj.cells #[.int .u32 0, .int .u32 0, .int .u32 0, .int .u32 0, .int .u32 0, .int .u32 0, .int .u32 0, .int .u32 0] 55)) nq) := below_drewN (HB.alloc (by simp) _) nq
  generalize World.drewN _ nq = X at *
  have B0 : Hid (∀ n, Blk (X.drewN n) (W.heap.size + 1) .u32 55 [0, 0, 0, 0, 0, 0, 0, 0]) := fun n => b0.drewN n
  have HX' : Hid _ := HX
  clear HX b0 HB
  go_quiet (first | (go_at_call_of 162 (Value.int .i64 6); exact quiet_same (R.out _ _ _ 6 rfl (by decide) (by decide))) | (go_at_call_of 162 (Value.int .i64 11); exact quiet_same (R.out _ _ _ 11 rfl (by decide) (by decide))) | (go_at_call_of 162 (Value.int .i64 25); exact quiet_same (R.out _ _ _ 25 rfl (by decide) (by decide))))
  go_wp2_with (first | (refine wpList_store_blk rfl 55 _ _ rfl (W.heap.size + 1) (S.round [a, b, c, d, e, f, g, h] x) rfl rfl (B0.out _) size27 rfl ?_) | (go_at_call_of 162 (Value.int .i64 2); refine (R.out _ _ _ 2 rfl (by decide) (by decide)).mono ?_; rintro en w' ⟨rfl, rfl⟩) | (go_at_call_of 162 (Value.int .i64 13); refine (R.out _ _ _ 13 rfl (by decide) (by decide)).mono ?_; rintro en w' ⟨rfl, rfl⟩) | (go_at_call_of 162 (Value.int .i64 22); refine (R.out _ _ _ 22 rfl (by decide) (by decide)).mono ?_; rintro en w' ⟨rfl, rfl⟩))
  refine ret_cell rfl rfl (W.heap.size + 1) (S.round [a, b, c, d, e, f, g, h] x) rfl ((B0.out _).setRow _) Tryz.underlying55 size27 ⟨rfl, ?_⟩
  exact below_setRow (below_drewN HX'.out _) (by omega) _
theorem round_any (W : World) (L : List Int) (x : Int) (hL : L.length = 8) :
    Calls Tryz.prog 159 #[Ag L, .int .u32 x] W fun en W' => en = .returned (Ag (S.round L x)) ∧ Below W.heap.size W W' := by
  match L, hL with
  | [a, b, c, d, e, f, g, h], _ => exact round_eight W a b c d e f g h x
end Go.Proofs.YtdfnbcbnmiohnaaGreatDoor.H
namespace Go.Proofs.YtdfnbcbnmiohnaaGreatDoor.H
open Go.RowKit

theorem sched_length (B : List Int) (k : Nat) : (S.sched B k).length = B.length + k := by
  induction k with
  | zero => rfl
  | succ k ih => simp only [S.sched, List.length_append, ih, List.length_singleton]; omega
def Sch (B : List Int) (k : Nat) : List Int := S.sched B k ++ List.replicate (48 - k) 0
theorem Sch_length (B : List Int) (hB : B.length = 16) (k : Nat) (hk : k ≤ 48) : (Sch B k).length = 64 := by
  simp only [Sch, List.length_append, sched_length, hB, List.length_replicate]; omega
theorem Sch_getD (B : List Int) (hB : B.length = 16) (k i : Nat) (hi : i < 16 + k) : (Sch B k).getD i 0 = (S.sched B k).getD i 0 := by
  simp only [Sch, List.getD_eq_getElem?_getD]
  rw [List.getElem?_append_left (by rw [sched_length, hB]; omega)]
theorem Sch_set (B : List Int) (hB : B.length = 16) (k : Nat) (hk : k < 48) (u : Int) (hu : u = S.next (S.sched B k) (16 + k)) : (Sch B k).set (16 + k) u = Sch B (k + 1) := by
  subst hu
  unfold Sch
  rw [List.set_append_right _ _ (by rw [sched_length, hB]; omega), sched_length, hB, Nat.sub_self]
  obtain ⟨m, hm⟩ : ∃ m, 48 - k = m + 1 := ⟨47 - k, by omega⟩
  rw [hm, List.replicate_succ, tqZ, show 48 - (k + 1) = m by omega]
  simp [S.sched]
theorem Sch_all (B : List Int) : Sch B 48 = S.sched B 48 := by simp [Sch]

attribute [-simp] Tryz.isAgg234 Tryz.sizeOf234 Tryz.zeroValue234 Tryz.isAgg166 Tryz.sizeOf166
set_option maxRecDepth 20000 in
set_option maxHeartbeats 2000000 in
theorem schedule_any (W : World) (B : List Int) (hB : B.length = 16) :
    Calls Tryz.prog 158 #[Ag B] W fun en W' => en = .returned (Ag (S.sched B 48)) ∧ Below W.heap.size W W' := by
  obtain ⟨Z, hZ⟩ : ∃ Z : List Int, Z = List.replicate 64 0 := ⟨_, rfl⟩
  have hZl : Z.length = 64 := by rw [hZ]; simp
  have hz : ∀ w, (zeroValue 234).run Tryz.prog w = .ok (.agg (Z.map (Value.int .u32)).toArray) w := fun w => by rw [Tryz.zeroValue234, hZ]; rfl
  have HZ : Hid _ := hZ
  clear hZ
  unfold Ag
  go_enter Tryz.func158, Tryz.ntmps158
  go_wp2
  have bB : Blk (((W.alloc (Obj.cells (List.map (Value.int IntKind.u32) B).toArray 166)).alloc (Obj.cells (List.map (Value.int IntKind.u32) Z).toArray 234)).alloc (Obj.cells (List.map (Value.int IntKind.u32) Z).toArray 234)) W.heap.size .u32 166 B := ((Blk.new W .u32 166 B).alloc _).alloc _
  have b1 : Blk (((W.alloc (Obj.cells (List.map (Value.int IntKind.u32) B).toArray 166)).alloc (Obj.cells (List.map (Value.int IntKind.u32) Z).toArray 234)).alloc (Obj.cells (List.map (Value.int IntKind.u32) Z).toArray 234)) (W.heap.size + 1) .u32 234 Z := (Blk.newAt (by simp) .u32 234 Z).alloc _
  have b2 : Blk (((W.alloc (Obj.cells (List.map (Value.int IntKind.u32) B).toArray 166)).alloc (Obj.cells (List.map (Value.int IntKind.u32) Z).toArray 234)).alloc (Obj.cells (List.map (Value.int IntKind.u32) Z).toArray 234)) (W.heap.size + 1 + 1) .u32 234 Z := Blk.newAt (by simp) .u32 234 Z
  have hX : Below W.heap.size W (((W.alloc (Obj.cells (List.map (Value.int IntKind.u32) B).toArray 166)).alloc (Obj.cells (List.map (Value.int IntKind.u32) Z).toArray 234)).alloc (Obj.cells (List.map (Value.int IntKind.u32) Z).toArray 234)) := ((below_one W _).alloc (by simp) _).alloc (by simp; omega) _
  generalize ((W.alloc _).alloc _).alloc _ = X at *
  have hsp : splice (Z.map (Value.int .u32)) 0 (B.map (Value.int .u32)) = (Sch B 0).map (Value.int .u32) := by
    rw [HZ.out]
    simp [splice, Sch, S.sched, hB]
  obtain ⟨c, hc⟩ : ∃ c, c = B.map (Value.int .u32) := ⟨_, rfl⟩
  obtain ⟨z, hzz⟩ : ∃ z, z = Z.map (Value.int .u32) := ⟨_, rfl⟩
  have hcl : c.length = 16 := by rw [hc]; simp [hB]
  have HS : Hid (∀ w, w.heap[W.heap.size + 1 + 1]? = some (.cells (splice z 0 c).toArray 234 (0, 0)) → Blk w (W.heap.size + 1 + 1) .u32 234 (Sch B 0)) := fun w h => by
    rw [hc, hzz, hsp] at h
    exact h
  have H1 : Hid (X.drew.heap[W.heap.size + 1 + 1]? = some (.cells z.toArray 234 (0, 0))) := by rw [hzz]; exact b2
  have H2 : Hid (∀ j v, c[j]? = some v → X.drew.cell? ((⟨W.heap.size, 0, none⟩ : Addr).add j) = some v) := by rw [hc]; exact bB.drew.at.cells
  have H3 : Hid (∀ v ∈ c, v.oneCell' = true) := by rw [hc]; exact ints_oneCell _ _
  have H4 : Hid (0 + c.length ≤ z.length) := by rw [hzz]; show _ ≤ _; simp [hcl, hZl]
  have H5 : Hid (Below (W.heap.size + 2) X X.drew) := (Below.refl _ _).drew
  clear hc hzz hsp bB b2
  have B1 : Hid _ := b1
  have HX : Hid _ := hX
  clear b1 hX
  go_region_law (refine step_copy_splice rfl (.tmp 9) (.tmp 10) 51 51 rfl 43 Tryz.underlying51 size26 _ _ _ _ _ _ rfl rfl (W.heap.size + 1 + 1) 0 z 234 H1.out c (by rw [hcl]; rfl) (fun _ => ⟨rfl, _, rfl, H2.out⟩) H4.out H3.out (W.heap.size + 2) X H5.out (Nat.le_refl _) ?_; intro w4 hg4 hb4)
  have F0 := HS.out w4 hg4.out
  have B4 := (Blk.below B1.out hb4 (by omega))
  have hW4 := HX.out.trans (hb4.mono (by omega))
  clear hg4 hb4 HS H1 H2 H3 H4 H5 B1 HX
  go_wp2
  go_loopw [4] (fun i wr => ∃ k : Nat, k ≤ 48 ∧ i = .int .i64 ((16 + k : Nat) : Int) ∧ Blk wr (W.heap.size + 1 + 1) .u32 234 (Sch B k) ∧ Blk wr (W.heap.size + 1) .u32 234 Z ∧ Below W.heap.size W wr) (fun i _ => 64 - (intOf i).toNat)
  case atStart => exact ⟨0, by decide, rfl, F0, B4, hW4⟩
  case round =>
    clear F0 B4 hW4
    obtain ⟨k, hk, rfl, F, B1, hb⟩ := hrel
    by_cases hlt : k < 48
    · have hl := Sch_length B hB k hk
      have g1 := Sch_getD B hB k (1 + k) (by omega)
      have g2 := Sch_getD B hB k (14 + k) (by omega)
      have g3 := Sch_getD B hB k (9 + k) (by omega)
      have g4 := Sch_getD B hB k k (by omega)
      have c1 := F.cell (1 + k) (by omega)
      have c2 := F.cell (14 + k) (by omega)
      have c3 := F.cell (9 + k) (by omega)
      have c4 := F.cell k (by omega)
      have c5 := F.cell (16 + k) (by omega)
      have f5 := F.free (16 + k)
      rw [g1] at c1
      rw [g2] at c2
      rw [g3] at c3
      rw [g4] at c4
      clear g1 g2 g3 g4
      have HN : ∀ u, u = S.next (S.sched B k) (16 + k) → _ := fun u hu => Sch_set B hB k hlt u hu
      unfold S.next at HN
      rw [show 16 + k - 2 = 14 + k by omega, show 16 + k - 7 = 9 + k by omega, show 16 + k - 15 = 1 + k by omega, show 16 + k - 16 = k by omega] at HN
      generalize (S.sched B k).getD (1 + k) 0 = x1 at *
      generalize (S.sched B k).getD (14 + k) 0 = x2 at *
      generalize (S.sched B k).getD (9 + k) 0 = x3 at *
      generalize (S.sched B k).getD k 0 = x4 at *
      generalize (Sch B k).getD (16 + k) 0 = x5 at *
      have HNN : Hid _ := HN
      have FF : Hid (Blk wr (W.heap.size + 1 + 1) .u32 234 (Sch B k)) := F
      have BB : Hid (Blk wr (W.heap.size + 1) .u32 234 Z) := B1
      have HB : Hid _ := hb
      have R : Hid (∀ (w : World) (x : Int) (z : Int) (k : Nat), z = k → 1 ≤ k → k ≤ 31 → Calls Tryz.prog 162 #[.int .u32 x, .int .i64 z] w fun e W' => e = .returned (.int .u32 (S.rot x k)) ∧ w = W') := rot_any
      have v1 : IntKind.i64.wrap (16 + (k : Int) - 15) = 1 + (k : Int) := by rw [IntKind.wrap_i64]; omega
      have v2 : IntKind.i64.wrap (16 + (k : Int) - 2) = 14 + (k : Int) := by rw [IntKind.wrap_i64]; omega
      have v3 : IntKind.i64.wrap (16 + (k : Int) - 7) = 9 + (k : Int) := by rw [IntKind.wrap_i64]; omega
      have v4 : IntKind.i64.wrap (16 + (k : Int) - 16) = (k : Int) := by rw [IntKind.wrap_i64]; omega
      have n1 : (1 + (k : Int)).toNat = 1 + k := by omega
      have n2 : (14 + (k : Int)).toNat = 14 + k := by omega
      have n3 : (9 + (k : Int)).toNat = 9 + k := by omega
      have n4 : (16 + (k : Int)).toNat = 16 + k := by omega
      clear HN F B1 hb
      go_wp2
      go_quiet (fail)
      go_wp2_with (first | (go_at_call_of 162 (Value.int .i64 7); refine (R.out _ _ _ 7 rfl (by decide) (by decide)).mono ?_; rintro en w' ⟨rfl, rfl⟩) | (go_at_call_of 162 (Value.int .i64 18); refine (R.out _ _ _ 18 rfl (by decide) (by decide)).mono ?_; rintro en w' ⟨rfl, rfl⟩) | (go_at_call_of 162 (Value.int .i64 17); refine (R.out _ _ _ 17 rfl (by decide) (by decide)).mono ?_; rintro en w' ⟨rfl, rfl⟩) | (go_at_call_of 162 (Value.int .i64 19); refine (R.out _ _ _ 19 rfl (by decide) (by decide)).mono ?_; rintro en w' ⟨rfl, rfl⟩))
      go_region
      go_wp2
      go_roundw
      case rel =>
        refine ⟨k + 1, by omega, by go_num, ?_, ?_, ?_⟩
        · have := ((FF.out.drewN nq).drew).set (16 + k) ((S.s1 x2 + x3 + S.s0 x1 + x4) % 4294967296)
          rw [HNN.out _ rfl] at this
          exact this
        · exact ((BB.out.drewN nq).drew).other _ (by omega)
        · exact ((below_drewN HB.out nq).drew).setCell (show W.heap.size ≤ W.heap.size + 1 + 1 by omega) _
      case measure => simp [intOf]; omega
    · obtain rfl : k = 48 := by omega
      rw [Sch_all] at F
      have FF : Hid (Blk wr (W.heap.size + 1 + 1) .u32 234 (S.sched B 48)) := F
      have BB : Hid (Blk wr (W.heap.size + 1) .u32 234 Z) := B1
      have HB : Hid _ := hb
      have hsl : (S.sched B 48).length = 64 := by rw [sched_length, hB]
      clear F B1 hb
      go_wp2_with (first | (refine wpList_load_blk rfl 234 _ rfl (W.heap.size + 1 + 1) (S.sched B 48) rfl FF.out Tryz.underlying234 (by rw [hsl]; exact size48) ?_) | (refine wpList_store_blk rfl 234 _ _ rfl (W.heap.size + 1) (S.sched B 48) rfl rfl BB.out (by rw [hsl]; exact size48) (by rw [hsl, hZl]) ?_))
      refine ret_cell rfl rfl (W.heap.size + 1) (S.sched B 48) rfl (BB.out.setRow _) Tryz.underlying234 (by rw [hsl]; exact size48) ⟨rfl, ?_⟩
      exact below_setRow HB.out (by omega) _
end Go.Proofs.YtdfnbcbnmiohnaaGreatDoor.H
namespace Go.Proofs.YtdfnbcbnmiohnaaGreatDoor.H
open Go.RowKit

def Tab (W : World) : Prop := Row W .u32 0 0 S.K
theorem Tab.below {W w : World} {B : Nat} (h : Tab W) (hb : Below B W w) (hB : 1 < B) : Tab w := Row.below h hb (by omega)
theorem Tab.cell {W : World} (h : Tab W) (i : Nat) (hi : i < 64) : W.cell? ⟨0, i, none⟩ = some (.int .u32 (S.K.getD i 0)) := by
  have := h i hi
  rwa [Nat.zero_add] at this
theorem rounds_length (A M : List Int) (hA : A.length = 8) (k : Nat) : (S.rounds A M k).length = 8 := by
  cases k with
  | zero => exact hA
  | succ k => rfl
theorem plus_length (a b : List Int) (t : Nat) : (S.plus a b t).length = 8 := by simp [S.plus]
theorem block_length (A B : List Int) : (S.block A B).length = 8 := plus_length _ _ _
theorem plus_zero (a b : List Int) (ha : a.length = 8) : S.plus a b 0 = a := by
  apply List.ext_getElem
  · simp [S.plus, ha]
  · intro i h1 h2
    simp [S.plus, List.getD_eq_getElem?_getD, h2]
theorem plus_getD (a b : List Int) (t : Nat) (ht : t < 8) : (S.plus a b t).getD t 0 = a.getD t 0 := by
  simp [S.plus, List.getD_eq_getElem?_getD, ht]
theorem plus_set (a b : List Int) (t : Nat) (u : Int) (hu : u = (a.getD t 0 + b.getD t 0) % 4294967296) : (S.plus a b t).set t u = S.plus a b (t + 1) := by
  subst hu
  apply List.ext_getElem
  · simp [S.plus]
  · intro i h1 h2
    rw [List.getElem_set]
    simp only [S.plus, List.getElem_map, List.getElem_range]
    split
    · subst_vars
      rw [if_pos (by omega)]
      rfl
    · by_cases h : i < t
      · rw [if_pos h, if_pos (by omega)]
      · rw [if_neg h, if_neg (by omega)]

theorem index_ag {P : Program} {ty : TypeId} {n : Nat} (hu : P.underlying ty = some (.array n 43)) (he : P.underlying 43 = some (.int .u32)) (hs : (P.info? 43).map (·.size) = some 1) (L : List Int) (k : Nat) (hL : L.length = n) (hk : k < n) (w : World) :
    (Instr.index ty (Ag L) (.int .i64 (k : Int))).run P w = .ok (.int .u32 (L.getD k 0)) w := by
  have hk' : (L.map (Value.int .u32)).toArray[k]? = some (.int .u32 (L.getD k 0)) := by simp [List.getD_eq_getElem?_getD, show k < L.length by omega]
  cases hq : P.info? 43 with
  | none => simp [hq] at hs
  | some i =>
    have hi : i.size = 1 := by simpa [hq] using hs
    simp [Instr.index, Ag, asIntOf, run_underlying hu, sizeOf, typeInfo, hq, hi, hk, part, isAgg, run_underlying he, show k < L.length by omega, List.getD_eq_getElem?_getD]
theorem cells_blk {P : Program} {w : World} {g : Nat} {e : TypeId} {L : List Int} (h : Blk w g .u32 e L) (n : Nat) (hn : L.length = n) : (loadCellsFrom ⟨g, 0, none⟩ 0 n #[]).run P w = .ok (L.map (Value.int .u32)).toArray w := by
  subst hn
  have := run_loadCells_list (P := P) w ⟨g, 0, none⟩ (L.map (Value.int .u32)) (fun j v hv => by
    have hadd : (⟨g, 0, none⟩ : Addr).add j = ⟨g, j, none⟩ := by unfold Addr.add; split <;> simp_all
    have := h.at.cells j v hv
    rwa [hadd] at this ⊢)
  simpa [loadCells] using this
theorem storeCells_blk {P : Program} {w : World} {g : Nat} {e : TypeId} {L L' : List Int} (h : Blk w g .u32 e L) (hl : L.length = L'.length) : (storeCells ⟨g, 0, none⟩ (L'.map (Value.int .u32)) 0).run P w = .ok () (w.setRow g (L'.map (Value.int .u32)).toArray) := by
  have := run_storeCells_from (P := P) g e (L'.map (Value.int .u32)) 0 _ w h (by simp [hl]) (ints_oneCell .u32 L')
  rw [this]
  simp

attribute [-simp] Tryz.isAgg55 Tryz.sizeOf55 Tryz.zeroValue55 Tryz.isAgg166 Tryz.sizeOf166 Tryz.isAgg234 Tryz.sizeOf234
set_option maxRecDepth 20000 in
set_option maxHeartbeats 2000000 in
theorem block_any (W : World) (hT : Tab W) (h2 : 1 < W.heap.size) (A B : List Int) (hA : A.length = 8) (hB : B.length = 16) :
    Calls Tryz.prog 154 #[Ag A, Ag B] W fun en W' => en = .returned (Ag (S.block A B)) ∧ Below W.heap.size W W' := by
  obtain ⟨Z, hZ⟩ : ∃ Z : List Int, Z = List.replicate 8 0 := ⟨_, rfl⟩
  have hZl : Z.length = 8 := by rw [hZ]; simp
  have hz : ∀ w, (zeroValue 55).run Tryz.prog w = .ok (.agg (Z.map (Value.int .u32)).toArray) w := fun w => by rw [Tryz.zeroValue55, hZ]; rfl
  clear hZ
  obtain ⟨wl, hwl⟩ : ∃ wl, wl = S.sched B 48 := ⟨_, rfl⟩
  have hwll : wl.length = 64 := by rw [hwl, sched_length, hB]
  have SC : Hid (∀ w, Calls Tryz.prog 158 #[Ag B] w fun en W' => en = .returned (Ag wl) ∧ Below w.heap.size w W') := by rw [hwl]; exact fun w => schedule_any w B hB
  have HF : Hid (S.plus (S.rounds A wl 64) A 8 = S.block A B) := by rw [hwl]; rfl
  clear hwl
  have bA : Blk (((W.alloc (Obj.cells (List.map (Value.int IntKind.u32) A).toArray 55)).alloc (Obj.cells (List.map (Value.int IntKind.u32) B).toArray 166)).alloc (Obj.cells (List.map (Value.int IntKind.u32) Z).toArray 55)) W.heap.size .u32 55 A := ((Blk.new W .u32 55 A).alloc _).alloc _
  have bB : Blk (((W.alloc (Obj.cells (List.map (Value.int IntKind.u32) A).toArray 55)).alloc (Obj.cells (List.map (Value.int IntKind.u32) B).toArray 166)).alloc (Obj.cells (List.map (Value.int IntKind.u32) Z).toArray 55)) (W.heap.size + 1) .u32 166 B := (Blk.newAt (by simp) .u32 166 B).alloc _
  have bZ : Blk (((W.alloc (Obj.cells (List.map (Value.int IntKind.u32) A).toArray 55)).alloc (Obj.cells (List.map (Value.int IntKind.u32) B).toArray 166)).alloc (Obj.cells (List.map (Value.int IntKind.u32) Z).toArray 55)) (W.heap.size + 1 + 1) .u32 55 Z := Blk.newAt (by simp) .u32 55 Z
  have hX : Below W.heap.size W (((W.alloc (Obj.cells (List.map (Value.int IntKind.u32) A).toArray 55)).alloc (Obj.cells (List.map (Value.int IntKind.u32) B).toArray 166)).alloc (Obj.cells (List.map (Value.int IntKind.u32) Z).toArray 55)) := ((below_one W _).alloc (by simp) _).alloc (by simp; omega) _
  have BA : Hid (Blk _ W.heap.size .u32 55 A) := bA
  have BB : Hid (Blk _ (W.heap.size + 1) .u32 166 B) := bB
  have BZ : Hid (Blk _ (W.heap.size + 1 + 1) .u32 55 Z) := bZ
  have HX : Hid _ := hX
  clear bA bB bZ hX
  have z8 : (Tryz.prog.info? 55).map (·.size) = some A.length := by rw [hA]; exact size27
  have z16 : (Tryz.prog.info? 166).map (·.size) = some B.length := by rw [hB]; exact size51
  have zz : Z.length = A.length := by rw [hZl, hA]
  unfold Ag
  go_enter Tryz.func154, Tryz.ntmps154
  go_wp2_with (first | (refine wpList_load_blk rfl 55 _ rfl W.heap.size A rfl BA.out Tryz.underlying55 z8 ?_) | (refine wpList_store_but rfl 55 _ _ rfl (W.heap.size + 1 + 1 + 1) A rfl rfl (Blk.newAt (by simp) .u32 55 Z) z8 zz ?_; intro w1 bs hw1 hs1; have bB := hw1.blk (BB.out.alloc _) (by omega)) | (refine wpList_load_blk rfl 166 _ rfl (W.heap.size + 1) B rfl bB Tryz.underlying166 z16 ?_) | (go_at_call 158; refine (SC.out _).mono ?_; rintro en w2 ⟨rfl, hb2⟩))
  have hs0 : w1.heap.size = W.heap.size + 4 := by rw [hs1]; simp
  have bA := (hw1.blk (BA.out.alloc _) (by omega)).below hb2 (by omega)
  have bZ := (hw1.blk (BZ.out.alloc _) (by omega)).below hb2 (by omega)
  have bS := bs.below hb2 (by omega)
  have hb3 := ((HX.out.alloc (by simp; omega) _).trans (hw1.below (B := W.heap.size) (by omega) (by simp; omega))).trans (hb2.mono (by omega))
  clear hw1 hs1 BA BB BZ HX bs bB hb2
  go_loopw [6, 7, 12] (fun _ _ i wr => ∃ k : Nat, k ≤ 64 ∧ i = .int .i64 (k : Int) ∧ Blk wr W.heap.size .u32 55 A ∧ Blk wr (W.heap.size + 1 + 1) .u32 55 Z ∧ Blk wr (W.heap.size + 1 + 1 + 1) .u32 55 (S.rounds A wl k) ∧ Below W.heap.size W wr) (fun _ _ i _ => 64 - (intOf i).toNat)
  case atStart => exact ⟨0, by decide, rfl, bA, bZ, bS, hb3⟩
  case round =>
    clear bA bZ bS hb3
    obtain ⟨k, hk, rfl, bA, bZ, bS, hb⟩ := hrel
    by_cases hlt : k < 64
    · have hl := rounds_length A wl hA k
      have hc := (hT.below hb h2).cell k hlt
      have hix := index_ag Tryz.underlying234 Tryz.underlying43 size26 wl k hwll hlt
      have HR : Hid (S.round (S.rounds A wl k) ((S.K.getD k 0 + wl.getD k 0) % 4294967296) = S.rounds A wl (k + 1)) := rfl
      generalize S.rounds A wl k = L at *
      generalize S.K.getD k 0 = x at *
      generalize wl.getD k 0 = y at *
      have z27 := Tryz.sizeOf55
      obtain ⟨N, hN⟩ : ∃ N : Nat, N = 8 := ⟨_, rfl⟩
      have hlN : L.length = N := by rw [hN]; exact hl
      have hMN : (S.rounds A wl (k + 1)).length = N := by rw [hN]; exact rounds_length A wl hA (k + 1)
      rw [← hN] at z27
      have hld : (loadCellsFrom ⟨W.heap.size + 1 + 1 + 1, 0, none⟩ 0 N #[]).run Tryz.prog wr.drew = .ok (L.map (Value.int .u32)).toArray wr.drew := cells_blk (e := 55) bS.drew N hlN
      have a27 := Tryz.isAgg55
      have HM : Hid (∀ w, Calls Tryz.prog 159 #[Ag L, .int .u32 ((x + y) % 4294967296)] w fun en w' => en = .returned (Ag (S.rounds A wl (k + 1))) ∧ Below w.heap.size w w') := fun w => by
        rw [← HR.out]; exact round_any w L _ hl
      clear HR
      generalize hE : S.rounds A wl (k + 1) = M at *
      have HE : Hid (S.rounds A wl (k + 1) = M) := hE
      clear hE
      have RD : Hid (Calls Tryz.prog 159 #[.agg (L.map (Value.int .u32)).toArray, .int .u32 ((x + y) % 4294967296)] wr.drew fun en w' => en = .returned (.agg (M.map (Value.int .u32)).toArray) ∧ Below wr.heap.size wr w' ∧ (storeCells ⟨W.heap.size + 1 + 1 + 1, 0, none⟩ (M.map (Value.int .u32)) 0).run Tryz.prog w' = .ok () (w'.setRow (W.heap.size + 1 + 1 + 1) (M.map (Value.int .u32)).toArray)) := by
        refine (HM.out wr.drew).mono ?_
        rintro en w' ⟨rfl, hb'⟩
        have hb'' : Below wr.heap.size wr w' := Below.trans (Below.drew (Below.refl _ _)) hb'
        exact ⟨rfl, hb'', storeCells_blk (e := 55) (bS.below hb'' bS.lt) (by rw [hlN, hMN])⟩
      have HX : Hid (∀ w', Below wr.heap.size wr w' → Blk (w'.setRow (W.heap.size + 1 + 1 + 1) (M.map (Value.int .u32)).toArray) W.heap.size .u32 55 A ∧ Blk (w'.setRow (W.heap.size + 1 + 1 + 1) (M.map (Value.int .u32)).toArray) (W.heap.size + 1 + 1) .u32 55 Z ∧ Blk (w'.setRow (W.heap.size + 1 + 1 + 1) (M.map (Value.int .u32)).toArray) (W.heap.size + 1 + 1 + 1) .u32 55 M ∧ Below W.heap.size W (w'.setRow (W.heap.size + 1 + 1 + 1) (M.map (Value.int .u32)).toArray)) := fun w' hb' =>
        ⟨(bA.below hb' bA.lt).setRow_other _ (by omega), (bZ.below hb' bZ.lt).setRow_other _ (by omega), (bS.below hb' bS.lt).setRow _, below_setRow (hb.trans (hb'.mono hb.size)) (by omega) _⟩
      clear bA bZ bS hb HM hN hl hlN
      go_wp2
      go_region_with (first | (go_at_call 159; refine RD.out.mono ?_; rintro en w' ⟨rfl, hb', hst⟩))
      all_goals
        have HY : Hid _ := HX.out _ hb'
        clear hb' hst
        go_wp2
        go_roundw
        case rel => exact ⟨k + 1, by omega, by go_num, by rw [HE.out]; exact HY.out⟩
        case measure => simp [intOf]; omega
    · obtain rfl : k = 64 := by omega
      go_wp2
      have hl := rounds_length A wl hA 64
      have HF' : Hid _ := HF.out
      clear HF
      generalize S.rounds A wl 64 = L at *
      rw [← plus_zero L A hl] at bS
      go_loopw [8, 24] (fun _ i wr => ∃ k : Nat, k ≤ 8 ∧ i = .int .i64 (k : Int) ∧ Blk wr W.heap.size .u32 55 A ∧ Blk wr (W.heap.size + 1 + 1) .u32 55 Z ∧ Blk wr (W.heap.size + 1 + 1 + 1) .u32 55 (S.plus L A k) ∧ Below W.heap.size W wr) (fun _ i _ => 8 - (intOf i).toNat)
      case atStart => exact ⟨0, by decide, rfl, bA, bZ, bS, hb⟩
      case round =>
        clear bA bZ bS hb
        obtain ⟨k, hk, rfl, bA, bZ, bS, hb⟩ := hrel
        by_cases hlt : k < 8
        · have c1 := bA.cell k (by omega)
          have c2 := bS.cell k (by rw [plus_length]; exact hlt)
          have f2 := bS.free k
          rw [plus_getD L A k hlt] at c2
          have HP : Hid (∀ u, u = _ → _) := plus_set L A k
          have HX : Hid (∀ u, u = (L.getD k 0 + A.getD k 0) % 4294967296 → Blk (wr.drew.setCell ⟨W.heap.size + 1 + 1 + 1, k, none⟩ (.int .u32 u)) W.heap.size .u32 55 A ∧ Blk (wr.drew.setCell ⟨W.heap.size + 1 + 1 + 1, k, none⟩ (.int .u32 u)) (W.heap.size + 1 + 1) .u32 55 Z ∧ Blk (wr.drew.setCell ⟨W.heap.size + 1 + 1 + 1, k, none⟩ (.int .u32 u)) (W.heap.size + 1 + 1 + 1) .u32 55 (S.plus L A (k + 1)) ∧ Below W.heap.size W (wr.drew.setCell ⟨W.heap.size + 1 + 1 + 1, k, none⟩ (.int .u32 u))) := fun u hu => by
            refine ⟨bA.drew.other _ (by omega), bZ.drew.other _ (by omega), ?_, hb.drew.setCell (show W.heap.size ≤ W.heap.size + 1 + 1 + 1 by omega) _⟩
            have := bS.drew.set k u
            rwa [plus_set L A k u hu] at this
          clear bA bZ bS hb HP
          generalize L.getD k 0 = x at *
          generalize A.getD k 0 = y at *
          go_wp2
          go_region
          go_wp2
          go_roundw
          case rel => exact ⟨k + 1, by omega, by go_num, HX.out _ rfl⟩
          case measure => simp [intOf]; omega
        · obtain rfl : k = 8 := by omega
          rw [HF'.out] at bS
          have hbl := block_length A B
          have BS : Hid (Blk wr (W.heap.size + 1 + 1 + 1) .u32 55 (S.block A B)) := bS
          have BZ : Hid (Blk wr (W.heap.size + 1 + 1) .u32 55 Z) := bZ
          have HB : Hid (Below W.heap.size W wr) := hb
          clear bA bZ bS hb
          go_wp2_with (first | (refine wpList_load_blk rfl 55 _ rfl (W.heap.size + 1 + 1 + 1) (S.block A B) rfl BS.out Tryz.underlying55 (by rw [hbl]; exact size27) ?_) | (refine wpList_store_blk rfl 55 _ _ rfl (W.heap.size + 1 + 1) (S.block A B) rfl rfl BZ.out (by rw [hbl]; exact size27) (by rw [hbl, hZl]) ?_))
          refine ret_cell rfl rfl (W.heap.size + 1 + 1) (S.block A B) rfl (BZ.out.setRow _) Tryz.underlying55 (by rw [hbl]; exact size27) ⟨rfl, ?_⟩
          exact below_setRow HB.out (by omega) _
end Go.Proofs.YtdfnbcbnmiohnaaGreatDoor.H
namespace Go.Proofs.YtdfnbcbnmiohnaaGreatDoor.H
open Go.RowKit

namespace S
def run (A xs : List Int) : Nat → List Int
  | 0 => A
  | m + 1 => block (run A xs m) ((xs.drop (16 * m)).take 16)
end S
theorem run_length (A xs : List Int) (hA : A.length = 8) (m : Nat) : (S.run A xs m).length = 8 := by
  cases m with
  | zero => exact hA
  | succ m => exact block_length _ _
theorem ret_cell2 {P : Program} {fn : Func} {p q : Tmp} {ty e t : TypeId} {n : Nat} {a : Act} {w : World} {post : Ending → World → Prop} (hr : fn.results = #[.cell p ty, .tmp q]) (hd : a.defers = []) (g : Nat) (L : List Int)
    (hp : a.tmps.getD p undef = .pointer (some ⟨g, 0, none⟩)) (hb : Blk w g .u32 e L) (hu : P.underlying ty = some (.array n t)) (hi : (P.info? ty).map (·.size) = some L.length) (h : post (.returned (.tuple #[Ag L, a.tmps.getD q undef])) w) :
    bodyPost P fn post .ret a w := by
  refine bodyPost_ret (v := .tuple #[Ag L, a.tmps.getD q undef]) ?_ hd h
  have hp' : a.tmps[p]?.getD undef = .pointer (some ⟨g, 0, none⟩) := by simpa using hp
  have := run_loadVar_row (P := P) w g e ty _ (0, 0) _ hb hu rfl (by rw [hi]; simp)
  simp [results, hr, hp', asAddr, this, Ag]

def AtB (W : World) (k : IntKind) (bb lo : Nat) (ao : Option Addr) (xs : List Int) : Prop := xs = [] ∨ ∃ off, ao = some ⟨bb, off, none⟩ ∧ lo ≤ off ∧ bb < W.heap.size ∧ Row W k bb off xs
theorem AtB.at {W : World} {k : IntKind} {bb lo : Nat} {ao : Option Addr} {xs : List Int} (h : AtB W k bb lo ao xs) : At W k ao xs := by
  rcases h with h | ⟨off, h1, _, h2, h3⟩
  · exact .inl h
  · exact .inr ⟨bb, off, h1, h2, h3⟩
theorem At.atb {W : World} {k : IntKind} {ao : Option Addr} {xs : List Int} (h : At W k ao xs) : ∃ bb, AtB W k bb 0 ao xs := by
  rcases h with h | ⟨b, off, h1, h2, h3⟩
  · exact ⟨0, .inl h⟩
  · exact ⟨b, .inr ⟨off, h1, Nat.zero_le _, h2, h3⟩⟩
theorem AtB.below {W w : World} {k : IntKind} {bb lo : Nat} {ao : Option Addr} {xs : List Int} (h : AtB W k bb lo ao xs) (hb : Below W.heap.size W w) : AtB w k bb lo ao xs := by
  rcases h with h | ⟨off, h1, hlo, h2, h3⟩
  · exact .inl h
  · exact .inr ⟨off, h1, hlo, by have := hb.size; omega, h3.below hb h2⟩
theorem AtB.but {W w : World} {g : Nat} {k : IntKind} {bb lo : Nat} {ao : Option Addr} {xs : List Int} (h : AtB W k bb lo ao xs) (hb : But g W w) (hg : bb ≠ g) : AtB w k bb lo ao xs := by
  rcases h with h | ⟨off, h1, hlo, h2, h3⟩
  · exact .inl h
  · exact .inr ⟨off, h1, hlo, by have := hb.size; omega, hb.row h3 h2 hg⟩
theorem cells_row {P : Program} {w : World} {b off : Nat} {L : List Int} (h : Row w .u32 b off L) (n : Nat) (hn : L.length = n) : (loadCellsFrom ⟨b, off, none⟩ 0 n #[]).run P w = .ok (L.map (Value.int .u32)).toArray w := by
  subst hn
  have := run_loadCells_list (P := P) w ⟨b, off, none⟩ (L.map (Value.int .u32)) (fun j v hv => by rw [Addr.add_mid]; exact h.range j v hv)
  simpa [loadCells] using this
attribute [-simp] Tryz.isAgg55 Tryz.sizeOf55 Tryz.zeroValue55 Tryz.isAgg166 Tryz.sizeOf166
set_option maxRecDepth 20000 in
set_option maxHeartbeats 2000000 in
theorem blocks_atb (W : World) (hT : Tab W) (h2 : 1 < W.heap.size) (A xs : List Int) (hA : A.length = 8) (ao : Option Addr) (n cap : Nat) (hx : xs.length = n) (hc : n ≤ cap) (bb lo : Nat) (h1 : AtB W .u32 bb lo ao xs) (hn : n ≤ 140737488351232) :
    Calls Tryz.prog 139 #[Ag A, .slice ao n cap] W fun en W' => ∃ ao' cap', en = .returned (.tuple #[Ag (S.run A xs (n / 16)), .slice ao' (n % 16) cap']) ∧ n % 16 ≤ cap' ∧ AtB W .u32 bb lo ao' (xs.drop (16 * (n / 16))) ∧ Below W.heap.size W W' := by
  obtain ⟨Z, hZ⟩ : ∃ Z : List Int, Z = List.replicate 8 0 := ⟨_, rfl⟩
  have hZl : Z.length = 8 := by rw [hZ]; simp
  have hz : ∀ w, (zeroValue 55).run Tryz.prog w = .ok (.agg (Z.map (Value.int .u32)).toArray) w := fun w => by rw [Tryz.zeroValue55, hZ]; rfl
  clear hZ
  have bA : Blk ((W.alloc (Obj.cells (List.map (Value.int IntKind.u32) A).toArray 55)).alloc (Obj.cells (List.map (Value.int IntKind.u32) Z).toArray 55)) W.heap.size .u32 55 A := (Blk.new W .u32 55 A).alloc _
  have bZ : Blk ((W.alloc (Obj.cells (List.map (Value.int IntKind.u32) A).toArray 55)).alloc (Obj.cells (List.map (Value.int IntKind.u32) Z).toArray 55)) (W.heap.size + 1) .u32 55 Z := Blk.newAt (by simp) .u32 55 Z
  have hX : Below W.heap.size W ((W.alloc (Obj.cells (List.map (Value.int IntKind.u32) A).toArray 55)).alloc (Obj.cells (List.map (Value.int IntKind.u32) Z).toArray 55)) := (below_one W _).alloc (by simp) _
  unfold Ag
  go_enter Tryz.func139, Tryz.ntmps139
  go_wp2
  go_loopw [1] (fun v wr => ∃ (m : Nat) (ao' : Option Addr) (cap' : Nat), 16 * m ≤ n ∧ v = .slice ao' (n - 16 * m) cap' ∧ n - 16 * m ≤ cap' ∧ AtB W .u32 bb lo ao' (xs.drop (16 * m)) ∧ Blk wr W.heap.size .u32 55 (S.run A xs m) ∧ Blk wr (W.heap.size + 1) .u32 55 Z ∧ Below W.heap.size W wr) (fun v _ => match v with | .slice _ k _ => k | _ => 0)
  case atStart => exact ⟨0, ao, cap, by omega, rfl, by omega, h1, bA, bZ, hX⟩
  case round =>
    clear bA bZ hX h1 hc
    obtain ⟨m, ao', cap', hm, rfl, hc, h1, bA, bZ, hb⟩ := hrel
    have hl := run_length A xs hA m
    have hdl : (xs.drop (16 * m)).length = n - 16 * m := by simp [hx]
    by_cases hlt : 16 ≤ n - 16 * m
    · rcases h1 with h1 | ⟨off, rfl, hlo, hbl, h1⟩
      · rw [h1] at hdl; simp at hdl; omega
      · obtain ⟨t, ht⟩ : ∃ t, t = n - 16 * m := ⟨_, rfl⟩
        rw [← ht] at hlt hc hdl ⊢
        have i1 : (16 : Int) ≤ (t : Int) := by omega
        have i2 : (t : Int) ≤ 140737488351232 := by omega
        have i3 : (t : Int) ≤ (cap' : Int) := by omega
        have i4 : (16 : Int) ≤ (cap' : Int) := by omega
        obtain ⟨B, hB⟩ : ∃ B, B = (xs.drop (16 * m)).take 16 := ⟨_, rfl⟩
        have hBl : B.length = 16 := by rw [hB, List.length_take, hdl]; omega
        have rB : Row wr .u32 bb off B := by rw [hB]; exact (h1.take 16).below hb hbl
        have hRN : S.run A xs (m + 1) = S.block (S.run A xs m) B := by rw [hB]; rfl
        clear hB
        generalize S.run A xs m = L at *
        obtain ⟨M, hM⟩ : ∃ M, M = S.block L B := ⟨_, rfl⟩
        have hMl : M.length = 8 := by rw [hM]; exact block_length _ _
        obtain ⟨N, hN⟩ : ∃ N : Nat, N = 8 := ⟨_, rfl⟩
        obtain ⟨N', hN'⟩ : ∃ N : Nat, N = 16 := ⟨_, rfl⟩
        have a27 := Tryz.isAgg55
        have z27 := Tryz.sizeOf55
        have a51 := Tryz.isAgg166
        have z51 := Tryz.sizeOf166
        rw [← hN] at z27 hl hMl
        rw [← hN'] at z51 hBl
        have ld1 : (loadCellsFrom ⟨W.heap.size, 0, none⟩ 0 N #[]).run Tryz.prog wr.drew = .ok (L.map (Value.int .u32)).toArray wr.drew := cells_blk (e := 55) bA.drew N hl
        have ld2 : (loadCellsFrom ⟨bb, off, none⟩ 0 N' #[]).run Tryz.prog wr.drew = .ok (B.map (Value.int .u32)).toArray wr.drew := cells_row (rB.drewN 1) N' hBl
        have hat : ∀ w, (Instr.arrayAt 166 (.slice (some ⟨bb, off, none⟩) 16 16)).run Tryz.prog w = .ok (.pointer (some ⟨bb, off, none⟩)) w := fun w => run_arrayAt w 166 _ 16 _ 16 16 Tryz.underlying166 (Nat.le_refl _)
        have RD : Hid (Calls Tryz.prog 154 #[.agg (L.map (Value.int .u32)).toArray, .agg (B.map (Value.int .u32)).toArray] wr.drew fun en w' => en = .returned (.agg (M.map (Value.int .u32)).toArray) ∧ Below wr.heap.size wr w' ∧ (storeCells ⟨W.heap.size, 0, none⟩ (M.map (Value.int .u32)) 0).run Tryz.prog w' = .ok () (w'.setRow W.heap.size (M.map (Value.int .u32)).toArray)) := by
          rw [hM]
          have hsz := hb.size
          refine (block_any wr.drew (hT.below hb.drew h2) (by show _ < wr.heap.size; omega) L B (by rw [hl, hN]) (by rw [hBl, hN'])).mono ?_
          rintro en w' ⟨rfl, hb'⟩
          have hb'' : Below wr.heap.size wr w' := Below.trans (Below.drew (Below.refl _ _)) hb'
          exact ⟨rfl, hb'', storeCells_blk (e := 55) (bA.below hb'' bA.lt) (by rw [← hM, hl, hMl])⟩
        have HX : Hid (∀ w', Below wr.heap.size wr w' → Blk (w'.setRow W.heap.size (M.map (Value.int .u32)).toArray) W.heap.size .u32 55 (S.run A xs (m + 1)) ∧ Blk (w'.setRow W.heap.size (M.map (Value.int .u32)).toArray) (W.heap.size + 1) .u32 55 Z ∧ Below W.heap.size W (w'.setRow W.heap.size (M.map (Value.int .u32)).toArray)) := fun w' hb' => by
          rw [hRN, ← hM]
          exact ⟨(bA.below hb' bA.lt).setRow _, (bZ.below hb' bZ.lt).setRow_other _ (by omega), below_setRow (hb.trans (hb'.mono hb.size)) (by omega) _⟩
        have HA : Hid (AtB W .u32 bb lo (if cap' = 16 then some ⟨bb, off, none⟩ else some ⟨bb, off + 16, none⟩) (xs.drop (16 * (m + 1)))) := by
          rw [show 16 * (m + 1) = 16 * m + 16 by omega, ← List.drop_drop]
          by_cases hc16 : cap' = 16
          · left
            apply List.drop_eq_nil_of_le
            rw [hdl]; omega
          · rw [if_neg hc16]
            exact .inr ⟨off + 16, rfl, by omega, hbl, h1.drop 16⟩
        have HT : Hid (t - 16 = n - 16 * (m + 1) ∧ t - 16 ≤ cap' - 16 ∧ 16 * (m + 1) ≤ n) := ⟨by omega, by omega, by omega⟩
        clear bA bZ hb hN hN' hM hl hRN rB h1 hm hlt ht hc
        go_wp2
        go_region_with (first | (go_at_call 154; refine RD.out.mono ?_; rintro en w' ⟨rfl, hb', hst⟩))
        all_goals
          have HY : Hid _ := HX.out _ hb'
          clear hb' hst
          go_wp2
          have HT1 := HT.out
          refine ⟨⟨m + 1, _, cap' - 16, by omega, by rw [← HT1.1], by omega, HA.out, HY.out⟩, ?_⟩
          show t - 16 < t
          omega
    · obtain ⟨t, ht⟩ : ∃ t, t = n - 16 * m := ⟨_, rfl⟩
      have HE : Hid (t = n % 16 ∧ n / 16 = m) := ⟨by omega, by omega⟩
      rw [← ht] at hc ⊢
      have i1 : (t : Int) < 16 := by omega
      have BA : Hid (Blk wr W.heap.size .u32 55 (S.run A xs m)) := bA
      have BZ : Hid (Blk wr (W.heap.size + 1) .u32 55 Z) := bZ
      have HB : Hid (Below W.heap.size W wr) := hb
      have HC : Hid (t ≤ cap') := hc
      clear bA bZ hb hc hlt ht hdl hm
      go_wp2_with (first | (refine wpList_load_blk rfl 55 _ rfl W.heap.size (S.run A xs m) rfl BA.out Tryz.underlying55 (by rw [hl]; exact size27) ?_) | (refine wpList_store_blk rfl 55 _ _ rfl (W.heap.size + 1) (S.run A xs m) rfl rfl BZ.out (by rw [hl]; exact size27) (by rw [hl, hZl]) ?_))
      refine ret_cell2 rfl rfl (W.heap.size + 1) (S.run A xs m) rfl (BZ.out.setRow _) Tryz.underlying55 (by rw [hl]; exact size27) ?_
      rw [HE.out.2, ← HE.out.1]
      exact ⟨_, _, rfl, HC.out, h1, below_setRow HB.out (by omega) _⟩
theorem blocks_any (W : World) (hT : Tab W) (h2 : 1 < W.heap.size) (A xs : List Int) (hA : A.length = 8) (ao : Option Addr) (n cap : Nat) (hx : xs.length = n) (hc : n ≤ cap) (h1 : At W .u32 ao xs) (hn : n ≤ 140737488351232) :
    Calls Tryz.prog 139 #[Ag A, .slice ao n cap] W fun en W' => ∃ ao' cap', en = .returned (.tuple #[Ag (S.run A xs (n / 16)), .slice ao' (n % 16) cap']) ∧ n % 16 ≤ cap' ∧ At W .u32 ao' (xs.drop (16 * (n / 16))) ∧ Below W.heap.size W W' := by
  obtain ⟨bb, hb⟩ := h1.atb
  refine (blocks_atb W hT h2 A xs hA ao n cap hx hc bb 0 hb hn).mono ?_
  rintro en w ⟨ao', cap', h1, h2, h3, h4⟩
  exact ⟨ao', cap', h1, h2, h3.at, h4⟩
end Go.Proofs.YtdfnbcbnmiohnaaGreatDoor.H
