import Derived.Test.YtncnogndopgknaaGreatDoorP04
import Derived.Deep.RegionHeld3
import Derived.Deep.MidRow
namespace Go.Proofs.YtncnogndopgknaaGreatDoor
open Go.RowKit

def shapeT : List (List UInt8) := [[], [97, 117], [97, 117], [97, 98], [97, 98, 99], [97, 98, 99], [97, 98, 99], [97, 98, 99], [97, 98, 99], [97, 98, 99], [97, 98, 99], [97, 98, 99], [97, 98, 99], [97, 98, 99], [97, 98, 115], [97, 98, 115], [97, 98, 115], [97, 98, 99], [97, 98, 99], [97, 98], [97, 115], [107, 111], [111], [97], [117]]
def nameT : List (List UInt8) := [[], [109, 111, 118, 105], [109, 111, 118, 116], [109, 111, 118], [97, 100, 100], [115, 117, 98], [109, 117, 108], [100, 105, 118], [97, 110, 100], [111, 114], [120, 111, 114], [115, 104, 108], [115, 104, 114], [115, 97, 114], [97, 100, 100, 105], [108, 100, 114], [115, 116, 114], [108, 100, 120], [115, 116, 120], [99, 109, 112], [99, 109, 112, 105], [98], [98, 108], [98, 114], [115, 118, 99]]
def shp (n : Nat) : ByteArray := ⟨(shapeT.getD n []).toArray⟩
def nam (n : Nat) : ByteArray := ⟨(nameT.getD n []).toArray⟩
def Forms (W : World) : Prop := ∀ n : Nat, n < 25 → W.cell? ⟨1, n * 2, none⟩ = some (.string (nam n)) ∧ W.cell? ⟨1, n * 2 + 1, none⟩ = some (.string (shp n))
theorem Forms.below {W w : World} {B : Nat} (h : Forms W) (hb : Below B W w) (hB : 1 < B) : Forms w := fun n hn => ⟨(hb.cell (p := ⟨1, n * 2, none⟩) hB).trans (h n hn).1, (hb.cell (p := ⟨1, n * 2 + 1, none⟩) hB).trans (h n hn).2⟩

def Ins.cs (i : Ins) : List Value := [.int .i64 i.op, .int .i64 i.cond, .int .i64 i.a, .int .i64 i.b, .int .i64 i.c, .int .i32 i.imm]
def Fl.cs (f : Fl) : List Value := [.int .i64 f.low, .int .i64 f.bits, .int .i64 f.least, .int .i64 f.most]
theorem Ins.v_cs (i : Ins) : i.v = .agg i.cs.toArray := rfl
theorem Fl.v_cs (f : Fl) : f.v = .agg f.cs.toArray := rfl
def Cel (w : World) (g : Nat) (t : TypeId) (cs : List Value) : Prop := w.heap[g]? = some (.cells cs.toArray t (0, 0))
theorem Cel.lt {w : World} {g : Nat} {t : TypeId} {cs : List Value} (h : Cel w g t cs) : g < w.heap.size := (Array.getElem?_eq_some_iff.1 h).1
theorem Cel.below {w w' : World} {B g : Nat} {t : TypeId} {cs : List Value} (h : Cel w g t cs) (hb : Below B w w') (hg : g < B) : Cel w' g t cs := (hb.block g hg).trans h
theorem Cel.on {w w' : World} {g : Nat} {t : TypeId} {cs : List Value} (h : Cel w g t cs) (hb : Below w.heap.size w w') : Cel w' g t cs := h.below hb h.lt
theorem Cel.cell {w : World} {g : Nat} {t : TypeId} {cs : List Value} (h : Cel w g t cs) (j : Nat) : w.cell? ⟨g, j, none⟩ = cs[j]? := by
  rw [cell_of_row w g j _ t (0, 0) h]; simp
theorem Cel.range {w : World} {g : Nat} {t : TypeId} {cs : List Value} (h : Cel w g t cs) : w.rangeAt g 0 cs := fun j v hv => by rw [Nat.zero_add, h.cell j, hv]
theorem Cel.new (w : World) (t : TypeId) (cs : List Value) : Cel (w.alloc (.cells cs.toArray t)) w.heap.size t cs := new_at w _
theorem Cel.set {w : World} {g : Nat} {t : TypeId} {cs : List Value} (h : Cel w g t cs) (vs : List Value) : Cel (w.setRow g vs.toArray) g t vs := setRow_heap w g _ vs.toArray t _ h
structure But (g : Nat) (w w' : World) : Prop where
  os : w'.os = w.os
  tape : w'.tape = w.tape
  output : w'.output = w.output
  size : w.heap.size ≤ w'.heap.size
  block : ∀ k, k < w.heap.size → k ≠ g → w'.heap[k]? = w.heap[k]?
theorem but_setRow (w : World) (g : Nat) (cs : Array Value) : But g w (w.setRow g cs) := ⟨rfl, rfl, rfl, by simp, fun k _ hk => Go.setRow_other w g k cs hk⟩
theorem But.below {g B : Nat} {w w' : World} (h : But g w w') (hB : B ≤ g) (hs : B ≤ w.heap.size) : Below B w w' := ⟨h.os, h.tape, h.output, h.size, fun k hk => h.block k (by omega) (by omega)⟩
theorem Cel.but {w w' : World} {g i : Nat} {t : TypeId} {cs : List Value} (h : Cel w i t cs) (hb : But g w w') (hi : i ≠ g) : Cel w' i t cs := (hb.block i h.lt hi).trans h
theorem but_drew (g : Nat) (w : World) : But g w w.drew := ⟨rfl, rfl, rfl, Nat.le_refl _, fun _ _ _ => rfl⟩
theorem But.trans {g : Nat} {a b c : World} (h : But g a b) (h' : But g b c) : But g a c := ⟨h'.os.trans h.os, h'.tape.trans h.tape, h'.output.trans h.output, Nat.le_trans h.size h'.size, fun k hk hg => (h'.block k (by have := h.size; omega) hg).trans (h.block k hk hg)⟩
theorem Below.but {g : Nat} {w w' : World} (h : Below w.heap.size w w') : But g w w' := ⟨h.os, h.tape, h.output, h.size, fun k hk _ => h.block k hk⟩
theorem But.more {g : Nat} {X w w' : World} (a : But g X w) (b : Below w.heap.size w w') : But g X w' := a.trans (Below.but b)
theorem wp_store_st {P : Program} {op : Oper} {a : Act} {w : World} {K : Act → World → Prop} {Q : Exit → Act → World → Prop} (ty : TypeId) (x y : Operand) (ho : op.op = .store ty x y)
    (g : Nat) (vs : List Value) (hx : a.eval x = .pointer (some ⟨g, 0, none⟩)) (hy : a.eval y = .agg vs.toArray) {e : TypeId} {cs : List Value} (hg : Cel w g e cs) (hi : (P.info? ty).map (·.size) = some vs.length) (hl : cs.length = vs.length) (h1 : vs.all (·.oneCell') = true)
    (h : K (a.put op.dst undef) (w.setRow g vs.toArray)) : op.wp P a w K Q := by
  have hs : (Instr.storeAt ty (.pointer (some ⟨g, 0, none⟩)) (.agg vs.toArray)).run P w = .ok () (w.setRow g vs.toArray) := by
    simp only [Instr.storeAt, Instr.sureAddr, Sem.run_bind, Sem.run_pure, Result.andThen]
    exact run_storeVar_row w g e ty _ _ hg (by rw [hi]; simp) (by simp [hl]) (by simpa using h1)
  unfold Oper.wp execOp
  simp only [ho, hx, hy, Sem.run_bind, Sem.run_pure, hs, Result.andThen_ok]
  exact h
theorem wpList_store_st {P : Program} {ops : Array Oper} {rest : List Oper} {o : Oper} {a : Act} {w : World} {Q : Exit → Act → World → Prop} (hgd : o.guard = none) (ty : TypeId) (x y : Operand) (ho : o.op = .store ty x y)
    (g : Nat) (vs : List Value) (hx : a.eval x = .pointer (some ⟨g, 0, none⟩)) (hy : a.eval y = .agg vs.toArray) {e : TypeId} {cs : List Value} (hg : Cel w g e cs) (hi : (P.info? ty).map (·.size) = some vs.length) (hl : cs.length = vs.length) (h1 : vs.all (·.oneCell') = true)
    (h : ∀ w', Cel w' g e vs → But g w w' → w'.heap.size = w.heap.size → wpList P ops Q rest (a.put o.dst undef) w') : wpList P ops Q (o :: rest) a w :=
  wpList_store_row hgd ty x y ho g _ hx hy e _ hg (by rw [hi]; simp) (by simp [hl]) (by simpa using h1) (h _ (hg.set _) (but_setRow _ _ _) (by simp))
theorem below_on {X w w' : World} (h : Below X.heap.size X w) (k : Below w.heap.size w w') : Below X.heap.size X w' := h.trans (k.mono h.size)
structure CI (W w : World) (gi gr : Nat) (I R : List Value) : Prop where
  below : Below W.heap.size W w
  i : Cel w gi 84 I
  r : Cel w gr 84 R
  hi : W.heap.size ≤ gi
  hr : W.heap.size ≤ gr
  ne : gi ≠ gr
theorem CI.on {W w w' : World} {gi gr : Nat} {I R : List Value} (h : CI W w gi gr I R) (k : Below w.heap.size w w') : CI W w' gi gr I R := ⟨below_on h.below k, h.i.on k, h.r.on k, h.hi, h.hr, h.ne⟩
theorem CI.set {W w : World} {gi gr : Nat} {I R : List Value} (h : CI W w gi gr I R) (R' : List Value) : CI W (w.setRow gr R'.toArray) gi gr I R' :=
  ⟨h.below.trans ((but_setRow _ _ _).below h.hr h.below.size), h.i.but (but_setRow _ _ _) h.ne, h.r.set _, h.hi, h.hr, h.ne⟩

def ltr (s : ByteArray) : List Nat := s.data.toList.map (·.toNat)
def okAt (i : Ins) (l : Nat) : Prop := (fl l).least ≤ i.num l ∧ i.num l ≤ (fl l).most
instance (i : Ins) (l : Nat) : Decidable (okAt i l) := by unfold okAt; exact inferInstance
def Ins.z : Ins := ⟨0, 0, 0, 0, 0, 0⟩
def clr (i : Ins) (L : List Nat) : Ins := L.foldl (fun r l => r.put l 0) { i with op := 0 }
def chk (i : Ins) : Int := if 1 ≤ i.op ∧ i.op < 25 then (if (∀ l ∈ ltr (shp i.op.toNat), okAt i l) ∧ clr i (ltr (shp i.op.toNat)) = Ins.z then 0 else 51) else 50
theorem ltr_len (s : ByteArray) : (ltr s).length = s.size := by simp [ltr]
theorem ltr_get (s : ByteArray) (k : Nat) (h : k < s.size) : (ltr s)[k]'(by rw [ltr_len]; exact h) = s[k].toNat := by simp only [ltr, List.getElem_map]; rfl
theorem ltr_snoc (s : ByteArray) (k : Nat) (h : k < s.size) : (ltr s).take (k + 1) = (ltr s).take k ++ [s[k].toNat] := by
  rw [List.take_add_one, List.getElem?_eq_getElem (by rw [ltr_len]; exact h), ltr_get s k h]; rfl
theorem clr_snoc (i : Ins) (L : List Nat) (l : Nat) : clr i (L ++ [l]) = (clr i L).put l 0 := by simp [clr, List.foldl_append]
end Go.Proofs.YtncnogndopgknaaGreatDoor
