import Derived.Test.YtbpdmkohihgnjaaGreatDoorP15
import Derived.Test.YtbpdmkohihgnjaaGreatDoorP18
namespace Go.Proofs.YtbpdmkohihgnjaaGreatDoor
open Go.RowKit
set_option maxHeartbeats 4000000
set_option maxRecDepth 100000
def hexB (xs : List Int) : ByteArray := strOfNums (V.hexD xs)
theorem hexB_size {xs : List Int} (h : xs.length = 8) : (hexB xs).size = 64 := by unfold hexB; rw [strOfNums_size, V.hexD_length, h]
def qB0 : ByteArray := lineB [⟨#[113, 117, 111, 116, 101, 32, 49]⟩]
def qB1 (m : List Int) : ByteArray := lineB [⟨#[109, 101, 97, 115, 117, 114, 101, 109, 101, 110, 116]⟩, hexB m]
def qB2 (d : List Int) : ByteArray := lineB [⟨#[100, 97, 116, 97]⟩, hexB d]
def qB3 (t : List Int) : ByteArray := lineB [⟨#[116, 97, 103]⟩, hexB t]
def fmtQ (m d t : List Int) : ByteArray := ((qB0 ++ qB1 m) ++ qB2 d) ++ qB3 t
theorem line2 (a b : ByteArray) : (Lib.join ([a, b].map (·.data.toList)) [32]) = a.data.toList ++ ([32] ++ b.data.toList) := by simp [Lib.join, List.intercalate]
theorem sizeL (l : List UInt8) : (⟨l.toArray⟩ : ByteArray).size = l.length := by show l.toArray.size = l.length; exact List.size_toArray
theorem lenD (a : ByteArray) : a.data.toList.length = a.size := by show a.data.toList.length = a.data.size; exact Array.length_toList
theorem size10 : (⟨#[10]⟩ : ByteArray).size = 1 := rfl
theorem line2_size (a b : ByteArray) : (lineB [a, b]).size = a.size + b.size + 2 := by
  unfold lineB
  rw [ByteArray.size_append, sizeL, line2, List.length_append, List.length_append, lenD, lenD, size10, List.length_singleton]
  omega
theorem range_row {w : World} {g o : Nat} {xs : List Int} (h : w.rangeAt g o (xs.map (Value.int .u32))) : V.Row w .u32 g o xs := fun i hi => by
  refine h i _ ?_
  rw [List.getElem?_map, List.getElem?_eq_getElem hi]
  simp [List.getD_eq_getElem?_getD, List.getElem?_eq_getElem hi]
theorem lineAt (w : World) (g n : Nat) (xs : List ByteArray) (hn : xs.length = n) (hN : xs.length ≤ 1000) (hl : (Lib.join (xs.map (·.data.toList)) [32]).length ≤ 1000000) (hc : Cel w g 9 (xs.map Value.string)) :
    Calls Tryz.prog 58 #[.slice (some ⟨g, 0, none⟩) n n] w fun e w' => e = .returned (.string (lineB xs)) ∧ Below w.heap.size w w' :=
  layLine_any g n n xs w hn (fun j x hx => by rw [hc.cell j, List.getElem?_map, hx]; rfl) hc.lt hN (by omega) hl
attribute [-simp] Tryz.isAgg26 Tryz.zeroValue26 Tryz.isAgg28 Tryz.zeroValue28
end Go.Proofs.YtbpdmkohihgnjaaGreatDoor
namespace Go.Proofs.YtbpdmkohihgnjaaGreatDoor
open Go.RowKit
set_option maxHeartbeats 8000000
set_option maxRecDepth 100000
def at8 (s : ByteArray) (a : Nat) : ByteArray := s.extract a (a + 64)
def qok (s : ByteArray) : Prop := s.size = 224 ∧ ok8 (at8 s 20) ∧ ok8 (at8 s 90) ∧ ok8 (at8 s 159) ∧ fmtQ (w8 (at8 s 20)) (w8 (at8 s 90)) (w8 (at8 s 159)) = s
instance (s : ByteArray) : Decidable (qok s) := by unfold qok; exact inferInstance
def zer24 : List Int := List.replicate 24 0
def pq (s : ByteArray) : List Int := if qok s then quoL (w8 (at8 s 20)) (w8 (at8 s 90)) (w8 (at8 s 159)) else zer24
def pE (E : Nat → Addr) (s : ByteArray) : Value := if qok s then .nilIface else .iface 245 (.pointer (some (E 5)))
theorem toList_ne {t s : ByteArray} (h : t ≠ s) : (t.toList == s.toList) = false := by
  rw [ByteArray.toList_eq t, ByteArray.toList_eq s]
  simp only [beq_eq_false_iff_ne, ne_eq]
  intro e
  apply h
  cases t
  cases s
  congr
  exact Array.toList_inj.1 e
theorem wpList_build_f {ops : Array Oper} {rest : List Oper} {o : Oper} {a : Act} {w : World} {Q : Exit → Act → World → Prop} (hgd : o.guard = none) (t : TypeId) (xs : Array (Nat × Operand)) (ho : o.op = .build t xs)
    (ps : Array (Nat × Value)) (hp : xs.map (fun x => (x.1, a.eval x.2)) = ps) (cs : Array Value) (hb : Tryz.prog.built t ps.toList = some cs)
    (h : wpList Tryz.prog ops Q rest (a.put o.dst (.agg cs)) w) : wpList Tryz.prog ops Q (o :: rest) a w := by
  refine wpList_plain hgd fun K hK => ?_
  unfold Oper.wp execOp
  simp only [ho, Sem.run_bind, hp, run_build w t ps _ hb, Result.andThen_ok]
  exact hK _ _ h
theorem wpList_load_mg {P : Program} {ops : Array Oper} {rest : List Oper} {o : Oper} {a : Act} {w : World} {Q : Exit → Act → World → Prop} (hw : Region.wanted o (yielded ops a.tmps) = true) (ty : TypeId) (x : Operand) (ho : o.op = .load ty x)
    (b off : Nat) (hx : a.eval x = .pointer (some ⟨b, off, none⟩)) (cs : List Value) (d : TypeDesc) (hc : w.rangeAt b off cs) (hu : P.underlying ty = some d) (hd : d.isRow = true) (hi : (P.info? ty).map (·.size) = some cs.length)
    (h : wpList P ops Q rest (a.put o.dst (.agg cs.toArray)) w) : wpList P ops Q (o :: rest) a w := by
  rw [wpList, if_pos hw]
  refine .inl ?_
  exact wp_load_mid ty x ho b off hx cs d hc hu hd hi h
structure QS0 (W : World) (E : Nat → Addr) (Z : List Int) (w : World) : Prop where
  bl : Below W.heap.size W w
  tb : TabW w
  es : ErrS w E
  b2 : Blk w W.heap.size .u32 28 Z
theorem QS0.on {W : World} {E : Nat → Addr} {Z : List Int} {w w' : World} (h : QS0 W E Z w) (hb : Below w.heap.size w w') : QS0 W E Z w' := ⟨below_on h.bl hb, h.tb.below hb (by have := h.es.sz; omega), h.es.on hb, h.b2.on hb⟩
structure QS1 (W : World) (E : Nat → Addr) (Z : List Int) (w : World) : Prop where
  bl : Below W.heap.size W w
  es : ErrS w E
  b2 : Blk w W.heap.size .u32 28 Z
theorem ret_q2 {P : Program} {fn : Func} {p q : Tmp} {ty e : TypeId} {d : TypeDesc} {a : Act} {w : World} {post : Ending → World → Prop} (hr : fn.results = #[.cell p ty, .tmp q]) (hd : a.defers = []) (g : Nat) (cs : List Value)
    (hp : a.tmps.getD p undef = .pointer (some ⟨g, 0, none⟩)) (hb : Cel w g e cs) (hu : P.underlying ty = some d) (hdd : (match d with | .struct _ | .array _ _ => true | _ => false) = true) (hi : (P.info? ty).map (·.size) = some cs.length) (h : post (.returned (.tuple #[.agg cs.toArray, a.tmps.getD q undef])) w) :
    bodyPost P fn post .ret a w := by
  refine bodyPost_ret (v := .tuple #[.agg cs.toArray, a.tmps.getD q undef]) ?_ hd h
  have hp' : a.tmps[p]?.getD undef = .pointer (some ⟨g, 0, none⟩) := by simpa using hp
  have := run_loadVar_row (P := P) w g e ty _ (0, 0) _ hb hu hdd (by rw [hi]; simp)
  simp [results, hr, hp', asAddr, this]
attribute [-simp] Tryz.isAgg26 Tryz.zeroValue26 Tryz.isAgg28 Tryz.zeroValue28
end Go.Proofs.YtbpdmkohihgnjaaGreatDoor
namespace Go.Proofs.YtbpdmkohihgnjaaGreatDoor
open Go.RowKit
set_option maxHeartbeats 8000000
set_option maxRecDepth 100000
def pN (s : ByteArray) : Int := if qok s then 0 else 160
structure PS (W : World) (E : Nat → Addr) (g : Nat) (M : List Int) (w : World) : Prop where
  bl : Below W.heap.size W w
  es : ErrS w E
  b4 : Blk w g .u32 28 M
attribute [-simp] Tryz.isAgg26 Tryz.zeroValue26 Tryz.isAgg28 Tryz.zeroValue28
end Go.Proofs.YtbpdmkohihgnjaaGreatDoor
