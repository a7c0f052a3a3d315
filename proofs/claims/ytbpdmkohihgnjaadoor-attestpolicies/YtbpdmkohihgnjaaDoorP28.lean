import Derived.Test.YtbpdmkohihgnjaaDoorP27
namespace Go.Proofs.YtbpdmkohihgnjaaDoor
open Go.RowKit
set_option maxHeartbeats 8000000
set_option maxRecDepth 100000
def at8 (s : ByteArray) (a : Nat) : ByteArray := s.extract a (a + 64)
def qok (s : ByteArray) : Prop := s.size = 224 ∧ ok8 (at8 s 20) ∧ ok8 (at8 s 90) ∧ ok8 (at8 s 159) ∧ fmtQ (w8 (at8 s 20)) (w8 (at8 s 90)) (w8 (at8 s 159)) = s
instance (s : ByteArray) : Decidable (qok s) := by unfold qok; exact inferInstance
def zer24 : List Int := List.replicate 24 0
def pq (s : ByteArray) : List Int := if qok s then quoL (w8 (at8 s 20)) (w8 (at8 s 90)) (w8 (at8 s 159)) else zer24
def pE (E : Nat → Addr) (s : ByteArray) : Value := if qok s then .nilIface else .iface 235 (.pointer (some (E 5)))
theorem toList_ne {t s : ByteArray} (h : t ≠ s) : (t.toList == s.toList) = false := by
  rw [ByteArray.toList_eq t, ByteArray.toList_eq s]
  simp only [beq_eq_false_iff_ne, ne_eq]
  intro e
  apply h
  cases t
  cases s
  congr
  exact Array.toList_inj.1 e
theorem wpList_load_mg {P : Program} {ops : Array Oper} {rest : List Oper} {o : Oper} {a : Act} {w : World} {Q : Exit → Act → World → Prop} (hw : Region.wanted o (yielded ops a.tmps) = true) (ty : TypeId) (x : Operand) (ho : o.op = .load ty x)
    (b off : Nat) (hx : a.eval x = .pointer (some ⟨b, off, none⟩)) (cs : List Value) (d : TypeDesc) (hc : w.rangeAt b off cs) (hu : P.underlying ty = some d) (hd : d.isRow = true) (hi : (P.info? ty).map (·.size) = some cs.length)
    (h : wpList P ops Q rest (a.put o.dst (.agg cs.toArray)) w) : wpList P ops Q (o :: rest) a w := by
  rw [wpList, if_pos hw]
  refine .inl ?_
  exact wp_load_mid ty x ho b off hx cs d hc hu hd hi h
structure QS0 (W : World) (E : Nat → Addr) (Z : List Int) (w : World) : Prop where
  bl : Below W.heap.size W w
  tb : TabW w
  es : ErrS w E
  b2 : Blk w W.heap.size .u32 38 Z
theorem QS0.on {W : World} {E : Nat → Addr} {Z : List Int} {w w' : World} (h : QS0 W E Z w) (hb : Below w.heap.size w w') : QS0 W E Z w' := ⟨below_on h.bl hb, h.tb.below hb (by have := h.b2.lt; omega), h.es.on hb, h.b2.on hb⟩
structure QS1 (W : World) (E : Nat → Addr) (Z : List Int) (w : World) : Prop where
  bl : Below W.heap.size W w
  es : ErrS w E
  b2 : Blk w W.heap.size .u32 38 Z
theorem ret_q2 {P : Program} {fn : Func} {p q : Tmp} {ty e : TypeId} {d : TypeDesc} {a : Act} {w : World} {post : Ending → World → Prop} (hr : fn.results = #[.cell p ty, .tmp q]) (hd : a.defers = []) (g : Nat) (cs : List Value)
    (hp : a.tmps.getD p undef = .pointer (some ⟨g, 0, none⟩)) (hb : Cel w g e cs) (hu : P.underlying ty = some d) (hdd : (match d with | .struct _ | .array _ _ => true | _ => false) = true) (hi : (P.info? ty).map (·.size) = some cs.length) (h : post (.returned (.tuple #[.agg cs.toArray, a.tmps.getD q undef])) w) :
    bodyPost P fn post .ret a w := by
  refine bodyPost_ret (v := .tuple #[.agg cs.toArray, a.tmps.getD q undef]) ?_ hd h
  have hp' : a.tmps[p]?.getD undef = .pointer (some ⟨g, 0, none⟩) := by simpa using hp
  have := run_loadVar_row (P := P) w g e ty _ (0, 0) _ hb hu hdd (by rw [hi]; simp)
  simp [results, hr, hp', asAddr, this]
attribute [-simp] Tryd.isAgg23 Tryd.zeroValue23 Tryd.isAgg38 Tryd.zeroValue38
end Go.Proofs.YtbpdmkohihgnjaaDoor
