import Derived.Test.YtbpdmkohihgnjaaDoorP23
import Derived.Test.YtbpdmkohihgnjaaDoorP21
namespace Go.Proofs.YtbpdmkohihgnjaaDoor
open Go.RowKit
set_option maxHeartbeats 4000000
set_option maxRecDepth 100000
structure Rl where
  al : Bool
  nm : ByteArray
  ms : List Int
def Rl.cs (r : Rl) : List Value := .bool r.al :: .string r.nm :: r.ms.map (Value.int .u32)
structure Rl.Ok (r : Rl) : Prop where
  ml : r.ms.length = 8
  mw : Wds r.ms
  nl : r.nm.size ≤ 140737488355328
theorem Rl.len (r : Rl) (h : r.ms.length = 8) : r.cs.length = 10 := by simp [Rl.cs, h]
def RulesAt (W : World) (ao : Option Addr) (R : List Rl) : Prop := R = [] ∨ ∃ b off, ao = some ⟨b, off, none⟩ ∧ b < W.heap.size ∧ ∀ t r, R[t]? = some r → W.rangeAt b (off + t * 10) r.cs
theorem range_below {W w : World} {b o : Nat} {cs : List Value} (h : W.rangeAt b o cs) (hb : Below W.heap.size W w) (hl : b < W.heap.size) : w.rangeAt b o cs := fun j v hv => (hb.cell (p := ⟨b, o + j, none⟩) hl).trans (h j v hv)
theorem RulesAt.on {W w : World} {ao : Option Addr} {R : List Rl} (h : RulesAt W ao R) (hb : Below W.heap.size W w) : RulesAt w ao R := by
  rcases h with h | ⟨b, off, h1, h2, h3⟩
  · exact .inl h
  · exact .inr ⟨b, off, h1, by have := hb.size; omega, fun t r hr => range_below (h3 t r hr) hb h2⟩
def dec : List Rl → Bool → List Int → Bool × ByteArray
  | [], o, _ => (o, ⟨#[]⟩)
  | r :: R, o, m => if r.ms = m then (r.al, r.nm) else dec R o m
def polC (ao : Option Addr) (n c : Nat) (ot : Bool) : List Value := [.slice ao n c, .bool ot]
theorem size42 : (Tryd.prog.info? 42).map (·.size) = some 10 := by kernel_rfl
theorem size36 : (Tryd.prog.info? 36).map (·.size) = some 2 := by kernel_rfl
def zrule : Obj := .cells #[.bool false, .string ⟨#[]⟩, .int .u32 0, .int .u32 0, .int .u32 0, .int .u32 0, .int .u32 0, .int .u32 0, .int .u32 0, .int .u32 0] 42
theorem wpList_store_st {P : Program} {ops : Array Oper} {rest : List Oper} {o : Oper} {a : Act} {w : World} {Q : Exit → Act → World → Prop} (hgd : o.guard = none) (ty : TypeId) (x y : Operand) (ho : o.op = .store ty x y)
    (g : Nat) (vs : List Value) (hx : a.eval x = .pointer (some ⟨g, 0, none⟩)) (hy : a.eval y = .agg vs.toArray) {e : TypeId} {cs : List Value} (hg : Cel w g e cs) (hi : (P.info? ty).map (·.size) = some vs.length) (hl : cs.length = vs.length) (h1 : vs.all (·.oneCell') = true)
    (h : ∀ w', Cel w' g e vs → But g w w' → w'.heap.size = w.heap.size → wpList P ops Q rest (a.put o.dst undef) w') : wpList P ops Q (o :: rest) a w :=
  wpList_store_row hgd ty x y ho g _ hx hy e _ hg (by rw [hi]; simp) (by simp [hl]) (by simpa using h1) (h _ (Cel.setr hg _) (but_setRow _ _ _) (by simp))
theorem Rl.one (r : Rl) : r.cs.all (·.oneCell') = true := by
  simp only [Rl.cs, List.all_cons, Bool.and_eq_true]
  exact ⟨rfl, rfl, List.all_eq_true.2 (ints_oneCell .u32 _)⟩
theorem Rl.atms {w : World} {b o : Nat} {r : Rl} (h : w.rangeAt b o r.cs) : w.rangeAt b (o + 2) (r.ms.map (Value.int .u32)) := fun j v hv => by
  have := h (j + 2) v (by simpa [Rl.cs] using hv)
  rwa [show o + (j + 2) = o + 2 + j by omega] at this
theorem but_box {w w' : World} {ob : Obj} (hb : But w.heap.size (w.alloc ob) w') : Below w.heap.size w w' := (below_one w ob).trans (hb.below (Nat.le_refl _) (by simp))
structure DE (W : World) (ao : Option Addr) (n c : Nat) (ot : Bool) (m : List Int) (R : List Rl) (w : World) : Prop where
  bl : Below W.heap.size W w
  p2 : Cel w W.heap.size 36 (polC ao n c ot)
  b3 : Blk w (W.heap.size + 1) .u32 23 m
  ru : RulesAt w ao R
theorem DE.on {W : World} {ao : Option Addr} {n c : Nat} {ot : Bool} {m : List Int} {R : List Rl} {w w' : World} (h : DE W ao n c ot m R w) (hb : Below w.heap.size w w') : DE W ao n c ot m R w' := ⟨below_on h.bl hb, h.p2.on hb, h.b3.on hb, h.ru.on hb⟩
attribute [-simp] Tryd.isAgg23 Tryd.zeroValue23 Tryd.isAgg42 Tryd.zeroValue42 Tryd.isAgg36 Tryd.zeroValue36
end Go.Proofs.YtbpdmkohihgnjaaDoor
