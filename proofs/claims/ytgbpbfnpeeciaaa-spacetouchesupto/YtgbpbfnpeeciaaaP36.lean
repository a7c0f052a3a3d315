import Derived.Test.YtgbpbfnpeeciaaaP03
import Derived.Test.YtgbpbfnpeeciaaaP20
namespace Go.Proofs.Ytgbpbfnpeeciaaa
open Go.RowKit
structure Gm where
  va : Int
  wr : Bool
  ex : Bool
def Gm.v (m : Gm) : Value := .agg #[.int .u32 m.va, .bool m.wr, .bool m.ex]
def Gm.cs (m : Gm) : List Value := [.int .u32 m.va, .bool m.wr, .bool m.ex]
def Gm.z : Gm := ⟨0, false, false⟩
def Gm.Ok (m : Gm) : Prop := m.va % 4096 = 0 ∧ m.va < 1073741824
instance (m : Gm) : Decidable m.Ok := by unfold Gm.Ok; exact inferInstance
def Gm.w (m : Gm) : Int := if m.Ok then m.va + 1 + b2 m.wr 2 + b2 m.ex 4 else 0
def Gm.e (m : Gm) : Int := if m.Ok then 0 else 91
def Gw (w : Int) : Prop := w % 2 = 1 ∧ w % 4096 < 8 ∧ w < 1073741824
instance (w : Int) : Decidable (Gw w) := by unfold Gw; exact inferInstance
def gP (w : Int) : Gm := if Gw w then ⟨w - w % 4096, decide (w / 2 % 2 = 1), decide (w / 4 % 2 = 1)⟩ else Gm.z
def gPE (w : Int) : Int := if Gw w then 0 else 142
def gG (w : Int) : Gm := ⟨w - w % 4096, decide (w / 2 % 2 = 1), decide (w / 4 % 2 = 1)⟩
end Go.Proofs.Ytgbpbfnpeeciaaa
namespace Go.Proofs.Ytgbpbfnpeeciaaa
open Go.RowKit
set_option maxRecDepth 100000
set_option maxHeartbeats 4000000
theorem Bag.new {W w : World} {L : List (Nat × TypeId × List Value)} (h : Bag W w L) (u : TypeId) (es : List Value) : Bag W (w.alloc (.cells es.toArray u)) ((w.heap.size, u, es) :: L) := h.add (ds := es) (Cel.new w u es) (.refl _ _)
end Go.Proofs.Ytgbpbfnpeeciaaa
