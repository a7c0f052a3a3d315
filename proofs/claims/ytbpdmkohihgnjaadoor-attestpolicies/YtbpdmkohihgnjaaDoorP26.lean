import Derived.Test.YtbpdmkohihgnjaaDoorP24
import Derived.Test.YtbpdmkohihgnjaaDoorP25
namespace Go.Proofs.YtbpdmkohihgnjaaDoor
open Go.RowKit
set_option maxHeartbeats 4000000
set_option maxRecDepth 100000
def jcode (T t d nonce : List Int) (a : Bool) : Nat := if T = t then if d = nonce then if a = true then 0 else 3 else 2 else 1
def errV (E : Nat → Addr) (c : Nat) : Value := if c = 0 then .nilIface else .iface 235 (.pointer (some (E c)))
def errN (c : Nat) : Int := if c = 0 then 0 else 161 + c
def jname (c : Nat) (nm : ByteArray) : ByteArray := if c = 0 then nm else ⟨#[]⟩
def quoL (m d t : List Int) : List Int := m ++ (d ++ t)
structure JD (W : World) (E : Nat → Addr) (g5 g6 g7 : Nat) (k : List Int) (ao : Option Addr) (n c : Nat) (ot : Bool) (m d t o : List Int) (R : List Rl) (w : World) : Prop where
  bl : Below W.heap.size W w
  tb : Tabs w
  es : ErrS w E
  b4 : Blk w W.heap.size .u32 23 k
  p5 : Cel w g5 36 (polC ao n c ot)
  q6 : Blk w g6 .u32 38 (quoL m d t)
  b7 : Blk w g7 .u32 23 o
  ru : RulesAt w ao R
theorem JD.on {W : World} {E : Nat → Addr} {g5 g6 g7 : Nat} {k : List Int} {ao : Option Addr} {n c : Nat} {ot : Bool} {m d t o : List Int} {R : List Rl} {w w' : World} (h : JD W E g5 g6 g7 k ao n c ot m d t o R w) (hb : Below w.heap.size w w') : JD W E g5 g6 g7 k ao n c ot m d t o R w' :=
  ⟨below_on h.bl hb, h.tb.on hb, h.es.on hb, h.b4.on hb, h.p5.on hb, h.q6.on hb, h.b7.on hb, h.ru.on hb⟩
attribute [-simp] Tryd.isAgg23 Tryd.zeroValue23 Tryd.isAgg38 Tryd.zeroValue38 Tryd.isAgg36 Tryd.zeroValue36
end Go.Proofs.YtbpdmkohihgnjaaDoor
