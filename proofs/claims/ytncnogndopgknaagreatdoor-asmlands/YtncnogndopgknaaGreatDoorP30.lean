import Derived.Test.YtncnogndopgknaaGreatDoorP29
import Derived.Lib.AppendIntMem
import Derived.Test.YtncnogndopgknaaGreatDoorP13
namespace Go.Proofs.YtncnogndopgknaaGreatDoor
open Go.RowKit
structure TB (W : World) : Prop where
  f : Forms W
  t : Tab W
  c : CNames W
  p : PowTab W
  z : 8 < W.heap.size
theorem PowTab.on {W w : World} (h : PowTab W) (hb : Below W.heap.size W w) : PowTab w := Lib.tabBelow_of_tabIs h w hb
theorem TB.on {W w : World} (h : TB W) (hb : Below W.heap.size W w) : TB w := ⟨h.f.below hb (by have := h.z; omega), h.t.below hb (by have := h.z; omega), h.c.below hb (by have := h.z; omega), h.p.on hb, by have := hb.size; have := h.z; omega⟩
theorem TB.fn {W : World} (h : TB W) : FNames W := fun n hn => (h.f n hn).1

theorem byteArr (s : ByteArray) : s = ⟨s.data.toList.toArray⟩ := by cases s; simp
end Go.Proofs.YtncnogndopgknaaGreatDoor
namespace Go.Proofs.YtncnogndopgknaaGreatDoor
open Go.RowKit
namespace A
def tgtN (o : Option Nat) : Int := match o with | some t => t | none => 0
end A
end Go.Proofs.YtncnogndopgknaaGreatDoor
namespace Go.Proofs.YtncnogndopgknaaGreatDoor
open Go.RowKit
end Go.Proofs.YtncnogndopgknaaGreatDoor
