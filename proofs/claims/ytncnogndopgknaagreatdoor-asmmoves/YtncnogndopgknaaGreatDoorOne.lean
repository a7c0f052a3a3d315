/- one (12), num (9), the law's field (14). -/
import Derived.Test.YtncnogndopgknaaGreatDoorDec
namespace Go.Proofs.YtncnogndopgknaaGreatDoor
open Go.RowKit
/-- The tables lie where their initialisers laid them. -/
structure Tabs (W : World) : Prop where
  f : Forms W
  t : Tab W
  z : 5 < W.heap.size
theorem Tabs.on {W w : World} (h : Tabs W) (hb : Below W.heap.size W w) : Tabs w := ⟨h.f.below hb (by have := h.z; omega), h.t.below hb h.z, by have := hb.size; have := h.z; omega⟩
end Go.Proofs.YtncnogndopgknaaGreatDoor
