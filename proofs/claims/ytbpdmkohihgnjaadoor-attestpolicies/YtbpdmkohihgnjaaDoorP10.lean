import Derived.Test.YtbpdmkohihgnjaaDoorP09
namespace Go.Proofs.YtbpdmkohihgnjaaDoor
open Go.RowKit

def Tab (W : World) : Prop := Row W .u32 8 0 S.K
theorem Tab.below {W w : World} {B : Nat} (h : Tab W) (hb : Below B W w) (hB : 12 < B) : Tab w := Row.below h hb (by omega)
theorem Tab.cell {W : World} (h : Tab W) (i : Nat) (hi : i < 64) : W.cell? ⟨8, i, none⟩ = some (.int .u32 (S.K.getD i 0)) := by
  have := h i hi
  rwa [Nat.zero_add] at this
attribute [-simp] Tryd.isAgg23 Tryd.sizeOf23 Tryd.zeroValue23 Tryd.isAgg77 Tryd.sizeOf77 Tryd.isAgg180 Tryd.sizeOf180
end Go.Proofs.YtbpdmkohihgnjaaDoor
