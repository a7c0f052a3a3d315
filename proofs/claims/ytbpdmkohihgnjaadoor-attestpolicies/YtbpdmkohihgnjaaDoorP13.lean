import Derived.Test.YtbpdmkohihgnjaaDoorP12
namespace Go.Proofs.YtbpdmkohihgnjaaDoor
open Go.RowKit

theorem Tab.ne {W : World} {g : Nat} {A : List Int} {n : Nat} {p : List Int} (hT : Tab W) (D : Dig W g A n p) : g ≠ 8 := by
  rintro rfl
  have h1 := hT.cell 8 (by decide)
  rw [D.cellN] at h1
  cases h1
attribute [-simp] Tryd.isAgg23 Tryd.sizeOf23 Tryd.zeroValue23
end Go.Proofs.YtbpdmkohihgnjaaDoor
