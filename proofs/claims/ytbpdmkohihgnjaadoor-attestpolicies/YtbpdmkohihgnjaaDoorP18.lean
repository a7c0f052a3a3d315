import Derived.Test.YtbpdmkohihgnjaaDoorP17
import Derived.Deep.DeepCutAuto
namespace Go.Proofs.YtbpdmkohihgnjaaDoor
open Go.RowKit

def xorT (p : Int) (K : List Int) (t : Nat) : List Int := xorL p (K.take t) ++ K.drop t
attribute [-simp] Tryd.isAgg23 Tryd.sizeOf23 Tryd.zeroValue23 Tryd.isAgg77 Tryd.sizeOf77 Tryd.zeroValue77
end Go.Proofs.YtbpdmkohihgnjaaDoor
namespace Go.Proofs.YtbpdmkohihgnjaaDoor
open Go.RowKit

attribute [-simp] Tryd.isAgg23 Tryd.sizeOf23 Tryd.zeroValue23 Tryd.isAgg77 Tryd.sizeOf77 Tryd.zeroValue77
end Go.Proofs.YtbpdmkohihgnjaaDoor
namespace Go.Proofs.YtbpdmkohihgnjaaDoor
open Go.RowKit

theorem Owned.blk {W wr : World} {k : IntKind} {e : TypeId} {N : Nat} {L : List Int} (h : Owned W wr k e N L) : Blk wr W.heap.size k e L := by
  rcases h.own.2 with ⟨h0, _⟩ | ⟨g, cap, cur, hv, _, hg, _, _, hs, ht⟩
  · cases h0
  · simp only [Value.slice.injEq, Option.some.injEq, Addr.mk.injEq, and_true] at hv
    obtain ⟨rfl, _, rfl⟩ := hv
    unfold Blk
    rw [hg, ← ht, List.take_of_length_le (by simp; omega)]
attribute [-simp] Tryd.isAgg23 Tryd.sizeOf23 Tryd.zeroValue23 Tryd.isAgg77 Tryd.sizeOf77 Tryd.zeroValue77 Tryd.isAgg119 Tryd.sizeOf119 Tryd.zeroValue119
end Go.Proofs.YtbpdmkohihgnjaaDoor
