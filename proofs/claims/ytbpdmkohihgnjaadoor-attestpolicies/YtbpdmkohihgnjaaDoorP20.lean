import Derived.Test.YtbpdmkohihgnjaaDoorP19
import Derived.Lib.SlBytesConst
namespace Go.Proofs.YtbpdmkohihgnjaaDoor
open Go.RowKit

def Apart (v u : Value) : Prop := ∀ g, v.ownBlock = some g → u.ownBlock = some g → False
theorem Apart.symm {v u : Value} (h : Apart v u) : Apart u v := fun g a b => h g b a
theorem Apart.nil (v : Value) : Apart (.slice none 0 0) v := fun g h => by cases h
theorem Holds.on {W wr w : World} {k : IntKind} {e : TypeId} {v : Value} {L : List Int} (h : Holds W wr k e v L) (hb : Below wr.heap.size wr w) : Holds W w k e v L := ⟨ownsRow_below h.own hb, h.below.trans (hb.mono h.below.size)⟩
end Go.Proofs.YtbpdmkohihgnjaaDoor
namespace Go.Proofs.YtbpdmkohihgnjaaDoor
open Go.RowKit

attribute [-simp] Tryd.isAgg23 Tryd.sizeOf23 Tryd.zeroValue23 Tryd.isAgg77 Tryd.sizeOf77 Tryd.zeroValue77
end Go.Proofs.YtbpdmkohihgnjaaDoor
