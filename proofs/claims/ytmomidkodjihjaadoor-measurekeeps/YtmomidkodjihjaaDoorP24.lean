import Derived.Test.YtmomidkodjihjaaDoorP23
namespace Go.Proofs.YtmomidkodjihjaaDoor
open Go.RowKit
open H
set_option maxHeartbeats 4000000
set_option maxRecDepth 100000
theorem holds_but {V w w' : World} {v : Value} {L : List Int} {g : Nat} (h : Holds V w .u32 24 v L) (hb : But g w w') (hg : V.heap.size ≤ g) (hn : ¬ v.ownBlock = some g) : Holds V w' .u32 24 v L := ⟨own_but h.own hb hn, h.below.trans (hb.below hg h.below.size)⟩
end Go.Proofs.YtmomidkodjihjaaDoor
