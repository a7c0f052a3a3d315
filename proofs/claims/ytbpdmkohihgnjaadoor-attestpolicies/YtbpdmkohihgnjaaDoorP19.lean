import Derived.Test.YtbpdmkohihgnjaaDoorP17
import Derived.Lib.AppendZeros
import Derived.Test.YtbpdmkohihgnjaaDoorP18
namespace Go.Proofs.YtbpdmkohihgnjaaDoor
open Go.RowKit

theorem Holds.alloc {W wr : World} {k : IntKind} {e : TypeId} {v : Value} {L : List Int} (h : Holds W wr k e v L) (o : Obj) : Holds W (wr.alloc o) k e v L := ⟨h.own.alloc o, h.below.alloc h.below.size o⟩
theorem Holds.drew {W wr : World} {k : IntKind} {e : TypeId} {v : Value} {L : List Int} (h : Holds W wr k e v L) : Holds W wr.drew k e v L := ⟨h.own, h.below.drew⟩
def Sl (ao : Option Addr) (c : Nat) : Prop := ao = none → c = 0

def joinX (X : Nat → List Int) : Nat → List Int
  | 0 => []
  | t + 1 => joinX X t ++ X t
end Go.Proofs.YtbpdmkohihgnjaaDoor
namespace Go.Proofs.YtbpdmkohihgnjaaDoor
open Go.RowKit

theorem But.more {g : Nat} {X w w' : World} (a : But g X w) (b : Below w.heap.size w w') : But g X w' := a.trans (Below.but b)
structure MacH (W : World) (gm gi go : Nat) (K L : List Int) : Prop where
  cel : Cel W gm 72 [.pointer (some ⟨gi, 0, none⟩), .pointer (some ⟨go, 0, none⟩)]
  inner : DigL W gi (xorL 909522486 K ++ L)
  outer : DigL W go (xorL 1549556828 K)
  kl : K.length = 16
  mi : gm ≠ gi
  mo : gm ≠ go
  io : gi ≠ go
  lm : 13 ≤ gm
  li : 13 ≤ gi
  lo : 13 ≤ go
theorem MacH.on {W w : World} {gm gi go : Nat} {K L : List Int} (h : MacH W gm gi go K L) (hb : Below W.heap.size W w) : MacH w gm gi go K L := ⟨h.cel.below hb h.cel.lt, h.inner.below hb, h.outer.below hb, h.kl, h.mi, h.mo, h.io, h.lm, h.li, h.lo⟩
theorem MacH.but {W w : World} {g gm gi go : Nat} {K L : List Int} (h : MacH W gm gi go K L) (hb : But g W w) (h1 : gm ≠ g) (h2 : gi ≠ g) (h3 : go ≠ g) : MacH w gm gi go K L := ⟨h.cel.but hb h1, h.inner.but hb h2, h.outer.but hb h3, h.kl, h.mi, h.mo, h.io, h.lm, h.li, h.lo⟩
attribute [-simp] Tryd.isAgg23 Tryd.sizeOf23 Tryd.zeroValue23 Tryd.isAgg77 Tryd.sizeOf77 Tryd.zeroValue77
end Go.Proofs.YtbpdmkohihgnjaaDoor
namespace Go.Proofs.YtbpdmkohihgnjaaDoor
open Go.RowKit


attribute [-simp] Tryd.isAgg23 Tryd.sizeOf23 Tryd.zeroValue23 Tryd.isAgg77 Tryd.sizeOf77 Tryd.zeroValue77
end Go.Proofs.YtbpdmkohihgnjaaDoor
