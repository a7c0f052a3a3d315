import Derived.Test.YtdfnbcbnmiohnaaGreatDoorP40
namespace Go.Proofs.YtdfnbcbnmiohnaaGreatDoor
open Go.RowKit
set_option maxRecDepth 100000
set_option maxHeartbeats 8000000
attribute [-simp] Tryz.isAgg44 Tryz.sizeOf44 Tryz.zeroValue44 Tryz.isAgg55 Tryz.sizeOf55 Tryz.zeroValue55
def q0 : DS := DS.fresh (MS.new 4 1)
def q1 : DS := q0.takeSpace 1 3
def q2 : DS := q1.dig 1 (H.saveOf []) 26
structure LQ (W w : World) (p : Dp) (lv : Value) (l : List Q.Ov) (d : DS) : Prop where
  o : OD W w p d
  lm : LM d (Q.enc (l.map Q.Ov.o))
  ho : Q.HO W w lv l
  ok : ∀ x ∈ l.map Q.Ov.o, x.Ok
  len : (Q.enc (l.map Q.Ov.o)).length ≤ 1026 * l.length
theorem LQ.on {W w w' : World} {p : Dp} {lv : Value} {l : List Q.Ov} {d : DS} (h : LQ W w p lv l d) (hb : Below w.heap.size w w') : LQ W w' p lv l d := ⟨h.o.on hb, h.lm, h.ho.on hb, h.ok, h.len⟩
theorem LQ.ext {W w w' : World} {p : Dp} {lv : Value} {l : List Q.Ov} {d d' : DS} (h : LQ W w p lv l d) (hd : DB w' p d') (hb : ButL p.f.w w w') : OD W w' p d' ∧ Q.HO W w' lv l := ⟨h.o.stepf hd hb, HO_f h.ho h.o hb⟩
end Go.Proofs.YtdfnbcbnmiohnaaGreatDoor
