import Derived.Test.YtildhjiddidghaaGreatDoorP07
import Derived.Test.YtildhjiddidghaaGreatDoorP11
namespace Go.Proofs.YtildhjiddidghaaGreatDoor.H
open Go.RowKit

namespace S
def runB (A bs : List Int) : Nat → List Int
  | 0 => A
  | k + 1 => block (runB A bs k) (wordsD ((bs.drop (64 * k)).take 64) 16)
end S
def padR (bs : List Int) (b : Int) : List Int := ((bs ++ [128]) ++ List.replicate (bz bs.length) 0) ++ lenB b 8
def endR (A rest : List Int) (b : Int) : List Int := S.runB A (padR rest b) ((padR rest b).length / 64)
def rsumB (bs : List Int) : List Int := endR (S.runB S.First bs (bs.length / 64)) (bs.drop (64 * (bs.length / 64))) (8 * (bs.length : Int))
end Go.Proofs.YtildhjiddidghaaGreatDoor.H
namespace Go.Proofs.YtildhjiddidghaaGreatDoor.H
open Go.RowKit

attribute [-simp] Tryz.isAgg130 Tryz.sizeOf130 Tryz.zeroValue130 Tryz.isAgg164 Tryz.sizeOf164
end Go.Proofs.YtildhjiddidghaaGreatDoor.H
namespace Go.Proofs.YtildhjiddidghaaGreatDoor.H
open Go.RowKit

set_option maxRecDepth 20000 in
theorem rfirst_any (W : World) :
    Calls Tryz.prog 115 #[] W fun e W' => e = .returned (Ag S.First) ∧ Below W.heap.size W W' := by
  have b := Blk.new W .u32 130 [0, 0, 0, 0, 0, 0, 0, 0]
  have B : Hid (Blk (W.alloc (.cells #[.int .u32 0, .int .u32 0, .int .u32 0, .int .u32 0, .int .u32 0, .int .u32 0, .int .u32 0, .int .u32 0] 130)) W.heap.size .u32 130 [0, 0, 0, 0, 0, 0, 0, 0]) := b
  clear b
  go_enter Tryz.func115, Tryz.ntmps115
  go_wp2_with (first | (refine wpList_store_blk rfl 130 _ _ rfl W.heap.size S.First rfl rfl B.out size27 rfl ?_))
  refine ret_cell rfl rfl W.heap.size S.First rfl (B.out.setRow _) Tryz.underlying130 size27 ⟨rfl, ?_⟩
  exact below_setRow (below_one _ _) (Nat.le_refl _) _
set_option maxRecDepth 20000 in
set_option maxHeartbeats 1000000 in
attribute [-simp] Tryz.isAgg130 Tryz.sizeOf130 Tryz.zeroValue130 Tryz.isAgg164 Tryz.sizeOf164
end Go.Proofs.YtildhjiddidghaaGreatDoor.H
