import Derived.Test.YtbjinmlelchmgaaGreatDoorP20
import Derived.Test.YtbjinmlelchmgaaGreatDoorP01
import Derived.Lib.IndexBytes
namespace Go.Proofs.YtbjinmlelchmgaaGreatDoor
open Go.RowKit
def sgnRes (r : Option Int) : Value := match r with
  | some v => .tuple #[.int .i32 v, .int .i64 0]
  | none => .tuple #[.int .i32 0, .int .i64 41]
end Go.Proofs.YtbjinmlelchmgaaGreatDoor
namespace Go.Proofs.YtbjinmlelchmgaaGreatDoor
open Go.RowKit
theorem list_two (s : ByteArray) (h : 1 < s.size) : s.data.toList = s[0] :: s[1] :: s.data.toList.drop 2 := by
  have a := drop_get s 0 (by omega)
  have b := drop_get s 1 h
  rw [List.drop_zero] at a
  exact a.trans (congrArg (s[0] :: ·) b)
theorem pre_two (s : ByteArray) (h : 1 < s.size) : [48, 120].isPrefixOf s.data.toList = ((s[0] == 48) && (s[1] == 120)) := by
  rw [list_two s h]
  simp [List.isPrefixOf, Bool.beq_comm]
theorem number_hex (s : ByteArray) (h1 : 2 < s.size) (h2 : s.size ≤ 10) (h3 : s[0].toNat = 48) (h4 : s[1].toNat = 120) : T.number s.data.toList = T.hval (s.data.toList.drop 2) := by
  unfold T.number
  have e0 : s[0] = 48 := UInt8.toNat_inj.1 h3
  have e1 : s[1] = 120 := UInt8.toNat_inj.1 h4
  rw [pre_two s (by omega), e0, e1]
  unfold T.hexed
  rw [if_pos (by decide), if_neg (by rw [List.length_drop, size_list]; omega)]
end Go.Proofs.YtbjinmlelchmgaaGreatDoor
namespace Go.Proofs.YtbjinmlelchmgaaGreatDoor
open Go.RowKit
end Go.Proofs.YtbjinmlelchmgaaGreatDoor
