/-
  No cell of these rows narrows 'for every input' (looked for: loops, veiled, ifaces, maps, wideKeys, modest, calm, conditions, laid).
  DERIVED. THE GIVEN ROWS OF THIS SEAT. 4 by the template 'for every input the law returns true; each argument reads behind the call as it read before'; 0 by the template 'total and deterministic' (their statements: YtajkhkaidjjioaaTotals.lean).
  GIVEN WITH THE SEED: the statements are not yours to turn. If you find one false, say at which input.
  Laid BY PROGRAM, IN A SANDBOX (cutbox-rows.mjs): the forced cells as the released guide's own fill.sh prints them over the translation 7afd5c05de81465e… (all of the seat's roots in one cut). By AI agents, Wed Nov 11 2026. No macro, syntax, notation, axiom, sorry.
-/
import Derived.Test.YtajkhkaidjjioaaChecked
import GoSem.Claim
import GoSem.ClaimJoined
import GoSem.ClaimMapViews
import Derived.JoinedTies
import Derived.KernelRfl
namespace Go.Proofs.Ytajkhkaidjjioaa
/- THE CELL 'sum', in the pinned program and in every row, IS THE sha256 OF THE DUMP (.gsa) THAT YtajkhkaidjjioaaProg.lean LOADS. Nothing in Lean hashes anything: it is a label: what it is worth is what the hold of that sum in a sandbox is worth. -/
noncomputable def Try.pinned : Pinned := { name := "ytajkhkaidjjioaa", sum := "7afd5c05de81465e7ffacc5917ad1de3c01f0c4c434ac3b427cbd938fc3284e5", checked := Try.checked }
namespace Rows
def none {H : Type} : Left H := { results := [], args := [] }

/-- 'wardenlaw12.PagedbBack': WHATEVER THE INPUT: true; the input reads as it did. -/
def pagedbBackSpec : ChangeSpec := { name := "pagedbBack", fn := fun _ => fun
  | [d1, d2] => { results := [.lit (.bool true)], args := [d1, d2] }
  | _ => none }
def pagedbBackRow : OpenClaim := { program := "ytajkhkaidjjioaa", sum := "7afd5c05de81465e7ffacc5917ad1de3c01f0c4c434ac3b427cbd938fc3284e5", func := "warden/wardenlaw12.PagedbBack", spec := "pagedbBack", unfollowed := true, recurses := true, apart := false }
def PagedbBackSaid : Prop := pagedbBackRow.holds Try.pinned (OpenSpec.ofChange pagedbBackSpec)

/-- ITS FALSE NEIGHBOUR: 'it returns false'. Refute it at one input. -/
def pagedbBackWrong : ChangeSpec := { name := "pagedbBack", fn := fun _ => fun
  | [d1, d2] => { results := [.lit (.bool false)], args := [d1, d2] }
  | _ => none }
def PagedbBackWrongFalsely : Prop := pagedbBackRow.holds Try.pinned (OpenSpec.ofChange pagedbBackWrong)

/-- 'wardenlaw12.PagedbKeeps': WHATEVER THE INPUT: true; the input reads as it did. -/
def pagedbKeepsSpec : ChangeSpec := { name := "pagedbKeeps", fn := fun _ => fun
  | [d1, d2] => { results := [.lit (.bool true)], args := [d1, d2] }
  | _ => none }
def pagedbKeepsRow : OpenClaim := { program := "ytajkhkaidjjioaa", sum := "7afd5c05de81465e7ffacc5917ad1de3c01f0c4c434ac3b427cbd938fc3284e5", func := "warden/wardenlaw12.PagedbKeeps", spec := "pagedbKeeps", unfollowed := true, recurses := true, apart := false }
def PagedbKeepsSaid : Prop := pagedbKeepsRow.holds Try.pinned (OpenSpec.ofChange pagedbKeepsSpec)

/-- ITS FALSE NEIGHBOUR: 'it returns false'. Refute it at one input. -/
def pagedbKeepsWrong : ChangeSpec := { name := "pagedbKeeps", fn := fun _ => fun
  | [d1, d2] => { results := [.lit (.bool false)], args := [d1, d2] }
  | _ => none }
def PagedbKeepsWrongFalsely : Prop := pagedbKeepsRow.holds Try.pinned (OpenSpec.ofChange pagedbKeepsWrong)

/-- 'wardenlaw12.PagedbCounts': WHATEVER THE INPUT: true; the input reads as it did. -/
def pagedbCountsSpec : ChangeSpec := { name := "pagedbCounts", fn := fun _ => fun
  | [d] => { results := [.lit (.bool true)], args := [d] }
  | _ => none }
def pagedbCountsRow : OpenClaim := { program := "ytajkhkaidjjioaa", sum := "7afd5c05de81465e7ffacc5917ad1de3c01f0c4c434ac3b427cbd938fc3284e5", func := "warden/wardenlaw12.PagedbCounts", spec := "pagedbCounts", unfollowed := true, recurses := true, apart := false }
def PagedbCountsSaid : Prop := pagedbCountsRow.holds Try.pinned (OpenSpec.ofChange pagedbCountsSpec)

/-- ITS FALSE NEIGHBOUR: 'it returns false'. Refute it at one input. -/
def pagedbCountsWrong : ChangeSpec := { name := "pagedbCounts", fn := fun _ => fun
  | [d] => { results := [.lit (.bool false)], args := [d] }
  | _ => none }
def PagedbCountsWrongFalsely : Prop := pagedbCountsRow.holds Try.pinned (OpenSpec.ofChange pagedbCountsWrong)

/-- 'wardenlaw12.PagedbAll': WHATEVER THE INPUT: true; the input reads as it did. -/
def pagedbAllSpec : ChangeSpec := { name := "pagedbAll", fn := fun _ => fun
  | [d1, d2] => { results := [.lit (.bool true)], args := [d1, d2] }
  | _ => none }
def pagedbAllRow : OpenClaim := { program := "ytajkhkaidjjioaa", sum := "7afd5c05de81465e7ffacc5917ad1de3c01f0c4c434ac3b427cbd938fc3284e5", func := "warden/wardenlaw12.PagedbAll", spec := "pagedbAll", unfollowed := true, recurses := true, apart := false }
def PagedbAllSaid : Prop := pagedbAllRow.holds Try.pinned (OpenSpec.ofChange pagedbAllSpec)

/-- ITS FALSE NEIGHBOUR: 'it returns false'. Refute it at one input. -/
def pagedbAllWrong : ChangeSpec := { name := "pagedbAll", fn := fun _ => fun
  | [d1, d2] => { results := [.lit (.bool false)], args := [d1, d2] }
  | _ => none }
def PagedbAllWrongFalsely : Prop := pagedbAllRow.holds Try.pinned (OpenSpec.ofChange pagedbAllWrong)

/- THE SECOND FORM. 'bulk': how many values and letters a reading holds, each counted each time it is reached (what is shared counts as often as it is met; a slice's spare places count too). A statement '..UptoSaid' is the law's where the arguments, and the package variables that the reading takes, are together of bulk at most 1048576: NARROWER than '..Said'. Prove '..Said' where nothing that the law and all that it calls make is longer than what came in: it says more and counts as full. Else prove '..UptoSaid'. A law counts once. -/
mutual
def uptoBulk {H : Type} : DataW H → Nat
  | .lit (.string bytes) => bytes.length + 1
  | .lit _ => 1
  | .nil => 1
  | .ptr d => uptoBulk d + 1
  | .slice elems spare => uptoBulkAll elems + uptoBulkAll spare + 1
  | .agg parts => uptoBulkAll parts + 1
  | .iface _ d => uptoBulk d + 1
  | .map entries => uptoBulkEntries entries + 1
  | .held _ => 1
def uptoBulkAll {H : Type} : List (DataW H) → Nat
  | [] => 0
  | d :: r => uptoBulk d + uptoBulkAll r
def uptoBulkEntries {H : Type} : List (Lit × DataW H) → Nat
  | [] => 0
  | x :: r => uptoBulkEntry x + uptoBulkEntries r
def uptoBulkEntry {H : Type} : Lit × DataW H → Nat
  | (.string bytes, d) => bytes.length + uptoBulk d + 1
  | (_, d) => uptoBulk d + 1
 end
def uptoSmall : (H : Type) → List (DataW H) → Bool := fun _ ds => decide (uptoBulkAll ds ≤ 1048576)
def OpenSpec.upto (s : _root_.Go.ChangeSpec) : _root_.Go.OpenSpec := { _root_.Go.OpenSpec.ofChange s with cond := some uptoSmall }

/-- 'wardenlaw12.PagedbBack', WHERE WHAT IT READS IS OF BULK AT MOST 1048576: true; the input reads as it did. -/
def pagedbBackUptoRow : OpenClaim := { program := "ytajkhkaidjjioaa", sum := "7afd5c05de81465e7ffacc5917ad1de3c01f0c4c434ac3b427cbd938fc3284e5", func := "warden/wardenlaw12.PagedbBack", spec := "pagedbBack", unfollowed := true, recurses := true, apart := false, narrowed := true }
def PagedbBackUptoSaid : Prop := pagedbBackUptoRow.holds Try.pinned (OpenSpec.upto pagedbBackSpec)

/-- 'wardenlaw12.PagedbKeeps', WHERE WHAT IT READS IS OF BULK AT MOST 1048576: true; the input reads as it did. -/
def pagedbKeepsUptoRow : OpenClaim := { program := "ytajkhkaidjjioaa", sum := "7afd5c05de81465e7ffacc5917ad1de3c01f0c4c434ac3b427cbd938fc3284e5", func := "warden/wardenlaw12.PagedbKeeps", spec := "pagedbKeeps", unfollowed := true, recurses := true, apart := false, narrowed := true }
def PagedbKeepsUptoSaid : Prop := pagedbKeepsUptoRow.holds Try.pinned (OpenSpec.upto pagedbKeepsSpec)

/-- 'wardenlaw12.PagedbCounts', WHERE WHAT IT READS IS OF BULK AT MOST 1048576: true; the input reads as it did. -/
def pagedbCountsUptoRow : OpenClaim := { program := "ytajkhkaidjjioaa", sum := "7afd5c05de81465e7ffacc5917ad1de3c01f0c4c434ac3b427cbd938fc3284e5", func := "warden/wardenlaw12.PagedbCounts", spec := "pagedbCounts", unfollowed := true, recurses := true, apart := false, narrowed := true }
def PagedbCountsUptoSaid : Prop := pagedbCountsUptoRow.holds Try.pinned (OpenSpec.upto pagedbCountsSpec)

/-- 'wardenlaw12.PagedbAll', WHERE WHAT IT READS IS OF BULK AT MOST 1048576: true; the input reads as it did. -/
def pagedbAllUptoRow : OpenClaim := { program := "ytajkhkaidjjioaa", sum := "7afd5c05de81465e7ffacc5917ad1de3c01f0c4c434ac3b427cbd938fc3284e5", func := "warden/wardenlaw12.PagedbAll", spec := "pagedbAll", unfollowed := true, recurses := true, apart := false, narrowed := true }
def PagedbAllUptoSaid : Prop := pagedbAllUptoRow.holds Try.pinned (OpenSpec.upto pagedbAllSpec)

end Rows
end Go.Proofs.Ytajkhkaidjjioaa
