/-
  No cell of these rows narrows 'for every input' (looked for: loops, veiled, ifaces, maps, wideKeys, modest, calm, conditions, laid).
  DERIVED. THE GIVEN ROWS OF THIS SEAT. 6 by the template 'for every input the law returns true; each argument reads behind the call as it read before'; 0 by the template 'total and deterministic' (their statements: YtmmphmdmocfnpaaTotals.lean).
  GIVEN WITH THE SEED: the statements are not yours to turn. If you find one false, say at which input.
  Laid BY PROGRAM, IN A SANDBOX (cutbox-rows.mjs): the forced cells as the released guide's own fill.sh prints them over the translation cc8df2009a330a33… (all of the seat's roots in one cut). By AI agents, Wed Nov 11 2026. No macro, syntax, notation, axiom, sorry.
-/
import Derived.Test.YtmmphmdmocfnpaaChecked
import GoSem.Claim
import GoSem.ClaimJoined
import GoSem.ClaimMapViews
import Derived.JoinedTies
import Derived.KernelRfl
namespace Go.Proofs.Ytmmphmdmocfnpaa
/- THE CELL 'sum', in the pinned program and in every row, IS THE sha256 OF THE DUMP (.gsa) THAT YtmmphmdmocfnpaaProg.lean LOADS. Nothing in Lean hashes anything: it is a label: what it is worth is what the hold of that sum in a sandbox is worth. -/
noncomputable def Try.pinned : Pinned := { name := "ytmmphmdmocfnpaa", sum := "cc8df2009a330a3390cb02e03fdf2dad018f83398cf644307356bb09552bd19c", checked := Try.checked }
namespace Rows
def none {H : Type} : Left H := { results := [], args := [] }

/-- 'wardenlaw09.WalkBack': WHATEVER THE INPUT: true; the input reads as it did. -/
def walkBackSpec : ChangeSpec := { name := "walkBack", fn := fun _ => fun
  | [d1, d2, d3, d4] => { results := [.lit (.bool true)], args := [d1, d2, d3, d4] }
  | _ => none }
def walkBackRow : OpenClaim := { program := "ytmmphmdmocfnpaa", sum := "cc8df2009a330a3390cb02e03fdf2dad018f83398cf644307356bb09552bd19c", func := "warden/wardenlaw09.WalkBack", spec := "walkBack", unfollowed := true, recurses := true, apart := false }
def WalkBackSaid : Prop := walkBackRow.holds Try.pinned (OpenSpec.ofChange walkBackSpec)

/-- ITS FALSE NEIGHBOUR: 'it returns false'. Refute it at one input. -/
def walkBackWrong : ChangeSpec := { name := "walkBack", fn := fun _ => fun
  | [d1, d2, d3, d4] => { results := [.lit (.bool false)], args := [d1, d2, d3, d4] }
  | _ => none }
def WalkBackWrongFalsely : Prop := walkBackRow.holds Try.pinned (OpenSpec.ofChange walkBackWrong)

/-- 'wardenlaw09.WalkCodes': WHATEVER THE INPUT: true; the input reads as it did. -/
def walkCodesSpec : ChangeSpec := { name := "walkCodes", fn := fun _ => fun
  | [d] => { results := [.lit (.bool true)], args := [d] }
  | _ => none }
def walkCodesRow : OpenClaim := { program := "ytmmphmdmocfnpaa", sum := "cc8df2009a330a3390cb02e03fdf2dad018f83398cf644307356bb09552bd19c", func := "warden/wardenlaw09.WalkCodes", spec := "walkCodes", unfollowed := true, recurses := true, apart := false }
def WalkCodesSaid : Prop := walkCodesRow.holds Try.pinned (OpenSpec.ofChange walkCodesSpec)

/-- ITS FALSE NEIGHBOUR: 'it returns false'. Refute it at one input. -/
def walkCodesWrong : ChangeSpec := { name := "walkCodes", fn := fun _ => fun
  | [d] => { results := [.lit (.bool false)], args := [d] }
  | _ => none }
def WalkCodesWrongFalsely : Prop := walkCodesRow.holds Try.pinned (OpenSpec.ofChange walkCodesWrong)

/-- 'wardenlaw09.WalkKeeps': WHATEVER THE INPUT: true; the input reads as it did. -/
def walkKeepsSpec : ChangeSpec := { name := "walkKeeps", fn := fun _ => fun
  | [d1, d2] => { results := [.lit (.bool true)], args := [d1, d2] }
  | _ => none }
def walkKeepsRow : OpenClaim := { program := "ytmmphmdmocfnpaa", sum := "cc8df2009a330a3390cb02e03fdf2dad018f83398cf644307356bb09552bd19c", func := "warden/wardenlaw09.WalkKeeps", spec := "walkKeeps", unfollowed := true, recurses := true, apart := false }
def WalkKeepsSaid : Prop := walkKeepsRow.holds Try.pinned (OpenSpec.ofChange walkKeepsSpec)

/-- ITS FALSE NEIGHBOUR: 'it returns false'. Refute it at one input. -/
def walkKeepsWrong : ChangeSpec := { name := "walkKeeps", fn := fun _ => fun
  | [d1, d2] => { results := [.lit (.bool false)], args := [d1, d2] }
  | _ => none }
def WalkKeepsWrongFalsely : Prop := walkKeepsRow.holds Try.pinned (OpenSpec.ofChange walkKeepsWrong)

/-- 'wardenlaw09.WalkLocal': WHATEVER THE INPUT: true; the input reads as it did. -/
def walkLocalSpec : ChangeSpec := { name := "walkLocal", fn := fun _ => fun
  | [d1, d2, d3] => { results := [.lit (.bool true)], args := [d1, d2, d3] }
  | _ => none }
def walkLocalRow : OpenClaim := { program := "ytmmphmdmocfnpaa", sum := "cc8df2009a330a3390cb02e03fdf2dad018f83398cf644307356bb09552bd19c", func := "warden/wardenlaw09.WalkLocal", spec := "walkLocal", unfollowed := true, recurses := true, apart := false }
def WalkLocalSaid : Prop := walkLocalRow.holds Try.pinned (OpenSpec.ofChange walkLocalSpec)

/-- ITS FALSE NEIGHBOUR: 'it returns false'. Refute it at one input. -/
def walkLocalWrong : ChangeSpec := { name := "walkLocal", fn := fun _ => fun
  | [d1, d2, d3] => { results := [.lit (.bool false)], args := [d1, d2, d3] }
  | _ => none }
def WalkLocalWrongFalsely : Prop := walkLocalRow.holds Try.pinned (OpenSpec.ofChange walkLocalWrong)

/-- 'wardenlaw09.WalkList': WHATEVER THE INPUT: true; the input reads as it did. -/
def walkListSpec : ChangeSpec := { name := "walkList", fn := fun _ => fun
  | [d1, d2, d3] => { results := [.lit (.bool true)], args := [d1, d2, d3] }
  | _ => none }
def walkListRow : OpenClaim := { program := "ytmmphmdmocfnpaa", sum := "cc8df2009a330a3390cb02e03fdf2dad018f83398cf644307356bb09552bd19c", func := "warden/wardenlaw09.WalkList", spec := "walkList", unfollowed := true, recurses := true, apart := false }
def WalkListSaid : Prop := walkListRow.holds Try.pinned (OpenSpec.ofChange walkListSpec)

/-- ITS FALSE NEIGHBOUR: 'it returns false'. Refute it at one input. -/
def walkListWrong : ChangeSpec := { name := "walkList", fn := fun _ => fun
  | [d1, d2, d3] => { results := [.lit (.bool false)], args := [d1, d2, d3] }
  | _ => none }
def WalkListWrongFalsely : Prop := walkListRow.holds Try.pinned (OpenSpec.ofChange walkListWrong)

/-- 'wardenlaw09.WalkAll': WHATEVER THE INPUT: true; the input reads as it did. -/
def walkAllSpec : ChangeSpec := { name := "walkAll", fn := fun _ => fun
  | [d1, d2] => { results := [.lit (.bool true)], args := [d1, d2] }
  | _ => none }
def walkAllRow : OpenClaim := { program := "ytmmphmdmocfnpaa", sum := "cc8df2009a330a3390cb02e03fdf2dad018f83398cf644307356bb09552bd19c", func := "warden/wardenlaw09.WalkAll", spec := "walkAll", unfollowed := true, recurses := true, apart := false }
def WalkAllSaid : Prop := walkAllRow.holds Try.pinned (OpenSpec.ofChange walkAllSpec)

/-- ITS FALSE NEIGHBOUR: 'it returns false'. Refute it at one input. -/
def walkAllWrong : ChangeSpec := { name := "walkAll", fn := fun _ => fun
  | [d1, d2] => { results := [.lit (.bool false)], args := [d1, d2] }
  | _ => none }
def WalkAllWrongFalsely : Prop := walkAllRow.holds Try.pinned (OpenSpec.ofChange walkAllWrong)

/- THE SECOND FORM. 'bulk': how many values and letters a reading holds, each counted each time it is reached (what is shared counts as often as it is met; a slice's spare places count too). A statement '..UptoSaid' is the law's where the arguments, and the package variables that the reading takes, are together of bulk at most 1048576: NARROWER than '..Said'. Prove '..Said' where nothing that the law and all that it calls make is longer than what came in: it says more and counts as full. Else prove '..UptoSaid'. A law counts once. -/
mutual
def uptoBulk {H : Type} : DataW H → Nat
  | .lit (.string bytes) => bytes.length + 1
  | .lit _ => 1
  | .nil => 1
  | .ptr d => uptoBulk d + 1
  | .slice elems spare => uptoBulkAll elems + uptoBulkAll spare + 1
  | .agg parts => uptoBulkAll parts + 1
  | .iface _ d => uptoBulk d + 1
  | .map entries => uptoBulkEntries entries + 1
  | .held _ => 1
def uptoBulkAll {H : Type} : List (DataW H) → Nat
  | [] => 0
  | d :: r => uptoBulk d + uptoBulkAll r
def uptoBulkEntries {H : Type} : List (Lit × DataW H) → Nat
  | [] => 0
  | x :: r => uptoBulkEntry x + uptoBulkEntries r
def uptoBulkEntry {H : Type} : Lit × DataW H → Nat
  | (.string bytes, d) => bytes.length + uptoBulk d + 1
  | (_, d) => uptoBulk d + 1
 end
def uptoSmall : (H : Type) → List (DataW H) → Bool := fun _ ds => decide (uptoBulkAll ds ≤ 1048576)
def OpenSpec.upto (s : _root_.Go.ChangeSpec) : _root_.Go.OpenSpec := { _root_.Go.OpenSpec.ofChange s with cond := some uptoSmall }

/-- 'wardenlaw09.WalkBack', WHERE WHAT IT READS IS OF BULK AT MOST 1048576: true; the input reads as it did. -/
def walkBackUptoRow : OpenClaim := { program := "ytmmphmdmocfnpaa", sum := "cc8df2009a330a3390cb02e03fdf2dad018f83398cf644307356bb09552bd19c", func := "warden/wardenlaw09.WalkBack", spec := "walkBack", unfollowed := true, recurses := true, apart := false, narrowed := true }
def WalkBackUptoSaid : Prop := walkBackUptoRow.holds Try.pinned (OpenSpec.upto walkBackSpec)

/-- 'wardenlaw09.WalkCodes', WHERE WHAT IT READS IS OF BULK AT MOST 1048576: true; the input reads as it did. -/
def walkCodesUptoRow : OpenClaim := { program := "ytmmphmdmocfnpaa", sum := "cc8df2009a330a3390cb02e03fdf2dad018f83398cf644307356bb09552bd19c", func := "warden/wardenlaw09.WalkCodes", spec := "walkCodes", unfollowed := true, recurses := true, apart := false, narrowed := true }
def WalkCodesUptoSaid : Prop := walkCodesUptoRow.holds Try.pinned (OpenSpec.upto walkCodesSpec)

/-- 'wardenlaw09.WalkKeeps', WHERE WHAT IT READS IS OF BULK AT MOST 1048576: true; the input reads as it did. -/
def walkKeepsUptoRow : OpenClaim := { program := "ytmmphmdmocfnpaa", sum := "cc8df2009a330a3390cb02e03fdf2dad018f83398cf644307356bb09552bd19c", func := "warden/wardenlaw09.WalkKeeps", spec := "walkKeeps", unfollowed := true, recurses := true, apart := false, narrowed := true }
def WalkKeepsUptoSaid : Prop := walkKeepsUptoRow.holds Try.pinned (OpenSpec.upto walkKeepsSpec)

/-- 'wardenlaw09.WalkLocal', WHERE WHAT IT READS IS OF BULK AT MOST 1048576: true; the input reads as it did. -/
def walkLocalUptoRow : OpenClaim := { program := "ytmmphmdmocfnpaa", sum := "cc8df2009a330a3390cb02e03fdf2dad018f83398cf644307356bb09552bd19c", func := "warden/wardenlaw09.WalkLocal", spec := "walkLocal", unfollowed := true, recurses := true, apart := false, narrowed := true }
def WalkLocalUptoSaid : Prop := walkLocalUptoRow.holds Try.pinned (OpenSpec.upto walkLocalSpec)

/-- 'wardenlaw09.WalkList', WHERE WHAT IT READS IS OF BULK AT MOST 1048576: true; the input reads as it did. -/
def walkListUptoRow : OpenClaim := { program := "ytmmphmdmocfnpaa", sum := "cc8df2009a330a3390cb02e03fdf2dad018f83398cf644307356bb09552bd19c", func := "warden/wardenlaw09.WalkList", spec := "walkList", unfollowed := true, recurses := true, apart := false, narrowed := true }
def WalkListUptoSaid : Prop := walkListUptoRow.holds Try.pinned (OpenSpec.upto walkListSpec)

/-- 'wardenlaw09.WalkAll', WHERE WHAT IT READS IS OF BULK AT MOST 1048576: true; the input reads as it did. -/
def walkAllUptoRow : OpenClaim := { program := "ytmmphmdmocfnpaa", sum := "cc8df2009a330a3390cb02e03fdf2dad018f83398cf644307356bb09552bd19c", func := "warden/wardenlaw09.WalkAll", spec := "walkAll", unfollowed := true, recurses := true, apart := false, narrowed := true }
def WalkAllUptoSaid : Prop := walkAllUptoRow.holds Try.pinned (OpenSpec.upto walkAllSpec)

end Rows
end Go.Proofs.Ytmmphmdmocfnpaa
