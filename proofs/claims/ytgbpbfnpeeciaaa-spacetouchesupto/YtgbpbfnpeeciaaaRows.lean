/-
  No cell of these rows narrows 'for every input' (looked for: loops, veiled, ifaces, maps, wideKeys, modest, calm, conditions, laid).
  DERIVED. THE GIVEN ROWS OF THIS SEAT. 4 by the template 'for every input the law returns true; each argument reads behind the call as it read before'; 0 by the template 'total and deterministic' (their statements: YtgbpbfnpeeciaaaTotals.lean).
  GIVEN WITH THE SEED: the statements are not yours to turn. If you find one false, say at which input.
  Laid BY PROGRAM, IN A SANDBOX (cutbox-rows.mjs): the forced cells as the released guide's own fill.sh prints them over the translation 29da118933e026c3… (all of the seat's roots in one cut). By AI agents, Wed Nov 11 2026. No macro, syntax, notation, axiom, sorry.
-/
import Derived.Test.YtgbpbfnpeeciaaaChecked
import GoSem.Claim
import GoSem.ClaimJoined
import GoSem.ClaimMapViews
import Derived.JoinedTies
import Derived.KernelRfl
namespace Go.Proofs.Ytgbpbfnpeeciaaa
/- THE CELL 'sum', in the pinned program and in every row, IS THE sha256 OF THE DUMP (.gsa) THAT YtgbpbfnpeeciaaaProg.lean LOADS. Nothing in Lean hashes anything: it is a label: what it is worth is what the hold of that sum in a sandbox is worth. -/
noncomputable def Try.pinned : Pinned := { name := "ytgbpbfnpeeciaaa", sum := "29da118933e026c3cfa75adb2d0cb6bf2ea855cd94877ecda18800833917c622", checked := Try.checked }
namespace Rows
def none {H : Type} : Left H := { results := [], args := [] }

/-- 'wardenlaw14.SpaceWords': WHATEVER THE INPUT: true; the input reads as it did. -/
def spaceWordsSpec : ChangeSpec := { name := "spaceWords", fn := fun _ => fun
  | [d1, d2, d3] => { results := [.lit (.bool true)], args := [d1, d2, d3] }
  | _ => none }
def spaceWordsRow : OpenClaim := { program := "ytgbpbfnpeeciaaa", sum := "29da118933e026c3cfa75adb2d0cb6bf2ea855cd94877ecda18800833917c622", func := "warden/wardenlaw14.SpaceWords", spec := "spaceWords", apart := false }
def SpaceWordsSaid : Prop := spaceWordsRow.holds Try.pinned (OpenSpec.ofChange spaceWordsSpec)

/-- ITS FALSE NEIGHBOUR: 'it returns false'. Refute it at one input. -/
def spaceWordsWrong : ChangeSpec := { name := "spaceWords", fn := fun _ => fun
  | [d1, d2, d3] => { results := [.lit (.bool false)], args := [d1, d2, d3] }
  | _ => none }
def SpaceWordsWrongFalsely : Prop := spaceWordsRow.holds Try.pinned (OpenSpec.ofChange spaceWordsWrong)

/-- 'wardenlaw14.SpaceLast': WHATEVER THE INPUT: true; the input reads as it did. -/
def spaceLastSpec : ChangeSpec := { name := "spaceLast", fn := fun _ => fun
  | [d] => { results := [.lit (.bool true)], args := [d] }
  | _ => none }
def spaceLastRow : OpenClaim := { program := "ytgbpbfnpeeciaaa", sum := "29da118933e026c3cfa75adb2d0cb6bf2ea855cd94877ecda18800833917c622", func := "warden/wardenlaw14.SpaceLast", spec := "spaceLast", unfollowed := true, recurses := true, apart := false }
def SpaceLastSaid : Prop := spaceLastRow.holds Try.pinned (OpenSpec.ofChange spaceLastSpec)

/-- ITS FALSE NEIGHBOUR: 'it returns false'. Refute it at one input. -/
def spaceLastWrong : ChangeSpec := { name := "spaceLast", fn := fun _ => fun
  | [d] => { results := [.lit (.bool false)], args := [d] }
  | _ => none }
def SpaceLastWrongFalsely : Prop := spaceLastRow.holds Try.pinned (OpenSpec.ofChange spaceLastWrong)

/-- 'wardenlaw14.SpaceWalks': WHATEVER THE INPUT: true; the input reads as it did. -/
def spaceWalksSpec : ChangeSpec := { name := "spaceWalks", fn := fun _ => fun
  | [d1, d2] => { results := [.lit (.bool true)], args := [d1, d2] }
  | _ => none }
def spaceWalksRow : OpenClaim := { program := "ytgbpbfnpeeciaaa", sum := "29da118933e026c3cfa75adb2d0cb6bf2ea855cd94877ecda18800833917c622", func := "warden/wardenlaw14.SpaceWalks", spec := "spaceWalks", unfollowed := true, recurses := true, apart := false }
def SpaceWalksSaid : Prop := spaceWalksRow.holds Try.pinned (OpenSpec.ofChange spaceWalksSpec)

/-- ITS FALSE NEIGHBOUR: 'it returns false'. Refute it at one input. -/
def spaceWalksWrong : ChangeSpec := { name := "spaceWalks", fn := fun _ => fun
  | [d1, d2] => { results := [.lit (.bool false)], args := [d1, d2] }
  | _ => none }
def SpaceWalksWrongFalsely : Prop := spaceWalksRow.holds Try.pinned (OpenSpec.ofChange spaceWalksWrong)

/-- 'wardenlaw14.SpaceTouches': WHATEVER THE INPUT: true; the input reads as it did. -/
def spaceTouchesSpec : ChangeSpec := { name := "spaceTouches", fn := fun _ => fun
  | [d1, d2] => { results := [.lit (.bool true)], args := [d1, d2] }
  | _ => none }
def spaceTouchesRow : OpenClaim := { program := "ytgbpbfnpeeciaaa", sum := "29da118933e026c3cfa75adb2d0cb6bf2ea855cd94877ecda18800833917c622", func := "warden/wardenlaw14.SpaceTouches", spec := "spaceTouches", unfollowed := true, recurses := true, apart := false }
def SpaceTouchesSaid : Prop := spaceTouchesRow.holds Try.pinned (OpenSpec.ofChange spaceTouchesSpec)

/-- ITS FALSE NEIGHBOUR: 'it returns false'. Refute it at one input. -/
def spaceTouchesWrong : ChangeSpec := { name := "spaceTouches", fn := fun _ => fun
  | [d1, d2] => { results := [.lit (.bool false)], args := [d1, d2] }
  | _ => none }
def SpaceTouchesWrongFalsely : Prop := spaceTouchesRow.holds Try.pinned (OpenSpec.ofChange spaceTouchesWrong)

/- THE SECOND FORM. 'bulk': how many values and letters a reading holds, each counted each time it is reached (what is shared counts as often as it is met; a slice's spare places count too). A statement '..UptoSaid' is the law's where the arguments, and the package variables that the reading takes, are together of bulk at most 1048576: NARROWER than '..Said'. Prove '..Said' where nothing that the law and all that it calls make is longer than what came in: it says more and counts as full. Else prove '..UptoSaid'. A law counts once. -/
mutual
def uptoBulk {H : Type} : DataW H → Nat
  | .lit (.string bytes) => bytes.length + 1
  | .lit _ => 1
  | .nil => 1
  | .ptr d => uptoBulk d + 1
  | .slice elems spare => uptoBulkAll elems + uptoBulkAll spare + 1
  | .agg parts => uptoBulkAll parts + 1
  | .iface _ d => uptoBulk d + 1
  | .map entries => uptoBulkEntries entries + 1
  | .held _ => 1
def uptoBulkAll {H : Type} : List (DataW H) → Nat
  | [] => 0
  | d :: r => uptoBulk d + uptoBulkAll r
def uptoBulkEntries {H : Type} : List (Lit × DataW H) → Nat
  | [] => 0
  | x :: r => uptoBulkEntry x + uptoBulkEntries r
def uptoBulkEntry {H : Type} : Lit × DataW H → Nat
  | (.string bytes, d) => bytes.length + uptoBulk d + 1
  | (_, d) => uptoBulk d + 1
 end
def uptoSmall : (H : Type) → List (DataW H) → Bool := fun _ ds => decide (uptoBulkAll ds ≤ 1048576)
def OpenSpec.upto (s : _root_.Go.ChangeSpec) : _root_.Go.OpenSpec := { _root_.Go.OpenSpec.ofChange s with cond := some uptoSmall }

/-- 'wardenlaw14.SpaceWords', WHERE WHAT IT READS IS OF BULK AT MOST 1048576: true; the input reads as it did. -/
def spaceWordsUptoRow : OpenClaim := { program := "ytgbpbfnpeeciaaa", sum := "29da118933e026c3cfa75adb2d0cb6bf2ea855cd94877ecda18800833917c622", func := "warden/wardenlaw14.SpaceWords", spec := "spaceWords", apart := false, narrowed := true }
def SpaceWordsUptoSaid : Prop := spaceWordsUptoRow.holds Try.pinned (OpenSpec.upto spaceWordsSpec)

/-- 'wardenlaw14.SpaceLast', WHERE WHAT IT READS IS OF BULK AT MOST 1048576: true; the input reads as it did. -/
def spaceLastUptoRow : OpenClaim := { program := "ytgbpbfnpeeciaaa", sum := "29da118933e026c3cfa75adb2d0cb6bf2ea855cd94877ecda18800833917c622", func := "warden/wardenlaw14.SpaceLast", spec := "spaceLast", unfollowed := true, recurses := true, apart := false, narrowed := true }
def SpaceLastUptoSaid : Prop := spaceLastUptoRow.holds Try.pinned (OpenSpec.upto spaceLastSpec)

/-- 'wardenlaw14.SpaceWalks', WHERE WHAT IT READS IS OF BULK AT MOST 1048576: true; the input reads as it did. -/
def spaceWalksUptoRow : OpenClaim := { program := "ytgbpbfnpeeciaaa", sum := "29da118933e026c3cfa75adb2d0cb6bf2ea855cd94877ecda18800833917c622", func := "warden/wardenlaw14.SpaceWalks", spec := "spaceWalks", unfollowed := true, recurses := true, apart := false, narrowed := true }
def SpaceWalksUptoSaid : Prop := spaceWalksUptoRow.holds Try.pinned (OpenSpec.upto spaceWalksSpec)

/-- 'wardenlaw14.SpaceTouches', WHERE WHAT IT READS IS OF BULK AT MOST 1048576: true; the input reads as it did. -/
def spaceTouchesUptoRow : OpenClaim := { program := "ytgbpbfnpeeciaaa", sum := "29da118933e026c3cfa75adb2d0cb6bf2ea855cd94877ecda18800833917c622", func := "warden/wardenlaw14.SpaceTouches", spec := "spaceTouches", unfollowed := true, recurses := true, apart := false, narrowed := true }
def SpaceTouchesUptoSaid : Prop := spaceTouchesUptoRow.holds Try.pinned (OpenSpec.upto spaceTouchesSpec)

end Rows
end Go.Proofs.Ytgbpbfnpeeciaaa
