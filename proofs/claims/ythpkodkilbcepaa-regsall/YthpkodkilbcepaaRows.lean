/-
  No cell of these rows narrows 'for every input' (looked for: loops, veiled, ifaces, maps, wideKeys, modest, calm, conditions, laid).
  DERIVED. THE GIVEN ROWS OF THIS SEAT. 4 by the template 'for every input the law returns true; each argument reads behind the call as it read before'; 0 by the template 'total and deterministic' (their statements: YthpkodkilbcepaaTotals.lean).
  GIVEN WITH THE SEED: the statements are not yours to turn. If you find one false, say at which input.
  Laid BY PROGRAM, IN A SANDBOX (cutbox-rows.mjs): the forced cells as the released guide's own fill.sh prints them over the translation b72be76fc38f6831… (all of the seat's roots in one cut). By AI agents, Wed Nov 11 2026. No macro, syntax, notation, axiom, sorry.
-/
import Derived.Test.YthpkodkilbcepaaChecked
import GoSem.Claim
import GoSem.ClaimJoined
import GoSem.ClaimMapViews
import Derived.JoinedTies
import Derived.KernelRfl
namespace Go.Proofs.Ythpkodkilbcepaa
/- THE CELL 'sum', in the pinned program and in every row, IS THE sha256 OF THE DUMP (.gsa) THAT YthpkodkilbcepaaProg.lean LOADS. Nothing in Lean hashes anything: it is a label: what it is worth is what the hold of that sum in a sandbox is worth. -/
noncomputable def Try.pinned : Pinned := { name := "ythpkodkilbcepaa", sum := "b72be76fc38f683126036128fff9ec151763cf7023d7ba2859ff83d84d05691d", checked := Try.checked }
namespace Rows
def none {H : Type} : Left H := { results := [], args := [] }

/-- 'wardenlaw08.RegsHolds': WHATEVER THE INPUT: true; the input reads as it did. -/
def regsHoldsSpec : ChangeSpec := { name := "regsHolds", fn := fun _ => fun
  | [d1, d2, d3] => { results := [.lit (.bool true)], args := [d1, d2, d3] }
  | _ => none }
def regsHoldsRow : OpenClaim := { program := "ythpkodkilbcepaa", sum := "b72be76fc38f683126036128fff9ec151763cf7023d7ba2859ff83d84d05691d", func := "warden/wardenlaw08.RegsHolds", spec := "regsHolds", unfollowed := true, recurses := true, apart := false }
def RegsHoldsSaid : Prop := regsHoldsRow.holds Try.pinned (OpenSpec.ofChange regsHoldsSpec)

/-- ITS FALSE NEIGHBOUR: 'it returns false'. Refute it at one input. -/
def regsHoldsWrong : ChangeSpec := { name := "regsHolds", fn := fun _ => fun
  | [d1, d2, d3] => { results := [.lit (.bool false)], args := [d1, d2, d3] }
  | _ => none }
def RegsHoldsWrongFalsely : Prop := regsHoldsRow.holds Try.pinned (OpenSpec.ofChange regsHoldsWrong)

/-- 'wardenlaw08.RegsLast': WHATEVER THE INPUT: true; the input reads as it did. -/
def regsLastSpec : ChangeSpec := { name := "regsLast", fn := fun _ => fun
  | [d1, d2] => { results := [.lit (.bool true)], args := [d1, d2] }
  | _ => none }
def regsLastRow : OpenClaim := { program := "ythpkodkilbcepaa", sum := "b72be76fc38f683126036128fff9ec151763cf7023d7ba2859ff83d84d05691d", func := "warden/wardenlaw08.RegsLast", spec := "regsLast", unfollowed := true, recurses := true, apart := false }
def RegsLastSaid : Prop := regsLastRow.holds Try.pinned (OpenSpec.ofChange regsLastSpec)

/-- ITS FALSE NEIGHBOUR: 'it returns false'. Refute it at one input. -/
def regsLastWrong : ChangeSpec := { name := "regsLast", fn := fun _ => fun
  | [d1, d2] => { results := [.lit (.bool false)], args := [d1, d2] }
  | _ => none }
def RegsLastWrongFalsely : Prop := regsLastRow.holds Try.pinned (OpenSpec.ofChange regsLastWrong)

/-- 'wardenlaw08.RegsBack': WHATEVER THE INPUT: true; the input reads as it did. -/
def regsBackSpec : ChangeSpec := { name := "regsBack", fn := fun _ => fun
  | [d1, d2] => { results := [.lit (.bool true)], args := [d1, d2] }
  | _ => none }
def regsBackRow : OpenClaim := { program := "ythpkodkilbcepaa", sum := "b72be76fc38f683126036128fff9ec151763cf7023d7ba2859ff83d84d05691d", func := "warden/wardenlaw08.RegsBack", spec := "regsBack", unfollowed := true, recurses := true, apart := false }
def RegsBackSaid : Prop := regsBackRow.holds Try.pinned (OpenSpec.ofChange regsBackSpec)

/-- ITS FALSE NEIGHBOUR: 'it returns false'. Refute it at one input. -/
def regsBackWrong : ChangeSpec := { name := "regsBack", fn := fun _ => fun
  | [d1, d2] => { results := [.lit (.bool false)], args := [d1, d2] }
  | _ => none }
def RegsBackWrongFalsely : Prop := regsBackRow.holds Try.pinned (OpenSpec.ofChange regsBackWrong)

/-- 'wardenlaw08.RegsAll': WHATEVER THE INPUT: true; the input reads as it did. -/
def regsAllSpec : ChangeSpec := { name := "regsAll", fn := fun _ => fun
  | [d] => { results := [.lit (.bool true)], args := [d] }
  | _ => none }
def regsAllRow : OpenClaim := { program := "ythpkodkilbcepaa", sum := "b72be76fc38f683126036128fff9ec151763cf7023d7ba2859ff83d84d05691d", func := "warden/wardenlaw08.RegsAll", spec := "regsAll", unfollowed := true, recurses := true, apart := false }
def RegsAllSaid : Prop := regsAllRow.holds Try.pinned (OpenSpec.ofChange regsAllSpec)

/-- ITS FALSE NEIGHBOUR: 'it returns false'. Refute it at one input. -/
def regsAllWrong : ChangeSpec := { name := "regsAll", fn := fun _ => fun
  | [d] => { results := [.lit (.bool false)], args := [d] }
  | _ => none }
def RegsAllWrongFalsely : Prop := regsAllRow.holds Try.pinned (OpenSpec.ofChange regsAllWrong)

/- THE SECOND FORM. 'bulk': how many values and letters a reading holds, each counted each time it is reached (what is shared counts as often as it is met; a slice's spare places count too). A statement '..UptoSaid' is the law's where the arguments, and the package variables that the reading takes, are together of bulk at most 1048576: NARROWER than '..Said'. Prove '..Said' where nothing that the law and all that it calls make is longer than what came in: it says more and counts as full. Else prove '..UptoSaid'. A law counts once. -/
mutual
def uptoBulk {H : Type} : DataW H → Nat
  | .lit (.string bytes) => bytes.length + 1
  | .lit _ => 1
  | .nil => 1
  | .ptr d => uptoBulk d + 1
  | .slice elems spare => uptoBulkAll elems + uptoBulkAll spare + 1
  | .agg parts => uptoBulkAll parts + 1
  | .iface _ d => uptoBulk d + 1
  | .map entries => uptoBulkEntries entries + 1
  | .held _ => 1
def uptoBulkAll {H : Type} : List (DataW H) → Nat
  | [] => 0
  | d :: r => uptoBulk d + uptoBulkAll r
def uptoBulkEntries {H : Type} : List (Lit × DataW H) → Nat
  | [] => 0
  | x :: r => uptoBulkEntry x + uptoBulkEntries r
def uptoBulkEntry {H : Type} : Lit × DataW H → Nat
  | (.string bytes, d) => bytes.length + uptoBulk d + 1
  | (_, d) => uptoBulk d + 1
 end
def uptoSmall : (H : Type) → List (DataW H) → Bool := fun _ ds => decide (uptoBulkAll ds ≤ 1048576)
def OpenSpec.upto (s : _root_.Go.ChangeSpec) : _root_.Go.OpenSpec := { _root_.Go.OpenSpec.ofChange s with cond := some uptoSmall }

/-- 'wardenlaw08.RegsHolds', WHERE WHAT IT READS IS OF BULK AT MOST 1048576: true; the input reads as it did. -/
def regsHoldsUptoRow : OpenClaim := { program := "ythpkodkilbcepaa", sum := "b72be76fc38f683126036128fff9ec151763cf7023d7ba2859ff83d84d05691d", func := "warden/wardenlaw08.RegsHolds", spec := "regsHolds", unfollowed := true, recurses := true, apart := false, narrowed := true }
def RegsHoldsUptoSaid : Prop := regsHoldsUptoRow.holds Try.pinned (OpenSpec.upto regsHoldsSpec)

/-- 'wardenlaw08.RegsLast', WHERE WHAT IT READS IS OF BULK AT MOST 1048576: true; the input reads as it did. -/
def regsLastUptoRow : OpenClaim := { program := "ythpkodkilbcepaa", sum := "b72be76fc38f683126036128fff9ec151763cf7023d7ba2859ff83d84d05691d", func := "warden/wardenlaw08.RegsLast", spec := "regsLast", unfollowed := true, recurses := true, apart := false, narrowed := true }
def RegsLastUptoSaid : Prop := regsLastUptoRow.holds Try.pinned (OpenSpec.upto regsLastSpec)

/-- 'wardenlaw08.RegsBack', WHERE WHAT IT READS IS OF BULK AT MOST 1048576: true; the input reads as it did. -/
def regsBackUptoRow : OpenClaim := { program := "ythpkodkilbcepaa", sum := "b72be76fc38f683126036128fff9ec151763cf7023d7ba2859ff83d84d05691d", func := "warden/wardenlaw08.RegsBack", spec := "regsBack", unfollowed := true, recurses := true, apart := false, narrowed := true }
def RegsBackUptoSaid : Prop := regsBackUptoRow.holds Try.pinned (OpenSpec.upto regsBackSpec)

/-- 'wardenlaw08.RegsAll', WHERE WHAT IT READS IS OF BULK AT MOST 1048576: true; the input reads as it did. -/
def regsAllUptoRow : OpenClaim := { program := "ythpkodkilbcepaa", sum := "b72be76fc38f683126036128fff9ec151763cf7023d7ba2859ff83d84d05691d", func := "warden/wardenlaw08.RegsAll", spec := "regsAll", unfollowed := true, recurses := true, apart := false, narrowed := true }
def RegsAllUptoSaid : Prop := regsAllUptoRow.holds Try.pinned (OpenSpec.upto regsAllSpec)

end Rows
end Go.Proofs.Ythpkodkilbcepaa
