/-
  NARROWER THAN 'FOR EVERY INPUT', by the rows' own cells (each row's printed sentence says how): CpuAll: laid.
  DERIVED. THE GIVEN ROWS OF THIS SEAT. 1 by the template 'for every input the law returns true; each argument reads behind the call as it read before'; 0 by the template 'total and deterministic' (their statements: YteldpapacdbbiaaGreatDoorTotals.lean).
  GIVEN WITH THE SEED: the statements are not yours to turn. If you find one false, say at which input.
  Laid BY PROGRAM, IN A SANDBOX (cutbox-rows.mjs): the forced cells as the released guide's own fill.sh prints them over the translation 5b811e03f03676be… (all of the seat's roots in one cut). By AI agents, Wed Nov 11 2026. No macro, syntax, notation, axiom, sorry.
-/
import Derived.Test.YteldpapacdbbiaaGreatDoorChecked
import GoSem.Claim
import GoSem.ClaimJoined
import GoSem.ClaimMapViews
import Derived.JoinedTies
import Derived.KernelRfl
namespace Go.Proofs.YteldpapacdbbiaaGreatDoor
/- THE CELL 'sum', in the pinned program and in every row, IS THE sha256 OF THE DUMP (.gsa) THAT YteldpapacdbbiaaGreatDoorProg.lean LOADS. Nothing in Lean hashes anything: it is a label: what it is worth is what the hold of that sum in a sandbox is worth. -/
noncomputable def Tryz.pinned : Pinned := { name := "yteldpapacdbbiaagreatdoor", sum := "5b811e03f03676be14172a62770ff68e3169a95964f8ac7d258294d89132215e", checked := Tryz.checked }
namespace Rows
def none {H : Type} : Left H := { results := [], args := [] }

/- WHAT THE LISTED PACKAGE-LEVEL VARIABLES READ AS WHEN THE CALL BEGINS. Each datum BY PROGRAM (the guide's laid-datum.mjs) off the statement by which the dump's own 'gosem.cut.vars' lays the variable. In a bare row this is a premise. The card (YteldpapacdbbiaaGreatDoorCards.lean) ties it to the program's text. -/
def laid_warden_wardenref05_shapes {H : Type} : DataW H := .agg [.lit (.string []), .lit (.string [97, 117]), .lit (.string [97, 117]), .lit (.string [97, 98]), .lit (.string [97, 98, 99]), .lit (.string [97, 98, 99]), .lit (.string [97, 98, 99]), .lit (.string [97, 98, 99]), .lit (.string [97, 98, 99]), .lit (.string [97, 98, 99]), .lit (.string [97, 98, 99]), .lit (.string [97, 98, 99]), .lit (.string [97, 98, 99]), .lit (.string [97, 98, 99]), .lit (.string [97, 98, 115]), .lit (.string [97, 98, 115]), .lit (.string [97, 98, 115]), .lit (.string [97, 98, 99]), .lit (.string [97, 98, 99]), .lit (.string [97, 98]), .lit (.string [97, 115]), .lit (.string [107, 111]), .lit (.string [111]), .lit (.string [97]), .lit (.string [117])]
def laid_warden_word_lows {H : Type} : DataW H := .agg [.lit (.int .u32 0), .lit (.int .u32 1), .lit (.int .u32 3), .lit (.int .u32 7), .lit (.int .u32 15), .lit (.int .u32 31), .lit (.int .u32 63), .lit (.int .u32 127), .lit (.int .u32 255), .lit (.int .u32 511), .lit (.int .u32 1023), .lit (.int .u32 2047), .lit (.int .u32 4095), .lit (.int .u32 8191), .lit (.int .u32 16383), .lit (.int .u32 32767), .lit (.int .u32 65535), .lit (.int .u32 131071), .lit (.int .u32 262143), .lit (.int .u32 524287), .lit (.int .u32 1048575), .lit (.int .u32 2097151), .lit (.int .u32 4194303), .lit (.int .u32 8388607), .lit (.int .u32 16777215), .lit (.int .u32 33554431), .lit (.int .u32 67108863), .lit (.int .u32 134217727), .lit (.int .u32 268435455), .lit (.int .u32 536870911), .lit (.int .u32 1073741823), .lit (.int .u32 2147483647), .lit (.int .u32 4294967295)]
def laid_warden_isa_forms {H : Type} : DataW H := .agg [.agg [.lit (.string []), .lit (.string [])], .agg [.lit (.string [109, 111, 118, 105]), .lit (.string [97, 117])], .agg [.lit (.string [109, 111, 118, 116]), .lit (.string [97, 117])], .agg [.lit (.string [109, 111, 118]), .lit (.string [97, 98])], .agg [.lit (.string [97, 100, 100]), .lit (.string [97, 98, 99])], .agg [.lit (.string [115, 117, 98]), .lit (.string [97, 98, 99])], .agg [.lit (.string [109, 117, 108]), .lit (.string [97, 98, 99])], .agg [.lit (.string [100, 105, 118]), .lit (.string [97, 98, 99])], .agg [.lit (.string [97, 110, 100]), .lit (.string [97, 98, 99])], .agg [.lit (.string [111, 114]), .lit (.string [97, 98, 99])], .agg [.lit (.string [120, 111, 114]), .lit (.string [97, 98, 99])], .agg [.lit (.string [115, 104, 108]), .lit (.string [97, 98, 99])], .agg [.lit (.string [115, 104, 114]), .lit (.string [97, 98, 99])], .agg [.lit (.string [115, 97, 114]), .lit (.string [97, 98, 99])], .agg [.lit (.string [97, 100, 100, 105]), .lit (.string [97, 98, 115])], .agg [.lit (.string [108, 100, 114]), .lit (.string [97, 98, 115])], .agg [.lit (.string [115, 116, 114]), .lit (.string [97, 98, 115])], .agg [.lit (.string [108, 100, 120]), .lit (.string [97, 98, 99])], .agg [.lit (.string [115, 116, 120]), .lit (.string [97, 98, 99])], .agg [.lit (.string [99, 109, 112]), .lit (.string [97, 98])], .agg [.lit (.string [99, 109, 112, 105]), .lit (.string [97, 115])], .agg [.lit (.string [98]), .lit (.string [107, 111])], .agg [.lit (.string [98, 108]), .lit (.string [111])], .agg [.lit (.string [98, 114]), .lit (.string [97])], .agg [.lit (.string [115, 118, 99]), .lit (.string [117])]]
def laid_warden_cpu_groups {H : Type} : DataW H := .agg [.lit (.int .i64 0), .lit (.int .i64 1), .lit (.int .i64 1), .lit (.int .i64 1), .lit (.int .i64 1), .lit (.int .i64 1), .lit (.int .i64 1), .lit (.int .i64 1), .lit (.int .i64 1), .lit (.int .i64 1), .lit (.int .i64 1), .lit (.int .i64 1), .lit (.int .i64 1), .lit (.int .i64 1), .lit (.int .i64 1), .lit (.int .i64 2), .lit (.int .i64 3), .lit (.int .i64 2), .lit (.int .i64 3), .lit (.int .i64 4), .lit (.int .i64 4), .lit (.int .i64 5), .lit (.int .i64 5), .lit (.int .i64 5), .lit (.int .i64 6)]

/-- 'wardenlaw10.CpuAll': WHATEVER THE INPUT: true; the input reads as it did. -/
def cpuAllSpec : ChangeSpec := { name := "cpuAll", fn := fun _ => fun
  | [d1, d2, d3] => { results := [.lit (.bool true)], args := [d1, d2, d3] }
  | _ => none }
def cpuAllRow : OpenClaim := { program := "yteldpapacdbbiaagreatdoor", sum := "5b811e03f03676be14172a62770ff68e3169a95964f8ac7d258294d89132215e", func := "warden/wardenlaw10.CpuAll", spec := "cpuAll", unfollowed := true, recurses := true, named := ["warden/word.lows", "warden/isa.forms", "warden/cpu.groups", "warden/wardenref05.shapes"], apart := false, laid := [("warden/wardenref05.shapes", laid_warden_wardenref05_shapes), ("warden/word.lows", laid_warden_word_lows), ("warden/isa.forms", laid_warden_isa_forms), ("warden/cpu.groups", laid_warden_cpu_groups)] }
def CpuAllSaid : Prop := cpuAllRow.holds Tryz.pinned (OpenSpec.ofChange cpuAllSpec)

/-- ITS FALSE NEIGHBOUR: 'it returns false'. Refute it at one input. -/
def cpuAllWrong : ChangeSpec := { name := "cpuAll", fn := fun _ => fun
  | [d1, d2, d3] => { results := [.lit (.bool false)], args := [d1, d2, d3] }
  | _ => none }
def CpuAllWrongFalsely : Prop := cpuAllRow.holds Tryz.pinned (OpenSpec.ofChange cpuAllWrong)

/- THE SECOND FORM. 'bulk': how many values and letters a reading holds, each counted each time it is reached (what is shared counts as often as it is met; a slice's spare places count too). A statement '..UptoSaid' is the law's where the arguments, and the package variables that the reading takes, are together of bulk at most 1048576: NARROWER than '..Said'. Prove '..Said' where nothing that the law and all that it calls make is longer than what came in: it says more and counts as full. Else prove '..UptoSaid'. A law counts once. -/
mutual
def uptoBulk {H : Type} : DataW H → Nat
  | .lit (.string bytes) => bytes.length + 1
  | .lit _ => 1
  | .nil => 1
  | .ptr d => uptoBulk d + 1
  | .slice elems spare => uptoBulkAll elems + uptoBulkAll spare + 1
  | .agg parts => uptoBulkAll parts + 1
  | .iface _ d => uptoBulk d + 1
  | .map entries => uptoBulkEntries entries + 1
  | .held _ => 1
def uptoBulkAll {H : Type} : List (DataW H) → Nat
  | [] => 0
  | d :: r => uptoBulk d + uptoBulkAll r
def uptoBulkEntries {H : Type} : List (Lit × DataW H) → Nat
  | [] => 0
  | x :: r => uptoBulkEntry x + uptoBulkEntries r
def uptoBulkEntry {H : Type} : Lit × DataW H → Nat
  | (.string bytes, d) => bytes.length + uptoBulk d + 1
  | (_, d) => uptoBulk d + 1
 end
def uptoSmall : (H : Type) → List (DataW H) → Bool := fun _ ds => decide (uptoBulkAll ds ≤ 1048576)
def OpenSpec.upto (s : _root_.Go.ChangeSpec) : _root_.Go.OpenSpec := { _root_.Go.OpenSpec.ofChange s with cond := some uptoSmall }

/-- 'wardenlaw10.CpuAll', WHERE WHAT IT READS IS OF BULK AT MOST 1048576: true; the input reads as it did. -/
def cpuAllUptoRow : OpenClaim := { program := "yteldpapacdbbiaagreatdoor", sum := "5b811e03f03676be14172a62770ff68e3169a95964f8ac7d258294d89132215e", func := "warden/wardenlaw10.CpuAll", spec := "cpuAll", unfollowed := true, recurses := true, named := ["warden/word.lows", "warden/isa.forms", "warden/cpu.groups", "warden/wardenref05.shapes"], apart := false, laid := [("warden/wardenref05.shapes", laid_warden_wardenref05_shapes), ("warden/word.lows", laid_warden_word_lows), ("warden/isa.forms", laid_warden_isa_forms), ("warden/cpu.groups", laid_warden_cpu_groups)], narrowed := true }
def CpuAllUptoSaid : Prop := cpuAllUptoRow.holds Tryz.pinned (OpenSpec.upto cpuAllSpec)

end Rows
end Go.Proofs.YteldpapacdbbiaaGreatDoor
