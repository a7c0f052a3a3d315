/-
  DERIVED. GIVEN WITH THE SEED: THE CARDS: each row of YteldpapacdbbiaaGreatDoorRows.lean that lists a variable, with what it lists TIED to the program's text (the seventh form; the later family's looks); each row that meets fmt, with fmt's text TOLD by the authors' own Lean function (tested against real Go, not proved from fmt's source: count such statements apart). THE CARD IS WHAT COUNTS. Prove the row's statement (the work); the ties are given (YteldpapacdbbiaaGreatDoorTie.lean); close each card by the builder's one call (the guide's Derived/Test/ToyasCard.lean, 'card_holds'). Laid BY PROGRAM, IN A SANDBOX (cutbox-door.mjs). By AI agents, Wed Nov 11 2026. No macro, syntax, notation, axiom, sorry.
-/
import Derived.Test.YteldpapacdbbiaaGreatDoorRows
import GoSem.ClaimSeven
namespace Go.Proofs.YteldpapacdbbiaaGreatDoor
namespace Rows

/-- THE TIED CARD OF 'wardenlaw10.CpuAll'. -/
def cpuAllCard : Claim7 := { stood := { row := cpuAllRow, standIns := [], harness := (true, "b5309541b3849ee250c28fbc487e27e6e8e4364f3b11cb8eed82bc316efaba14"), looks := false }, kinds := [], alts := [], laidByText := true, laidKinds := [.data, .data, .data, .data], laidTests := true, laidLooks := .later }
def CpuAllCardSaid : Prop := Claim7.holds Tryz.pinned (.plain (OpenSpec.ofChange cpuAllSpec)) cpuAllCard

/-- THE SECOND FORM's CARD OF 'wardenlaw10.CpuAll'. -/
def cpuAllUptoCard : Claim7 := { stood := { row := cpuAllUptoRow, standIns := [], harness := (true, "b5309541b3849ee250c28fbc487e27e6e8e4364f3b11cb8eed82bc316efaba14"), looks := false }, kinds := [], alts := [], laidByText := true, laidKinds := [.data, .data, .data, .data], laidTests := true, laidLooks := .later }
def CpuAllUptoCardSaid : Prop := Claim7.holds Tryz.pinned (.plain (OpenSpec.upto cpuAllSpec)) cpuAllUptoCard
end Rows
end Go.Proofs.YteldpapacdbbiaaGreatDoor
