/-
  DERIVED. GIVEN WITH THE SEED: THE CARDS: each row of YteldpapacdbbiaaDoorRows.lean that lists a variable, with what it lists TIED to the program's text (the seventh form; the later family's looks); each row that meets fmt, with fmt's text TOLD by the authors' own Lean function (tested against real Go, not proved from fmt's source: count such statements apart). THE CARD IS WHAT COUNTS. Prove the row's statement (the work); the ties are given (YteldpapacdbbiaaDoorTie.lean); close each card by the builder's one call (the guide's Derived/Test/ToyasCard.lean, 'card_holds'). Laid BY PROGRAM, IN A SANDBOX (cutbox-door.mjs). By AI agents, Wed Nov 11 2026. No macro, syntax, notation, axiom, sorry.
-/
import Derived.Test.YteldpapacdbbiaaDoorRows
import GoSem.ClaimSeven
namespace Go.Proofs.YteldpapacdbbiaaDoor
namespace Rows

/-- THE TIED CARD OF 'wardenlaw10.CpuPieces'. -/
def cpuPiecesCard : Claim7 := { stood := { row := cpuPiecesRow, standIns := [], harness := (true, "0572cfbd2c81a24084fa8e6ba2c5fff66330c481811450cad2e8991aed57ce64"), looks := false }, kinds := [], alts := [], laidByText := true, laidKinds := [.data, .data, .data], laidTests := true, laidLooks := .later }
def CpuPiecesCardSaid : Prop := Claim7.holds Tryd.pinned (.plain (OpenSpec.ofChange cpuPiecesSpec)) cpuPiecesCard

/-- THE TIED CARD OF 'wardenlaw10.CpuFaults'. -/
def cpuFaultsCard : Claim7 := { stood := { row := cpuFaultsRow, standIns := [], harness := (true, "0572cfbd2c81a24084fa8e6ba2c5fff66330c481811450cad2e8991aed57ce64"), looks := false }, kinds := [], alts := [], laidByText := true, laidKinds := [.data, .data, .data], laidTests := true, laidLooks := .later }
def CpuFaultsCardSaid : Prop := Claim7.holds Tryd.pinned (.plain (OpenSpec.ofChange cpuFaultsSpec)) cpuFaultsCard

/-- THE TIED CARD OF 'wardenlaw10.CpuLocal'. -/
def cpuLocalCard : Claim7 := { stood := { row := cpuLocalRow, standIns := [], harness := (true, "0572cfbd2c81a24084fa8e6ba2c5fff66330c481811450cad2e8991aed57ce64"), looks := false }, kinds := [], alts := [], laidByText := true, laidKinds := [.data, .data, .data], laidTests := true, laidLooks := .later }
def CpuLocalCardSaid : Prop := Claim7.holds Tryd.pinned (.plain (OpenSpec.ofChange cpuLocalSpec)) cpuLocalCard

/-- THE SECOND FORM's CARD OF 'wardenlaw10.CpuPieces'. -/
def cpuPiecesUptoCard : Claim7 := { stood := { row := cpuPiecesUptoRow, standIns := [], harness := (true, "0572cfbd2c81a24084fa8e6ba2c5fff66330c481811450cad2e8991aed57ce64"), looks := false }, kinds := [], alts := [], laidByText := true, laidKinds := [.data, .data, .data], laidTests := true, laidLooks := .later }
def CpuPiecesUptoCardSaid : Prop := Claim7.holds Tryd.pinned (.plain (OpenSpec.upto cpuPiecesSpec)) cpuPiecesUptoCard

/-- THE SECOND FORM's CARD OF 'wardenlaw10.CpuFaults'. -/
def cpuFaultsUptoCard : Claim7 := { stood := { row := cpuFaultsUptoRow, standIns := [], harness := (true, "0572cfbd2c81a24084fa8e6ba2c5fff66330c481811450cad2e8991aed57ce64"), looks := false }, kinds := [], alts := [], laidByText := true, laidKinds := [.data, .data, .data], laidTests := true, laidLooks := .later }
def CpuFaultsUptoCardSaid : Prop := Claim7.holds Tryd.pinned (.plain (OpenSpec.upto cpuFaultsSpec)) cpuFaultsUptoCard

/-- THE SECOND FORM's CARD OF 'wardenlaw10.CpuLocal'. -/
def cpuLocalUptoCard : Claim7 := { stood := { row := cpuLocalUptoRow, standIns := [], harness := (true, "0572cfbd2c81a24084fa8e6ba2c5fff66330c481811450cad2e8991aed57ce64"), looks := false }, kinds := [], alts := [], laidByText := true, laidKinds := [.data, .data, .data], laidTests := true, laidLooks := .later }
def CpuLocalUptoCardSaid : Prop := Claim7.holds Tryd.pinned (.plain (OpenSpec.upto cpuLocalSpec)) cpuLocalUptoCard
end Rows
end Go.Proofs.YteldpapacdbbiaaDoor
