/-
  DERIVED. GIVEN WITH THE SEED: THE CARDS: each row of YtbjinmlelchmgaaDoorRows.lean that lists a variable, with what it lists TIED to the program's text (the seventh form; the later family's looks); each row that meets fmt, with fmt's text TOLD by the authors' own Lean function (tested against real Go, not proved from fmt's source: count such statements apart). THE CARD IS WHAT COUNTS. Prove the row's statement (the work); the ties are given (YtbjinmlelchmgaaDoorTie.lean); close each card by the builder's one call (the guide's Derived/Test/ToyasCard.lean, 'card_holds'). Laid BY PROGRAM, IN A SANDBOX (cutbox-door.mjs). By AI agents, Wed Nov 11 2026. No macro, syntax, notation, axiom, sorry.
-/
import Derived.Test.YtbjinmlelchmgaaDoorRows
import GoSem.ClaimSeven
namespace Go.Proofs.YtbjinmlelchmgaaDoor
namespace Rows

/-- THE TIED CARD OF 'wardenlaw04.TextWords'. -/
def textWordsCard : Claim7 := { stood := { row := textWordsRow, standIns := [], harness := (true, "9b20e36b241e8f0aadc3db017ff4aa83dbac502b821712f4194be59c4e7d330d"), looks := true }, kinds := [], alts := [], laidByText := true, laidKinds := [.data, .data, .data], laidTests := true, laidLooks := .later }
def TextWordsCardSaid : Prop := Claim7.holds Tryd.pinned (.plain (OpenSpec.ofChange textWordsSpec)) textWordsCard

/-- THE TIED CARD OF 'wardenlaw04.TextColumns'. -/
def textColumnsCard : Claim7 := { stood := { row := textColumnsRow, standIns := [], harness := (true, "9b20e36b241e8f0aadc3db017ff4aa83dbac502b821712f4194be59c4e7d330d"), looks := true }, kinds := [], alts := [], laidByText := true, laidKinds := [.data, .data, .data, .data, .pinned], laidTests := true, laidLooks := .later }
def TextColumnsCardSaid : Prop := Claim7.holds Tryd.pinned (.plain (OpenSpec.ofChange textColumnsSpec)) textColumnsCard

/-- THE TIED CARD OF 'wardenlaw04.TextBack'. -/
def textBackCard : Claim7 := { stood := { row := textBackRow, standIns := [], harness := (true, "9b20e36b241e8f0aadc3db017ff4aa83dbac502b821712f4194be59c4e7d330d"), looks := true }, kinds := [], alts := [], laidByText := true, laidKinds := [.data, .data, .data], laidTests := true, laidLooks := .later }
def TextBackCardSaid : Prop := Claim7.holds Tryd.pinned (.plain (OpenSpec.ofChange textBackSpec)) textBackCard

/-- THE SECOND FORM's CARD OF 'wardenlaw04.TextWords'. -/
def textWordsUptoCard : Claim7 := { stood := { row := textWordsUptoRow, standIns := [], harness := (true, "9b20e36b241e8f0aadc3db017ff4aa83dbac502b821712f4194be59c4e7d330d"), looks := true }, kinds := [], alts := [], laidByText := true, laidKinds := [.data, .data, .data], laidTests := true, laidLooks := .later }
def TextWordsUptoCardSaid : Prop := Claim7.holds Tryd.pinned (.plain (OpenSpec.upto textWordsSpec)) textWordsUptoCard

/-- THE SECOND FORM's CARD OF 'wardenlaw04.TextColumns'. -/
def textColumnsUptoCard : Claim7 := { stood := { row := textColumnsUptoRow, standIns := [], harness := (true, "9b20e36b241e8f0aadc3db017ff4aa83dbac502b821712f4194be59c4e7d330d"), looks := true }, kinds := [], alts := [], laidByText := true, laidKinds := [.data, .data, .data, .data, .pinned], laidTests := true, laidLooks := .later }
def TextColumnsUptoCardSaid : Prop := Claim7.holds Tryd.pinned (.plain (OpenSpec.upto textColumnsSpec)) textColumnsUptoCard

/-- THE SECOND FORM's CARD OF 'wardenlaw04.TextBack'. -/
def textBackUptoCard : Claim7 := { stood := { row := textBackUptoRow, standIns := [], harness := (true, "9b20e36b241e8f0aadc3db017ff4aa83dbac502b821712f4194be59c4e7d330d"), looks := true }, kinds := [], alts := [], laidByText := true, laidKinds := [.data, .data, .data], laidTests := true, laidLooks := .later }
def TextBackUptoCardSaid : Prop := Claim7.holds Tryd.pinned (.plain (OpenSpec.upto textBackSpec)) textBackUptoCard
end Rows
end Go.Proofs.YtbjinmlelchmgaaDoor
