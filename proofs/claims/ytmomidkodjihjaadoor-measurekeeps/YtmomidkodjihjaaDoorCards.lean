/-
  DERIVED. GIVEN WITH THE SEED: THE CARDS: each row of YtmomidkodjihjaaDoorRows.lean that lists a variable, with what it lists TIED to the program's text (the seventh form; the later family's looks); each row that meets fmt, with fmt's text TOLD by the authors' own Lean function (tested against real Go, not proved from fmt's source: count such statements apart). THE CARD IS WHAT COUNTS. Prove the row's statement (the work); the ties are given (YtmomidkodjihjaaDoorTie.lean); close each card by the builder's one call (the guide's Derived/Test/ToyasCard.lean, 'card_holds'). Laid BY PROGRAM, IN A SANDBOX (cutbox-door.mjs). By AI agents, Wed Nov 11 2026. No macro, syntax, notation, axiom, sorry.
-/
import Derived.Test.YtmomidkodjihjaaDoorRows
import GoSem.ClaimSeven
namespace Go.Proofs.YtmomidkodjihjaaDoor
namespace Rows

/-- THE TIED CARD OF 'wardenlaw15.MeasureWords'. -/
def measureWordsCard : Claim7 := { stood := { row := measureWordsRow, standIns := [], harness := (true, "70fc888fd0ab73902ae3dd481e50b13a7d1721ceaf203996473b68fd4acc1d82"), looks := true }, kinds := [], alts := [], laidByText := true, laidKinds := [.data], laidTests := true, laidLooks := .later }
def MeasureWordsCardSaid : Prop := Claim7.holds Tryd.pinned (.plain (OpenSpec.ofChange measureWordsSpec)) measureWordsCard

/-- THE TIED CARD OF 'wardenlaw15.MeasurePieces'. -/
def measurePiecesCard : Claim7 := { stood := { row := measurePiecesRow, standIns := [], harness := (true, "70fc888fd0ab73902ae3dd481e50b13a7d1721ceaf203996473b68fd4acc1d82"), looks := true }, kinds := [], alts := [], laidByText := true, laidKinds := [.data], laidTests := true, laidLooks := .later }
def MeasurePiecesCardSaid : Prop := Claim7.holds Tryd.pinned (.plain (OpenSpec.ofChange measurePiecesSpec)) measurePiecesCard

/-- THE TIED CARD OF 'wardenlaw15.MeasureOne'. -/
def measureOneCard : Claim7 := { stood := { row := measureOneRow, standIns := [], harness := (true, "70fc888fd0ab73902ae3dd481e50b13a7d1721ceaf203996473b68fd4acc1d82"), looks := true }, kinds := [], alts := [], laidByText := true, laidKinds := [.data], laidTests := true, laidLooks := .later }
def MeasureOneCardSaid : Prop := Claim7.holds Tryd.pinned (.plain (OpenSpec.ofChange measureOneSpec)) measureOneCard

/-- THE TIED CARD OF 'wardenlaw15.MeasureKeeps'. -/
def measureKeepsCard : Claim7 := { stood := { row := measureKeepsRow, standIns := [], harness := (true, "70fc888fd0ab73902ae3dd481e50b13a7d1721ceaf203996473b68fd4acc1d82"), looks := true }, kinds := [], alts := [], laidByText := true, laidKinds := [.data], laidTests := true, laidLooks := .later }
def MeasureKeepsCardSaid : Prop := Claim7.holds Tryd.pinned (.plain (OpenSpec.ofChange measureKeepsSpec)) measureKeepsCard

/-- THE TIED CARD OF 'wardenlaw15.MeasureAll'. -/
def measureAllCard : Claim7 := { stood := { row := measureAllRow, standIns := [], harness := (true, "70fc888fd0ab73902ae3dd481e50b13a7d1721ceaf203996473b68fd4acc1d82"), looks := true }, kinds := [], alts := [], laidByText := true, laidKinds := [.data, .data], laidTests := true, laidLooks := .later }
def MeasureAllCardSaid : Prop := Claim7.holds Tryd.pinned (.plain (OpenSpec.ofChange measureAllSpec)) measureAllCard

/-- THE SECOND FORM's CARD OF 'wardenlaw15.MeasureWords'. -/
def measureWordsUptoCard : Claim7 := { stood := { row := measureWordsUptoRow, standIns := [], harness := (true, "70fc888fd0ab73902ae3dd481e50b13a7d1721ceaf203996473b68fd4acc1d82"), looks := true }, kinds := [], alts := [], laidByText := true, laidKinds := [.data], laidTests := true, laidLooks := .later }
def MeasureWordsUptoCardSaid : Prop := Claim7.holds Tryd.pinned (.plain (OpenSpec.upto measureWordsSpec)) measureWordsUptoCard

/-- THE SECOND FORM's CARD OF 'wardenlaw15.MeasurePieces'. -/
def measurePiecesUptoCard : Claim7 := { stood := { row := measurePiecesUptoRow, standIns := [], harness := (true, "70fc888fd0ab73902ae3dd481e50b13a7d1721ceaf203996473b68fd4acc1d82"), looks := true }, kinds := [], alts := [], laidByText := true, laidKinds := [.data], laidTests := true, laidLooks := .later }
def MeasurePiecesUptoCardSaid : Prop := Claim7.holds Tryd.pinned (.plain (OpenSpec.upto measurePiecesSpec)) measurePiecesUptoCard

/-- THE SECOND FORM's CARD OF 'wardenlaw15.MeasureOne'. -/
def measureOneUptoCard : Claim7 := { stood := { row := measureOneUptoRow, standIns := [], harness := (true, "70fc888fd0ab73902ae3dd481e50b13a7d1721ceaf203996473b68fd4acc1d82"), looks := true }, kinds := [], alts := [], laidByText := true, laidKinds := [.data], laidTests := true, laidLooks := .later }
def MeasureOneUptoCardSaid : Prop := Claim7.holds Tryd.pinned (.plain (OpenSpec.upto measureOneSpec)) measureOneUptoCard

/-- THE SECOND FORM's CARD OF 'wardenlaw15.MeasureKeeps'. -/
def measureKeepsUptoCard : Claim7 := { stood := { row := measureKeepsUptoRow, standIns := [], harness := (true, "70fc888fd0ab73902ae3dd481e50b13a7d1721ceaf203996473b68fd4acc1d82"), looks := true }, kinds := [], alts := [], laidByText := true, laidKinds := [.data], laidTests := true, laidLooks := .later }
def MeasureKeepsUptoCardSaid : Prop := Claim7.holds Tryd.pinned (.plain (OpenSpec.upto measureKeepsSpec)) measureKeepsUptoCard

/-- THE SECOND FORM's CARD OF 'wardenlaw15.MeasureAll'. -/
def measureAllUptoCard : Claim7 := { stood := { row := measureAllUptoRow, standIns := [], harness := (true, "70fc888fd0ab73902ae3dd481e50b13a7d1721ceaf203996473b68fd4acc1d82"), looks := true }, kinds := [], alts := [], laidByText := true, laidKinds := [.data, .data], laidTests := true, laidLooks := .later }
def MeasureAllUptoCardSaid : Prop := Claim7.holds Tryd.pinned (.plain (OpenSpec.upto measureAllSpec)) measureAllUptoCard
end Rows
end Go.Proofs.YtmomidkodjihjaaDoor
