/-
  DERIVED. GIVEN WITH THE SEED: THE CARDS: each row of YtdfnbcbnmiohnaaGreatDoorRows.lean that lists a variable, with what it lists TIED to the program's text (the seventh form; the later family's looks); each row that meets fmt, with fmt's text TOLD by the authors' own Lean function (tested against real Go, not proved from fmt's source: count such statements apart). THE CARD IS WHAT COUNTS. Prove the row's statement (the work); the ties are given (YtdfnbcbnmiohnaaGreatDoorTie.lean); close each card by the builder's one call (the guide's Derived/Test/ToyasCard.lean, 'card_holds'). Laid BY PROGRAM, IN A SANDBOX (cutbox-door.mjs). By AI agents, Wed Nov 11 2026. No macro, syntax, notation, axiom, sorry.
-/
import Derived.Test.YtdfnbcbnmiohnaaGreatDoorRows
import GoSem.ClaimSeven
namespace Go.Proofs.YtdfnbcbnmiohnaaGreatDoor
namespace Rows

/-- THE TIED CARD OF 'wardenlaw18.LifeKeeps'. -/
def lifeKeepsCard : Claim7 := { stood := { row := lifeKeepsRow, standIns := [], harness := (true, "29ee1d4a4885acdcf4bcdf43695ee3cd72bb9ddb05f3d4052e6f5be009ecc609"), looks := true }, kinds := [], alts := [], laidByText := true, laidKinds := [.data], laidTests := true, laidLooks := .later }
def LifeKeepsCardSaid : Prop := Claim7.holds Tryz.pinned (.plain (OpenSpec.ofChange lifeKeepsSpec)) lifeKeepsCard

/-- THE TIED CARD OF 'wardenlaw18.LifeMeasures'. -/
def lifeMeasuresCard : Claim7 := { stood := { row := lifeMeasuresRow, standIns := [], harness := (true, "29ee1d4a4885acdcf4bcdf43695ee3cd72bb9ddb05f3d4052e6f5be009ecc609"), looks := true }, kinds := [], alts := [], laidByText := true, laidKinds := [.data], laidTests := true, laidLooks := .later }
def LifeMeasuresCardSaid : Prop := Claim7.holds Tryz.pinned (.plain (OpenSpec.ofChange lifeMeasuresSpec)) lifeMeasuresCard

/-- THE TIED CARD OF 'wardenlaw18.LifeReclaims'. -/
def lifeReclaimsCard : Claim7 := { stood := { row := lifeReclaimsRow, standIns := [], harness := (true, "29ee1d4a4885acdcf4bcdf43695ee3cd72bb9ddb05f3d4052e6f5be009ecc609"), looks := true }, kinds := [], alts := [], laidByText := true, laidKinds := [.data], laidTests := true, laidLooks := .later }
def LifeReclaimsCardSaid : Prop := Claim7.holds Tryz.pinned (.plain (OpenSpec.ofChange lifeReclaimsSpec)) lifeReclaimsCard

/-- THE TIED CARD OF 'wardenlaw18.LifeRefuses'. -/
def lifeRefusesCard : Claim7 := { stood := { row := lifeRefusesRow, standIns := [], harness := (true, "29ee1d4a4885acdcf4bcdf43695ee3cd72bb9ddb05f3d4052e6f5be009ecc609"), looks := true }, kinds := [], alts := [], laidByText := true, laidKinds := [.data], laidTests := true, laidLooks := .later }
def LifeRefusesCardSaid : Prop := Claim7.holds Tryz.pinned (.plain (OpenSpec.ofChange lifeRefusesSpec)) lifeRefusesCard

/-- THE TIED CARD OF 'wardenlaw18.LifeAll'. -/
def lifeAllCard : Claim7 := { stood := { row := lifeAllRow, standIns := [], harness := (true, "29ee1d4a4885acdcf4bcdf43695ee3cd72bb9ddb05f3d4052e6f5be009ecc609"), looks := true }, kinds := [], alts := [], laidByText := true, laidKinds := [.data, .data], laidTests := true, laidLooks := .later }
def LifeAllCardSaid : Prop := Claim7.holds Tryz.pinned (.plain (OpenSpec.ofChange lifeAllSpec)) lifeAllCard

/-- THE SECOND FORM's CARD OF 'wardenlaw18.LifeKeeps'. -/
def lifeKeepsUptoCard : Claim7 := { stood := { row := lifeKeepsUptoRow, standIns := [], harness := (true, "29ee1d4a4885acdcf4bcdf43695ee3cd72bb9ddb05f3d4052e6f5be009ecc609"), looks := true }, kinds := [], alts := [], laidByText := true, laidKinds := [.data], laidTests := true, laidLooks := .later }
def LifeKeepsUptoCardSaid : Prop := Claim7.holds Tryz.pinned (.plain (OpenSpec.upto lifeKeepsSpec)) lifeKeepsUptoCard

/-- THE SECOND FORM's CARD OF 'wardenlaw18.LifeMeasures'. -/
def lifeMeasuresUptoCard : Claim7 := { stood := { row := lifeMeasuresUptoRow, standIns := [], harness := (true, "29ee1d4a4885acdcf4bcdf43695ee3cd72bb9ddb05f3d4052e6f5be009ecc609"), looks := true }, kinds := [], alts := [], laidByText := true, laidKinds := [.data], laidTests := true, laidLooks := .later }
def LifeMeasuresUptoCardSaid : Prop := Claim7.holds Tryz.pinned (.plain (OpenSpec.upto lifeMeasuresSpec)) lifeMeasuresUptoCard

/-- THE SECOND FORM's CARD OF 'wardenlaw18.LifeReclaims'. -/
def lifeReclaimsUptoCard : Claim7 := { stood := { row := lifeReclaimsUptoRow, standIns := [], harness := (true, "29ee1d4a4885acdcf4bcdf43695ee3cd72bb9ddb05f3d4052e6f5be009ecc609"), looks := true }, kinds := [], alts := [], laidByText := true, laidKinds := [.data], laidTests := true, laidLooks := .later }
def LifeReclaimsUptoCardSaid : Prop := Claim7.holds Tryz.pinned (.plain (OpenSpec.upto lifeReclaimsSpec)) lifeReclaimsUptoCard

/-- THE SECOND FORM's CARD OF 'wardenlaw18.LifeRefuses'. -/
def lifeRefusesUptoCard : Claim7 := { stood := { row := lifeRefusesUptoRow, standIns := [], harness := (true, "29ee1d4a4885acdcf4bcdf43695ee3cd72bb9ddb05f3d4052e6f5be009ecc609"), looks := true }, kinds := [], alts := [], laidByText := true, laidKinds := [.data], laidTests := true, laidLooks := .later }
def LifeRefusesUptoCardSaid : Prop := Claim7.holds Tryz.pinned (.plain (OpenSpec.upto lifeRefusesSpec)) lifeRefusesUptoCard

/-- THE SECOND FORM's CARD OF 'wardenlaw18.LifeAll'. -/
def lifeAllUptoCard : Claim7 := { stood := { row := lifeAllUptoRow, standIns := [], harness := (true, "29ee1d4a4885acdcf4bcdf43695ee3cd72bb9ddb05f3d4052e6f5be009ecc609"), looks := true }, kinds := [], alts := [], laidByText := true, laidKinds := [.data, .data], laidTests := true, laidLooks := .later }
def LifeAllUptoCardSaid : Prop := Claim7.holds Tryz.pinned (.plain (OpenSpec.upto lifeAllSpec)) lifeAllUptoCard
end Rows
end Go.Proofs.YtdfnbcbnmiohnaaGreatDoor
