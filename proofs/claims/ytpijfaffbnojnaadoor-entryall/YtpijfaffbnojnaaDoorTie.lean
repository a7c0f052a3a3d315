/-
  DERIVED. GIVEN WITH THE SEED: THE PROGRAM's TIES (one call each: nine closed facts by the kernel) AND EACH ROW's TIE, after the 31st guide's Derived/Test/Toyas{Tie, Card}.lean. No idea stands in it: it is a product of the set-up. Laid BY PROGRAM, IN A SANDBOX (cutbox-door.mjs). By AI agents, Wed Nov 11 2026. No macro, syntax, notation, axiom, sorry.
-/
import Derived.Test.YtpijfaffbnojnaaDoorRows
import Derived.LaidByTextLater
import Derived.SevenTiedAt
import Derived.LaidSub
import Derived.LaidOnce
namespace Go.Proofs.YtpijfaffbnojnaaDoor
open Go
set_option maxRecDepth 100000
theorem seatTie1 : Tryd.prog.laidByTextLater [("warden/entry.typeNames", Rows.laid_warden_entry_typeNames), ("warden/entry.stateNames", Rows.laid_warden_entry_stateNames), ("warden/wardenref11.types", Rows.laid_warden_wardenref11_types), ("warden/wardenref11.states", Rows.laid_warden_wardenref11_states)] [.data, .data, .data, .data] true :=
  Program.laidByTextLater_by_one 29 8 8 (by kernel_rfl) (by kernel_rfl) (by kernel_rfl) (by kernel_rfl) (by kernel_rfl) (by kernel_rfl) (fun _ _ => by kernel_rfl)
theorem noOwnUnsafe : Tryd.pinned.checked.prog.headLifts.contains "ownunsafe" = false := by kernel_rfl
theorem tie : Tryd.prog.laidByTextLater [("warden/entry.typeNames", Rows.laid_warden_entry_typeNames), ("warden/entry.stateNames", Rows.laid_warden_entry_stateNames)] [.data, .data] true :=
  Program.laidByTextLater.sub seatTie1 ["warden/entry.typeNames", "warden/entry.stateNames"] (by kernel_rfl) (by kernel_rfl)
theorem entryNames_row_tie : Rows.entryNamesRow.laidByTextAt .later Tryd.pinned [.data, .data] true :=
  OpenClaim.laidByTextAt_later rfl rfl tie noOwnUnsafe
theorem tie2 : Tryd.prog.laidByTextLater [("warden/entry.typeNames", Rows.laid_warden_entry_typeNames), ("warden/entry.stateNames", Rows.laid_warden_entry_stateNames), ("warden/wardenref11.types", Rows.laid_warden_wardenref11_types), ("warden/wardenref11.states", Rows.laid_warden_wardenref11_states)] [.data, .data, .data, .data] true :=
  Program.laidByTextLater.sub seatTie1 ["warden/entry.typeNames", "warden/entry.stateNames", "warden/wardenref11.types", "warden/wardenref11.states"] (by kernel_rfl) (by kernel_rfl)
theorem entryAll_row_tie : Rows.entryAllRow.laidByTextAt .later Tryd.pinned [.data, .data, .data, .data] true :=
  OpenClaim.laidByTextAt_later rfl rfl tie2 noOwnUnsafe
theorem entryNamesUpto_row_tie : Rows.entryNamesUptoRow.laidByTextAt .later Tryd.pinned [.data, .data] true :=
  OpenClaim.laidByTextAt_later rfl rfl tie noOwnUnsafe
theorem entryAllUpto_row_tie : Rows.entryAllUptoRow.laidByTextAt .later Tryd.pinned [.data, .data, .data, .data] true :=
  OpenClaim.laidByTextAt_later rfl rfl tie2 noOwnUnsafe
end Go.Proofs.YtpijfaffbnojnaaDoor
