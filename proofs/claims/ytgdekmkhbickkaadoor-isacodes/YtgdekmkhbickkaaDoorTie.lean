/-
  DERIVED. GIVEN WITH THE SEED: THE PROGRAM's TIES (one call each: nine closed facts by the kernel) AND EACH ROW's TIE, after the 31st guide's Derived/Test/Toyas{Tie, Card}.lean. No idea stands in it: it is a product of the set-up. Laid BY PROGRAM, IN A SANDBOX (cutbox-door.mjs). By AI agents, Wed Nov 11 2026. No macro, syntax, notation, axiom, sorry.
-/
import Derived.Test.YtgdekmkhbickkaaDoorRows
import Derived.LaidByTextLater
import Derived.SevenTiedAt
import Derived.LaidSub
import Derived.LaidOnce
namespace Go.Proofs.YtgdekmkhbickkaaDoor
open Go
set_option maxRecDepth 100000
theorem seatTie1 : Tryd.prog.laidByTextLater [("warden/wardenref05.shapes", Rows.laid_warden_wardenref05_shapes), ("warden/wardenref05.names", Rows.laid_warden_wardenref05_names), ("warden/wardenref05.conds", Rows.laid_warden_wardenref05_conds), ("warden/word.lows", Rows.laid_warden_word_lows), ("warden/isa.forms", Rows.laid_warden_isa_forms), ("warden/isa.condNames", Rows.laid_warden_isa_condNames)] [.data, .data, .data, .data, .data, .data] true :=
  Program.laidByTextLater_by_one 63 8 51 (by kernel_rfl) (by kernel_rfl) (by kernel_rfl) (by kernel_rfl) (by kernel_rfl) (by kernel_rfl) (fun _ _ => by kernel_rfl)
theorem noOwnUnsafe : Tryd.pinned.checked.prog.headLifts.contains "ownunsafe" = false := by kernel_rfl
theorem tie : Tryd.prog.laidByTextLater [("warden/word.lows", Rows.laid_warden_word_lows), ("warden/isa.forms", Rows.laid_warden_isa_forms)] [.data, .data] true :=
  Program.laidByTextLater.sub seatTie1 ["warden/word.lows", "warden/isa.forms"] (by kernel_rfl) (by kernel_rfl)
theorem isaBack_row_tie : Rows.isaBackRow.laidByTextAt .later Tryd.pinned [.data, .data] true :=
  OpenClaim.laidByTextAt_later rfl rfl tie noOwnUnsafe
theorem isaSpoilt_row_tie : Rows.isaSpoiltRow.laidByTextAt .later Tryd.pinned [.data, .data] true :=
  OpenClaim.laidByTextAt_later rfl rfl tie noOwnUnsafe
theorem isaPlaces_row_tie : Rows.isaPlacesRow.laidByTextAt .later Tryd.pinned [.data, .data] true :=
  OpenClaim.laidByTextAt_later rfl rfl tie noOwnUnsafe
theorem tie2 : Tryd.prog.laidByTextLater [("warden/wardenref05.shapes", Rows.laid_warden_wardenref05_shapes), ("warden/wardenref05.names", Rows.laid_warden_wardenref05_names), ("warden/wardenref05.conds", Rows.laid_warden_wardenref05_conds), ("warden/word.lows", Rows.laid_warden_word_lows), ("warden/isa.forms", Rows.laid_warden_isa_forms), ("warden/isa.condNames", Rows.laid_warden_isa_condNames)] [.data, .data, .data, .data, .data, .data] true :=
  Program.laidByTextLater.sub seatTie1 ["warden/wardenref05.shapes", "warden/wardenref05.names", "warden/wardenref05.conds", "warden/word.lows", "warden/isa.forms", "warden/isa.condNames"] (by kernel_rfl) (by kernel_rfl)
theorem isaNames_row_tie : Rows.isaNamesRow.laidByTextAt .later Tryd.pinned [.data, .data, .data, .data, .data, .data] true :=
  OpenClaim.laidByTextAt_later rfl rfl tie2 noOwnUnsafe
theorem tie3 : Tryd.prog.laidByTextLater [("warden/wardenref05.shapes", Rows.laid_warden_wardenref05_shapes), ("warden/word.lows", Rows.laid_warden_word_lows), ("warden/isa.forms", Rows.laid_warden_isa_forms)] [.data, .data, .data] true :=
  Program.laidByTextLater.sub seatTie1 ["warden/wardenref05.shapes", "warden/word.lows", "warden/isa.forms"] (by kernel_rfl) (by kernel_rfl)
theorem isaCodes_row_tie : Rows.isaCodesRow.laidByTextAt .later Tryd.pinned [.data, .data, .data] true :=
  OpenClaim.laidByTextAt_later rfl rfl tie3 noOwnUnsafe
theorem isaBackUpto_row_tie : Rows.isaBackUptoRow.laidByTextAt .later Tryd.pinned [.data, .data] true :=
  OpenClaim.laidByTextAt_later rfl rfl tie noOwnUnsafe
theorem isaSpoiltUpto_row_tie : Rows.isaSpoiltUptoRow.laidByTextAt .later Tryd.pinned [.data, .data] true :=
  OpenClaim.laidByTextAt_later rfl rfl tie noOwnUnsafe
theorem isaPlacesUpto_row_tie : Rows.isaPlacesUptoRow.laidByTextAt .later Tryd.pinned [.data, .data] true :=
  OpenClaim.laidByTextAt_later rfl rfl tie noOwnUnsafe
theorem isaNamesUpto_row_tie : Rows.isaNamesUptoRow.laidByTextAt .later Tryd.pinned [.data, .data, .data, .data, .data, .data] true :=
  OpenClaim.laidByTextAt_later rfl rfl tie2 noOwnUnsafe
theorem isaCodesUpto_row_tie : Rows.isaCodesUptoRow.laidByTextAt .later Tryd.pinned [.data, .data, .data] true :=
  OpenClaim.laidByTextAt_later rfl rfl tie3 noOwnUnsafe
end Go.Proofs.YtgdekmkhbickkaaDoor
