/-
  DERIVED. GIVEN WITH THE SEED: THE PROGRAM's TIES (one call each: nine closed facts by the kernel) AND EACH ROW's TIE, after the 31st guide's Derived/Test/Toyas{Tie, Card}.lean. No idea stands in it: it is a product of the set-up. Laid BY PROGRAM, IN A SANDBOX (cutbox-door.mjs). By AI agents, Wed Nov 11 2026. No macro, syntax, notation, axiom, sorry.
-/
import Derived.Test.YtbpdmkohihgnjaaGreatDoorRows
import Derived.LaidByTextLater
import Derived.SevenTiedAt
import Derived.LaidSub
import Derived.LaidOnce
namespace Go.Proofs.YtbpdmkohihgnjaaGreatDoor
open Go
set_option maxRecDepth 100000
theorem seatTie1 : Tryz.prog.laidByTextLater [("unicode/utf8.acceptRanges", Rows.laid_unicode_utf8_acceptRanges), ("warden/sha.roundWords", Rows.laid_warden_sha_roundWords), ("warden/wardenref02.K", Rows.laid_warden_wardenref02_K), ("warden/word.lows", Rows.laid_warden_word_lows), ("errors.errorType", Rows.laid_errors_errorType), ("warden/attest.errLong", Rows.laid_warden_attest_errLong), ("warden/attest.errQuoted", Rows.laid_warden_attest_errQuoted), ("warden/attest.errPolicy", Rows.laid_warden_attest_errPolicy), ("warden/attest.errTag", Rows.laid_warden_attest_errTag), ("warden/attest.errNonce", Rows.laid_warden_attest_errNonce), ("warden/attest.errDenied", Rows.laid_warden_attest_errDenied)] [.data, .data, .data, .data, .handle, .sentinel, .sentinel, .sentinel, .sentinel, .sentinel, .sentinel] true :=
  Program.laidByTextLater_by_one 155 8 65 (by kernel_rfl) (by kernel_rfl) (by kernel_rfl) (by kernel_rfl) (by kernel_rfl) (by kernel_rfl) (fun _ _ => by kernel_rfl)
theorem pin_laid_unicode_utf8_first : Tryz.pinned.checked.prog.pinnedFits "unicode/utf8.first" = true := by kernel_rfl
theorem noOwnUnsafe : Tryz.pinned.checked.prog.headLifts.contains "ownunsafe" = false := by kernel_rfl
theorem fits1 : Tryz.pinned.checked.prog.listedFits [("unicode/utf8.acceptRanges", Rows.laid_unicode_utf8_acceptRanges), ("warden/sha.roundWords", Rows.laid_warden_sha_roundWords), ("warden/wardenref02.K", Rows.laid_warden_wardenref02_K), ("warden/word.lows", Rows.laid_warden_word_lows), ("errors.errorType", Rows.laid_errors_errorType), ("warden/attest.errLong", Rows.laid_warden_attest_errLong), ("warden/attest.errQuoted", Rows.laid_warden_attest_errQuoted), ("warden/attest.errPolicy", Rows.laid_warden_attest_errPolicy), ("warden/attest.errTag", Rows.laid_warden_attest_errTag), ("warden/attest.errNonce", Rows.laid_warden_attest_errNonce), ("warden/attest.errDenied", Rows.laid_warden_attest_errDenied), ("unicode/utf8.first", Rows.laid_unicode_utf8_first)] = true := by
  unfold Program.listedFits
  rw [noOwnUnsafe]
  kernel_rfl
theorem tie : Tryz.prog.laidByTextLater [("unicode/utf8.acceptRanges", Rows.laid_unicode_utf8_acceptRanges), ("warden/sha.roundWords", Rows.laid_warden_sha_roundWords), ("warden/wardenref02.K", Rows.laid_warden_wardenref02_K), ("warden/word.lows", Rows.laid_warden_word_lows), ("errors.errorType", Rows.laid_errors_errorType), ("warden/attest.errLong", Rows.laid_warden_attest_errLong), ("warden/attest.errQuoted", Rows.laid_warden_attest_errQuoted), ("warden/attest.errPolicy", Rows.laid_warden_attest_errPolicy), ("warden/attest.errTag", Rows.laid_warden_attest_errTag), ("warden/attest.errNonce", Rows.laid_warden_attest_errNonce), ("warden/attest.errDenied", Rows.laid_warden_attest_errDenied)] [.data, .data, .data, .data, .handle, .sentinel, .sentinel, .sentinel, .sentinel, .sentinel, .sentinel] true :=
  Program.laidByTextLater.sub seatTie1 ["unicode/utf8.acceptRanges", "warden/sha.roundWords", "warden/wardenref02.K", "warden/word.lows", "errors.errorType", "warden/attest.errLong", "warden/attest.errQuoted", "warden/attest.errPolicy", "warden/attest.errTag", "warden/attest.errNonce", "warden/attest.errDenied"] (by kernel_rfl) (by kernel_rfl)
theorem attestAll_row_tie : Rows.attestAllRow.laidByTextAt .later Tryz.pinned [.data, .data, .data, .data, .handle, .sentinel, .sentinel, .sentinel, .sentinel, .sentinel, .sentinel, .pinned] true :=
  OpenClaim.laidByTextAt_pinned rfl rfl tie rfl rfl rfl rfl (fun y hy _e => by
    simp only [Rows.attestAllRow, List.zip_cons_cons, List.zip_nil_right, List.mem_cons, List.mem_nil_iff, or_false] at hy
    rcases hy with rfl | rfl | rfl | rfl | rfl | rfl | rfl | rfl | rfl | rfl | rfl | rfl
    · cases _e
    · cases _e
    · cases _e
    · cases _e
    · cases _e
    · cases _e
    · cases _e
    · cases _e
    · cases _e
    · cases _e
    · cases _e
    · exact ⟨pin_laid_unicode_utf8_first, by kernel_rfl⟩) fits1
theorem attestAllUpto_row_tie : Rows.attestAllUptoRow.laidByTextAt .later Tryz.pinned [.data, .data, .data, .data, .handle, .sentinel, .sentinel, .sentinel, .sentinel, .sentinel, .sentinel, .pinned] true :=
  OpenClaim.laidByTextAt_pinned rfl rfl tie rfl rfl rfl rfl (fun y hy _e => by
    simp only [Rows.attestAllUptoRow, List.zip_cons_cons, List.zip_nil_right, List.mem_cons, List.mem_nil_iff, or_false] at hy
    rcases hy with rfl | rfl | rfl | rfl | rfl | rfl | rfl | rfl | rfl | rfl | rfl | rfl
    · cases _e
    · cases _e
    · cases _e
    · cases _e
    · cases _e
    · cases _e
    · cases _e
    · cases _e
    · cases _e
    · cases _e
    · cases _e
    · exact ⟨pin_laid_unicode_utf8_first, by kernel_rfl⟩) fits1
end Go.Proofs.YtbpdmkohihgnjaaGreatDoor
