/-
  DERIVED. GIVEN WITH THE SEED: THE PROGRAM's TIES (one call each: nine closed facts by the kernel) AND EACH ROW's TIE, after the 31st guide's Derived/Test/Toyas{Tie, Card}.lean. No idea stands in it: it is a product of the set-up. Laid BY PROGRAM, IN A SANDBOX (cutbox-door.mjs). By AI agents, Wed Nov 11 2026. No macro, syntax, notation, axiom, sorry.
-/
import Derived.Test.YtbpdmkohihgnjaaDoorRows
import Derived.LaidByTextLater
import Derived.SevenTiedAt
import Derived.LaidSub
import Derived.LaidOnce
namespace Go.Proofs.YtbpdmkohihgnjaaDoor
open Go
set_option maxRecDepth 100000
theorem seatTie1 : Tryd.prog.laidByTextLater [("unicode/utf8.acceptRanges", Rows.laid_unicode_utf8_acceptRanges), ("warden/sha.roundWords", Rows.laid_warden_sha_roundWords), ("warden/wardenref02.K", Rows.laid_warden_wardenref02_K), ("warden/word.lows", Rows.laid_warden_word_lows), ("errors.errorType", Rows.laid_errors_errorType), ("warden/attest.errLong", Rows.laid_warden_attest_errLong), ("warden/attest.errQuoted", Rows.laid_warden_attest_errQuoted), ("warden/attest.errPolicy", Rows.laid_warden_attest_errPolicy), ("warden/attest.errTag", Rows.laid_warden_attest_errTag), ("warden/attest.errNonce", Rows.laid_warden_attest_errNonce), ("warden/attest.errDenied", Rows.laid_warden_attest_errDenied)] [.data, .data, .data, .data, .handle, .sentinel, .sentinel, .sentinel, .sentinel, .sentinel, .sentinel] true :=
  Program.laidByTextLater_by_one 155 8 65 (by kernel_rfl) (by kernel_rfl) (by kernel_rfl) (by kernel_rfl) (by kernel_rfl) (by kernel_rfl) (fun _ _ => by kernel_rfl)
theorem pin_laid_unicode_utf8_first : Tryd.pinned.checked.prog.pinnedFits "unicode/utf8.first" = true := by kernel_rfl
theorem noOwnUnsafe : Tryd.pinned.checked.prog.headLifts.contains "ownunsafe" = false := by kernel_rfl
theorem tie : Tryd.prog.laidByTextLater [("warden/sha.roundWords", Rows.laid_warden_sha_roundWords), ("warden/word.lows", Rows.laid_warden_word_lows)] [.data, .data] true :=
  Program.laidByTextLater.sub seatTie1 ["warden/sha.roundWords", "warden/word.lows"] (by kernel_rfl) (by kernel_rfl)
theorem attestMacs_row_tie : Rows.attestMacsRow.laidByTextAt .later Tryd.pinned [.data, .data] true :=
  OpenClaim.laidByTextAt_later rfl rfl tie noOwnUnsafe
theorem tie2 : Tryd.prog.laidByTextLater [("warden/sha.roundWords", Rows.laid_warden_sha_roundWords), ("warden/word.lows", Rows.laid_warden_word_lows), ("warden/attest.errLong", Rows.laid_warden_attest_errLong), ("warden/attest.errQuoted", Rows.laid_warden_attest_errQuoted), ("warden/attest.errPolicy", Rows.laid_warden_attest_errPolicy), ("warden/attest.errTag", Rows.laid_warden_attest_errTag), ("warden/attest.errNonce", Rows.laid_warden_attest_errNonce), ("warden/attest.errDenied", Rows.laid_warden_attest_errDenied)] [.data, .data, .sentinel, .sentinel, .sentinel, .sentinel, .sentinel, .sentinel] true :=
  Program.laidByTextLater.sub seatTie1 ["warden/sha.roundWords", "warden/word.lows", "warden/attest.errLong", "warden/attest.errQuoted", "warden/attest.errPolicy", "warden/attest.errTag", "warden/attest.errNonce", "warden/attest.errDenied"] (by kernel_rfl) (by kernel_rfl)
theorem attestJudges_row_tie : Rows.attestJudgesRow.laidByTextAt .later Tryd.pinned [.data, .data, .sentinel, .sentinel, .sentinel, .sentinel, .sentinel, .sentinel] true :=
  OpenClaim.laidByTextAt_later rfl rfl tie2 noOwnUnsafe
theorem tie3 : Tryd.prog.laidByTextLater [("warden/word.lows", Rows.laid_warden_word_lows), ("warden/attest.errLong", Rows.laid_warden_attest_errLong), ("warden/attest.errQuoted", Rows.laid_warden_attest_errQuoted), ("warden/attest.errPolicy", Rows.laid_warden_attest_errPolicy), ("warden/attest.errTag", Rows.laid_warden_attest_errTag), ("warden/attest.errNonce", Rows.laid_warden_attest_errNonce), ("warden/attest.errDenied", Rows.laid_warden_attest_errDenied)] [.data, .sentinel, .sentinel, .sentinel, .sentinel, .sentinel, .sentinel] true :=
  Program.laidByTextLater.sub seatTie1 ["warden/word.lows", "warden/attest.errLong", "warden/attest.errQuoted", "warden/attest.errPolicy", "warden/attest.errTag", "warden/attest.errNonce", "warden/attest.errDenied"] (by kernel_rfl) (by kernel_rfl)
theorem attestBack_row_tie : Rows.attestBackRow.laidByTextAt .later Tryd.pinned [.data, .sentinel, .sentinel, .sentinel, .sentinel, .sentinel, .sentinel] true :=
  OpenClaim.laidByTextAt_later rfl rfl tie3 noOwnUnsafe
theorem fits4 : Tryd.pinned.checked.prog.listedFits [("unicode/utf8.acceptRanges", Rows.laid_unicode_utf8_acceptRanges), ("warden/word.lows", Rows.laid_warden_word_lows), ("errors.errorType", Rows.laid_errors_errorType), ("warden/attest.errLong", Rows.laid_warden_attest_errLong), ("warden/attest.errQuoted", Rows.laid_warden_attest_errQuoted), ("warden/attest.errPolicy", Rows.laid_warden_attest_errPolicy), ("warden/attest.errTag", Rows.laid_warden_attest_errTag), ("warden/attest.errNonce", Rows.laid_warden_attest_errNonce), ("warden/attest.errDenied", Rows.laid_warden_attest_errDenied), ("unicode/utf8.first", Rows.laid_unicode_utf8_first)] = true := by
  unfold Program.listedFits
  rw [noOwnUnsafe]
  kernel_rfl
theorem tie4 : Tryd.prog.laidByTextLater [("unicode/utf8.acceptRanges", Rows.laid_unicode_utf8_acceptRanges), ("warden/word.lows", Rows.laid_warden_word_lows), ("errors.errorType", Rows.laid_errors_errorType), ("warden/attest.errLong", Rows.laid_warden_attest_errLong), ("warden/attest.errQuoted", Rows.laid_warden_attest_errQuoted), ("warden/attest.errPolicy", Rows.laid_warden_attest_errPolicy), ("warden/attest.errTag", Rows.laid_warden_attest_errTag), ("warden/attest.errNonce", Rows.laid_warden_attest_errNonce), ("warden/attest.errDenied", Rows.laid_warden_attest_errDenied)] [.data, .data, .handle, .sentinel, .sentinel, .sentinel, .sentinel, .sentinel, .sentinel] true :=
  Program.laidByTextLater.sub seatTie1 ["unicode/utf8.acceptRanges", "warden/word.lows", "errors.errorType", "warden/attest.errLong", "warden/attest.errQuoted", "warden/attest.errPolicy", "warden/attest.errTag", "warden/attest.errNonce", "warden/attest.errDenied"] (by kernel_rfl) (by kernel_rfl)
theorem attestPolicies_row_tie : Rows.attestPoliciesRow.laidByTextAt .later Tryd.pinned [.data, .data, .handle, .sentinel, .sentinel, .sentinel, .sentinel, .sentinel, .sentinel, .pinned] true :=
  OpenClaim.laidByTextAt_pinned rfl rfl tie4 rfl rfl rfl rfl (fun y hy _e => by
    simp only [Rows.attestPoliciesRow, List.zip_cons_cons, List.zip_nil_right, List.mem_cons, List.mem_nil_iff, or_false] at hy
    rcases hy with rfl | rfl | rfl | rfl | rfl | rfl | rfl | rfl | rfl | rfl
    · cases _e
    · cases _e
    · cases _e
    · cases _e
    · cases _e
    · cases _e
    · cases _e
    · cases _e
    · cases _e
    · exact ⟨pin_laid_unicode_utf8_first, by kernel_rfl⟩) fits4
theorem tie5 : Tryd.prog.laidByTextLater [("warden/sha.roundWords", Rows.laid_warden_sha_roundWords), ("warden/wardenref02.K", Rows.laid_warden_wardenref02_K), ("warden/word.lows", Rows.laid_warden_word_lows), ("warden/attest.errLong", Rows.laid_warden_attest_errLong), ("warden/attest.errQuoted", Rows.laid_warden_attest_errQuoted), ("warden/attest.errPolicy", Rows.laid_warden_attest_errPolicy), ("warden/attest.errTag", Rows.laid_warden_attest_errTag), ("warden/attest.errNonce", Rows.laid_warden_attest_errNonce), ("warden/attest.errDenied", Rows.laid_warden_attest_errDenied)] [.data, .data, .data, .sentinel, .sentinel, .sentinel, .sentinel, .sentinel, .sentinel] true :=
  Program.laidByTextLater.sub seatTie1 ["warden/sha.roundWords", "warden/wardenref02.K", "warden/word.lows", "warden/attest.errLong", "warden/attest.errQuoted", "warden/attest.errPolicy", "warden/attest.errTag", "warden/attest.errNonce", "warden/attest.errDenied"] (by kernel_rfl) (by kernel_rfl)
theorem attestTags_row_tie : Rows.attestTagsRow.laidByTextAt .later Tryd.pinned [.data, .data, .data, .sentinel, .sentinel, .sentinel, .sentinel, .sentinel, .sentinel] true :=
  OpenClaim.laidByTextAt_later rfl rfl tie5 noOwnUnsafe
theorem attestMacsUpto_row_tie : Rows.attestMacsUptoRow.laidByTextAt .later Tryd.pinned [.data, .data] true :=
  OpenClaim.laidByTextAt_later rfl rfl tie noOwnUnsafe
theorem attestJudgesUpto_row_tie : Rows.attestJudgesUptoRow.laidByTextAt .later Tryd.pinned [.data, .data, .sentinel, .sentinel, .sentinel, .sentinel, .sentinel, .sentinel] true :=
  OpenClaim.laidByTextAt_later rfl rfl tie2 noOwnUnsafe
theorem attestBackUpto_row_tie : Rows.attestBackUptoRow.laidByTextAt .later Tryd.pinned [.data, .sentinel, .sentinel, .sentinel, .sentinel, .sentinel, .sentinel] true :=
  OpenClaim.laidByTextAt_later rfl rfl tie3 noOwnUnsafe
theorem attestPoliciesUpto_row_tie : Rows.attestPoliciesUptoRow.laidByTextAt .later Tryd.pinned [.data, .data, .handle, .sentinel, .sentinel, .sentinel, .sentinel, .sentinel, .sentinel, .pinned] true :=
  OpenClaim.laidByTextAt_pinned rfl rfl tie4 rfl rfl rfl rfl (fun y hy _e => by
    simp only [Rows.attestPoliciesUptoRow, List.zip_cons_cons, List.zip_nil_right, List.mem_cons, List.mem_nil_iff, or_false] at hy
    rcases hy with rfl | rfl | rfl | rfl | rfl | rfl | rfl | rfl | rfl | rfl
    · cases _e
    · cases _e
    · cases _e
    · cases _e
    · cases _e
    · cases _e
    · cases _e
    · cases _e
    · cases _e
    · exact ⟨pin_laid_unicode_utf8_first, by kernel_rfl⟩) fits4
theorem attestTagsUpto_row_tie : Rows.attestTagsUptoRow.laidByTextAt .later Tryd.pinned [.data, .data, .data, .sentinel, .sentinel, .sentinel, .sentinel, .sentinel, .sentinel] true :=
  OpenClaim.laidByTextAt_later rfl rfl tie5 noOwnUnsafe
end Go.Proofs.YtbpdmkohihgnjaaDoor
