/-
  DERIVED. GIVEN WITH THE SEED: THE PROGRAM's TIES (one call each: nine closed facts by the kernel) AND EACH ROW's TIE, after the 31st guide's Derived/Test/Toyas{Tie, Card}.lean. No idea stands in it: it is a product of the set-up. Laid BY PROGRAM, IN A SANDBOX (cutbox-door.mjs). By AI agents, Wed Nov 11 2026. No macro, syntax, notation, axiom, sorry.
-/
import Derived.Test.YtndgajlidckcdaaGreatDoorRows
import Derived.LaidByTextLater
import Derived.SevenTiedAt
import Derived.LaidSub
import Derived.LaidOnce
namespace Go.Proofs.YtndgajlidckcdaaGreatDoor
open Go
set_option maxRecDepth 100000
theorem seatTie1 : Tryz.prog.laidByTextLater [("math/bits.deBruijn32tab", Rows.laid_math_bits_deBruijn32tab), ("math/bits.deBruijn64tab", Rows.laid_math_bits_deBruijn64tab), ("internal/strconv.uint64pow10", Rows.laid_internal_strconv_uint64pow10), ("unicode/utf8.acceptRanges", Rows.laid_unicode_utf8_acceptRanges), ("errors.errorType", Rows.laid_errors_errorType), ("strconv.ErrRange", Rows.laid_strconv_ErrRange), ("strconv.ErrSyntax", Rows.laid_strconv_ErrSyntax), ("rewind/rewindref.Fine", Rows.laid_rewind_rewindref_Fine), ("rewind/rewindref.words", Rows.laid_rewind_rewindref_words), ("rewind/rewindref.ranks", Rows.laid_rewind_rewindref_ranks), ("rewind/rewindref.pairKinds", Rows.laid_rewind_rewindref_pairKinds), ("rewind/syntax.words", Rows.laid_rewind_syntax_words), ("rewind/syntax.twinSigns", Rows.laid_rewind_syntax_twinSigns), ("rewind/syntax.signs", Rows.laid_rewind_syntax_signs)] [.data, .data, .data, .data, .handle, .sentinel, .sentinel, .data, .widerDeep, .data, .mapped, .data, .data, .data] true :=
  Program.laidByTextLater_by_one 168 8 65 (by kernel_rfl) (by kernel_rfl) (by kernel_rfl) (by kernel_rfl) (by kernel_rfl) (by kernel_rfl) (fun _ _ => by kernel_rfl)
theorem pin_laid_unicode_utf8_first : Tryz.pinned.checked.prog.pinnedFits "unicode/utf8.first" = true := by kernel_rfl
theorem noOwnUnsafe : Tryz.pinned.checked.prog.headLifts.contains "ownunsafe" = false := by kernel_rfl
theorem fits1 : Tryz.pinned.checked.prog.listedFits [("math/bits.deBruijn32tab", Rows.laid_math_bits_deBruijn32tab), ("math/bits.deBruijn64tab", Rows.laid_math_bits_deBruijn64tab), ("internal/strconv.uint64pow10", Rows.laid_internal_strconv_uint64pow10), ("unicode/utf8.acceptRanges", Rows.laid_unicode_utf8_acceptRanges), ("errors.errorType", Rows.laid_errors_errorType), ("strconv.ErrRange", Rows.laid_strconv_ErrRange), ("strconv.ErrSyntax", Rows.laid_strconv_ErrSyntax), ("rewind/rewindref.Fine", Rows.laid_rewind_rewindref_Fine), ("rewind/rewindref.words", Rows.laid_rewind_rewindref_words), ("rewind/rewindref.ranks", Rows.laid_rewind_rewindref_ranks), ("rewind/rewindref.pairKinds", Rows.laid_rewind_rewindref_pairKinds), ("rewind/syntax.words", Rows.laid_rewind_syntax_words), ("rewind/syntax.twinSigns", Rows.laid_rewind_syntax_twinSigns), ("rewind/syntax.signs", Rows.laid_rewind_syntax_signs), ("unicode/utf8.first", Rows.laid_unicode_utf8_first)] = true := by
  unfold Program.listedFits
  rw [noOwnUnsafe]
  kernel_rfl
theorem tie : Tryz.prog.laidByTextLater [("math/bits.deBruijn32tab", Rows.laid_math_bits_deBruijn32tab), ("math/bits.deBruijn64tab", Rows.laid_math_bits_deBruijn64tab), ("internal/strconv.uint64pow10", Rows.laid_internal_strconv_uint64pow10), ("unicode/utf8.acceptRanges", Rows.laid_unicode_utf8_acceptRanges), ("errors.errorType", Rows.laid_errors_errorType), ("strconv.ErrRange", Rows.laid_strconv_ErrRange), ("strconv.ErrSyntax", Rows.laid_strconv_ErrSyntax), ("rewind/rewindref.Fine", Rows.laid_rewind_rewindref_Fine), ("rewind/rewindref.words", Rows.laid_rewind_rewindref_words), ("rewind/rewindref.ranks", Rows.laid_rewind_rewindref_ranks), ("rewind/rewindref.pairKinds", Rows.laid_rewind_rewindref_pairKinds), ("rewind/syntax.words", Rows.laid_rewind_syntax_words), ("rewind/syntax.twinSigns", Rows.laid_rewind_syntax_twinSigns), ("rewind/syntax.signs", Rows.laid_rewind_syntax_signs)] [.data, .data, .data, .data, .handle, .sentinel, .sentinel, .data, .widerDeep, .data, .mapped, .data, .data, .data] true :=
  Program.laidByTextLater.sub seatTie1 ["math/bits.deBruijn32tab", "math/bits.deBruijn64tab", "internal/strconv.uint64pow10", "unicode/utf8.acceptRanges", "errors.errorType", "strconv.ErrRange", "strconv.ErrSyntax", "rewind/rewindref.Fine", "rewind/rewindref.words", "rewind/rewindref.ranks", "rewind/rewindref.pairKinds", "rewind/syntax.words", "rewind/syntax.twinSigns", "rewind/syntax.signs"] (by kernel_rfl) (by kernel_rfl)
theorem syntaxParses_row_tie : Rows.syntaxParsesRow.laidByTextAt .later Tryz.pinned [.data, .data, .data, .data, .handle, .sentinel, .sentinel, .data, .widerDeep, .data, .mapped, .data, .data, .data, .pinned] true :=
  OpenClaim.laidByTextAt_pinned rfl rfl tie rfl rfl rfl rfl (fun y hy _e => by
    simp only [Rows.syntaxParsesRow, List.zip_cons_cons, List.zip_nil_right, List.mem_cons, List.mem_nil_iff, or_false] at hy
    rcases hy with rfl | rfl | rfl | rfl | rfl | rfl | rfl | rfl | rfl | rfl | rfl | rfl | rfl | rfl | rfl
    · cases _e
    · cases _e
    · cases _e
    · cases _e
    · cases _e
    · cases _e
    · cases _e
    · cases _e
    · cases _e
    · cases _e
    · cases _e
    · cases _e
    · cases _e
    · cases _e
    · exact ⟨pin_laid_unicode_utf8_first, by kernel_rfl⟩) fits1
theorem tie2 : Tryz.prog.laidByTextLater [("math/bits.deBruijn32tab", Rows.laid_math_bits_deBruijn32tab), ("math/bits.deBruijn64tab", Rows.laid_math_bits_deBruijn64tab), ("internal/strconv.uint64pow10", Rows.laid_internal_strconv_uint64pow10), ("errors.errorType", Rows.laid_errors_errorType), ("strconv.ErrRange", Rows.laid_strconv_ErrRange), ("strconv.ErrSyntax", Rows.laid_strconv_ErrSyntax), ("rewind/syntax.words", Rows.laid_rewind_syntax_words), ("rewind/syntax.twinSigns", Rows.laid_rewind_syntax_twinSigns), ("rewind/syntax.signs", Rows.laid_rewind_syntax_signs)] [.data, .data, .data, .handle, .sentinel, .sentinel, .data, .data, .data] true :=
  Program.laidByTextLater.sub seatTie1 ["math/bits.deBruijn32tab", "math/bits.deBruijn64tab", "internal/strconv.uint64pow10", "errors.errorType", "strconv.ErrRange", "strconv.ErrSyntax", "rewind/syntax.words", "rewind/syntax.twinSigns", "rewind/syntax.signs"] (by kernel_rfl) (by kernel_rfl)
theorem syntaxBack_row_tie : Rows.syntaxBackRow.laidByTextAt .later Tryz.pinned [.data, .data, .data, .handle, .sentinel, .sentinel, .data, .data, .data] true :=
  OpenClaim.laidByTextAt_later rfl rfl tie2 noOwnUnsafe
theorem tie3 : Tryz.prog.laidByTextLater [("math/bits.deBruijn32tab", Rows.laid_math_bits_deBruijn32tab), ("math/bits.deBruijn64tab", Rows.laid_math_bits_deBruijn64tab), ("internal/strconv.uint64pow10", Rows.laid_internal_strconv_uint64pow10), ("errors.errorType", Rows.laid_errors_errorType), ("strconv.ErrRange", Rows.laid_strconv_ErrRange), ("strconv.ErrSyntax", Rows.laid_strconv_ErrSyntax), ("rewind/rewindref.Fine", Rows.laid_rewind_rewindref_Fine), ("rewind/rewindref.words", Rows.laid_rewind_rewindref_words), ("rewind/rewindref.ranks", Rows.laid_rewind_rewindref_ranks), ("rewind/rewindref.pairKinds", Rows.laid_rewind_rewindref_pairKinds), ("rewind/syntax.words", Rows.laid_rewind_syntax_words), ("rewind/syntax.twinSigns", Rows.laid_rewind_syntax_twinSigns), ("rewind/syntax.signs", Rows.laid_rewind_syntax_signs)] [.data, .data, .data, .handle, .sentinel, .sentinel, .data, .widerDeep, .data, .mapped, .data, .data, .data] true :=
  Program.laidByTextLater.sub seatTie1 ["math/bits.deBruijn32tab", "math/bits.deBruijn64tab", "internal/strconv.uint64pow10", "errors.errorType", "strconv.ErrRange", "strconv.ErrSyntax", "rewind/rewindref.Fine", "rewind/rewindref.words", "rewind/rewindref.ranks", "rewind/rewindref.pairKinds", "rewind/syntax.words", "rewind/syntax.twinSigns", "rewind/syntax.signs"] (by kernel_rfl) (by kernel_rfl)
theorem checkFinds_row_tie : Rows.checkFindsRow.laidByTextAt .later Tryz.pinned [.data, .data, .data, .handle, .sentinel, .sentinel, .data, .widerDeep, .data, .mapped, .data, .data, .data] true :=
  OpenClaim.laidByTextAt_later rfl rfl tie3 noOwnUnsafe
theorem tie4 : Tryz.prog.laidByTextLater [("math/bits.deBruijn32tab", Rows.laid_math_bits_deBruijn32tab), ("math/bits.deBruijn64tab", Rows.laid_math_bits_deBruijn64tab), ("internal/strconv.uint64pow10", Rows.laid_internal_strconv_uint64pow10), ("strconv.ErrRange", Rows.laid_strconv_ErrRange), ("strconv.ErrSyntax", Rows.laid_strconv_ErrSyntax), ("rewind/rewindref.Fine", Rows.laid_rewind_rewindref_Fine), ("rewind/rewindref.words", Rows.laid_rewind_rewindref_words), ("rewind/rewindref.ranks", Rows.laid_rewind_rewindref_ranks), ("rewind/rewindref.pairKinds", Rows.laid_rewind_rewindref_pairKinds), ("rewind/syntax.words", Rows.laid_rewind_syntax_words), ("rewind/syntax.twinSigns", Rows.laid_rewind_syntax_twinSigns), ("rewind/syntax.signs", Rows.laid_rewind_syntax_signs)] [.data, .data, .data, .sentinel, .sentinel, .data, .widerDeep, .data, .mapped, .data, .data, .data] true :=
  Program.laidByTextLater.sub seatTie1 ["math/bits.deBruijn32tab", "math/bits.deBruijn64tab", "internal/strconv.uint64pow10", "strconv.ErrRange", "strconv.ErrSyntax", "rewind/rewindref.Fine", "rewind/rewindref.words", "rewind/rewindref.ranks", "rewind/rewindref.pairKinds", "rewind/syntax.words", "rewind/syntax.twinSigns", "rewind/syntax.signs"] (by kernel_rfl) (by kernel_rfl)
theorem checkTables_row_tie : Rows.checkTablesRow.laidByTextAt .later Tryz.pinned [.data, .data, .data, .sentinel, .sentinel, .data, .widerDeep, .data, .mapped, .data, .data, .data] true :=
  OpenClaim.laidByTextAt_later rfl rfl tie4 noOwnUnsafe
theorem syntaxParsesUpto_row_tie : Rows.syntaxParsesUptoRow.laidByTextAt .later Tryz.pinned [.data, .data, .data, .data, .handle, .sentinel, .sentinel, .data, .widerDeep, .data, .mapped, .data, .data, .data, .pinned] true :=
  OpenClaim.laidByTextAt_pinned rfl rfl tie rfl rfl rfl rfl (fun y hy _e => by
    simp only [Rows.syntaxParsesUptoRow, List.zip_cons_cons, List.zip_nil_right, List.mem_cons, List.mem_nil_iff, or_false] at hy
    rcases hy with rfl | rfl | rfl | rfl | rfl | rfl | rfl | rfl | rfl | rfl | rfl | rfl | rfl | rfl | rfl
    · cases _e
    · cases _e
    · cases _e
    · cases _e
    · cases _e
    · cases _e
    · cases _e
    · cases _e
    · cases _e
    · cases _e
    · cases _e
    · cases _e
    · cases _e
    · cases _e
    · exact ⟨pin_laid_unicode_utf8_first, by kernel_rfl⟩) fits1
theorem syntaxBackUpto_row_tie : Rows.syntaxBackUptoRow.laidByTextAt .later Tryz.pinned [.data, .data, .data, .handle, .sentinel, .sentinel, .data, .data, .data] true :=
  OpenClaim.laidByTextAt_later rfl rfl tie2 noOwnUnsafe
theorem checkFindsUpto_row_tie : Rows.checkFindsUptoRow.laidByTextAt .later Tryz.pinned [.data, .data, .data, .handle, .sentinel, .sentinel, .data, .widerDeep, .data, .mapped, .data, .data, .data] true :=
  OpenClaim.laidByTextAt_later rfl rfl tie3 noOwnUnsafe
theorem checkTablesUpto_row_tie : Rows.checkTablesUptoRow.laidByTextAt .later Tryz.pinned [.data, .data, .data, .sentinel, .sentinel, .data, .widerDeep, .data, .mapped, .data, .data, .data] true :=
  OpenClaim.laidByTextAt_later rfl rfl tie4 noOwnUnsafe
end Go.Proofs.YtndgajlidckcdaaGreatDoor
