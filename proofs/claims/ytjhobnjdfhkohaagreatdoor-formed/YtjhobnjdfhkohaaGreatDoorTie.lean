/-
  DERIVED. GIVEN WITH THE SEED: THE PROGRAM's TIES (one call each: nine closed facts by the kernel) AND EACH ROW's TIE, after the 31st guide's Derived/Test/Toyas{Tie, Card}.lean. No idea stands in it: it is a product of the set-up. Laid BY PROGRAM, IN A SANDBOX (cutbox-door.mjs). By AI agents, Wed Nov 11 2026. No macro, syntax, notation, axiom, sorry.
-/
import Derived.Test.YtjhobnjdfhkohaaGreatDoorRows
import Derived.LaidByTextLater
import Derived.SevenTiedAt
import Derived.LaidSub
import Derived.LaidOnce
namespace Go.Proofs.YtjhobnjdfhkohaaGreatDoor
open Go
set_option maxRecDepth 100000
theorem seatTie1 : Tryz.prog.laidByTextLater [("math/bits.deBruijn32tab", Rows.laid_math_bits_deBruijn32tab), ("math/bits.deBruijn64tab", Rows.laid_math_bits_deBruijn64tab), ("internal/strconv.uint64pow10", Rows.laid_internal_strconv_uint64pow10), ("unicode/utf8.acceptRanges", Rows.laid_unicode_utf8_acceptRanges), ("errors.errorType", Rows.laid_errors_errorType), ("strconv.ErrRange", Rows.laid_strconv_ErrRange), ("strconv.ErrSyntax", Rows.laid_strconv_ErrSyntax), ("layers/archive.nameField", Rows.laid_layers_archive_nameField), ("layers/archive.modeField", Rows.laid_layers_archive_modeField), ("layers/archive.userField", Rows.laid_layers_archive_userField), ("layers/archive.groupField", Rows.laid_layers_archive_groupField), ("layers/archive.sizeField", Rows.laid_layers_archive_sizeField), ("layers/archive.timeField", Rows.laid_layers_archive_timeField), ("layers/archive.checkField", Rows.laid_layers_archive_checkField), ("layers/archive.kindField", Rows.laid_layers_archive_kindField), ("layers/archive.linkField", Rows.laid_layers_archive_linkField), ("layers/archive.magicField", Rows.laid_layers_archive_magicField), ("layers/archive.deviceField", Rows.laid_layers_archive_deviceField), ("layers/archive.device2Field", Rows.laid_layers_archive_device2Field), ("layers/archive.aheadField", Rows.laid_layers_archive_aheadField)] [.data, .data, .data, .data, .handle, .sentinel, .sentinel, .data, .data, .data, .data, .data, .data, .data, .data, .data, .data, .data, .data, .data] true :=
  Program.laidByTextLater_by_one 144 8 65 (by kernel_rfl) (by kernel_rfl) (by kernel_rfl) (by kernel_rfl) (by kernel_rfl) (by kernel_rfl) (fun _ _ => by kernel_rfl)
theorem pin_laid_unicode_utf8_first : Tryz.pinned.checked.prog.pinnedFits "unicode/utf8.first" = true := by kernel_rfl
theorem noOwnUnsafe : Tryz.pinned.checked.prog.headLifts.contains "ownunsafe" = false := by kernel_rfl
theorem fits1 : Tryz.pinned.checked.prog.listedFits [("math/bits.deBruijn32tab", Rows.laid_math_bits_deBruijn32tab), ("math/bits.deBruijn64tab", Rows.laid_math_bits_deBruijn64tab), ("internal/strconv.uint64pow10", Rows.laid_internal_strconv_uint64pow10), ("unicode/utf8.acceptRanges", Rows.laid_unicode_utf8_acceptRanges), ("errors.errorType", Rows.laid_errors_errorType), ("strconv.ErrRange", Rows.laid_strconv_ErrRange), ("strconv.ErrSyntax", Rows.laid_strconv_ErrSyntax), ("layers/archive.nameField", Rows.laid_layers_archive_nameField), ("layers/archive.modeField", Rows.laid_layers_archive_modeField), ("layers/archive.userField", Rows.laid_layers_archive_userField), ("layers/archive.groupField", Rows.laid_layers_archive_groupField), ("layers/archive.sizeField", Rows.laid_layers_archive_sizeField), ("layers/archive.timeField", Rows.laid_layers_archive_timeField), ("layers/archive.checkField", Rows.laid_layers_archive_checkField), ("layers/archive.kindField", Rows.laid_layers_archive_kindField), ("layers/archive.linkField", Rows.laid_layers_archive_linkField), ("layers/archive.magicField", Rows.laid_layers_archive_magicField), ("layers/archive.deviceField", Rows.laid_layers_archive_deviceField), ("layers/archive.device2Field", Rows.laid_layers_archive_device2Field), ("layers/archive.aheadField", Rows.laid_layers_archive_aheadField), ("unicode/utf8.first", Rows.laid_unicode_utf8_first)] = true := by
  unfold Program.listedFits
  rw [noOwnUnsafe]
  kernel_rfl
theorem tie : Tryz.prog.laidByTextLater [("math/bits.deBruijn32tab", Rows.laid_math_bits_deBruijn32tab), ("math/bits.deBruijn64tab", Rows.laid_math_bits_deBruijn64tab), ("internal/strconv.uint64pow10", Rows.laid_internal_strconv_uint64pow10), ("unicode/utf8.acceptRanges", Rows.laid_unicode_utf8_acceptRanges), ("errors.errorType", Rows.laid_errors_errorType), ("strconv.ErrRange", Rows.laid_strconv_ErrRange), ("strconv.ErrSyntax", Rows.laid_strconv_ErrSyntax), ("layers/archive.nameField", Rows.laid_layers_archive_nameField), ("layers/archive.modeField", Rows.laid_layers_archive_modeField), ("layers/archive.userField", Rows.laid_layers_archive_userField), ("layers/archive.groupField", Rows.laid_layers_archive_groupField), ("layers/archive.sizeField", Rows.laid_layers_archive_sizeField), ("layers/archive.timeField", Rows.laid_layers_archive_timeField), ("layers/archive.checkField", Rows.laid_layers_archive_checkField), ("layers/archive.kindField", Rows.laid_layers_archive_kindField), ("layers/archive.linkField", Rows.laid_layers_archive_linkField), ("layers/archive.magicField", Rows.laid_layers_archive_magicField), ("layers/archive.deviceField", Rows.laid_layers_archive_deviceField), ("layers/archive.device2Field", Rows.laid_layers_archive_device2Field), ("layers/archive.aheadField", Rows.laid_layers_archive_aheadField)] [.data, .data, .data, .data, .handle, .sentinel, .sentinel, .data, .data, .data, .data, .data, .data, .data, .data, .data, .data, .data, .data, .data] true :=
  Program.laidByTextLater.sub seatTie1 ["math/bits.deBruijn32tab", "math/bits.deBruijn64tab", "internal/strconv.uint64pow10", "unicode/utf8.acceptRanges", "errors.errorType", "strconv.ErrRange", "strconv.ErrSyntax", "layers/archive.nameField", "layers/archive.modeField", "layers/archive.userField", "layers/archive.groupField", "layers/archive.sizeField", "layers/archive.timeField", "layers/archive.checkField", "layers/archive.kindField", "layers/archive.linkField", "layers/archive.magicField", "layers/archive.deviceField", "layers/archive.device2Field", "layers/archive.aheadField"] (by kernel_rfl) (by kernel_rfl)
theorem formed_row_tie : Rows.formedRow.laidByTextAt .later Tryz.pinned [.data, .data, .data, .data, .handle, .sentinel, .sentinel, .data, .data, .data, .data, .data, .data, .data, .data, .data, .data, .data, .data, .data, .pinned] true :=
  OpenClaim.laidByTextAt_pinned rfl rfl tie rfl rfl rfl rfl (fun y hy _e => by
    simp only [Rows.formedRow, List.zip_cons_cons, List.zip_nil_right, List.mem_cons, List.mem_nil_iff, or_false] at hy
    rcases hy with rfl | rfl | rfl | rfl | rfl | rfl | rfl | rfl | rfl | rfl | rfl | rfl | rfl | rfl | rfl | rfl | rfl | rfl | rfl | rfl | rfl
    · cases _e
    · cases _e
    · cases _e
    · cases _e
    · cases _e
    · cases _e
    · cases _e
    · cases _e
    · cases _e
    · cases _e
    · cases _e
    · cases _e
    · cases _e
    · cases _e
    · cases _e
    · cases _e
    · cases _e
    · cases _e
    · cases _e
    · cases _e
    · exact ⟨pin_laid_unicode_utf8_first, by kernel_rfl⟩) fits1
theorem formedUpto_row_tie : Rows.formedUptoRow.laidByTextAt .later Tryz.pinned [.data, .data, .data, .data, .handle, .sentinel, .sentinel, .data, .data, .data, .data, .data, .data, .data, .data, .data, .data, .data, .data, .data, .pinned] true :=
  OpenClaim.laidByTextAt_pinned rfl rfl tie rfl rfl rfl rfl (fun y hy _e => by
    simp only [Rows.formedUptoRow, List.zip_cons_cons, List.zip_nil_right, List.mem_cons, List.mem_nil_iff, or_false] at hy
    rcases hy with rfl | rfl | rfl | rfl | rfl | rfl | rfl | rfl | rfl | rfl | rfl | rfl | rfl | rfl | rfl | rfl | rfl | rfl | rfl | rfl | rfl
    · cases _e
    · cases _e
    · cases _e
    · cases _e
    · cases _e
    · cases _e
    · cases _e
    · cases _e
    · cases _e
    · cases _e
    · cases _e
    · cases _e
    · cases _e
    · cases _e
    · cases _e
    · cases _e
    · cases _e
    · cases _e
    · cases _e
    · cases _e
    · exact ⟨pin_laid_unicode_utf8_first, by kernel_rfl⟩) fits1
end Go.Proofs.YtjhobnjdfhkohaaGreatDoor
