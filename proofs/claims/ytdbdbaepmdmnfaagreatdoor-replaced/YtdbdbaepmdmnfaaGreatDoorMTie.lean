import Derived.Test.YtdbdbaepmdmnfaaGreatDoorRows
import Derived.LaidByTextLater
import Derived.SevenTiedAt
namespace Go.Proofs.YtdbdbaepmdmnfaaGreatDoor
open Go
theorem m_noOwnUnsafe : Tryz.pinned.checked.prog.headLifts.contains "ownunsafe" = false := by kernel_rfl
set_option maxRecDepth 100000 in
set_option maxHeartbeats 8000000 in
theorem m_tie : Tryz.prog.laidByTextLater [("strconv.ErrSyntax", Rows.laid_strconv_ErrSyntax), ("strconv.ErrRange", Rows.laid_strconv_ErrRange), ("internal/strconv.uint64pow10", Rows.laid_internal_strconv_uint64pow10), ("math/bits.deBruijn32tab", Rows.laid_math_bits_deBruijn32tab), ("math/bits.deBruijn64tab", Rows.laid_math_bits_deBruijn64tab), ("glean/fault.ErrRegex", Rows.laid_glean_fault_ErrRegex), ("glean/fault.ErrField", Rows.laid_glean_fault_ErrField), ("glean/fault.ErrText", Rows.laid_glean_fault_ErrText), ("glean/fault.ErrDeep", Rows.laid_glean_fault_ErrDeep), ("glean/fault.ErrFormat", Rows.laid_glean_fault_ErrFormat), ("glean/fault.ErrZero", Rows.laid_glean_fault_ErrZero), ("glean/fault.ErrFuel", Rows.laid_glean_fault_ErrFuel), ("glean/fault.ErrOut", Rows.laid_glean_fault_ErrOut)] [.sentinel, .sentinel, .data, .data, .data, .sentinel, .sentinel, .sentinel, .sentinel, .sentinel, .sentinel, .sentinel, .sentinel] true :=
  Program.laidByTextLater_by_run 400 8 (by as_aux_lemma => kernel_rfl) (by as_aux_lemma => kernel_rfl) (by as_aux_lemma => kernel_rfl) (by as_aux_lemma => kernel_rfl) (by as_aux_lemma => kernel_rfl) (by as_aux_lemma => kernel_rfl) (fun _ _ => by as_aux_lemma => kernel_rfl) (fun _ _ => by as_aux_lemma => kernel_rfl) (fun _ _ => by as_aux_lemma => kernel_rfl)
end Go.Proofs.YtdbdbaepmdmnfaaGreatDoor
