/-
  DERIVED. GIVEN WITH THE SEED: THE PROGRAM's TIES (one call each: nine closed facts by the kernel) AND EACH ROW's TIE, after the 31st guide's Derived/Test/Toyas{Tie, Card}.lean. No idea stands in it: it is a product of the set-up. Laid BY PROGRAM, IN A SANDBOX (cutbox-door.mjs). By AI agents, Wed Nov 11 2026. No macro, syntax, notation, axiom, sorry.
-/
import Derived.Test.YtnpkkcbadcmgkaaGreatDoorRows
import Derived.LaidByTextLater
import Derived.SevenTiedAt
import Derived.LaidSub
import Derived.LaidOnce
namespace Go.Proofs.YtnpkkcbadcmgkaaGreatDoor
open Go
set_option maxRecDepth 100000
theorem seatTie1 : Tryz.prog.laidByTextLater [("errors.errorType", Rows.laid_errors_errorType), ("mend/field.ErrDegree", Rows.laid_mend_field_ErrDegree), ("mend/field.ErrModulus", Rows.laid_mend_field_ErrModulus), ("mend/field.ErrElement", Rows.laid_mend_field_ErrElement), ("mend/field.ErrBit", Rows.laid_mend_field_ErrBit), ("mend/mend.errRange", Rows.laid_mend_mend_errRange), ("mend/mend.errNoMessage", Rows.laid_mend_mend_errNoMessage), ("mend/mend.errSize", Rows.laid_mend_mend_errSize), ("mend/mend.errNoPlace", Rows.laid_mend_mend_errNoPlace), ("mend/mend.errOrder", Rows.laid_mend_mend_errOrder), ("mend/mend.errLosses", Rows.laid_mend_mend_errLosses), ("mend/mend.errTurns", Rows.laid_mend_mend_errTurns), ("mend/mend.errNotZero", Rows.laid_mend_mend_errNotZero)] [.handle, .sentinel, .sentinel, .sentinel, .sentinel, .sentinel, .sentinel, .sentinel, .sentinel, .sentinel, .sentinel, .sentinel, .sentinel] true :=
  Program.laidByTextLater_by_one 244 8 2 (by kernel_rfl) (by kernel_rfl) (by kernel_rfl) (by kernel_rfl) (by kernel_rfl) (by kernel_rfl) (fun _ _ => by kernel_rfl)
theorem noOwnUnsafe : Tryz.pinned.checked.prog.headLifts.contains "ownunsafe" = false := by kernel_rfl
theorem tie : Tryz.prog.laidByTextLater [("errors.errorType", Rows.laid_errors_errorType), ("mend/field.ErrDegree", Rows.laid_mend_field_ErrDegree), ("mend/field.ErrModulus", Rows.laid_mend_field_ErrModulus), ("mend/field.ErrElement", Rows.laid_mend_field_ErrElement), ("mend/field.ErrBit", Rows.laid_mend_field_ErrBit), ("mend/mend.errRange", Rows.laid_mend_mend_errRange), ("mend/mend.errNoMessage", Rows.laid_mend_mend_errNoMessage), ("mend/mend.errSize", Rows.laid_mend_mend_errSize), ("mend/mend.errNoPlace", Rows.laid_mend_mend_errNoPlace), ("mend/mend.errOrder", Rows.laid_mend_mend_errOrder), ("mend/mend.errLosses", Rows.laid_mend_mend_errLosses), ("mend/mend.errTurns", Rows.laid_mend_mend_errTurns), ("mend/mend.errNotZero", Rows.laid_mend_mend_errNotZero)] [.handle, .sentinel, .sentinel, .sentinel, .sentinel, .sentinel, .sentinel, .sentinel, .sentinel, .sentinel, .sentinel, .sentinel, .sentinel] true :=
  Program.laidByTextLater.sub seatTie1 ["errors.errorType", "mend/field.ErrDegree", "mend/field.ErrModulus", "mend/field.ErrElement", "mend/field.ErrBit", "mend/mend.errRange", "mend/mend.errNoMessage", "mend/mend.errSize", "mend/mend.errNoPlace", "mend/mend.errOrder", "mend/mend.errLosses", "mend/mend.errTurns", "mend/mend.errNotZero"] (by kernel_rfl) (by kernel_rfl)
theorem encodes_row_tie : Rows.encodesRow.laidByTextAt .later Tryz.pinned [.handle, .sentinel, .sentinel, .sentinel, .sentinel, .sentinel, .sentinel, .sentinel, .sentinel, .sentinel, .sentinel, .sentinel, .sentinel] true :=
  OpenClaim.laidByTextAt_later rfl rfl tie noOwnUnsafe
theorem mended_row_tie : Rows.mendedRow.laidByTextAt .later Tryz.pinned [.handle, .sentinel, .sentinel, .sentinel, .sentinel, .sentinel, .sentinel, .sentinel, .sentinel, .sentinel, .sentinel, .sentinel, .sentinel] true :=
  OpenClaim.laidByTextAt_later rfl rfl tie noOwnUnsafe
theorem decodes_row_tie : Rows.decodesRow.laidByTextAt .later Tryz.pinned [.handle, .sentinel, .sentinel, .sentinel, .sentinel, .sentinel, .sentinel, .sentinel, .sentinel, .sentinel, .sentinel, .sentinel, .sentinel] true :=
  OpenClaim.laidByTextAt_later rfl rfl tie noOwnUnsafe
theorem again_row_tie : Rows.againRow.laidByTextAt .later Tryz.pinned [.handle, .sentinel, .sentinel, .sentinel, .sentinel, .sentinel, .sentinel, .sentinel, .sentinel, .sentinel, .sentinel, .sentinel, .sentinel] true :=
  OpenClaim.laidByTextAt_later rfl rfl tie noOwnUnsafe
theorem encodesUpto_row_tie : Rows.encodesUptoRow.laidByTextAt .later Tryz.pinned [.handle, .sentinel, .sentinel, .sentinel, .sentinel, .sentinel, .sentinel, .sentinel, .sentinel, .sentinel, .sentinel, .sentinel, .sentinel] true :=
  OpenClaim.laidByTextAt_later rfl rfl tie noOwnUnsafe
theorem mendedUpto_row_tie : Rows.mendedUptoRow.laidByTextAt .later Tryz.pinned [.handle, .sentinel, .sentinel, .sentinel, .sentinel, .sentinel, .sentinel, .sentinel, .sentinel, .sentinel, .sentinel, .sentinel, .sentinel] true :=
  OpenClaim.laidByTextAt_later rfl rfl tie noOwnUnsafe
theorem decodesUpto_row_tie : Rows.decodesUptoRow.laidByTextAt .later Tryz.pinned [.handle, .sentinel, .sentinel, .sentinel, .sentinel, .sentinel, .sentinel, .sentinel, .sentinel, .sentinel, .sentinel, .sentinel, .sentinel] true :=
  OpenClaim.laidByTextAt_later rfl rfl tie noOwnUnsafe
theorem againUpto_row_tie : Rows.againUptoRow.laidByTextAt .later Tryz.pinned [.handle, .sentinel, .sentinel, .sentinel, .sentinel, .sentinel, .sentinel, .sentinel, .sentinel, .sentinel, .sentinel, .sentinel, .sentinel] true :=
  OpenClaim.laidByTextAt_later rfl rfl tie noOwnUnsafe
end Go.Proofs.YtnpkkcbadcmgkaaGreatDoor
