/-
  DERIVED. GIVEN WITH THE SEED: THE PROGRAM's TIES (one call each: nine closed facts by the kernel) AND EACH ROW's TIE, after the 31st guide's Derived/Test/Toyas{Tie, Card}.lean. No idea stands in it: it is a product of the set-up. Laid BY PROGRAM, IN A SANDBOX (cutbox-door.mjs). By AI agents, Wed Nov 11 2026. No macro, syntax, notation, axiom, sorry.
-/
import Derived.Test.YtnpkkcbadcmgkaaDoorRows
import Derived.LaidByTextLater
import Derived.SevenTiedAt
import Derived.LaidSub
import Derived.LaidOnce
namespace Go.Proofs.YtnpkkcbadcmgkaaDoor
open Go
set_option maxRecDepth 100000
theorem seatTie1 : Tryd.prog.laidByTextLater [("errors.errorType", Rows.laid_errors_errorType), ("mend/field.ErrDegree", Rows.laid_mend_field_ErrDegree), ("mend/field.ErrModulus", Rows.laid_mend_field_ErrModulus), ("mend/field.ErrElement", Rows.laid_mend_field_ErrElement), ("mend/field.ErrBit", Rows.laid_mend_field_ErrBit), ("mend/field.ErrZero", Rows.laid_mend_field_ErrZero), ("mend/mend.errRange", Rows.laid_mend_mend_errRange), ("mend/mend.errNoMessage", Rows.laid_mend_mend_errNoMessage), ("mend/mend.errSize", Rows.laid_mend_mend_errSize)] [.handle, .sentinel, .sentinel, .sentinel, .sentinel, .sentinel, .sentinel, .sentinel, .sentinel] true :=
  Program.laidByTextLater_by_one 168 8 2 (by kernel_rfl) (by kernel_rfl) (by kernel_rfl) (by kernel_rfl) (by kernel_rfl) (by kernel_rfl) (fun _ _ => by kernel_rfl)
theorem noOwnUnsafe : Tryd.pinned.checked.prog.headLifts.contains "ownunsafe" = false := by kernel_rfl
theorem tie : Tryd.prog.laidByTextLater [("errors.errorType", Rows.laid_errors_errorType), ("mend/field.ErrDegree", Rows.laid_mend_field_ErrDegree), ("mend/field.ErrModulus", Rows.laid_mend_field_ErrModulus), ("mend/field.ErrElement", Rows.laid_mend_field_ErrElement)] [.handle, .sentinel, .sentinel, .sentinel] true :=
  Program.laidByTextLater.sub seatTie1 ["errors.errorType", "mend/field.ErrDegree", "mend/field.ErrModulus", "mend/field.ErrElement"] (by kernel_rfl) (by kernel_rfl)
theorem products_row_tie : Rows.productsRow.laidByTextAt .later Tryd.pinned [.handle, .sentinel, .sentinel, .sentinel] true :=
  OpenClaim.laidByTextAt_later rfl rfl tie noOwnUnsafe
theorem tie2 : Tryd.prog.laidByTextLater [("errors.errorType", Rows.laid_errors_errorType), ("mend/field.ErrDegree", Rows.laid_mend_field_ErrDegree), ("mend/field.ErrModulus", Rows.laid_mend_field_ErrModulus), ("mend/field.ErrElement", Rows.laid_mend_field_ErrElement), ("mend/field.ErrZero", Rows.laid_mend_field_ErrZero)] [.handle, .sentinel, .sentinel, .sentinel, .sentinel] true :=
  Program.laidByTextLater.sub seatTie1 ["errors.errorType", "mend/field.ErrDegree", "mend/field.ErrModulus", "mend/field.ErrElement", "mend/field.ErrZero"] (by kernel_rfl) (by kernel_rfl)
theorem inverses_row_tie : Rows.inversesRow.laidByTextAt .later Tryd.pinned [.handle, .sentinel, .sentinel, .sentinel, .sentinel] true :=
  OpenClaim.laidByTextAt_later rfl rfl tie2 noOwnUnsafe
theorem rules_row_tie : Rows.rulesRow.laidByTextAt .later Tryd.pinned [.handle, .sentinel, .sentinel, .sentinel, .sentinel] true :=
  OpenClaim.laidByTextAt_later rfl rfl tie2 noOwnUnsafe
theorem tie3 : Tryd.prog.laidByTextLater [("errors.errorType", Rows.laid_errors_errorType), ("mend/field.ErrDegree", Rows.laid_mend_field_ErrDegree), ("mend/field.ErrModulus", Rows.laid_mend_field_ErrModulus), ("mend/field.ErrElement", Rows.laid_mend_field_ErrElement), ("mend/field.ErrBit", Rows.laid_mend_field_ErrBit), ("mend/mend.errRange", Rows.laid_mend_mend_errRange), ("mend/mend.errNoMessage", Rows.laid_mend_mend_errNoMessage)] [.handle, .sentinel, .sentinel, .sentinel, .sentinel, .sentinel, .sentinel] true :=
  Program.laidByTextLater.sub seatTie1 ["errors.errorType", "mend/field.ErrDegree", "mend/field.ErrModulus", "mend/field.ErrElement", "mend/field.ErrBit", "mend/mend.errRange", "mend/mend.errNoMessage"] (by kernel_rfl) (by kernel_rfl)
theorem news_row_tie : Rows.newsRow.laidByTextAt .later Tryd.pinned [.handle, .sentinel, .sentinel, .sentinel, .sentinel, .sentinel, .sentinel] true :=
  OpenClaim.laidByTextAt_later rfl rfl tie3 noOwnUnsafe
theorem tie4 : Tryd.prog.laidByTextLater [("errors.errorType", Rows.laid_errors_errorType), ("mend/field.ErrDegree", Rows.laid_mend_field_ErrDegree), ("mend/field.ErrModulus", Rows.laid_mend_field_ErrModulus), ("mend/field.ErrElement", Rows.laid_mend_field_ErrElement), ("mend/field.ErrBit", Rows.laid_mend_field_ErrBit), ("mend/mend.errRange", Rows.laid_mend_mend_errRange), ("mend/mend.errNoMessage", Rows.laid_mend_mend_errNoMessage), ("mend/mend.errSize", Rows.laid_mend_mend_errSize)] [.handle, .sentinel, .sentinel, .sentinel, .sentinel, .sentinel, .sentinel, .sentinel] true :=
  Program.laidByTextLater.sub seatTie1 ["errors.errorType", "mend/field.ErrDegree", "mend/field.ErrModulus", "mend/field.ErrElement", "mend/field.ErrBit", "mend/mend.errRange", "mend/mend.errNoMessage", "mend/mend.errSize"] (by kernel_rfl) (by kernel_rfl)
theorem checked_row_tie : Rows.checkedRow.laidByTextAt .later Tryd.pinned [.handle, .sentinel, .sentinel, .sentinel, .sentinel, .sentinel, .sentinel, .sentinel] true :=
  OpenClaim.laidByTextAt_later rfl rfl tie4 noOwnUnsafe
theorem linear_row_tie : Rows.linearRow.laidByTextAt .later Tryd.pinned [.handle, .sentinel, .sentinel, .sentinel, .sentinel, .sentinel, .sentinel, .sentinel] true :=
  OpenClaim.laidByTextAt_later rfl rfl tie4 noOwnUnsafe
theorem apart_row_tie : Rows.apartRow.laidByTextAt .later Tryd.pinned [.handle, .sentinel, .sentinel, .sentinel, .sentinel, .sentinel, .sentinel, .sentinel] true :=
  OpenClaim.laidByTextAt_later rfl rfl tie4 noOwnUnsafe
theorem turned_row_tie : Rows.turnedRow.laidByTextAt .later Tryd.pinned [.handle, .sentinel, .sentinel, .sentinel, .sentinel, .sentinel, .sentinel, .sentinel] true :=
  OpenClaim.laidByTextAt_later rfl rfl tie4 noOwnUnsafe
theorem productsUpto_row_tie : Rows.productsUptoRow.laidByTextAt .later Tryd.pinned [.handle, .sentinel, .sentinel, .sentinel] true :=
  OpenClaim.laidByTextAt_later rfl rfl tie noOwnUnsafe
theorem inversesUpto_row_tie : Rows.inversesUptoRow.laidByTextAt .later Tryd.pinned [.handle, .sentinel, .sentinel, .sentinel, .sentinel] true :=
  OpenClaim.laidByTextAt_later rfl rfl tie2 noOwnUnsafe
theorem rulesUpto_row_tie : Rows.rulesUptoRow.laidByTextAt .later Tryd.pinned [.handle, .sentinel, .sentinel, .sentinel, .sentinel] true :=
  OpenClaim.laidByTextAt_later rfl rfl tie2 noOwnUnsafe
theorem newsUpto_row_tie : Rows.newsUptoRow.laidByTextAt .later Tryd.pinned [.handle, .sentinel, .sentinel, .sentinel, .sentinel, .sentinel, .sentinel] true :=
  OpenClaim.laidByTextAt_later rfl rfl tie3 noOwnUnsafe
theorem checkedUpto_row_tie : Rows.checkedUptoRow.laidByTextAt .later Tryd.pinned [.handle, .sentinel, .sentinel, .sentinel, .sentinel, .sentinel, .sentinel, .sentinel] true :=
  OpenClaim.laidByTextAt_later rfl rfl tie4 noOwnUnsafe
theorem linearUpto_row_tie : Rows.linearUptoRow.laidByTextAt .later Tryd.pinned [.handle, .sentinel, .sentinel, .sentinel, .sentinel, .sentinel, .sentinel, .sentinel] true :=
  OpenClaim.laidByTextAt_later rfl rfl tie4 noOwnUnsafe
theorem apartUpto_row_tie : Rows.apartUptoRow.laidByTextAt .later Tryd.pinned [.handle, .sentinel, .sentinel, .sentinel, .sentinel, .sentinel, .sentinel, .sentinel] true :=
  OpenClaim.laidByTextAt_later rfl rfl tie4 noOwnUnsafe
theorem turnedUpto_row_tie : Rows.turnedUptoRow.laidByTextAt .later Tryd.pinned [.handle, .sentinel, .sentinel, .sentinel, .sentinel, .sentinel, .sentinel, .sentinel] true :=
  OpenClaim.laidByTextAt_later rfl rfl tie4 noOwnUnsafe
end Go.Proofs.YtnpkkcbadcmgkaaDoor
