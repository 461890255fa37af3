import Derived.Test.YtnpkkcbadcmgkaaGreatDoorLaid
import Derived.Test.YtnpkkcbadcmgkaaGreatDoorWDsk4
namespace Go.Proofs.YtnpkkcbadcmgkaaGreatDoor
open Go.ChangeShapes Go.WideShapes Go.ChangeAt Go.RowKit

theorem dec_met {W : World} {l : List (String × DataW Unit)} (hl : l = Rows.encodesRow.laid) (h : laidMetH Tryz.prog l W) : Laid gsDec W := by
  subst hl
  exact ((((((((((base_met h rfl rfl).add (sen_in (n := "mend/mend.errNotZero") (by kernel_rfl) (by kernel_rfl) rfl h)).add (sen_in (n := "mend/mend.errTurns") (by kernel_rfl) (by kernel_rfl) rfl h)).add (sen_in (n := "mend/mend.errLosses") (by kernel_rfl) (by kernel_rfl) rfl h)).add (sen_in (n := "mend/mend.errOrder") (by kernel_rfl) (by kernel_rfl) rfl h)).add (sen_in (n := "mend/mend.errNoPlace") (by kernel_rfl) (by kernel_rfl) rfl h)).add (sen_in (n := "mend/field.ErrBit") (by kernel_rfl) (by kernel_rfl) rfl h)).add (sen_in (n := "mend/field.ErrElement") (by kernel_rfl) (by kernel_rfl) rfl h)).add (sen_in (n := "mend/mend.errSize") (by kernel_rfl) (by kernel_rfl) rfl h)).add (sen_in (n := "mend/mend.errNoMessage") (by kernel_rfl) (by kernel_rfl) rfl h)).add (sen_in (n := "mend/mend.errRange") (by kernel_rfl) (by kernel_rfl) rfl h)
/-- The door's own heap meets the condition. -/
theorem door_enc (os : Os) (args : Array Value) : laidMetH Tryz.prog Rows.encodesRow.laid ((World.doorLaid Tryz.prog 400 os).forCall (fun _ _ => 0) ⟨#[], args, []⟩).memory :=
  laidMetH_of_parts3 (fuel := 8) (laidMet_of_run' 8 (by kernel_rfl) (by kernel_rfl)) (by kernel_rfl) (by kernel_rfl)
end Go.Proofs.YtnpkkcbadcmgkaaGreatDoor
