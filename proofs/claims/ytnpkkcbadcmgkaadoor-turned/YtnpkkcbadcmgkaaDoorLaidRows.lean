import Derived.Test.YtnpkkcbadcmgkaaDoorLaid
namespace Go.Proofs.YtnpkkcbadcmgkaaDoor
open Go.ChangeShapes Go.WideShapes Go.ChangeAt Go.RowKit

def gsInv : List Nat := [2, 4]
theorem times_met {W : World} (h : laidMetH Tryd.prog Rows.productsRow.laid W) : Laid gsTimes W :=
  (base_met h rfl rfl).add (sen_in (n := "mend/field.ErrElement") (by kernel_rfl) (by kernel_rfl) rfl h)
theorem inv_met {W : World} (h : laidMetH Tryd.prog Rows.inversesRow.laid W) : Laid gsInv W :=
  ((base_met h rfl rfl).add (sen_in (n := "mend/field.ErrZero") (by kernel_rfl) (by kernel_rfl) rfl h)).add (sen_in (n := "mend/field.ErrElement") (by kernel_rfl) (by kernel_rfl) rfl h)
theorem new_met {W : World} (h : laidMetH Tryd.prog Rows.newsRow.laid W) : Laid gsNew W :=
  ((base_met h rfl rfl).add (sen_in (n := "mend/mend.errNoMessage") (by kernel_rfl) (by kernel_rfl) rfl h)).add (sen_in (n := "mend/mend.errRange") (by kernel_rfl) (by kernel_rfl) rfl h)
theorem enc_met {W : World} (h : laidMetH Tryd.prog Rows.checkedRow.laid W) : Laid gsEnc W :=
  (((((base_met h rfl rfl).add (sen_in (n := "mend/field.ErrBit") (by kernel_rfl) (by kernel_rfl) rfl h)).add (sen_in (n := "mend/field.ErrElement") (by kernel_rfl) (by kernel_rfl) rfl h)).add (sen_in (n := "mend/mend.errSize") (by kernel_rfl) (by kernel_rfl) rfl h)).add (sen_in (n := "mend/mend.errNoMessage") (by kernel_rfl) (by kernel_rfl) rfl h)).add (sen_in (n := "mend/mend.errRange") (by kernel_rfl) (by kernel_rfl) rfl h)

/-- The door's own heap meets the condition. -/
theorem door_times (os : Os) (args : Array Value) : laidMetH Tryd.prog Rows.productsRow.laid ((World.doorLaid Tryd.prog 400 os).forCall (fun _ _ => 0) ⟨#[], args, []⟩).memory :=
  laidMetH_of_parts3 (fuel := 8) (laidMet_of_run' 8 (by kernel_rfl) (by kernel_rfl)) (by kernel_rfl) (by kernel_rfl)
theorem door_inv (os : Os) (args : Array Value) : laidMetH Tryd.prog Rows.inversesRow.laid ((World.doorLaid Tryd.prog 400 os).forCall (fun _ _ => 0) ⟨#[], args, []⟩).memory :=
  laidMetH_of_parts3 (fuel := 8) (laidMet_of_run' 8 (by kernel_rfl) (by kernel_rfl)) (by kernel_rfl) (by kernel_rfl)
theorem door_new (os : Os) (args : Array Value) : laidMetH Tryd.prog Rows.newsRow.laid ((World.doorLaid Tryd.prog 400 os).forCall (fun _ _ => 0) ⟨#[], args, []⟩).memory :=
  laidMetH_of_parts3 (fuel := 8) (laidMet_of_run' 8 (by kernel_rfl) (by kernel_rfl)) (by kernel_rfl) (by kernel_rfl)
theorem door_enc (os : Os) (args : Array Value) : laidMetH Tryd.prog Rows.checkedRow.laid ((World.doorLaid Tryd.prog 400 os).forCall (fun _ _ => 0) ⟨#[], args, []⟩).memory :=
  laidMetH_of_parts3 (fuel := 8) (laidMet_of_run' 8 (by kernel_rfl) (by kernel_rfl)) (by kernel_rfl) (by kernel_rfl)
end Go.Proofs.YtnpkkcbadcmgkaaDoor
