import Derived.Test.YtnpkkcbadcmgkabGreatDoorWOps
import Derived.Test.YtnpkkcbadcmgkabGreatDoorWDsk5
import Derived.Test.YtnpkkcbadcmgkabGreatDoorLaid
import Derived.Test.YtnpkkcbadcmgkabGreatDoorCards
import Derived.Test.YtnpkkcbadcmgkabGreatDoorTie
import Derived.ProofKit
import Derived.LaidMore
import Derived.LaidLaws
import Derived.LaidHandle
import Derived.LaidSub
import Derived.Stop.Joined
import Derived.SevenTiedAt
namespace Go.Proofs.YtnpkkcbadcmgkabGreatDoor
open Go.ChangeShapes Go.WideShapes Go.ChangeAt Go.RowKit

theorem all_own : ownKnob Tryz.prog.godebug = none := by kernel_rfl
theorem all_met {W : World} (h : laidMetH Tryz.prog Rows.allRow.laid W) : Laid gsDec W :=
  ((((((((((base_met h rfl rfl).add (sen_in (n := "mend/mend.errNotZero") (by kernel_rfl) (by kernel_rfl) rfl h)).add (sen_in (n := "mend/mend.errTurns") (by kernel_rfl) (by kernel_rfl) rfl h)).add (sen_in (n := "mend/mend.errLosses") (by kernel_rfl) (by kernel_rfl) rfl h)).add (sen_in (n := "mend/mend.errOrder") (by kernel_rfl) (by kernel_rfl) rfl h)).add (sen_in (n := "mend/mend.errNoPlace") (by kernel_rfl) (by kernel_rfl) rfl h)).add (sen_in (n := "mend/field.ErrBit") (by kernel_rfl) (by kernel_rfl) rfl h)).add (sen_in (n := "mend/field.ErrElement") (by kernel_rfl) (by kernel_rfl) rfl h)).add (sen_in (n := "mend/mend.errSize") (by kernel_rfl) (by kernel_rfl) rfl h)).add (sen_in (n := "mend/mend.errNoMessage") (by kernel_rfl) (by kernel_rfl) rfl h)).add (sen_in (n := "mend/mend.errRange") (by kernel_rfl) (by kernel_rfl) rfl h)
/-- The door's own heap meets the condition. -/
theorem door_all (os : Os) (args : Array Value) : laidMetH Tryz.prog Rows.allRow.laid ((World.doorLaid Tryz.prog 400 os).forCall (fun _ _ => 0) ⟨#[], args, []⟩).memory :=
  laidMetH_of_parts3 (fuel := 8) (laidMet_of_run' 8 (by kernel_rfl) (by kernel_rfl)) (by kernel_rfl) (by kernel_rfl)
theorem Tryz.laidOut : laidOutB Tryz.prog = true := by kernel_rfl

set_option maxRecDepth 100000 in
theorem all_lifted_of (pd : (B : Nat) → Pd B) (hgl : ∀ W, laidMetH Tryz.prog Rows.allRow.laid W → (pd W.heap.size).Gl W) (os : Os) (started : os.Started) (H : Type) (enc : TypeId × Value → H) :
    ReturnsInHanded {} Tryz.checked os 3 .any (fun w args => (Rows.allSpec.pre enc Tryz.prog Tryz.f3 [] false w args ∧ laidMetH Tryz.prog Rows.allRow.laid w) ∧ sizedMet enc Tryz.prog Tryz.f3 (OpenSpec.ofChange Rows.allSpec) false w args)
      (Rows.allSpec.post enc Tryz.prog Tryz.f3 false true false false) := by
  refine returnsInHanded_of_change_and (C := Tryz.checked) (X := fun w _ => laidMetH Tryz.prog Rows.allRow.laid w) (fun _ _ _ hh h => h.of_heap hh) all_own started (by kernel_rfl) Tryz.func3
    (ChangeSpec.witness_shaped (enc := enc) (C := Tryz.checked) (os := os) (X := fun w _ => laidMetH Tryz.prog Rows.allRow.laid w) false (World.doorLaid Tryz.prog 400 os) #[.slice none 0 0] 8 rfl (World.shaped_of_RefB (by kernel_rfl) (by kernel_rfl)) (by kernel_rfl) (by kernel_rfl) (by kernel_rfl) (door_all os _)) ?_
  intro W base args ds gs before hval0 hW _ hsz0 hL _
  have hval : ∀ (j : Nat) t v, Tryz.f3.params[j]? = some t → args[j]? = some v → Value.okWide Tryz.prog W .any base t v := hval0
  have hsz : (DataW.weightsEach Tryz.prog (Tryz.f3.params.toList ++ DataSpec.varTypes Tryz.prog Rows.allSpec.plain) (ds ++ gs)).all (· ≤ reachBytes) = true := hsz0
  have hW' := hW
  obtain ⟨p, q, hA0, hV, rfl, hfz, hnd⟩ := hW
  have hA : DataW.TrodAll enc Tryz.prog W 0 (fun _ => true) true Tryz.f3.params.toList args.toList ds p := hA0
  have hlt := hA.lt
  rw [Tryz.params3] at hA hval hsz
  obtain ⟨v0, d0, rfl, rfl, h0⟩ := trodAll_one hA
  obtain ⟨rfl, rfl⟩ := trodVars_none hV
  obtain ⟨L, hS⟩ := open_script (hval 0 _ v0 rfl rfl) h0 (fun n hn => by simpa using List.all_eq_true.1 hsz n (DataW.weights_mem_each (j := 0) rfl rfl n hn))
  have hM := hgl W hL
  clear hA0 hval0
  refine (All_any (pd W.heap.size) v0 L W hM rfl hS).mono fun e W' ⟨he, hb⟩ => ?_
  subst he
  exact ⟨_, rfl, _, _, _, [], p, [], hW', trodAll_mk1 (shut_bool Tryz.underlying4 _), trodAll_mk1 (Below.trod Tryz.laidOut (by kernel_rfl) (of_decide_eq_true (by kernel_rfl)) h0 hb (fun x hx => hlt x (by simp [hx]))), rfl, hb.frame _, fun h => by cases h⟩

theorem all_said_of (pd : (B : Nat) → Pd B) (hgl : ∀ W, laidMetH Tryz.prog Rows.allRow.laid W → (pd W.heap.size).Gl W) : Rows.AllSaid :=
  OpenClaim.holds_of_wide 3 Tryz.f3 rfl rfl rfl rfl rfl rfl rfl ⟨rfl, rfl, rfl, rfl, rfl⟩ rfl rfl rfl rfl rfl (by kernel_rfl) Tryz.func3 (by kernel_rfl)
    (of_decide_eq_true (by kernel_rfl)) (by unfold Func.isWrapper; first | (rw [if_pos (by decide +kernel)]; kernel_rfl) | (rw [if_neg (by decide +kernel)]; exact ⟨rfl, rfl⟩))
    (fun os started H enc _ => all_lifted_of pd hgl os started H enc)

theorem plainOp : Tryz.prog.wantsStandIn 22 = false := by kernel_rfl
theorem all_plain (f : FuncId) (fn : Func) (hf : Tryz.pinned.checked.prog.funcNamed "mend/mendlaw.All" = some f) (hfn : Tryz.pinned.checked.prog.funcs[f]? = some fn) :
    true = Tryz.pinned.checked.prog.looks [] ∧ ∀ (j : Nat) t, fn.params[j]? = some t → Tryz.pinned.checked.prog.wantsStandIn t = false := by
  obtain rfl : f = 3 := Option.some.inj ((show Tryz.prog.funcNamed "mend/mendlaw.All" = some 3 by kernel_rfl).symm.trans hf) |>.symm
  obtain rfl : fn = Tryz.f3 := (Option.some.inj (Tryz.func3.symm.trans hfn)).symm
  refine ⟨by kernel_rfl, fun j t ht => ?_⟩
  rw [Tryz.params3] at ht
  have ht := Array.mem_of_getElem? ht
  simp at ht
  subst ht
  exact plainOp

theorem all_card_of (pd : (B : Nat) → Pd B) (hgl : ∀ W, laidMetH Tryz.prog Rows.allRow.laid W → (pd W.heap.size).Gl W) : Rows.AllCardSaid :=
  Claim7.holds_tied_plain_at .later [] _ _ _ _ (all_said_of pd hgl) (fun _ h => by cases h) (by kernel_rfl) (fun _ h => by cases h) all_row_tie rfl ⟨rfl, rfl⟩ (by kernel_rfl) rfl all_plain (by kernel_rfl)
theorem all_card : Rows.AllCardSaid := all_card_of pd (fun _ h => pd_gl (all_met h))
#print axioms all_card
end Go.Proofs.YtnpkkcbadcmgkabGreatDoor
