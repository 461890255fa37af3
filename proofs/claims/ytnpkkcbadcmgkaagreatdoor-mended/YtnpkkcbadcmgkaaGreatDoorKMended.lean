import Derived.Test.YtnpkkcbadcmgkaaGreatDoorLift3
import Derived.Test.YtnpkkcbadcmgkaaGreatDoorLaidZ
import Derived.Test.YtnpkkcbadcmgkaaGreatDoorWDsk5
import Derived.Test.YtnpkkcbadcmgkaaGreatDoorWMended
namespace Go.Proofs.YtnpkkcbadcmgkaaGreatDoor
open Go.ChangeShapes Go.WideShapes Go.ChangeAt Go.RowKit

set_option maxRecDepth 100000 in
theorem mended_lifted_of (pd : (B : Nat) → Pd B) (hgl : ∀ W, laidMetH Tryz.prog Rows.mendedRow.laid W → (pd W.heap.size).Gl W) (os : Os) (started : os.Started) (H : Type) (enc : TypeId × Value → H) :
    ReturnsInHanded {} Tryz.checked os 4 .any (fun w args => (Rows.mendedSpec.pre enc Tryz.prog Tryz.f4 [] false w args ∧ laidMetH Tryz.prog Rows.mendedRow.laid w) ∧ sizedMet enc Tryz.prog Tryz.f4 (OpenSpec.ofChange Rows.mendedSpec) false w args)
      (Rows.mendedSpec.post enc Tryz.prog Tryz.f4 false true false false) := by
  refine returnsInHanded_of_change_and (C := Tryz.checked) (X := fun w _ => laidMetH Tryz.prog Rows.mendedRow.laid w) (fun _ _ _ hh h => h.of_heap hh) Tryz.own started (by kernel_rfl) Tryz.func4
    (ChangeSpec.witness_shaped (enc := enc) (C := Tryz.checked) (os := os) (X := fun w _ => laidMetH Tryz.prog Rows.mendedRow.laid w) false (World.doorLaid Tryz.prog 400 os) #[zeroP, .slice none 0 0, .slice none 0 0, .slice none 0 0] 8 rfl (World.shaped_of_RefB (by kernel_rfl) (by kernel_rfl)) (by kernel_rfl) (by kernel_rfl) (by kernel_rfl) (door_enc os _)) ?_
  intro W base args ds gs before hval0 hW _ hsz0 hL _
  have hval : ∀ (j : Nat) t v, Tryz.f4.params[j]? = some t → args[j]? = some v → Value.okWide Tryz.prog W .any base t v := hval0
  have hsz : (DataW.weightsEach Tryz.prog (Tryz.f4.params.toList ++ DataSpec.varTypes Tryz.prog Rows.mendedSpec.plain) (ds ++ gs)).all (· ≤ reachBytes) = true := hsz0
  have hW' := hW
  obtain ⟨p, q, hA0, hV, rfl, hfz, hnd⟩ := hW
  have hA : DataW.TrodAll enc Tryz.prog W 0 (fun _ => true) true Tryz.f4.params.toList args.toList ds p := hA0
  have hlt := hA.lt
  rw [Tryz.params4] at hA hval hsz
  obtain ⟨v0, v1, v2, v3, d0, d1, d2, d3, p0, p1, p2, p3, rfl, rfl, rfl, h0, h1, h2, h3⟩ := trodAll_four hA
  obtain ⟨rfl, rfl⟩ := trodVars_none hV
  obtain ⟨m, q, f, d, s, t, b, rfl⟩ := open_params (hval 0 _ v0 rfl rfl) h0
  obtain ⟨l1, r1, _, _⟩ := open_list (hval 1 _ v1 rfl rfl) h1
  obtain ⟨l2, r2, _, hd2⟩ := open_list (hval 2 _ v2 rfl rfl) h2
  obtain ⟨l3, r3, _, _⟩ := open_list (hval 3 _ v3 rfl rfl) h3
  have hl2 := list_bytes hsz (j := 2) rfl rfl hd2
  have hM := hgl W hL
  clear hA0 hval0
  refine (Mended_any (pd W.heap.size) m q f d s t b v1 v2 v3 l1 l2 l3 W hM rfl r1 r2 r3 hl2).mono fun e W' ⟨he, hb⟩ => ?_
  subst he
  exact ⟨_, rfl, _, _, _, [], p0 ++ (p1 ++ (p2 ++ p3)), [], hW', trodAll_mk1 (shut_bool Tryz.underlying4 _), trodAll_mk4 (Below.trod Tryz.laidOut (by kernel_rfl) (of_decide_eq_true (by kernel_rfl)) h0 hb (fun x hx => hlt x (by simp [hx]))) (Below.trod Tryz.laidOut (by kernel_rfl) (of_decide_eq_true (by kernel_rfl)) h1 hb (fun x hx => hlt x (by simp [hx]))) (Below.trod Tryz.laidOut (by kernel_rfl) (of_decide_eq_true (by kernel_rfl)) h2 hb (fun x hx => hlt x (by simp [hx]))) (Below.trod Tryz.laidOut (by kernel_rfl) (of_decide_eq_true (by kernel_rfl)) h3 hb (fun x hx => hlt x (by simp [hx]))), rfl, hb.frame _, fun h => by cases h⟩

theorem mended_said_of (pd : (B : Nat) → Pd B) (hgl : ∀ W, laidMetH Tryz.prog Rows.mendedRow.laid W → (pd W.heap.size).Gl W) : Rows.MendedSaid :=
  OpenClaim.holds_of_wide 4 Tryz.f4 rfl rfl rfl rfl rfl rfl rfl ⟨rfl, rfl, rfl, rfl, rfl⟩ rfl rfl rfl rfl rfl (by kernel_rfl) Tryz.func4 (by kernel_rfl)
    (of_decide_eq_true (by kernel_rfl)) (by unfold Func.isWrapper; first | (rw [if_pos (by decide +kernel)]; kernel_rfl) | (rw [if_neg (by decide +kernel)]; exact ⟨rfl, rfl⟩))
    (fun os started H enc _ => mended_lifted_of pd hgl os started H enc)

theorem mended_plain (f : FuncId) (fn : Func) (hf : Tryz.pinned.checked.prog.funcNamed "mend/mendlaw.Mended" = some f) (hfn : Tryz.pinned.checked.prog.funcs[f]? = some fn) :
    true = Tryz.pinned.checked.prog.looks [] ∧ ∀ (j : Nat) t, fn.params[j]? = some t → Tryz.pinned.checked.prog.wantsStandIn t = false := by
  obtain rfl : f = 4 := Option.some.inj ((show Tryz.prog.funcNamed "mend/mendlaw.Mended" = some 4 by kernel_rfl).symm.trans hf) |>.symm
  obtain rfl : fn = Tryz.f4 := (Option.some.inj (Tryz.func4.symm.trans hfn)).symm
  refine ⟨by kernel_rfl, fun j t ht => ?_⟩
  rw [Tryz.params4] at ht
  have ht := Array.mem_of_getElem? ht
  simp at ht
  rcases ht with rfl | rfl
  · exact plain36
  · exact plain41

theorem mended_card_of (pd : (B : Nat) → Pd B) (hgl : ∀ W, laidMetH Tryz.prog Rows.mendedRow.laid W → (pd W.heap.size).Gl W) : Rows.MendedCardSaid :=
  Claim7.holds_tied_plain_at .later [] _ _ _ _ (mended_said_of pd hgl) (fun _ h => by cases h) (by kernel_rfl) (fun _ h => by cases h) mended_row_tie rfl ⟨rfl, rfl⟩ (by kernel_rfl) rfl mended_plain (by kernel_rfl)
theorem mended_card : Rows.MendedCardSaid := mended_card_of pd (fun _ h => pd_gl (dec_met rfl h))
#print axioms mended_card
end Go.Proofs.YtnpkkcbadcmgkaaGreatDoor
