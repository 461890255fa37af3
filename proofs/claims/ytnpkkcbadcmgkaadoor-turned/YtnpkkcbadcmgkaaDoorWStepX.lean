import Derived.Test.YtnpkkcbadcmgkaaDoorWBase
namespace Go.Proofs.YtnpkkcbadcmgkaaDoor
open Go.RowKit

set_option maxHeartbeats 400000 in
theorem timesX_any (m q a : Nat) (w : World) (hm : 3 ≤ m) (hm8 : m ≤ 8) (ha : a < 256) (hq : q < 512) :
    Calls Tryd.prog 79 #[.int .i64 a, .int .i64 m, .int .i64 q] w fun e w' => e = .returned (.int .i64 (Gf.stepX m q a)) ∧ w' = w := by
  by_cases h : 2 * a / 2 ^ m = 1
  · have ht : ((a : Int) * 2 / 2 ^ m == 1) = true := by rw [step_test, decide_eq_true h]
    have H : Hid (2 * a / 2 ^ m = 1) := h
    clear h
    go_enter Tryd.func79, Tryd.ntmps79
    go_wp2
    go_ret
    refine ⟨ret_int ?_, rfl⟩
    rw [stepX_yes H.out, show (a : Int) * 2 = ((2 * a : Nat) : Int) by omega, xor_i64 _ _ (by omega) (by omega)]
  · have ht : ((a : Int) * 2 / 2 ^ m == 1) = false := by rw [step_test, decide_eq_false h]
    have H : Hid (¬ 2 * a / 2 ^ m = 1) := h
    clear h
    go_enter Tryd.func79, Tryd.ntmps79
    go_wp2
    go_ret
    refine ⟨ret_int ?_, rfl⟩
    rw [stepX_no H.out]; omega
end Go.Proofs.YtnpkkcbadcmgkaaDoor
