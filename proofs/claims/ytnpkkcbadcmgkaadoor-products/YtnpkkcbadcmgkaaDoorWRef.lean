import Derived.Test.YtnpkkcbadcmgkaaDoorWBase
namespace Go.Proofs.YtnpkkcbadcmgkaaDoor
open Go.RowKit

theorem ret_pair {a b a' b' : Value} (h : a = a') (k : b = b') : Ending.returned (.tuple #[a, b]) = .returned (.tuple #[a', b']) := by rw [h, k]

/-- the reference's Times: where there is no field. -/
theorem rTimes_m (m q a b : Int) (w : World) (h : m < 3 ∨ 8 < m) :
    Calls Tryd.prog 12 #[.int .i64 m, .int .i64 q, .int .i64 a, .int .i64 b] w fun r w' => r = .returned (.tuple #[.int .i64 0, .int .i64 1]) ∧ w' = w := by
  go_enter Tryd.func12, Tryd.ntmps12
  go_wp2_with (go_at_call 30; refine (Field_m _ _ _ ?_).mono ?_; exact h; rintro e w' ⟨rfl, rfl⟩)
  go_ret2
  exact ⟨rfl, rfl⟩
theorem rTimes_q (m : Nat) (q a b : Int) (w : World) (hm : 3 ≤ m) (hm8 : m ≤ 8) (h : q / 2 ^ m ≠ 1) :
    Calls Tryd.prog 12 #[.int .i64 m, .int .i64 q, .int .i64 a, .int .i64 b] w fun r w' => r = .returned (.tuple #[.int .i64 0, .int .i64 1]) ∧ w' = w := by
  have H := hide h
  clear h
  go_enter Tryd.func12, Tryd.ntmps12
  go_wp2_with (go_at_call 30; refine (Field_q _ _ _ ?_ ?_ ?_).mono ?_; exact hm; exact hm8; exact unhide H; rintro e w' ⟨rfl, rfl⟩)
  go_ret2
  exact ⟨rfl, rfl⟩
theorem rTimes_no (m q : Nat) (a b : Int) (w : World) (hm : 3 ≤ m) (hm8 : m ≤ 8) (d : Gf.Deg m q) (F : ¬ Gf.IsField m q) :
    Calls Tryd.prog 12 #[.int .i64 m, .int .i64 q, .int .i64 a, .int .i64 b] w fun r w' => r = .returned (.tuple #[.int .i64 0, .int .i64 1]) ∧ w' = w := by
  have H := hide d
  have HF := hide F
  clear d F
  go_enter Tryd.func12, Tryd.ntmps12
  go_wp2_with (go_at_call 30; refine (Field_no _ _ _ ?_ ?_ ?_ ?_).mono ?_; exact hm; exact hm8; exact unhide H; exact unhide HF; rintro e w' ⟨rfl, rfl⟩)
  go_ret2
  exact ⟨rfl, rfl⟩

theorem rTimes_sym (m q : Nat) (a b : Int) (w : World) (hm : 3 ≤ m) (hm8 : m ≤ 8) (F : Gf.IsField m q) (h : elemB m a = false ∨ elemB m b = false) :
    Calls Tryd.prog 12 #[.int .i64 m, .int .i64 q, .int .i64 a, .int .i64 b] w fun r w' => r = .returned (.tuple #[.int .i64 0, .int .i64 3]) ∧ w' = w := by
  have HF := hide F
  clear F
  by_cases h1 : elemB m a = true
  · have h2 : elemB m b = false := by
      rcases h with h | h
      · rw [h] at h1; cases h1
      · exact h
    clear h
    go_enter Tryd.func12, Tryd.ntmps12
    go_wp2_with (first | (go_at_call 30; refine (Field_yes _ _ _ ?_ ?_ ?_).mono ?_; exact hm; exact hm8; exact unhide HF; rintro e w' ⟨rfl, rfl⟩) | (go_at_call 31; refine (element_any _ _ _ ?_ ?_).mono ?_; exact hm; exact hm8; rintro e w' ⟨rfl, rfl⟩))
    go_ret2
    exact ⟨rfl, rfl⟩
  · have h1 : elemB m a = false := by simpa using h1
    clear h
    go_enter Tryd.func12, Tryd.ntmps12
    go_wp2_with (first | (go_at_call 30; refine (Field_yes _ _ _ ?_ ?_ ?_).mono ?_; exact hm; exact hm8; exact unhide HF; rintro e w' ⟨rfl, rfl⟩) | (go_at_call 31; refine (element_any _ _ _ ?_ ?_).mono ?_; exact hm; exact hm8; rintro e w' ⟨rfl, rfl⟩))
    all_goals go_ret2
    all_goals exact ⟨rfl, rfl⟩

theorem rTimes_yes (m q a b : Nat) (w : World) (hm : 3 ≤ m) (hm8 : m ≤ 8) (F : Gf.IsField m q) (ha : a < 2 ^ m) (hb : b < 2 ^ m) :
    Calls Tryd.prog 12 #[.int .i64 m, .int .i64 q, .int .i64 a, .int .i64 b] w fun r w' => r = .returned (.tuple #[.int .i64 (Gf.mul m q a b), .int .i64 0]) ∧ w' = w := by
  have HF := hide F
  have Ha := hide ha
  have Hb := hide hb
  have h1 : elemB m a = true := elemB_nat ha
  have h2 : elemB m b = true := elemB_nat hb
  have hb8 := hide (show b < 256 by have := pow_bd m hm hm8; omega)
  clear F ha hb
  go_enter Tryd.func12, Tryd.ntmps12
  go_wp2_with (first | (go_at_call 30; refine (Field_yes _ _ _ ?_ ?_ ?_).mono ?_; exact hm; exact hm8; exact unhide HF; rintro e w' ⟨rfl, rfl⟩) | (go_at_call 31; refine (element_any _ _ _ ?_ ?_).mono ?_; exact hm; exact hm8; rintro e w' ⟨rfl, rfl⟩) | (go_at_call 32; refine (Mul_any _ _ _ _ _ ?_ ?_ ?_ ?_ ?_).mono ?_; exact hm; exact hm8; exact (unhide HF).toDeg; exact unhide Ha; exact unhide hb8; rintro e w' ⟨rfl, rfl⟩))
  go_ret2
  exact ⟨rfl, rfl⟩
end Go.Proofs.YtnpkkcbadcmgkaaDoor
