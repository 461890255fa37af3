import Derived.Test.YtnpkkcbadcmgkaaDoorWRef
namespace Go.Proofs.YtnpkkcbadcmgkaaDoor
open Go.RowKit

theorem rInv_m (m q a : Int) (w : World) (h : m < 3 ∨ 8 < m) :
    Calls Tryd.prog 15 #[.int .i64 m, .int .i64 q, .int .i64 a] w fun r w' => r = .returned (.tuple #[.int .i64 0, .int .i64 1]) ∧ w' = w := by
  go_enter Tryd.func15, Tryd.ntmps15
  go_wp2_with (go_at_call 30; refine (Field_m _ _ _ ?_).mono ?_; exact h; rintro e w' ⟨rfl, rfl⟩)
  go_ret2
  exact ⟨rfl, rfl⟩
theorem rInv_q (m : Nat) (q a : Int) (w : World) (hm : 3 ≤ m) (hm8 : m ≤ 8) (h : q / 2 ^ m ≠ 1) :
    Calls Tryd.prog 15 #[.int .i64 m, .int .i64 q, .int .i64 a] w fun r w' => r = .returned (.tuple #[.int .i64 0, .int .i64 1]) ∧ w' = w := by
  have H := hide h
  clear h
  go_enter Tryd.func15, Tryd.ntmps15
  go_wp2_with (go_at_call 30; refine (Field_q _ _ _ ?_ ?_ ?_).mono ?_; exact hm; exact hm8; exact unhide H; rintro e w' ⟨rfl, rfl⟩)
  go_ret2
  exact ⟨rfl, rfl⟩
theorem rInv_no (m q : Nat) (a : Int) (w : World) (hm : 3 ≤ m) (hm8 : m ≤ 8) (d : Gf.Deg m q) (F : ¬ Gf.IsField m q) :
    Calls Tryd.prog 15 #[.int .i64 m, .int .i64 q, .int .i64 a] w fun r w' => r = .returned (.tuple #[.int .i64 0, .int .i64 1]) ∧ w' = w := by
  have H := hide d
  have HF := hide F
  clear d F
  go_enter Tryd.func15, Tryd.ntmps15
  go_wp2_with (go_at_call 30; refine (Field_no _ _ _ ?_ ?_ ?_ ?_).mono ?_; exact hm; exact hm8; exact unhide H; exact unhide HF; rintro e w' ⟨rfl, rfl⟩)
  go_ret2
  exact ⟨rfl, rfl⟩
theorem rInv_sym (m q : Nat) (a : Int) (w : World) (hm : 3 ≤ m) (hm8 : m ≤ 8) (F : Gf.IsField m q) (h : elemB m a = false ∨ a = 0) :
    Calls Tryd.prog 15 #[.int .i64 m, .int .i64 q, .int .i64 a] w fun r w' => r = .returned (.tuple #[.int .i64 0, .int .i64 3]) ∧ w' = w := by
  have HF := hide F
  clear F
  by_cases h1 : elemB m a = true
  · have h2 : a = 0 := by
      rcases h with h | h
      · rw [h] at h1; cases h1
      · exact h
    clear h
    subst h2
    go_enter Tryd.func15, Tryd.ntmps15
    go_wp2_with (first | (go_at_call 30; refine (Field_yes _ _ _ ?_ ?_ ?_).mono ?_; exact hm; exact hm8; exact unhide HF; rintro e w' ⟨rfl, rfl⟩) | (go_at_call 31; refine (element_any _ _ _ ?_ ?_).mono ?_; exact hm; exact hm8; rintro e w' ⟨rfl, rfl⟩))
    go_ret2
    exact ⟨rfl, rfl⟩
  · have h1 : elemB m a = false := by simpa using h1
    clear h
    go_enter Tryd.func15, Tryd.ntmps15
    go_wp2_with (first | (go_at_call 30; refine (Field_yes _ _ _ ?_ ?_ ?_).mono ?_; exact hm; exact hm8; exact unhide HF; rintro e w' ⟨rfl, rfl⟩) | (go_at_call 31; refine (element_any _ _ _ ?_ ?_).mono ?_; exact hm; exact hm8; rintro e w' ⟨rfl, rfl⟩))
    go_ret2
    exact ⟨rfl, rfl⟩

set_option maxHeartbeats 400000 in
theorem rInv_yes (m q a c : Nat) (w : World) (hm : 3 ≤ m) (hm8 : m ≤ 8) (F : Gf.IsField m q) (ha : a < 2 ^ m) (hc : c < 2 ^ m) (h0 : a ≠ 0) (hac : Gf.mul m q a c = 1) :
    Calls Tryd.prog 15 #[.int .i64 m, .int .i64 q, .int .i64 a] w fun r w' => r = .returned (.tuple #[.int .i64 c, .int .i64 0]) ∧ w' = w := by
  have HF := hide F
  have Ha := hide ha
  have Hc := hide hc
  have Hac := hide hac
  have h1 : elemB m a = true := elemB_nat ha
  have hb8 := pow_bdI m hm hm8
  have h0' : ((a : Int) == 0) = false := by simpa using h0
  have hc0 : 1 ≤ c := by
    rcases Nat.eq_zero_or_pos c with e | e
    · subst e; rw [Gf.mul_zero] at hac; cases hac
    · exact e
  clear F ha hc hac h0
  go_enter Tryd.func15, Tryd.ntmps15
  go_wp2_with (first | (go_at_call 30; refine (Field_yes _ _ _ ?_ ?_ ?_).mono ?_; exact hm; exact hm8; exact unhide HF; rintro e w' ⟨rfl, rfl⟩) | (go_at_call 31; refine (element_any _ _ _ ?_ ?_).mono ?_; exact hm; exact hm8; rintro e w' ⟨rfl, rfl⟩))
  go_loop [9] (fun i => ∃ k : Nat, 1 ≤ k ∧ k ≤ c ∧ i = .int .i64 k) (fun i => c - (intOf i).toNat)
  case atStart => exact ⟨1, by omega, hc0, rfl⟩
  case round =>
    obtain ⟨k, hk1, hk2, rfl⟩ := hrel
    have hk3 : k < 2 ^ m := by have := unhide Hc; omega
    have hl : (k : Int) < 2 ^ m := by rw [pow_cast]; omega
    have Hk := hide (show k < 256 by have := pow_bd m hm hm8; omega)
    by_cases hkc : k = c
    · subst hkc
      have t1 : ((Gf.mul m q a k : Int) == 1) = true := by rw [unhide Hac]; rfl
      clear hk3 hk2
      go_wp2_with (go_at_call 32; refine (Mul_any _ _ _ _ _ ?_ ?_ ?_ ?_ ?_).mono ?_; exact hm; exact hm8; exact (unhide HF).toDeg; exact unhide Ha; exact unhide Hk; rintro e w' ⟨rfl, rfl⟩)
      go_ret2
      exact ⟨rfl, rfl⟩
    · have t1 : ((Gf.mul m q a k : Int) == 1) = false := by
        rw [beq_cast_one]
        exact decide_eq_false fun e => hkc (Gf.inv_unique (unhide HF) (unhide Ha) hk3 (unhide Hc) e (unhide Hac))
      have Hkc := hide (show k < c by omega)
      clear hkc hk3
      go_wp2_with (go_at_call 32; refine (Mul_any _ _ _ _ _ ?_ ?_ ?_ ?_ ?_).mono ?_; exact hm; exact hm8; exact (unhide HF).toDeg; exact unhide Ha; exact unhide Hk; rintro e w' ⟨rfl, rfl⟩)
      exact ⟨⟨k + 1, by omega, by have := unhide Hkc; omega, by go_num⟩, by have := unhide Hkc; simp [intOf]; omega⟩
end Go.Proofs.YtnpkkcbadcmgkaaDoor
