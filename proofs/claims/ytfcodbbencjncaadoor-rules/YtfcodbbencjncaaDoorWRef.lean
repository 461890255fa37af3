import Derived.Test.YtfcodbbencjncaaDoorWArith
namespace Go.Proofs.YtfcodbbencjncaaDoor
open Go.RowKit

theorem num_any (e : Int) (w : World) : Calls Tryd.prog 8 #[.int .i64 e] w fun r w' => r = .returned (.int .i64 e) ∧ w' = w := by
  go_enter Tryd.func8, Tryd.ntmps8
  go_wp2
  go_ret
  exact ⟨rfl, rfl⟩

theorem element_yes (m : Nat) (a : Int) (w : World) (hm : 3 ≤ m) (hm8 : m ≤ 8) (h0 : 0 ≤ a) (h1 : a < 2 ^ m) :
    Calls Tryd.prog 16 #[.int .i64 m, .int .i64 a] w fun r w' => r = .returned (.bool true) ∧ w' = w := by
  have hp := pow_bdI m hm hm8
  go_enter Tryd.func16, Tryd.ntmps16
  go_wp2
  go_ret
  exact ⟨rfl, rfl⟩

theorem element_neg (m : Nat) (a : Int) (w : World) (hm : 3 ≤ m) (hm8 : m ≤ 8) (h0 : a < 0) :
    Calls Tryd.prog 16 #[.int .i64 m, .int .i64 a] w fun r w' => r = .returned (.bool false) ∧ w' = w := by
  have hp := pow_bdI m hm hm8
  go_enter Tryd.func16, Tryd.ntmps16
  go_wp2
  go_ret
  exact ⟨rfl, rfl⟩

theorem element_big (m : Nat) (a : Int) (w : World) (hm : 3 ≤ m) (hm8 : m ≤ 8) (h0 : 2 ^ m ≤ a) :
    Calls Tryd.prog 16 #[.int .i64 m, .int .i64 a] w fun r w' => r = .returned (.bool false) ∧ w' = w := by
  have hp := pow_bdI m hm hm8
  have ht : decide (a < 2 ^ m) = false := by simp; omega
  go_enter Tryd.func16, Tryd.ntmps16
  go_wp2
  go_ret
  exact ⟨rfl, rfl⟩

theorem Field_m (m q : Int) (w : World) (h : m < 3 ∨ 8 < m) :
    Calls Tryd.prog 15 #[.int .i64 m, .int .i64 q] w fun r w' => r = .returned (.int .i64 1) ∧ w' = w := by
  rcases h with h | h
  all_goals
    go_enter Tryd.func15, Tryd.ntmps15
    go_wp2
    go_ret
    exact ⟨rfl, rfl⟩

theorem Field_q (m : Nat) (q : Int) (w : World) (hm : 3 ≤ m) (hm8 : m ≤ 8) (h : q / 2 ^ m ≠ 1) :
    Calls Tryd.prog 15 #[.int .i64 m, .int .i64 q] w fun r w' => r = .returned (.int .i64 2) ∧ w' = w := by
  have ht : (q / 2 ^ m != 1) = true := bne_iff_ne.2 h
  clear h
  by_cases h0 : q < 0
  · go_enter Tryd.func15, Tryd.ntmps15
    go_wp2
    go_ret
    exact ⟨rfl, rfl⟩
  · go_enter Tryd.func15, Tryd.ntmps15
    go_wp2
    go_ret
    exact ⟨rfl, rfl⟩

theorem pow_pred (m : Nat) : (2 : Int) ^ m - 1 = ((Gf.ordN m : Nat) : Int) := by
  unfold Gf.ordN
  have := Nat.two_pow_pos m
  rw [pow_cast]; omega

theorem deg_test {m q : Nat} (hd : Gf.Deg m q) : ((q : Int) / 2 ^ m != 1) = false := by
  rw [div_cast, hd.top]; rfl

/-- the powers of x below k are neither 0 nor 1. -/
def Clean (m q k : Nat) : Prop := ∀ i, 1 ≤ i → i < k → 1 < Gf.pw m q i

theorem clean_succ {m q k : Nat} (h : Clean m q k) (hk : 1 < Gf.pw m q k) : Clean m q (k + 1) := by
  intro i h1 h2
  rcases Nat.lt_or_ge i k with h3 | h3
  · exact h i h1 h3
  · have : i = k := by omega
    rw [this]; exact hk

theorem field_of_clean {m q : Nat} (hm : 3 ≤ m) (hd : Gf.Deg m q) (h : Clean m q (Gf.ordN m)) (h1 : Gf.pw m q (Gf.ordN m) = 1) : Gf.IsField m q :=
  ⟨hd, fun i h0 hi e => by have := h i h0 hi; omega, h1, by omega⟩

theorem not_field_of {m q k : Nat} (h0 : 1 ≤ k) (hk : k < Gf.ordN m) (h : Gf.pw m q k ≤ 1) : ¬ Gf.IsField m q := by
  intro F
  have h1 := F.prim k h0 hk
  have h2 := Gf.pw_ne_zero F k
  omega

theorem pw_one {m q : Nat} (hm : 3 ≤ m) (hm8 : m ≤ 8) : Gf.pw m q 1 = 2 := by
  show Gf.stepX m q 1 = 2
  have := pow_bd m hm hm8
  exact stepX_no (by rw [Nat.div_eq_of_lt (by omega)]; omega)

set_option maxHeartbeats 400000 in
theorem Field_yes (m q : Nat) (w : World) (hm : 3 ≤ m) (hm8 : m ≤ 8) (F : Gf.IsField m q) :
    Calls Tryd.prog 15 #[.int .i64 m, .int .i64 q] w fun r w' => r = .returned (.int .i64 0) ∧ w' = w := by
  have hd := hide F.toDeg
  have hF := hide F
  clear F
  have ht := deg_test (unhide hd)
  have hp := pow_bdI m hm hm8
  have hn := hide (pow_pred m)
  go_enter Tryd.func15, Tryd.ntmps15
  go_wp2
  go_loop [6, 7] (fun v i => ∃ k : Nat, 1 ≤ k ∧ k ≤ Gf.ordN m ∧ v = .int .i64 (Gf.pw m q k) ∧ i = .int .i64 k) (fun _ i => Gf.ordN m - (intOf i).toNat)
  case atStart =>
    refine ⟨1, by omega, ?_, ?_, rfl⟩
    · have := unhide hn; omega
    · rw [pw_one hm hm8]; rfl
  case round =>
    obtain ⟨k, hk1, hk2, rfl, rfl⟩ := hrel
    by_cases hlt : k < Gf.ordN m
    · have hl : (k : Int) < 2 ^ m - 1 := by rw [unhide hn]; omega
      have hv : 1 < Gf.pw m q k := by
        have h1 := (unhide hF).prim k hk1 hlt
        have h2 := Gf.pw_ne_zero (unhide hF) k
        omega
      have hv2 := hide (Gf.pw_lt (unhide hd) k)
      have hv3 : Gf.pw m q k < 256 := by have := pow_bd m hm hm8; have := unhide hv2; omega
      have HS : Hid (Gf.mul m q (Gf.pw m q k) 2 = Gf.pw m q (k + 1)) := by
        show _ = _
        rw [Gf.stepX_two (unhide hd) (by omega) (unhide hv2)]; rfl
      go_wp2_with (go_at_call 17; refine (Mul_any _ _ _ 2 _ ?_ ?_ ?_ ?_ ?_).mono ?_; exact hm; exact hm8; exact unhide hd; exact unhide hv2; decide; rintro e w' ⟨rfl, rfl⟩)
      exact ⟨⟨k + 1, by omega, by omega, by rw [unhide HS], by go_num⟩, by simp [intOf]; omega⟩
    · have hl : ¬ (k : Int) < 2 ^ m - 1 := by rw [unhide hn]; omega
      have HK : Hid (Gf.pw m q k = 1) := by
        show _ = 1
        have e : k = Gf.ordN m := by omega
        rw [e]; exact (unhide hF).last
      have t1 : ((Gf.pw m q k : Int) != 1) = false := by rw [unhide HK]; rfl
      go_wp2
      go_ret
      exact ⟨rfl, rfl⟩

set_option maxHeartbeats 400000 in
theorem Field_no (m q : Nat) (w : World) (hm : 3 ≤ m) (hm8 : m ≤ 8) (d : Gf.Deg m q) (F : ¬ Gf.IsField m q) :
    Calls Tryd.prog 15 #[.int .i64 m, .int .i64 q] w fun r w' => r = .returned (.int .i64 2) ∧ w' = w := by
  have hd := hide d
  have hF := hide F
  clear F d
  have ht := deg_test (unhide hd)
  have hp := pow_bdI m hm hm8
  have hn := hide (pow_pred m)
  go_enter Tryd.func15, Tryd.ntmps15
  go_wp2
  go_loop [6, 7] (fun v i => ∃ k : Nat, 1 ≤ k ∧ k ≤ Gf.ordN m ∧ v = .int .i64 (Gf.pw m q k) ∧ i = .int .i64 k ∧ Hid (Clean m q k)) (fun _ i => Gf.ordN m - (intOf i).toNat)
  case atStart =>
    refine ⟨1, by omega, ?_, ?_, rfl, hide fun i h1 h2 => by omega⟩
    · have := unhide hn; omega
    · rw [pw_one hm hm8]; rfl
  case round =>
    obtain ⟨k, hk1, hk2, rfl, rfl, hc⟩ := hrel
    have hv2 := hide (Gf.pw_lt (unhide hd) k)
    have hv3 : Gf.pw m q k < 256 := by have := pow_bd m hm hm8; have := unhide hv2; omega
    by_cases hlt : k < Gf.ordN m
    · have hl : (k : Int) < 2 ^ m - 1 := by rw [unhide hn]; omega
      by_cases hv : 1 < Gf.pw m q k
      · have HS : Hid (Gf.mul m q (Gf.pw m q k) 2 = Gf.pw m q (k + 1)) := by
          show _ = _
          rw [Gf.stepX_two (unhide hd) (by omega) (unhide hv2)]; rfl
        go_wp2_with (go_at_call 17; refine (Mul_any _ _ _ 2 _ ?_ ?_ ?_ ?_ ?_).mono ?_; exact hm; exact hm8; exact unhide hd; exact unhide hv2; decide; rintro e w' ⟨rfl, rfl⟩)
        exact ⟨⟨k + 1, by omega, by omega, by rw [unhide HS], by go_num, hide (clean_succ (unhide hc) hv)⟩, by simp [intOf]; omega⟩
      · go_wp2
        go_ret
        exact ⟨rfl, rfl⟩
    · have hl : ¬ (k : Int) < 2 ^ m - 1 := by rw [unhide hn]; omega
      have t1 : ((Gf.pw m q k : Int) != 1) = true := by
        rw [bne_iff_ne]
        intro e
        have e2 : k = Gf.ordN m := by omega
        subst e2
        exact unhide hF (field_of_clean hm (unhide hd) (unhide hc) (by omega))
      go_wp2
      go_ret
      exact ⟨rfl, rfl⟩

theorem ret_pair {a b a' b' : Value} (h : a = a') (k : b = b') : Ending.returned (.tuple #[a, b]) = .returned (.tuple #[a', b']) := by rw [h, k]

/-- the reference's Times: where there is no field. -/
theorem rTimes_m (m q a b : Int) (w : World) (h : m < 3 ∨ 8 < m) :
    Calls Tryd.prog 7 #[.int .i64 m, .int .i64 q, .int .i64 a, .int .i64 b] w fun r w' => r = .returned (.tuple #[.int .i64 0, .int .i64 1]) ∧ w' = w := by
  go_enter Tryd.func7, Tryd.ntmps7
  go_wp2_with (go_at_call 15; refine (Field_m _ _ _ ?_).mono ?_; exact h; rintro e w' ⟨rfl, rfl⟩)
  go_ret2
  exact ⟨rfl, rfl⟩
theorem rTimes_q (m : Nat) (q a b : Int) (w : World) (hm : 3 ≤ m) (hm8 : m ≤ 8) (h : q / 2 ^ m ≠ 1) :
    Calls Tryd.prog 7 #[.int .i64 m, .int .i64 q, .int .i64 a, .int .i64 b] w fun r w' => r = .returned (.tuple #[.int .i64 0, .int .i64 1]) ∧ w' = w := by
  have H := hide h
  clear h
  go_enter Tryd.func7, Tryd.ntmps7
  go_wp2_with (go_at_call 15; refine (Field_q _ _ _ ?_ ?_ ?_).mono ?_; exact hm; exact hm8; exact unhide H; rintro e w' ⟨rfl, rfl⟩)
  go_ret2
  exact ⟨rfl, rfl⟩
theorem rTimes_no (m q : Nat) (a b : Int) (w : World) (hm : 3 ≤ m) (hm8 : m ≤ 8) (d : Gf.Deg m q) (F : ¬ Gf.IsField m q) :
    Calls Tryd.prog 7 #[.int .i64 m, .int .i64 q, .int .i64 a, .int .i64 b] w fun r w' => r = .returned (.tuple #[.int .i64 0, .int .i64 1]) ∧ w' = w := by
  have H := hide d
  have HF := hide F
  clear d F
  go_enter Tryd.func7, Tryd.ntmps7
  go_wp2_with (go_at_call 15; refine (Field_no _ _ _ ?_ ?_ ?_ ?_).mono ?_; exact hm; exact hm8; exact unhide H; exact unhide HF; rintro e w' ⟨rfl, rfl⟩)
  go_ret2
  exact ⟨rfl, rfl⟩

/-- is no element, of one or the other ground. -/
theorem element_no (m : Nat) (a : Int) (w : World) (hm : 3 ≤ m) (hm8 : m ≤ 8) (h : ¬ (0 ≤ a ∧ a < 2 ^ m)) :
    Calls Tryd.prog 16 #[.int .i64 m, .int .i64 a] w fun r w' => r = .returned (.bool false) ∧ w' = w := by
  by_cases h0 : a < 0
  · exact element_neg m a w hm hm8 h0
  · exact element_big m a w hm hm8 (by omega)

def elemB (m : Nat) (a : Int) : Bool := decide (0 ≤ a) && decide (a < 2 ^ m)
theorem elemB_yes {m : Nat} {a : Int} (h : elemB m a = true) : 0 ≤ a ∧ a < 2 ^ m := by simpa [elemB] using h
theorem elemB_no {m : Nat} {a : Int} (h : elemB m a = false) : ¬ (0 ≤ a ∧ a < 2 ^ m) := by
  intro c
  have : elemB m a = true := by simpa [elemB] using c
  rw [h] at this; cases this
theorem elemB_nat {m a : Nat} (h : a < 2 ^ m) : elemB m a = true := by
  unfold elemB
  rw [pow_cast, decide_eq_true (by omega), decide_eq_true (by omega)]; rfl
theorem element_any (m : Nat) (a : Int) (w : World) (hm : 3 ≤ m) (hm8 : m ≤ 8) :
    Calls Tryd.prog 16 #[.int .i64 m, .int .i64 a] w fun r w' => r = .returned (.bool (elemB m a)) ∧ w' = w := by
  cases h : elemB m a
  · exact element_no m a w hm hm8 (elemB_no h)
  · exact element_yes m a w hm hm8 (elemB_yes h).1 (elemB_yes h).2

theorem rTimes_sym (m q : Nat) (a b : Int) (w : World) (hm : 3 ≤ m) (hm8 : m ≤ 8) (F : Gf.IsField m q) (h : elemB m a = false ∨ elemB m b = false) :
    Calls Tryd.prog 7 #[.int .i64 m, .int .i64 q, .int .i64 a, .int .i64 b] w fun r w' => r = .returned (.tuple #[.int .i64 0, .int .i64 3]) ∧ w' = w := by
  have HF := hide F
  clear F
  by_cases h1 : elemB m a = true
  · have h2 : elemB m b = false := by
      rcases h with h | h
      · rw [h] at h1; cases h1
      · exact h
    clear h
    go_enter Tryd.func7, Tryd.ntmps7
    go_wp2_with (first | (go_at_call 15; refine (Field_yes _ _ _ ?_ ?_ ?_).mono ?_; exact hm; exact hm8; exact unhide HF; rintro e w' ⟨rfl, rfl⟩) | (go_at_call 16; refine (element_any _ _ _ ?_ ?_).mono ?_; exact hm; exact hm8; rintro e w' ⟨rfl, rfl⟩))
    go_ret2
    exact ⟨rfl, rfl⟩
  · have h1 : elemB m a = false := by simpa using h1
    clear h
    go_enter Tryd.func7, Tryd.ntmps7
    go_wp2_with (first | (go_at_call 15; refine (Field_yes _ _ _ ?_ ?_ ?_).mono ?_; exact hm; exact hm8; exact unhide HF; rintro e w' ⟨rfl, rfl⟩) | (go_at_call 16; refine (element_any _ _ _ ?_ ?_).mono ?_; exact hm; exact hm8; rintro e w' ⟨rfl, rfl⟩))
    all_goals go_ret2
    all_goals exact ⟨rfl, rfl⟩

theorem rTimes_yes (m q a b : Nat) (w : World) (hm : 3 ≤ m) (hm8 : m ≤ 8) (F : Gf.IsField m q) (ha : a < 2 ^ m) (hb : b < 2 ^ m) :
    Calls Tryd.prog 7 #[.int .i64 m, .int .i64 q, .int .i64 a, .int .i64 b] w fun r w' => r = .returned (.tuple #[.int .i64 (Gf.mul m q a b), .int .i64 0]) ∧ w' = w := by
  have HF := hide F
  have Ha := hide ha
  have Hb := hide hb
  have h1 : elemB m a = true := elemB_nat ha
  have h2 : elemB m b = true := elemB_nat hb
  have hb8 := hide (show b < 256 by have := pow_bd m hm hm8; omega)
  clear F ha hb
  go_enter Tryd.func7, Tryd.ntmps7
  go_wp2_with (first | (go_at_call 15; refine (Field_yes _ _ _ ?_ ?_ ?_).mono ?_; exact hm; exact hm8; exact unhide HF; rintro e w' ⟨rfl, rfl⟩) | (go_at_call 16; refine (element_any _ _ _ ?_ ?_).mono ?_; exact hm; exact hm8; rintro e w' ⟨rfl, rfl⟩) | (go_at_call 17; refine (Mul_any _ _ _ _ _ ?_ ?_ ?_ ?_ ?_).mono ?_; exact hm; exact hm8; exact (unhide HF).toDeg; exact unhide Ha; exact unhide hb8; rintro e w' ⟨rfl, rfl⟩))
  go_ret2
  exact ⟨rfl, rfl⟩
end Go.Proofs.YtfcodbbencjncaaDoor
