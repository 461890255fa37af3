import Derived.Test.YtnpkkcbadcmgkaaGreatDoorProg
import Derived.Test.YtnpkkcbadcmgkaaGreatDoorCast
import Derived.WalkKit
import Derived.WalkSpells
import Derived.WalkLawsBesides
namespace Go.Proofs.YtnpkkcbadcmgkaaGreatDoor
open Go.RowKit

theorem hide {p : Prop} (h : p) : Hid p := h
theorem unhide {p : Prop} (h : Hid p) : p := h
theorem lt_of_cell {w : World} {a : Addr} {v : Value} (h : w.cell? a = some v) : a.block < w.heap.size := by
  rcases Nat.lt_or_ge a.block w.heap.size with h' | h'
  · exact h'
  · simp [World.cell?, Array.getElem?_eq_none h'] at h
theorem below_of_drewN (B : Nat) (w : World) (d : Nat) : Below B w (w.drewN d) := by
  refine ⟨?_, ?_, ?_, ?_, fun k _ => ?_⟩ <;> simp [World.drewN]
theorem Below.join {w w1 w2 : World} (h : Below w.heap.size w w1) (k : Below w1.heap.size w1 w2) : Below w.heap.size w w2 := h.trans (k.mono h.size)
theorem ret_int {k : IntKind} {a b : Int} (h : a = b) : Ending.returned (.int k a) = .returned (.int k b) := by rw [h]

set_option maxHeartbeats 400000 in
theorem Mul_any (m q a b : Nat) (w : World) (hm : 3 ≤ m) (hm8 : m ≤ 8) (hd : Gf.Deg m q) (ha : a < 2 ^ m) (hb : b < 256) :
    Calls Tryz.prog 63 #[.int .i64 m, .int .i64 q, .int .i64 a, .int .i64 b] w fun e w' => e = .returned (.int .i64 (Gf.mul m q a b)) ∧ w' = w := by
  have hp := pow_bd m hm hm8
  have hq : q < 512 := by have := Gf.deg_hi hd; omega
  have ha' : a < 256 := by omega
  have hacc : ∀ j, Gf.acc m q a b j < 256 := fun j => by have := Gf.acc_lt (b := b) hd ha j; omega
  have HD := hide hd
  have HA := hide ha
  have HAC := hide hacc
  clear hd ha hp hacc
  go_enter Tryz.func63, Tryz.ntmps63
  go_wp2
  go_loop [9, 10] (fun v i => ∃ j k : Nat, j + k = m ∧ v = .int .i64 (Gf.acc m q a b j) ∧ i = .int .i64 ((k : Int) - 1)) (fun _ i => (intOf i + 1).toNat)
  case atStart => exact ⟨0, m, by omega, rfl, rfl⟩
  case round =>
    obtain ⟨j, k, hjk, rfl, rfl⟩ := hrel
    have hv := unhide HAC j
    rcases Nat.eq_zero_or_pos k with hk | hk
    · subst hk
      have HJ : Hid (j = m) := by show j = m; omega
      clear hjk
      go_wp2
      go_ret
      refine ⟨ret_int ?_, rfl⟩
      rw [HJ.out]; rfl
    · obtain ⟨i, rfl⟩ : ∃ i, k = i + 1 := ⟨k - 1, by omega⟩
      have ei : (((i + 1 : Nat) : Int) - 1) = (i : Int) := by omega
      rw [ei]
      clear ei hk
      have HI : Hid (m - 1 - j = i) := by show m - 1 - j = i; omega
      have HJ := hide hjk
      have hi8 : i < 8 := by omega
      clear hjk
      have hb0 : 0 ≤ (b : Int) / 2 ^ i := by rw [div_cast]; exact Int.natCast_nonneg _
      have hb1 : (b : Int) / 2 ^ i ≤ 255 := by rw [div_cast]; have := Nat.div_le_self b (2 ^ i); generalize b / 2 ^ i = t at this ⊢; omega
      have HS : Hid (Gf.acc m q a b (j + 1) = Gf.stepX m q (Gf.acc m q a b j) ^^^ (if b / 2 ^ (m - 1 - j) % 2 = 1 then a else 0)) := rfl
      have HB : Hid (Gf.stepX m q (Gf.acc m q a b j) < 512) := by
        have := Gf.stepX_lt (unhide HD) (Gf.acc_lt (b := b) (unhide HD) (unhide HA) j)
        have := pow_bd m hm hm8
        show _ < 512
        omega
      clear HAC HD HA
      generalize hv0 : Gf.acc m q a b j = v at *
      clear hv0
      by_cases h1 : 2 * v / 2 ^ m = 1 <;> by_cases h2 : b / 2 ^ i % 2 = 1
      · have t1 : ((2 * (v : Int)) / 2 ^ m == 1) = true := by rw [step_test', decide_eq_true h1]
        have t2 : ((b : Int) / 2 ^ i % 2 == 1) = true := by rw [bit_test, decide_eq_true h2]
        have H1 := hide h1
        have H2 := hide h2
        clear h1 h2
        go_wp2
        refine ⟨⟨j + 1, i, by have := HJ.out; omega, ?_, rfl⟩, by simp [intOf]⟩
        have e := HS.out
        rw [HI.out, if_pos H2.out, stepX_yes H1.out] at e
        have hx : 2 * v ^^^ q < 512 := Nat.xor_lt_two_pow (n := 9) (by omega) (by omega)
        rw [e, show 2 * (v : Int) = ((2 * v : Nat) : Int) by omega, xor_i64 _ _ (by omega) (by omega), xor_i64 _ _ (by omega) (by omega)]
      · have t1 : ((2 * (v : Int)) / 2 ^ m == 1) = true := by rw [step_test', decide_eq_true h1]
        have t2 : ((b : Int) / 2 ^ i % 2 == 1) = false := by rw [bit_test, decide_eq_false h2]
        have H1 := hide h1
        have H2 := hide h2
        clear h1 h2
        go_wp2
        refine ⟨⟨j + 1, i, by have := HJ.out; omega, ?_, rfl⟩, by simp [intOf]⟩
        have e := HS.out
        rw [HI.out, if_neg H2.out, stepX_yes H1.out] at e
        rw [e, show 2 * (v : Int) = ((2 * v : Nat) : Int) by omega, xor_i64 _ _ (by omega) (by omega)]
        simp
      · have t1 : ((2 * (v : Int)) / 2 ^ m == 1) = false := by rw [step_test', decide_eq_false h1]
        have t2 : ((b : Int) / 2 ^ i % 2 == 1) = true := by rw [bit_test, decide_eq_true h2]
        have H1 := hide h1
        have H2 := hide h2
        clear h1 h2
        go_wp2
        refine ⟨⟨j + 1, i, by have := HJ.out; omega, ?_, rfl⟩, by simp [intOf]⟩
        have e := HS.out
        rw [HI.out, if_pos H2.out, stepX_no H1.out] at e
        rw [e, show 2 * (v : Int) = ((2 * v : Nat) : Int) by omega, xor_i64 _ _ (by omega) (by omega)]
      · have t1 : ((2 * (v : Int)) / 2 ^ m == 1) = false := by rw [step_test', decide_eq_false h1]
        have t2 : ((b : Int) / 2 ^ i % 2 == 1) = false := by rw [bit_test, decide_eq_false h2]
        have H1 := hide h1
        have H2 := hide h2
        clear h1 h2
        go_wp2
        refine ⟨⟨j + 1, i, by have := HJ.out; omega, ?_, rfl⟩, by simp [intOf]⟩
        have e := HS.out
        rw [HI.out, if_neg H2.out, stepX_no H1.out] at e
        rw [e]
        simp
theorem num_any (e : Int) (w : World) : Calls Tryz.prog 14 #[.int .i64 e] w fun r w' => r = .returned (.int .i64 e) ∧ w' = w := by
  go_enter Tryz.func14, Tryz.ntmps14
  go_wp2
  go_ret
  exact ⟨rfl, rfl⟩

theorem element_yes (m : Nat) (a : Int) (w : World) (hm : 3 ≤ m) (hm8 : m ≤ 8) (h0 : 0 ≤ a) (h1 : a < 2 ^ m) :
    Calls Tryz.prog 65 #[.int .i64 m, .int .i64 a] w fun r w' => r = .returned (.bool true) ∧ w' = w := by
  have hp := pow_bdI m hm hm8
  go_enter Tryz.func65, Tryz.ntmps65
  go_wp2
  go_ret
  exact ⟨rfl, rfl⟩

theorem element_neg (m : Nat) (a : Int) (w : World) (hm : 3 ≤ m) (hm8 : m ≤ 8) (h0 : a < 0) :
    Calls Tryz.prog 65 #[.int .i64 m, .int .i64 a] w fun r w' => r = .returned (.bool false) ∧ w' = w := by
  have hp := pow_bdI m hm hm8
  go_enter Tryz.func65, Tryz.ntmps65
  go_wp2
  go_ret
  exact ⟨rfl, rfl⟩

theorem element_big (m : Nat) (a : Int) (w : World) (hm : 3 ≤ m) (hm8 : m ≤ 8) (h0 : 2 ^ m ≤ a) :
    Calls Tryz.prog 65 #[.int .i64 m, .int .i64 a] w fun r w' => r = .returned (.bool false) ∧ w' = w := by
  have hp := pow_bdI m hm hm8
  have ht : decide (a < 2 ^ m) = false := by simp; omega
  go_enter Tryz.func65, Tryz.ntmps65
  go_wp2
  go_ret
  exact ⟨rfl, rfl⟩

theorem Field_m (m q : Int) (w : World) (h : m < 3 ∨ 8 < m) :
    Calls Tryz.prog 36 #[.int .i64 m, .int .i64 q] w fun r w' => r = .returned (.int .i64 1) ∧ w' = w := by
  rcases h with h | h
  all_goals
    go_enter Tryz.func36, Tryz.ntmps36
    go_wp2
    go_ret
    exact ⟨rfl, rfl⟩

theorem Field_q (m : Nat) (q : Int) (w : World) (hm : 3 ≤ m) (hm8 : m ≤ 8) (h : q / 2 ^ m ≠ 1) :
    Calls Tryz.prog 36 #[.int .i64 m, .int .i64 q] w fun r w' => r = .returned (.int .i64 2) ∧ w' = w := by
  have ht : (q / 2 ^ m != 1) = true := bne_iff_ne.2 h
  clear h
  by_cases h0 : q < 0
  · go_enter Tryz.func36, Tryz.ntmps36
    go_wp2
    go_ret
    exact ⟨rfl, rfl⟩
  · go_enter Tryz.func36, Tryz.ntmps36
    go_wp2
    go_ret
    exact ⟨rfl, rfl⟩

theorem pow_pred (m : Nat) : (2 : Int) ^ m - 1 = ((Gf.ordN m : Nat) : Int) := by
  unfold Gf.ordN
  have := Nat.two_pow_pos m
  rw [pow_cast]; omega

theorem deg_test {m q : Nat} (hd : Gf.Deg m q) : ((q : Int) / 2 ^ m != 1) = false := by
  rw [div_cast, hd.top]; rfl

/-- the powers of x below k are neither 0 nor 1. -/
def Clean (m q k : Nat) : Prop := ∀ i, 1 ≤ i → i < k → 1 < Gf.pw m q i

theorem clean_succ {m q k : Nat} (h : Clean m q k) (hk : 1 < Gf.pw m q k) : Clean m q (k + 1) := by
  intro i h1 h2
  rcases Nat.lt_or_ge i k with h3 | h3
  · exact h i h1 h3
  · have : i = k := by omega
    rw [this]; exact hk

theorem field_of_clean {m q : Nat} (hm : 3 ≤ m) (hd : Gf.Deg m q) (h : Clean m q (Gf.ordN m)) (h1 : Gf.pw m q (Gf.ordN m) = 1) : Gf.IsField m q :=
  ⟨hd, fun i h0 hi e => by have := h i h0 hi; omega, h1, by omega⟩

theorem not_field_of {m q k : Nat} (h0 : 1 ≤ k) (hk : k < Gf.ordN m) (h : Gf.pw m q k ≤ 1) : ¬ Gf.IsField m q := by
  intro F
  have h1 := F.prim k h0 hk
  have h2 := Gf.pw_ne_zero F k
  omega

theorem pw_one {m q : Nat} (hm : 3 ≤ m) (hm8 : m ≤ 8) : Gf.pw m q 1 = 2 := by
  show Gf.stepX m q 1 = 2
  have := pow_bd m hm hm8
  exact stepX_no (by rw [Nat.div_eq_of_lt (by omega)]; omega)

set_option maxHeartbeats 400000 in
theorem Field_yes (m q : Nat) (w : World) (hm : 3 ≤ m) (hm8 : m ≤ 8) (F : Gf.IsField m q) :
    Calls Tryz.prog 36 #[.int .i64 m, .int .i64 q] w fun r w' => r = .returned (.int .i64 0) ∧ w' = w := by
  have hd := hide F.toDeg
  have hF := hide F
  clear F
  have ht := deg_test (unhide hd)
  have hp := pow_bdI m hm hm8
  have hn := hide (pow_pred m)
  go_enter Tryz.func36, Tryz.ntmps36
  go_wp2
  go_loop [6, 7] (fun v i => ∃ k : Nat, 1 ≤ k ∧ k ≤ Gf.ordN m ∧ v = .int .i64 (Gf.pw m q k) ∧ i = .int .i64 k) (fun _ i => Gf.ordN m - (intOf i).toNat)
  case atStart =>
    refine ⟨1, by omega, ?_, ?_, rfl⟩
    · have := unhide hn; omega
    · rw [pw_one hm hm8]; rfl
  case round =>
    obtain ⟨k, hk1, hk2, rfl, rfl⟩ := hrel
    by_cases hlt : k < Gf.ordN m
    · have hl : (k : Int) < 2 ^ m - 1 := by rw [unhide hn]; omega
      have hv : 1 < Gf.pw m q k := by
        have h1 := (unhide hF).prim k hk1 hlt
        have h2 := Gf.pw_ne_zero (unhide hF) k
        omega
      have hv2 := hide (Gf.pw_lt (unhide hd) k)
      have hv3 : Gf.pw m q k < 256 := by have := pow_bd m hm hm8; have := unhide hv2; omega
      have HS : Hid (Gf.mul m q (Gf.pw m q k) 2 = Gf.pw m q (k + 1)) := by
        show _ = _
        rw [Gf.stepX_two (unhide hd) (by omega) (unhide hv2)]; rfl
      go_wp2_with (go_at_call 63; refine (Mul_any _ _ _ 2 _ ?_ ?_ ?_ ?_ ?_).mono ?_; exact hm; exact hm8; exact unhide hd; exact unhide hv2; decide; rintro e w' ⟨rfl, rfl⟩)
      exact ⟨⟨k + 1, by omega, by omega, by rw [unhide HS], by go_num⟩, by simp [intOf]; omega⟩
    · have hl : ¬ (k : Int) < 2 ^ m - 1 := by rw [unhide hn]; omega
      have HK : Hid (Gf.pw m q k = 1) := by
        show _ = 1
        have e : k = Gf.ordN m := by omega
        rw [e]; exact (unhide hF).last
      have t1 : ((Gf.pw m q k : Int) != 1) = false := by rw [unhide HK]; rfl
      go_wp2
      go_ret
      exact ⟨rfl, rfl⟩

set_option maxHeartbeats 400000 in
theorem Field_no (m q : Nat) (w : World) (hm : 3 ≤ m) (hm8 : m ≤ 8) (d : Gf.Deg m q) (F : ¬ Gf.IsField m q) :
    Calls Tryz.prog 36 #[.int .i64 m, .int .i64 q] w fun r w' => r = .returned (.int .i64 2) ∧ w' = w := by
  have hd := hide d
  have hF := hide F
  clear F d
  have ht := deg_test (unhide hd)
  have hp := pow_bdI m hm hm8
  have hn := hide (pow_pred m)
  go_enter Tryz.func36, Tryz.ntmps36
  go_wp2
  go_loop [6, 7] (fun v i => ∃ k : Nat, 1 ≤ k ∧ k ≤ Gf.ordN m ∧ v = .int .i64 (Gf.pw m q k) ∧ i = .int .i64 k ∧ Hid (Clean m q k)) (fun _ i => Gf.ordN m - (intOf i).toNat)
  case atStart =>
    refine ⟨1, by omega, ?_, ?_, rfl, hide fun i h1 h2 => by omega⟩
    · have := unhide hn; omega
    · rw [pw_one hm hm8]; rfl
  case round =>
    obtain ⟨k, hk1, hk2, rfl, rfl, hc⟩ := hrel
    have hv2 := hide (Gf.pw_lt (unhide hd) k)
    have hv3 : Gf.pw m q k < 256 := by have := pow_bd m hm hm8; have := unhide hv2; omega
    by_cases hlt : k < Gf.ordN m
    · have hl : (k : Int) < 2 ^ m - 1 := by rw [unhide hn]; omega
      by_cases hv : 1 < Gf.pw m q k
      · have HS : Hid (Gf.mul m q (Gf.pw m q k) 2 = Gf.pw m q (k + 1)) := by
          show _ = _
          rw [Gf.stepX_two (unhide hd) (by omega) (unhide hv2)]; rfl
        go_wp2_with (go_at_call 63; refine (Mul_any _ _ _ 2 _ ?_ ?_ ?_ ?_ ?_).mono ?_; exact hm; exact hm8; exact unhide hd; exact unhide hv2; decide; rintro e w' ⟨rfl, rfl⟩)
        exact ⟨⟨k + 1, by omega, by omega, by rw [unhide HS], by go_num, hide (clean_succ (unhide hc) hv)⟩, by simp [intOf]; omega⟩
      · go_wp2
        go_ret
        exact ⟨rfl, rfl⟩
    · have hl : ¬ (k : Int) < 2 ^ m - 1 := by rw [unhide hn]; omega
      have t1 : ((Gf.pw m q k : Int) != 1) = true := by
        rw [bne_iff_ne]
        intro e
        have e2 : k = Gf.ordN m := by omega
        subst e2
        exact unhide hF (field_of_clean hm (unhide hd) (unhide hc) (by omega))
      go_wp2
      go_ret
      exact ⟨rfl, rfl⟩

/-- is no element, of one or the other ground. -/
theorem element_no (m : Nat) (a : Int) (w : World) (hm : 3 ≤ m) (hm8 : m ≤ 8) (h : ¬ (0 ≤ a ∧ a < 2 ^ m)) :
    Calls Tryz.prog 65 #[.int .i64 m, .int .i64 a] w fun r w' => r = .returned (.bool false) ∧ w' = w := by
  by_cases h0 : a < 0
  · exact element_neg m a w hm hm8 h0
  · exact element_big m a w hm hm8 (by omega)

def elemB (m : Nat) (a : Int) : Bool := decide (0 ≤ a) && decide (a < 2 ^ m)
theorem elemB_yes {m : Nat} {a : Int} (h : elemB m a = true) : 0 ≤ a ∧ a < 2 ^ m := by simpa [elemB] using h
theorem elemB_no {m : Nat} {a : Int} (h : elemB m a = false) : ¬ (0 ≤ a ∧ a < 2 ^ m) := by
  intro c
  have : elemB m a = true := by simpa [elemB] using c
  rw [h] at this; cases this
theorem elemB_nat {m a : Nat} (h : a < 2 ^ m) : elemB m a = true := by
  unfold elemB
  rw [pow_cast, decide_eq_true (by omega), decide_eq_true (by omega)]; rfl
theorem element_any (m : Nat) (a : Int) (w : World) (hm : 3 ≤ m) (hm8 : m ≤ 8) :
    Calls Tryz.prog 65 #[.int .i64 m, .int .i64 a] w fun r w' => r = .returned (.bool (elemB m a)) ∧ w' = w := by
  cases h : elemB m a
  · exact element_no m a w hm hm8 (elemB_no h)
  · exact element_yes m a w hm hm8 (elemB_yes h).1 (elemB_yes h).2

end Go.Proofs.YtnpkkcbadcmgkaaGreatDoor
