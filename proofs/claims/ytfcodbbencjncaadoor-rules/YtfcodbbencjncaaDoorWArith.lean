import Derived.Test.YtfcodbbencjncaaDoorProg
import Derived.Test.YtfcodbbencjncaaDoorCast
import Derived.WalkKit
import Derived.WalkSpells
import Derived.WalkLawsBesides
namespace Go.Proofs.YtfcodbbencjncaaDoor
open Go.RowKit

theorem hide {p : Prop} (h : p) : Hid p := h
theorem unhide {p : Prop} (h : Hid p) : p := h
theorem ret_int {k : IntKind} {a b : Int} (h : a = b) : Ending.returned (.int k a) = .returned (.int k b) := by rw [h]

set_option maxHeartbeats 400000 in
theorem timesX_any (m q a : Nat) (w : World) (hm : 3 ≤ m) (hm8 : m ≤ 8) (ha : a < 256) (hq : q < 512) :
    Calls Tryd.prog 32 #[.int .i64 a, .int .i64 m, .int .i64 q] w fun e w' => e = .returned (.int .i64 (Gf.stepX m q a)) ∧ w' = w := by
  by_cases h : 2 * a / 2 ^ m = 1
  · have ht : ((a : Int) * 2 / 2 ^ m == 1) = true := by rw [step_test, decide_eq_true h]
    have H : Hid (2 * a / 2 ^ m = 1) := h
    clear h
    go_enter Tryd.func32, Tryd.ntmps32
    go_wp2
    go_ret
    refine ⟨ret_int ?_, rfl⟩
    rw [stepX_yes H.out, show (a : Int) * 2 = ((2 * a : Nat) : Int) by omega, xor_i64 _ _ (by omega) (by omega)]
  · have ht : ((a : Int) * 2 / 2 ^ m == 1) = false := by rw [step_test, decide_eq_false h]
    have H : Hid (¬ 2 * a / 2 ^ m = 1) := h
    clear h
    go_enter Tryd.func32, Tryd.ntmps32
    go_wp2
    go_ret
    refine ⟨ret_int ?_, rfl⟩
    rw [stepX_no H.out]; omega

set_option maxHeartbeats 400000 in
theorem Mul_any (m q a b : Nat) (w : World) (hm : 3 ≤ m) (hm8 : m ≤ 8) (hd : Gf.Deg m q) (ha : a < 2 ^ m) (hb : b < 256) :
    Calls Tryd.prog 17 #[.int .i64 m, .int .i64 q, .int .i64 a, .int .i64 b] w fun e w' => e = .returned (.int .i64 (Gf.mul m q a b)) ∧ w' = w := by
  have hp := pow_bd m hm hm8
  have hq : q < 512 := by have := Gf.deg_hi hd; omega
  have ha' : a < 256 := by omega
  have hacc : ∀ j, Gf.acc m q a b j < 256 := fun j => by have := Gf.acc_lt (b := b) hd ha j; omega
  have HD := hide hd
  have HA := hide ha
  have HAC := hide hacc
  clear hd ha hp hacc
  go_enter Tryd.func17, Tryd.ntmps17
  go_wp2
  go_loop [9, 10] (fun v i => ∃ j k : Nat, j + k = m ∧ v = .int .i64 (Gf.acc m q a b j) ∧ i = .int .i64 ((k : Int) - 1)) (fun _ i => (intOf i + 1).toNat)
  case atStart => exact ⟨0, m, by omega, rfl, rfl⟩
  case round =>
    obtain ⟨j, k, hjk, rfl, rfl⟩ := hrel
    have hv := unhide HAC j
    rcases Nat.eq_zero_or_pos k with hk | hk
    · subst hk
      have HJ : Hid (j = m) := by show j = m; omega
      clear hjk
      go_wp2
      go_ret
      refine ⟨ret_int ?_, rfl⟩
      rw [HJ.out]; rfl
    · obtain ⟨i, rfl⟩ : ∃ i, k = i + 1 := ⟨k - 1, by omega⟩
      have ei : (((i + 1 : Nat) : Int) - 1) = (i : Int) := by omega
      rw [ei]
      clear ei hk
      have HI : Hid (m - 1 - j = i) := by show m - 1 - j = i; omega
      have HJ := hide hjk
      have hi8 : i < 8 := by omega
      clear hjk
      have hb0 : 0 ≤ (b : Int) / 2 ^ i := by rw [div_cast]; exact Int.natCast_nonneg _
      have hb1 : (b : Int) / 2 ^ i ≤ 255 := by rw [div_cast]; have := Nat.div_le_self b (2 ^ i); generalize b / 2 ^ i = t at this ⊢; omega
      have HS : Hid (Gf.acc m q a b (j + 1) = Gf.stepX m q (Gf.acc m q a b j) ^^^ (if b / 2 ^ (m - 1 - j) % 2 = 1 then a else 0)) := rfl
      have HB : Hid (Gf.stepX m q (Gf.acc m q a b j) < 512) := by
        have := Gf.stepX_lt (unhide HD) (Gf.acc_lt (b := b) (unhide HD) (unhide HA) j)
        have := pow_bd m hm hm8
        show _ < 512
        omega
      clear HAC HD HA
      generalize hv0 : Gf.acc m q a b j = v at *
      clear hv0
      by_cases h1 : 2 * v / 2 ^ m = 1 <;> by_cases h2 : b / 2 ^ i % 2 = 1
      · have t1 : ((2 * (v : Int)) / 2 ^ m == 1) = true := by rw [step_test', decide_eq_true h1]
        have t2 : ((b : Int) / 2 ^ i % 2 == 1) = true := by rw [bit_test, decide_eq_true h2]
        have H1 := hide h1
        have H2 := hide h2
        clear h1 h2
        go_wp2
        refine ⟨⟨j + 1, i, by have := HJ.out; omega, ?_, rfl⟩, by simp [intOf]⟩
        have e := HS.out
        rw [HI.out, if_pos H2.out, stepX_yes H1.out] at e
        have hx : 2 * v ^^^ q < 512 := Nat.xor_lt_two_pow (n := 9) (by omega) (by omega)
        rw [e, show 2 * (v : Int) = ((2 * v : Nat) : Int) by omega, xor_i64 _ _ (by omega) (by omega), xor_i64 _ _ (by omega) (by omega)]
      · have t1 : ((2 * (v : Int)) / 2 ^ m == 1) = true := by rw [step_test', decide_eq_true h1]
        have t2 : ((b : Int) / 2 ^ i % 2 == 1) = false := by rw [bit_test, decide_eq_false h2]
        have H1 := hide h1
        have H2 := hide h2
        clear h1 h2
        go_wp2
        refine ⟨⟨j + 1, i, by have := HJ.out; omega, ?_, rfl⟩, by simp [intOf]⟩
        have e := HS.out
        rw [HI.out, if_neg H2.out, stepX_yes H1.out] at e
        rw [e, show 2 * (v : Int) = ((2 * v : Nat) : Int) by omega, xor_i64 _ _ (by omega) (by omega)]
        simp
      · have t1 : ((2 * (v : Int)) / 2 ^ m == 1) = false := by rw [step_test', decide_eq_false h1]
        have t2 : ((b : Int) / 2 ^ i % 2 == 1) = true := by rw [bit_test, decide_eq_true h2]
        have H1 := hide h1
        have H2 := hide h2
        clear h1 h2
        go_wp2
        refine ⟨⟨j + 1, i, by have := HJ.out; omega, ?_, rfl⟩, by simp [intOf]⟩
        have e := HS.out
        rw [HI.out, if_pos H2.out, stepX_no H1.out] at e
        rw [e, show 2 * (v : Int) = ((2 * v : Nat) : Int) by omega, xor_i64 _ _ (by omega) (by omega)]
      · have t1 : ((2 * (v : Int)) / 2 ^ m == 1) = false := by rw [step_test', decide_eq_false h1]
        have t2 : ((b : Int) / 2 ^ i % 2 == 1) = false := by rw [bit_test, decide_eq_false h2]
        have H1 := hide h1
        have H2 := hide h2
        clear h1 h2
        go_wp2
        refine ⟨⟨j + 1, i, by have := HJ.out; omega, ?_, rfl⟩, by simp [intOf]⟩
        have e := HS.out
        rw [HI.out, if_neg H2.out, stepX_no H1.out] at e
        rw [e]
        simp
end Go.Proofs.YtfcodbbencjncaaDoor
