import Derived.Test.YtnpkkcbadcmgkaaGreatDoorGf
import Derived.Laws.BitsAllLaws
import Derived.Laws.BitsLemmas
namespace Go.Proofs.YtnpkkcbadcmgkaaGreatDoor

theorem xor_i64 (a b : Nat) (ha : a < 4294967296) (hb : b < 4294967296) : bits .xor .i64 (a : Int) (b : Int) = ((a ^^^ b : Nat) : Int) := by
  have hx : a ^^^ b < 2 ^ 32 := Nat.xor_lt_two_pow (by omega) (by omega)
  have h1 : (BitVec.ofInt 64 (a : Int)).toNat = a := by simp; omega
  have h2 : (BitVec.ofInt 64 (b : Int)).toNat = b := by simp; omega
  show IntKind.i64.wrap ((BitVec.ofInt 64 (a : Int) ^^^ BitVec.ofInt 64 (b : Int)).toNat : Int) = _
  rw [BitVec.toNat_xor, h1, h2, IntKind.wrap_i64]
  omega

theorem and_i64 (a b : Nat) (ha : a < 4294967296) (hb : b < 4294967296) : bits .and .i64 (a : Int) (b : Int) = ((a &&& b : Nat) : Int) := by
  have hx : a &&& b < 2 ^ 32 := Nat.and_lt_two_pow _ (by omega)
  have h1 : (BitVec.ofInt 64 (a : Int)).toNat = a := by simp; omega
  have h2 : (BitVec.ofInt 64 (b : Int)).toNat = b := by simp; omega
  show IntKind.i64.wrap ((BitVec.ofInt 64 (a : Int) &&& BitVec.ofInt 64 (b : Int)).toNat : Int) = _
  rw [BitVec.toNat_and, h1, h2, IntKind.wrap_i64]
  omega

theorem div_cast (a m : Nat) : (a : Int) / 2 ^ m = ((a / 2 ^ m : Nat) : Int) := by
  rw [Int.natCast_ediv]; simp

theorem pow_cast (m : Nat) : (2 : Int) ^ m = ((2 ^ m : Nat) : Int) := by simp

theorem pow_bd (m : Nat) (hm : 3 ≤ m) (hm8 : m ≤ 8) : 8 ≤ 2 ^ m ∧ 2 ^ m ≤ 256 := by
  have h1 : 2 ^ 3 ≤ 2 ^ m := Nat.pow_le_pow_right (by omega) hm
  have h2 : 2 ^ m ≤ 2 ^ 8 := Nat.pow_le_pow_right (by omega) hm8
  omega

theorem pow_bdI (m : Nat) (hm : 3 ≤ m) (hm8 : m ≤ 8) : (8 : Int) ≤ 2 ^ m ∧ (2 : Int) ^ m ≤ 256 := by
  have := pow_bd m hm hm8
  rw [pow_cast]; omega

theorem beq_cast_one (n : Nat) : ((n : Int) == 1) = decide (n = 1) := by
  by_cases h : n = 1
  · subst h; rfl
  · rw [decide_eq_false h]; simp; omega

theorem step_test (m a : Nat) : (((a : Int) * 2) / 2 ^ m == 1) = decide (2 * a / 2 ^ m = 1) := by
  have e : ((a : Int) * 2) = ((2 * a : Nat) : Int) := by omega
  rw [e, div_cast, beq_cast_one]

theorem step_test' (m a : Nat) : ((2 * (a : Int)) / 2 ^ m == 1) = decide (2 * a / 2 ^ m = 1) := by
  have e : (2 * (a : Int)) = ((2 * a : Nat) : Int) := by omega
  rw [e, div_cast, beq_cast_one]

theorem bit_test (k b : Nat) : ((b : Int) / 2 ^ k % 2 == 1) = decide (b / 2 ^ k % 2 = 1) := by
  have e : (b : Int) / 2 ^ k % 2 = ((b / 2 ^ k % 2 : Nat) : Int) := by rw [div_cast]; omega
  rw [e, beq_cast_one]

theorem stepX_yes {m q a : Nat} (h : 2 * a / 2 ^ m = 1) : Gf.stepX m q a = (2 * a) ^^^ q := if_pos h
theorem stepX_no {m q a : Nat} (h : ¬ 2 * a / 2 ^ m = 1) : Gf.stepX m q a = 2 * a := if_neg h
end Go.Proofs.YtnpkkcbadcmgkaaGreatDoor
