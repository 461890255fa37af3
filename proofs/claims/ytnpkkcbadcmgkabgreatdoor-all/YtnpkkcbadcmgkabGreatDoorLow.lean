import Derived.Test.YtnpkkcbadcmgkabGreatDoorCast
namespace Go.Proofs.YtnpkkcbadcmgkabGreatDoor

/-- the lowest m bits of a number. -/
def low (m : Nat) (a : Int) : Nat := (a % 2 ^ m).toNat

theorem low_cast (m : Nat) (a : Int) : ((low m a : Nat) : Int) = a % 2 ^ m := by
  unfold low
  have : 0 ≤ a % 2 ^ m := Int.emod_nonneg _ (by have : (0 : Int) < 2 ^ m := Int.pow_pos (by decide); omega)
  omega

theorem low_lt (m : Nat) (a : Int) : low m a < 2 ^ m := by
  have h1 := low_cast m a
  have h2 : a % 2 ^ m < 2 ^ m := Int.emod_lt_of_pos _ (Int.pow_pos (by decide))
  rw [← h1, pow_cast] at h2
  omega

theorem low_nat (m x : Nat) (h : x < 2 ^ m) : low m (x : Int) = x := by
  unfold low
  rw [pow_cast, ← Int.natCast_emod, Nat.mod_eq_of_lt h]; rfl

theorem ofInt_low (m : Nat) (hm : m ≤ 64) (a : Int) : (BitVec.ofInt 64 a).toNat % 2 ^ m = low m a := by
  rw [BitVec.toNat_ofInt]
  have hd : (2 : Int) ^ m ∣ 2 ^ 64 := ⟨2 ^ (64 - m), by rw [← Int.pow_add]; congr 1; omega⟩
  have h0 : 0 ≤ a % ((2 ^ 64 : Nat) : Int) := Int.emod_nonneg _ (by decide)
  have h1 : (((a % ((2 ^ 64 : Nat) : Int)).toNat % 2 ^ m : Nat) : Int) = a % 2 ^ m := by
    rw [Int.natCast_emod, Int.toNat_of_nonneg h0, ← pow_cast m, ← pow_cast 64, Int.emod_emod_of_dvd _ hd]
  have h2 := low_cast m a
  omega

theorem low_and (m : Nat) (hm : m ≤ 8) (a : Int) : bits .and .i64 a (2 ^ m - 1) = ((low m a : Nat) : Int) := by
  have hp : 2 ^ m ≤ 256 := by
    have : 2 ^ m ≤ 2 ^ 8 := Nat.pow_le_pow_right (by omega) hm
    omega
  have hp0 := Nat.two_pow_pos m
  show IntKind.i64.wrap ((BitVec.ofInt 64 a &&& BitVec.ofInt 64 (2 ^ m - 1)).toNat : Int) = _
  have h2 : (BitVec.ofInt 64 ((2 : Int) ^ m - 1)).toNat = 2 ^ m - 1 := by
    rw [BitVec.toNat_ofInt, pow_cast]
    omega
  rw [BitVec.toNat_and, h2, Nat.and_two_pow_sub_one_eq_mod, ofInt_low m (by omega), IntKind.wrap_i64]
  have := low_lt m a
  omega

theorem wrap_low (m : Nat) (hm : m ≤ 64) (n : Nat) : low m (IntKind.i64.wrap (n : Int)) = n % 2 ^ m := by
  have hd : (2 : Int) ^ m ∣ 2 ^ 64 := ⟨2 ^ (64 - m), by rw [← Int.pow_add]; congr 1; omega⟩
  have h1 := low_cast m (IntKind.i64.wrap (n : Int))
  have h3 : IntKind.i64.wrap (n : Int) % 2 ^ m = (n : Int) % 2 ^ m := by
    rw [IntKind.wrap_i64]
    rw [show (18446744073709551616 : Int) = 2 ^ 64 from rfl]
    rw [Int.sub_emod, Int.emod_emod_of_dvd _ hd, ← Int.sub_emod, Int.add_sub_cancel]
  rw [h3, pow_cast, ← Int.natCast_emod] at h1
  omega

theorem low_xor (m : Nat) (hm : m ≤ 64) (b c : Int) : low m (bits .xor .i64 b c) = low m b ^^^ low m c := by
  show low m (IntKind.i64.wrap ((BitVec.ofInt 64 b ^^^ BitVec.ofInt 64 c).toNat : Int)) = _
  rw [wrap_low m hm, BitVec.toNat_xor, Nat.xor_mod_two_pow, ofInt_low m hm, ofInt_low m hm]
end Go.Proofs.YtnpkkcbadcmgkabGreatDoor
