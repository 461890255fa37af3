import Derived.Test.YtnpkkcbadcmgkaaGreatDoorWStepX
import Derived.Deep.QuietTactic
import Derived.BigQuiet
import Derived.Deep.OwnRows
namespace Go.Proofs.YtnpkkcbadcmgkaaGreatDoor
open Go.RowKit Go.Deep

set_option maxHeartbeats 1000000 in
theorem ftimes_core (b bp bl n la lb x i j k : Nat) (w : World)
    (c0 : w.cell? ⟨b, 0, none⟩ = some (.int .i64 n)) (c1 : w.cell? ⟨b, 0 + 1, none⟩ = some (.slice (some ⟨bp, 0, none⟩) n n)) (c2 : w.cell? ⟨b, 0 + 2, none⟩ = some (.slice (some ⟨bl, 0, none⟩) (n + 1) (n + 1)))
    (hn : 0 < n) (hn2 : n < 256) (hi : 0 < i) (hj : 0 < j) (hin : i < n + 1) (hjn : j < n + 1)
    (l1 : w.cell? ⟨bl, i, none⟩ = some (.int .i64 la)) (l2 : w.cell? ⟨bl, j, none⟩ = some (.int .i64 lb)) (hla : la < 256) (hlb : lb < 256)
    (p : w.cell? ⟨bp, k, none⟩ = some (.int .i64 x)) (hk : (la + lb) % n = k) :
    Calls Tryz.prog 57 #[.pointer (some ⟨b, 0, none⟩), .int .i64 i, .int .i64 j] w fun e w' => e = .returned (.int .i64 x) ∧ ∃ d, w' = w.drewN d := by
  have t1 : ((i : Int) == 0) = false := by rw [beq_eq_false_iff_ne]; omega
  have t2 : ((j : Int) == 0) = false := by rw [beq_eq_false_iff_ne]; omega
  have b1 : (i : Int) < (n : Int) + 1 := by omega
  have b2 : (j : Int) < (n : Int) + 1 := by omega
  have b3 : (k : Int) < (n : Int) := by have := Nat.mod_lt (la + lb) hn; omega
  have b4 : ((la : Int) + lb) % (n : Int) = (k : Int) := by rw [← hk, Int.natCast_emod]; simp
  clear hk
  go_enter Tryz.func57, Tryz.ntmps57
  go_wp2
  go_quiet (fail)
  go_wp2
  go_ret
  exact ⟨rfl, nq, rfl⟩

set_option maxHeartbeats 1000000 in
theorem ftimes_zero (b i j : Nat) (w : World) (h : i = 0 ∨ j = 0) :
    Calls Tryz.prog 57 #[.pointer (some ⟨b, 0, none⟩), .int .i64 i, .int .i64 j] w fun e w' => e = .returned (.int .i64 0) ∧ w' = w := by
  by_cases hi : i = 0
  · have t1 : ((i : Int) == 0) = true := by rw [beq_iff_eq]; omega
    clear h hi
    go_enter Tryz.func57, Tryz.ntmps57
    go_wp2
    go_ret
    exact ⟨rfl, rfl⟩
  · have t1 : ((i : Int) == 0) = false := by rw [beq_eq_false_iff_ne]; omega
    have t2 : ((j : Int) == 0) = true := by rw [beq_iff_eq]; omega
    clear h hi
    go_enter Tryz.func57, Tryz.ntmps57
    go_wp2
    go_ret
    exact ⟨rfl, rfl⟩

set_option maxHeartbeats 1000000 in
theorem finv_core (b bp bl n la x i k : Nat) (w : World)
    (c0 : w.cell? ⟨b, 0, none⟩ = some (.int .i64 n)) (c1 : w.cell? ⟨b, 0 + 1, none⟩ = some (.slice (some ⟨bp, 0, none⟩) n n)) (c2 : w.cell? ⟨b, 0 + 2, none⟩ = some (.slice (some ⟨bl, 0, none⟩) (n + 1) (n + 1)))
    (hn : 0 < n) (hn2 : n < 256) (hin : i < n + 1)
    (l1 : w.cell? ⟨bl, i, none⟩ = some (.int .i64 la)) (hla : la < n)
    (p : w.cell? ⟨bp, k, none⟩ = some (.int .i64 x)) (hk : (n - la) % n = k) :
    Calls Tryz.prog 84 #[.pointer (some ⟨b, 0, none⟩), .int .i64 i] w fun e w' => e = .returned (.int .i64 x) ∧ ∃ d, w' = w.drewN d := by
  have b1 : (i : Int) < (n : Int) + 1 := by omega
  have b3 : (k : Int) < (n : Int) := by have := Nat.mod_lt (n - la) hn; omega
  have b4 : ((n : Int) - la) % (n : Int) = (k : Int) := by
    rw [← hk, Int.natCast_emod, Int.natCast_sub (by omega)]
  clear hk
  go_enter Tryz.func84, Tryz.ntmps84
  go_wp2
  go_quiet (fail)
  go_wp2
  go_ret
  exact ⟨rfl, nq, rfl⟩

theorem checkE_ok (b n i : Nat) (w : World) (c0 : w.cell? ⟨b, 0, none⟩ = some (.int .i64 n)) (h : i ≤ n) (_hn : n < 256) :
    Calls Tryz.prog 82 #[.pointer (some ⟨b, 0, none⟩), .int .i64 i] w fun e w' => e = .returned .nilIface ∧ w' = w := by
  go_enter Tryz.func82, Tryz.ntmps82
  go_wp2
  go_ret
  exact ⟨rfl, rfl⟩

theorem checkE_bad (b n : Nat) (i : Int) (v : Value) (w : World) (c0 : w.cell? ⟨b, 0, none⟩ = some (.int .i64 n)) (_hn : n < 256) (h : i < 0 ∨ (n : Int) < i) (g : w.cell? ⟨9, 0, none⟩ = some v) :
    Calls Tryz.prog 82 #[.pointer (some ⟨b, 0, none⟩), .int .i64 i] w fun e w' => e = .returned v ∧ w' = w := by
  by_cases h0 : i < 0
  · clear h
    go_enter Tryz.func82, Tryz.ntmps82
    go_wp2
    go_ret
    exact ⟨rfl, rfl⟩
  · have h1 : (n : Int) < i := by omega
    clear h
    go_enter Tryz.func82, Tryz.ntmps82
    go_wp2
    go_ret
    exact ⟨rfl, rfl⟩
end Go.Proofs.YtnpkkcbadcmgkaaGreatDoor
