import Derived.Test.YtnpkkcbadcmgkaaGreatDoorWFt
import Derived.Test.YtnpkkcbadcmgkaaGreatDoorWCheck
import Derived.Handy
import Derived.Laws.EntriesVeiled
namespace Go.Proofs.YtnpkkcbadcmgkaaGreatDoor
open Go.RowKit Go.Deep
open Gf (Cd)

theorem drewN_zero (w : World) : w.drewN 0 = w := rfl

/-- Field.Times, and that it only draws. -/
theorem ftimes_drew (m q b bp bl i j : Nat) (w : World) (hm : 3 ≤ m) (hm8 : m ≤ 8) (F : Gf.IsField m q) (h : FieldAt m q b bp bl w) (hi : i < 2 ^ m) (hj : j < 2 ^ m) :
    Calls Tryz.prog 57 #[.pointer (some ⟨b, 0, none⟩), .int .i64 i, .int .i64 j] w fun e w' => e = .returned (.int .i64 (Gf.mul m q i j)) ∧ ∃ d, w' = w.drewN d := by
  obtain ⟨hn1, hn2, hn3⟩ := ordN_bd hm hm8
  by_cases h0 : i = 0 ∨ j = 0
  · refine (ftimes_zero b i j w h0).mono ?_
    rintro e w' ⟨rfl, rfl⟩
    have : Gf.mul m q i j = 0 := by
      rcases h0 with rfl | rfl
      · exact Gf.zero_mul _ _ _
      · exact Gf.mul_zero _ _ _
    rw [this]
    exact ⟨rfl, 0, rfl⟩
  · have l1 := h.logs.cell (i := i) (by omega)
    have l2 := h.logs.cell (i := j) (by omega)
    have hla := Gf.logAt_lt (m := m) (q := q) (a := i) (k := Gf.ordN m) (by omega)
    have hlb := Gf.logAt_lt (m := m) (q := q) (a := j) (k := Gf.ordN m) (by omega)
    have hk := Nat.mod_lt (Gf.logAt m q (Gf.ordN m) i + Gf.logAt m q (Gf.ordN m) j) (show Gf.ordN m > 0 by omega)
    have p := h.pows.cell hk
    unfold powRow at p
    rw [if_pos hk, Gf.times_table F hi hj (by omega) (by omega)] at p
    exact ftimes_core b bp bl (Gf.ordN m) _ _ _ i j _ w h.c0 h.c1 h.c2 (by omega) (by omega) (by omega) (by omega) (by omega) (by omega) l1 l2 (by omega) (by omega) p rfl

theorem fplus_any (v : Value) (i j : Nat) (w : World) (hi : i < 256) (hj : j < 256) :
    Calls Tryz.prog 56 #[v, .int .i64 i, .int .i64 j] w fun e w' => e = .returned (.int .i64 ((i ^^^ j : Nat) : Int)) ∧ w' = w := by
  have e1 : bits .xor .i64 (i : Int) (j : Int) = ((i ^^^ j : Nat) : Int) := xor_i64 _ _ (by omega) (by omega)
  go_enter Tryz.func56, Tryz.ntmps56
  go_wp2
  go_ret
  exact ⟨rfl, rfl⟩

theorem funits_any (m q b bp bl : Nat) (w : World) (h : FieldAt m q b bp bl w) :
    Calls Tryz.prog 51 #[.pointer (some ⟨b, 0, none⟩)] w fun e w' => e = .returned (.int .i64 (Gf.ordN m)) ∧ w' = w := by
  have c0 := h.c0
  go_enter Tryz.func51, Tryz.ntmps51
  go_wp2
  go_ret
  exact ⟨rfl, rfl⟩

set_option maxHeartbeats 1000000 in
theorem fpower_core (b bp n x i k : Nat) (w : World)
    (c0 : w.cell? ⟨b, 0, none⟩ = some (.int .i64 n)) (c1 : w.cell? ⟨b, 0 + 1, none⟩ = some (.slice (some ⟨bp, 0, none⟩) n n))
    (hn : 0 < n) (hn2 : n < 256) (hi : i < 1000000)
    (p : w.cell? ⟨bp, k, none⟩ = some (.int .i64 x)) (hk : i % n = k) :
    Calls Tryz.prog 61 #[.pointer (some ⟨b, 0, none⟩), .int .i64 i] w fun e w' => e = .returned (.int .i64 x) ∧ ∃ d, w' = w.drewN d := by
  have b3 : (k : Int) < (n : Int) := by have := Nat.mod_lt i hn; omega
  have b4 : (i : Int) % (n : Int) = (k : Int) := by rw [← hk, Int.natCast_emod]
  clear hk
  go_enter Tryz.func61, Tryz.ntmps61
  go_wp2
  go_quiet (fail)
  go_wp2
  go_ret
  exact ⟨rfl, nq, rfl⟩
theorem fpower_any (m q b bp bl i : Nat) (w : World) (hm : 3 ≤ m) (hm8 : m ≤ 8) (F : Gf.IsField m q) (h : FieldAt m q b bp bl w) (hi : i < 1000000) :
    Calls Tryz.prog 61 #[.pointer (some ⟨b, 0, none⟩), .int .i64 i] w fun e w' => e = .returned (.int .i64 (Gf.pw m q i)) ∧ ∃ d, w' = w.drewN d := by
  obtain ⟨hn1, hn2, hn3⟩ := ordN_bd hm hm8
  have hk := Nat.mod_lt i (show Gf.ordN m > 0 by omega)
  have p := h.pows.cell hk
  unfold powRow at p
  rw [if_pos hk, Gf.pw_mod F] at p
  exact fpower_core b bp (Gf.ordN m) _ i _ w h.c0 h.c1 (by omega) (by omega) hi p rfl

theorem checkB_yes (v : Value) (i : Int) (w : World) (h : i = 0 ∨ i = 1) :
    Calls Tryz.prog 81 #[v, .int .i64 i] w fun e w' => e = .returned .nilIface ∧ w' = w := by
  rcases h with rfl | rfl
  all_goals
    go_enter Tryz.func81, Tryz.ntmps81
    go_wp2
    go_ret
    exact ⟨rfl, rfl⟩
theorem checkB_no (v : Value) (i : Int) (w : World) (h : ¬ (i = 0 ∨ i = 1)) (hS : Sen 8 w) :
    Calls Tryz.prog 81 #[v, .int .i64 i] w fun e w' => ∃ a, e = .returned (.iface 175 (.pointer (some a))) ∧ w' = w := by
  obtain ⟨a, ha⟩ := hS
  have t0 : (i != 0) = true := by rw [bne_iff_ne]; omega
  have t1 : (i != 1) = true := by rw [bne_iff_ne]; omega
  clear h
  go_enter Tryz.func81, Tryz.ntmps81
  go_wp2
  go_ret
  exact ⟨_, rfl, rfl⟩


theorem over_any (b : Nat) (w : World) :
    Calls Tryz.prog 55 #[(.func (.func 56) #[.pointer (some ⟨b, 0, none⟩)] #[]), (.func (.func 57) #[.pointer (some ⟨b, 0, none⟩)] #[])] w fun e w' => e = .returned (.agg #[(.func (.func 56) #[.pointer (some ⟨b, 0, none⟩)] #[]), (.func (.func 57) #[.pointer (some ⟨b, 0, none⟩)] #[])]) ∧ Below w.heap.size w w' := by
  go_enter Tryz.func55, Tryz.ntmps55
  go_wp2
  go_returns
  exact ⟨rfl, (Below.refl _ _).alloc (Nat.le_refl _) _⟩

theorem FieldAt.of {m q b bp bl : Nat} {w w' : World} (h : FieldAt m q b bp bl w) (e0 : w'.heap[b]? = w.heap[b]?) (e1 : w'.heap[bp]? = w.heap[bp]?) (e2 : w'.heap[bl]? = w.heap[bl]?) : FieldAt m q b bp bl w' :=
  ⟨by rw [World.cell?_of_block e0]; exact h.c0, by rw [World.cell?_of_block e0]; exact h.c1, by rw [World.cell?_of_block e0]; exact h.c2, h.pows.of_block e1, h.logs.of_block e2⟩
theorem FieldAt.below {m q b bp bl : Nat} {w w' : World} (h : FieldAt m q b bp bl w) (hb : Below w.heap.size w w') : FieldAt m q b bp bl w' :=
  h.of (hb.block _ (lt_of_cell h.c0)) (hb.block _ h.pows.lt) (hb.block _ h.logs.lt)
end Go.Proofs.YtnpkkcbadcmgkaaGreatDoor
