import Derived.Test.YtnpkkcbadcmgkaaDoorLaw2
import Derived.Test.YtnpkkcbadcmgkaaDoorLow
namespace Go.Proofs.YtnpkkcbadcmgkaaDoor
open Go.RowKit

theorem field_bad (k m q : Int) (w : World) (h : NoF k m q) : Calls Tryd.prog 16 #[.int .i64 m, .int .i64 q] w fun e w' => e = .returned (.bool false) ∧ w' = w := by
  have k : Calls Tryd.prog 30 #[.int .i64 m, .int .i64 q] w fun e w' => ∃ r : Int, e = .returned (.int .i64 r) ∧ (r == 0) = false ∧ w' = w := by
    rcases h with ⟨_, h⟩ | ⟨_, n, rfl, h3, h8, h | ⟨p, rfl, hd, F⟩⟩
    · exact (Field_m m q w h).mono (by rintro e w' ⟨rfl, rfl⟩; exact ⟨1, rfl, rfl, rfl⟩)
    · exact (Field_q n q w h3 h8 h).mono (by rintro e w' ⟨rfl, rfl⟩; exact ⟨2, rfl, rfl, rfl⟩)
    · exact (Field_no n p w h3 h8 hd F).mono (by rintro e w' ⟨rfl, rfl⟩; exact ⟨2, rfl, rfl, rfl⟩)
  have K := hide k
  clear k h
  go_enter Tryd.func16, Tryd.ntmps16
  go_wp2_with fail
  refine (unhide K).mono ?_
  rintro e w' ⟨r, rfl, hr, rfl⟩
  go_wp2
  go_ret
  exact ⟨rfl, rfl⟩

theorem field_yes (m q : Nat) (w : World) (hm : 3 ≤ m) (hm8 : m ≤ 8) (F : Gf.IsField m q) : Calls Tryd.prog 16 #[.int .i64 m, .int .i64 q] w fun e w' => e = .returned (.bool true) ∧ w' = w := by
  have K := hide (Field_yes m q w hm hm8 F)
  clear F
  go_enter Tryd.func16, Tryd.ntmps16
  go_wp2_with fail
  refine (unhide K).mono ?_
  rintro e w' ⟨rfl, rfl⟩
  go_wp2
  go_ret
  exact ⟨rfl, rfl⟩

set_option maxHeartbeats 1000000 in
/-- the statement's own times, in a field. -/
theorem ltimes (m q : Nat) (a b : Int) (x y : Nat) (w : World) (hm : 3 ≤ m) (hm8 : m ≤ 8) (F : Gf.IsField m q) (hx : low m a = x) (hy : low m b = y) :
    Calls Tryd.prog 17 #[.int .i64 m, .int .i64 q, .int .i64 a, .int .i64 b] w fun e w' => e = .returned (.int .i64 (Gf.mul m q x y)) ∧ Below w.heap.size w w' := by
  have ea : bits .and .i64 a (2 ^ m - 1) = (x : Int) := by rw [low_and m hm8, hx]
  have eb : bits .and .i64 b (2 ^ m - 1) = (y : Int) := by rw [low_and m hm8, hy]
  have lx : x < 2 ^ m := by rw [← hx]; exact low_lt m a
  have ly : y < 2 ^ m := by rw [← hy]; exact low_lt m b
  have K := hide (Times_yes m q x y w hm hm8 F lx ly)
  have hp := pow_bdI m hm hm8
  clear hx hy F lx ly
  go_enter Tryd.func17, Tryd.ntmps17
  go_wp2_with fail
  refine (unhide K).mono ?_
  rintro e w1 ⟨rfl, hb⟩
  have HB := hide hb
  clear hb
  go_wp2_with (go_at_call 13; refine (num_any _ _).mono ?_; rintro e w' ⟨rfl, rfl⟩)
  go_ret
  exact ⟨rfl, unhide HB⟩

set_option maxRecDepth 100000 in
set_option maxHeartbeats 1000000 in
theorem rules_bad (k m q a b c : Int) (gs : List Nat) (w : World) (L : Laid gs w) (h : NoF k m q) :
    Calls Tryd.prog 5 #[.int .i64 m, .int .i64 q, .int .i64 a, .int .i64 b, .int .i64 c] w fun e w' => e = .returned (.bool true) ∧ Below w.heap.size w w' := by
  have HL := hide L
  have Hh := hide h
  clear L h
  go_enter Tryd.func5, Tryd.ntmps5
  go_wp2_with fail
  refine (field_bad k m q _ (unhide Hh)).mono ?_
  rintro e w' ⟨rfl, rfl⟩
  go_wp2_with fail
  refine (Times_bad k m q 0 0 gs _ (unhide HL) (unhide Hh)).mono ?_
  rintro e w1 ⟨rfl, hb⟩
  have HB := hide hb
  clear hb
  go_wp2_with fail
  refine (Inv_bad k m q 1 gs _ ((unhide HL).below (unhide HB)) (unhide Hh)).mono ?_
  rintro e w2 ⟨rfl, hb2⟩
  have HB2 := hide ((unhide HB).trans (hb2.mono (unhide HB).size))
  clear hb2
  go_wp2_with (go_at_call 13; refine (num_any _ _).mono ?_; rintro e w' ⟨rfl, rfl⟩)
  go_ret
  exact ⟨rfl, unhide HB2⟩
end Go.Proofs.YtnpkkcbadcmgkaaDoor
