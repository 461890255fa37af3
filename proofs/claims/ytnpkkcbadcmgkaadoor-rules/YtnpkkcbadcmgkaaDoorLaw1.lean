import Derived.Test.YtnpkkcbadcmgkaaDoorWTimes
import Derived.Test.YtnpkkcbadcmgkaaDoorWRefInv
namespace Go.Proofs.YtnpkkcbadcmgkaaDoor
open Go.RowKit

theorem rTimes_bad (k m q a b : Int) (w : World) (h : NoF k m q) :
    Calls Tryd.prog 12 #[.int .i64 m, .int .i64 q, .int .i64 a, .int .i64 b] w fun r w' => r = .returned (.tuple #[.int .i64 0, .int .i64 1]) ∧ w' = w := by
  rcases h with ⟨_, h⟩ | ⟨_, n, rfl, h3, h8, h | ⟨p, rfl, hd, F⟩⟩
  · exact rTimes_m m q a b w h
  · exact rTimes_q n q a b w h3 h8 h
  · exact rTimes_no n p a b w h3 h8 hd F

theorem rInv_bad (k m q a : Int) (w : World) (h : NoF k m q) :
    Calls Tryd.prog 15 #[.int .i64 m, .int .i64 q, .int .i64 a] w fun r w' => r = .returned (.tuple #[.int .i64 0, .int .i64 1]) ∧ w' = w := by
  rcases h with ⟨_, h⟩ | ⟨_, n, rfl, h3, h8, h | ⟨p, rfl, hd, F⟩⟩
  · exact rInv_m m q a w h
  · exact rInv_q n q a w h3 h8 h
  · exact rInv_no n p a w h3 h8 hd F

set_option maxHeartbeats 1000000 in
theorem products_core (m q a b p n : Int) (w : World)
    (hT : Calls Tryd.prog 11 #[.int .i64 m, .int .i64 q, .int .i64 a, .int .i64 b] w fun e w' => e = .returned (.tuple #[.int .i64 p, .int .i64 n]) ∧ Below w.heap.size w w')
    (hR : ∀ wx, Calls Tryd.prog 12 #[.int .i64 m, .int .i64 q, .int .i64 a, .int .i64 b] wx fun e w' => e = .returned (.tuple #[.int .i64 p, .int .i64 n]) ∧ w' = wx) :
    Calls Tryd.prog 3 #[.int .i64 m, .int .i64 q, .int .i64 a, .int .i64 b] w fun e w' => e = .returned (.bool true) ∧ Below w.heap.size w w' := by
  have HT := hide hT
  have HR := hide hR
  have t1 : (p == p) = true := by simp
  clear hT hR
  go_enter Tryd.func3, Tryd.ntmps3
  go_wp2_with fail
  refine (unhide HT).mono ?_
  rintro e w1 ⟨rfl, hb⟩
  have HB := hide hb
  clear hb
  go_wp2_with fail
  refine (unhide HR _).mono ?_
  rintro e w2 ⟨rfl, rfl⟩
  go_wp2_with (go_at_call 13; refine (num_any _ _).mono ?_; rintro e w' ⟨rfl, rfl⟩)
  go_ret
  exact ⟨by simp, unhide HB⟩

theorem products_law (m q a b : Int) (gs : List Nat) (w : World) (L : Laid gs w) (hE : 2 ∈ gs) :
    Calls Tryd.prog 3 #[.int .i64 m, .int .i64 q, .int .i64 a, .int .i64 b] w fun e w' => e = .returned (.bool true) ∧ Below w.heap.size w w' := by
  rcases field_or m q with ⟨k, h⟩ | ⟨n, p, rfl, rfl, h3, h8, F⟩
  · exact products_core m q a b 0 1 w (Times_bad k m q a b gs w L h) (fun wx => rTimes_bad k m q a b wx h)
  · by_cases hs : elemB n a = false ∨ elemB n b = false
    · exact products_core n p a b 0 3 w (Times_sym n p a b gs w h3 h8 F L hE hs) (fun wx => rTimes_sym n p a b wx h3 h8 F hs)
    · obtain ⟨x, rfl, hx⟩ := nat_of_elem (m := n) (a := a) (by cases h : elemB n a; exact (hs (Or.inl h)).elim; rfl)
      obtain ⟨y, rfl, hy⟩ := nat_of_elem (m := n) (a := b) (by cases h : elemB n b; exact (hs (Or.inr h)).elim; rfl)
      exact products_core n p x y _ 0 w (Times_yes n p x y w h3 h8 F hx hy) (fun wx => rTimes_yes n p x y wx h3 h8 F hx hy)
end Go.Proofs.YtnpkkcbadcmgkaaDoor
