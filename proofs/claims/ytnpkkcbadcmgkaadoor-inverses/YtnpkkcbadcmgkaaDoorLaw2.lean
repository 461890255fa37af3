import Derived.Test.YtnpkkcbadcmgkaaDoorWInv
import Derived.Test.YtnpkkcbadcmgkaaDoorLaw1
namespace Go.Proofs.YtnpkkcbadcmgkaaDoor
open Go.RowKit

set_option maxHeartbeats 1000000 in
theorem inverses_core (m q a p n : Int) (w : World)
    (hT : Calls Tryd.prog 14 #[.int .i64 m, .int .i64 q, .int .i64 a] w fun e w' => e = .returned (.tuple #[.int .i64 p, .int .i64 n]) ∧ Below w.heap.size w w')
    (hR : ∀ wx, Calls Tryd.prog 15 #[.int .i64 m, .int .i64 q, .int .i64 a] wx fun e w' => e = .returned (.tuple #[.int .i64 p, .int .i64 n]) ∧ w' = wx) :
    Calls Tryd.prog 4 #[.int .i64 m, .int .i64 q, .int .i64 a] w fun e w' => e = .returned (.bool true) ∧ Below w.heap.size w w' := by
  have HT := hide hT
  have HR := hide hR
  have t1 : (p == p) = true := by simp
  clear hT hR
  go_enter Tryd.func4, Tryd.ntmps4
  go_wp2_with fail
  refine (unhide HT).mono ?_
  rintro e w1 ⟨rfl, hb⟩
  have HB := hide hb
  clear hb
  go_wp2_with fail
  refine (unhide HR _).mono ?_
  rintro e w2 ⟨rfl, rfl⟩
  go_wp2_with (go_at_call 13; refine (num_any _ _).mono ?_; rintro e w' ⟨rfl, rfl⟩)
  go_ret
  exact ⟨by simp, unhide HB⟩

theorem inverses_law (m q a : Int) (gs : List Nat) (w : World) (L : Laid gs w) (hE : 2 ∈ gs) (hZ : 4 ∈ gs) :
    Calls Tryd.prog 4 #[.int .i64 m, .int .i64 q, .int .i64 a] w fun e w' => e = .returned (.bool true) ∧ Below w.heap.size w w' := by
  rcases field_or m q with ⟨k, h⟩ | ⟨n, p, rfl, rfl, h3, h8, F⟩
  · exact inverses_core m q a 0 1 w (Inv_bad k m q a gs w L h) (fun wx => rInv_bad k m q a wx h)
  · by_cases hs : elemB n a = false ∨ a = 0
    · exact inverses_core n p a 0 3 w (Inv_sym n p a gs w h3 h8 F L hE hZ hs) (fun wx => rInv_sym n p a wx h3 h8 F hs)
    · obtain ⟨x, rfl, hx⟩ := nat_of_elem (m := n) (a := a) (by cases h : elemB n a; exact (hs (Or.inl h)).elim; rfl)
      have h0 : x ≠ 0 := fun e => hs (Or.inr (by omega))
      obtain ⟨c, hc, hac⟩ : ∃ c, c < 2 ^ n ∧ Gf.mul n p x c = 1 := ⟨_, Gf.pw_lt F.toDeg _, Gf.inverse_table F hx h0⟩
      refine inverses_core n p x c 0 w ((Inv_yes n p x w h3 h8 F hx h0).mono ?_) (fun wx => rInv_yes n p x c wx h3 h8 F hx hc h0 hac)
      rintro e w' ⟨d, rfl, hd, had, hb⟩
      have : d = c := Gf.inv_unique F hx hd hc had hac
      subst this
      exact ⟨rfl, hb⟩
end Go.Proofs.YtnpkkcbadcmgkaaDoor
