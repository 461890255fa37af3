import Derived.Test.YtnpkkcbadcmgkaaDoorWRules
namespace Go.Proofs.YtnpkkcbadcmgkaaDoor
open Go.RowKit

set_option maxRecDepth 100000 in
set_option maxHeartbeats 4000000 in
theorem rules_yes (m q : Nat) (a b c : Int) (gs : List Nat) (w : World) (L : Laid gs w) (hE : 2 ∈ gs) (hZ : 4 ∈ gs) (hm : 3 ≤ m) (hm8 : m ≤ 8) (F : Gf.IsField m q) :
    Calls Tryd.prog 5 #[.int .i64 m, .int .i64 q, .int .i64 a, .int .i64 b, .int .i64 c] w fun e w' => e = .returned (.bool true) ∧ Below w.heap.size w w' := by
  have HL := hide L
  have HF := hide F
  have hp := pow_bdI m hm hm8
  obtain ⟨x, hx⟩ : ∃ x, low m a = x := ⟨_, rfl⟩
  obtain ⟨y, hy⟩ : ∃ y, low m b = y := ⟨_, rfl⟩
  obtain ⟨z, hz⟩ : ∃ z, low m c = z := ⟨_, rfl⟩
  have lx : x < 2 ^ m := by rw [← hx]; exact low_lt m a
  have ly : y < 2 ^ m := by rw [← hy]; exact low_lt m b
  have lz : z < 2 ^ m := by rw [← hz]; exact low_lt m c
  have ea : bits .and .i64 a (2 ^ m - 1) = (x : Int) := by rw [low_and m hm8, hx]
  have eb : bits .and .i64 b (2 ^ m - 1) = (y : Int) := by rw [low_and m hm8, hy]
  have Hx := hide hx
  have Hy := hide hy
  have Hz := hide hz
  have Hyz := hide (show low m (bits .xor .i64 b c) = y ^^^ z by rw [low_xor m (by omega), hy, hz])
  have Lx := hide lx
  have Ly := hide ly
  have Lz := hide lz
  have Lab := hide (Gf.mul_lt (b := y) F.toDeg lx)
  have Lbc := hide (Gf.mul_lt (b := z) F.toDeg ly)
  have L1 := hide (Gf.one_lt F.m1)
  clear F L hx hy hz lx ly lz
  go_enter Tryd.func5, Tryd.ntmps5
  go_wp2_with fail
  refine (field_yes m q _ hm hm8 (unhide HF)).mono ?_
  rintro e w' ⟨rfl, rfl⟩
  go_wp2_with fail
  refine (ltimes m q a b x y _ hm hm8 (unhide HF) (unhide Hx) (unhide Hy)).mono ?_
  rintro e w1 ⟨rfl, hb⟩
  have HB1 := hide (hb)
  clear hb
  go_wp2_with fail
  refine (ltimes m q b a y x _ hm hm8 (unhide HF) (unhide Hy) (unhide Hx)).mono ?_
  rintro e w2 ⟨rfl, hb⟩
  have HB2 := hide ((unhide HB1).trans (hb.mono (unhide HB1).size))
  clear hb
  go_wp2_with fail
  refine (ltimes m q b c y z _ hm hm8 (unhide HF) (unhide Hy) (unhide Hz)).mono ?_
  rintro e w3 ⟨rfl, hb⟩
  have HB3 := hide ((unhide HB2).trans (hb.mono (unhide HB2).size))
  clear hb
  go_wp2_with fail
  refine (ltimes m q a c x z _ hm hm8 (unhide HF) (unhide Hx) (unhide Hz)).mono ?_
  rintro e w4 ⟨rfl, hb⟩
  have HB4 := hide ((unhide HB3).trans (hb.mono (unhide HB3).size))
  clear hb
  go_wp2_with fail
  refine (ltimes m q (Gf.mul m q x y : Nat) c (Gf.mul m q x y) z _ hm hm8 (unhide HF) (low_nat m _ (unhide Lab)) (unhide Hz)).mono ?_
  rintro e w5 ⟨rfl, hb⟩
  have HB5 := hide ((unhide HB4).trans (hb.mono (unhide HB4).size))
  clear hb
  go_wp2_with fail
  refine (ltimes m q a (Gf.mul m q y z : Nat) x (Gf.mul m q y z) _ hm hm8 (unhide HF) (unhide Hx) (low_nat m _ (unhide Lbc))).mono ?_
  rintro e w6 ⟨rfl, hb⟩
  have HB6 := hide ((unhide HB5).trans (hb.mono (unhide HB5).size))
  clear hb
  go_wp2_with fail
  refine (ltimes m q a (bits .xor .i64 b c) x (y ^^^ z) _ hm hm8 (unhide HF) (unhide Hx) (unhide Hyz)).mono ?_
  rintro e w7 ⟨rfl, hb⟩
  have HB7 := hide ((unhide HB6).trans (hb.mono (unhide HB6).size))
  clear hb
  go_wp2_with fail
  refine (ltimes m q a 1 x 1 _ hm hm8 (unhide HF) (unhide Hx) (low_nat m 1 (unhide L1))).mono ?_
  rintro e w8 ⟨rfl, hb⟩
  have HB8 := hide ((unhide HB7).trans (hb.mono (unhide HB7).size))
  clear hb
  have f2 : (Gf.mul m q x y : Int) ≤ 2 ^ m - 1 := by have := unhide Lab; rw [pow_cast]; omega
  have f3 : ((Gf.mul m q x y : Int) != (Gf.mul m q y x : Int)) = false := by rw [Gf.mul_comm (unhide HF) (unhide Lx) (unhide Ly)]; simp
  have f4 : ((Gf.mul m q (Gf.mul m q x y) z : Int) != (Gf.mul m q x (Gf.mul m q y z) : Int)) = false := by rw [Gf.mul_assoc (unhide HF) (unhide Lx) (unhide Ly) (unhide Lz)]; simp
  have f5 : ((Gf.mul m q x (y ^^^ z) : Int) != bits .xor .i64 (Gf.mul m q x y : Int) (Gf.mul m q x z : Int)) = false := by
    have h1 := unhide Lab
    have h2 := Gf.mul_lt (b := z) (unhide HF).toDeg (unhide Lx)
    have h3 := pow_bd m hm hm8
    rw [xor_i64 _ _ (by omega) (by omega), Gf.mul_xor_right (unhide HF).toDeg (unhide Lx)]; simp
  have f6 : ((Gf.mul m q x 1 : Int) != (x : Int)) = false := by rw [Gf.mul_one (unhide HF) (unhide Lx)]; simp
  have HE := hide (Gf.mul_eq_zero (unhide HF) (unhide Lx) (unhide Ly))
  rcases Nat.eq_zero_or_pos x with h0 | h0
  · have g0 : ((x : Int) == 0) = true := by rw [h0]; rfl
    have g1 : ((Gf.mul m q x y : Int) == 0) = true := by rw [h0, Gf.zero_mul]; rfl
    have H0 := hide (show (x : Int) = 0 by omega)
    clear h0 HE
    go_wp2_with fail
    refine (Inv_sym m q x gs _ hm hm8 (unhide HF) ((unhide HL).below (unhide HB8)) hE hZ (Or.inr (unhide H0))).mono ?_
    rintro e w9 ⟨rfl, hb⟩
    have HB9 := hide ((unhide HB8).trans (hb.mono (unhide HB8).size))
    clear hb
    go_wp2_with (go_at_call 13; refine (num_any _ _).mono ?_; rintro e w' ⟨rfl, rfl⟩)
    go_ret
    exact ⟨rfl, unhide HB9⟩
  · have g0 : ((x : Int) == 0) = false := by rw [beq_eq_false_iff_ne]; omega
    have H0 := hide (show x ≠ 0 by omega)
    clear h0
    have g12 : ∃ r : Bool, ((y : Int) == 0) = r ∧ ((Gf.mul m q x y : Int) == 0) = r := by
      refine ⟨_, rfl, ?_⟩
      have h := unhide HE
      have h1 := unhide H0
      by_cases hy : y = 0
      · rw [hy, Gf.mul_zero]
      · have : Gf.mul m q x y ≠ 0 := fun e => by rcases h.1 e with e | e <;> omega
        rw [beq_eq_false_iff_ne.2 (show ((Gf.mul m q x y : Int)) ≠ 0 by omega), beq_eq_false_iff_ne.2 (show (y : Int) ≠ 0 by omega)]
    obtain ⟨r, g1, g2⟩ := g12
    clear HE
    cases r
    all_goals
      go_wp2_with fail
      refine (Inv_yes m q x _ hm hm8 (unhide HF) (unhide Lx) (unhide H0)).mono ?_
      rintro e w9 ⟨d, rfl, hd, had, hb⟩
      have HB9 := hide ((unhide HB8).trans (hb.mono (unhide HB8).size))
      have k1 : ((Gf.mul m q x d : Int) == 1) = true := by rw [had]; rfl
      have k2 : (0 : Int) < d := by
        rcases Nat.eq_zero_or_pos d with e | e
        · subst e; rw [Gf.mul_zero] at had; cases had
        · omega
      have k3 : (d : Int) ≤ 2 ^ m - 1 := by rw [pow_cast]; omega
      have Hd := hide hd
      clear hb had hd f2 f3 f4 f5 f6 g1 g2
      go_wp2_with fail
      refine (ltimes m q a d x d _ hm hm8 (unhide HF) (unhide Hx) (low_nat m d (unhide Hd))).mono ?_
      rintro e w10 ⟨rfl, hb⟩
      have HB10 := hide ((unhide HB9).trans (hb.mono (unhide HB9).size))
      clear hb
      go_wp2_with (go_at_call 13; refine (num_any _ _).mono ?_; rintro e w' ⟨rfl, rfl⟩)
      go_ret
      exact ⟨rfl, unhide HB10⟩

theorem rules_law (m q a b c : Int) (gs : List Nat) (w : World) (L : Laid gs w) (hE : 2 ∈ gs) (hZ : 4 ∈ gs) :
    Calls Tryd.prog 5 #[.int .i64 m, .int .i64 q, .int .i64 a, .int .i64 b, .int .i64 c] w fun e w' => e = .returned (.bool true) ∧ Below w.heap.size w w' := by
  rcases field_or m q with ⟨k, h⟩ | ⟨n, p, rfl, rfl, h3, h8, F⟩
  · exact rules_bad k m q a b c gs w L h
  · exact rules_yes n p a b c gs w L hE hZ h3 h8 F
end Go.Proofs.YtnpkkcbadcmgkaaDoor
