import Derived.Test.YtnpkkcbadcmgkaaGreatDoorWTold
namespace Go.Proofs.YtnpkkcbadcmgkaaGreatDoor
open Go.RowKit Go.Deep

theorem ordN_bd {m : Nat} (hm : 3 ≤ m) (hm8 : m ≤ 8) : 7 ≤ Gf.ordN m ∧ Gf.ordN m < 256 ∧ Gf.ordN m + 1 = 2 ^ m := by
  have := pow_bd m hm hm8
  unfold Gf.ordN; omega

/-- Field.Times, of a field as New lays it. -/
theorem ftimes_any (m q b bp bl i j : Nat) (w : World) (hm : 3 ≤ m) (hm8 : m ≤ 8) (F : Gf.IsField m q) (h : FieldAt m q b bp bl w) (hi : i < 2 ^ m) (hj : j < 2 ^ m) :
    Calls Tryz.prog 57 #[.pointer (some ⟨b, 0, none⟩), .int .i64 i, .int .i64 j] w fun e w' => e = .returned (.int .i64 (Gf.mul m q i j)) ∧ Below w.heap.size w w' := by
  obtain ⟨hn1, hn2, hn3⟩ := ordN_bd hm hm8
  by_cases h0 : i = 0 ∨ j = 0
  · refine (ftimes_zero b i j w h0).mono ?_
    rintro e w' ⟨rfl, rfl⟩
    have : Gf.mul m q i j = 0 := by
      rcases h0 with rfl | rfl
      · exact Gf.zero_mul _ _ _
      · exact Gf.mul_zero _ _ _
    rw [this]
    exact ⟨rfl, Below.refl _ _⟩
  · have l1 := h.logs.cell (i := i) (by omega)
    have l2 := h.logs.cell (i := j) (by omega)
    have hla := Gf.logAt_lt (m := m) (q := q) (a := i) (k := Gf.ordN m) (by omega)
    have hlb := Gf.logAt_lt (m := m) (q := q) (a := j) (k := Gf.ordN m) (by omega)
    have hk := Nat.mod_lt (Gf.logAt m q (Gf.ordN m) i + Gf.logAt m q (Gf.ordN m) j) (show Gf.ordN m > 0 by omega)
    have p := h.pows.cell hk
    unfold powRow at p
    rw [if_pos hk, Gf.times_table F hi hj (by omega) (by omega)] at p
    refine (ftimes_core b bp bl (Gf.ordN m) _ _ _ i j _ w h.c0 h.c1 h.c2 (by omega) (by omega) (by omega) (by omega) (by omega) (by omega) l1 l2 (by omega) (by omega) p rfl).mono ?_
    rintro e w' ⟨rfl, d, rfl⟩
    exact ⟨rfl, below_of_drewN _ _ _⟩

theorem finv_any (m q b bp bl i : Nat) (w : World) (hm : 3 ≤ m) (hm8 : m ≤ 8) (F : Gf.IsField m q) (h : FieldAt m q b bp bl w) (hi : i < 2 ^ m) (h0 : i ≠ 0) :
    Calls Tryz.prog 84 #[.pointer (some ⟨b, 0, none⟩), .int .i64 i] w fun e w' => ∃ c : Nat, e = .returned (.int .i64 c) ∧ c < 2 ^ m ∧ Gf.mul m q i c = 1 ∧ Below w.heap.size w w' := by
  obtain ⟨hn1, hn2, hn3⟩ := ordN_bd hm hm8
  have l1 := h.logs.cell (i := i) (by omega)
  have hla := Gf.logAt_lt (m := m) (q := q) (a := i) (k := Gf.ordN m) (by omega)
  have hk := Nat.mod_lt (Gf.ordN m - Gf.logAt m q (Gf.ordN m) i) (show Gf.ordN m > 0 by omega)
  have p := h.pows.cell hk
  unfold powRow at p
  rw [if_pos hk] at p
  refine (finv_core b bp bl (Gf.ordN m) _ _ i _ w h.c0 h.c1 h.c2 (by omega) (by omega) (by omega) l1 hla p rfl).mono ?_
  rintro e w' ⟨rfl, d, rfl⟩
  exact ⟨_, rfl, Gf.pw_lt F.toDeg _, Gf.inverse_table F hi h0, below_of_drewN _ _ _⟩

/-- CheckElement, of a field as New lays it. -/
theorem checkE_no (m q b bp bl : Nat) (i : Int) (w : World) (hm : 3 ≤ m) (hm8 : m ≤ 8) (h : FieldAt m q b bp bl w) (hS : Sen 9 w) (hi : elemB m i = false) :
    Calls Tryz.prog 82 #[.pointer (some ⟨b, 0, none⟩), .int .i64 i] w fun e w' => ∃ a, e = .returned (.iface 175 (.pointer (some a))) ∧ w' = w := by
  obtain ⟨hn1, hn2, hn3⟩ := ordN_bd hm hm8
  obtain ⟨a, ha⟩ := hS
  have := elemB_no hi
  rw [pow_cast] at this
  refine (checkE_bad b (Gf.ordN m) i _ w h.c0 (by omega) (by omega) ha).mono ?_
  rintro e w' ⟨rfl, rfl⟩
  exact ⟨a, rfl, rfl⟩
theorem checkE_yes (m q b bp bl i : Nat) (w : World) (hm : 3 ≤ m) (hm8 : m ≤ 8) (h : FieldAt m q b bp bl w) (hi : i < 2 ^ m) :
    Calls Tryz.prog 82 #[.pointer (some ⟨b, 0, none⟩), .int .i64 i] w fun e w' => e = .returned .nilIface ∧ w' = w := by
  obtain ⟨hn1, hn2, hn3⟩ := ordN_bd hm hm8
  exact checkE_ok b (Gf.ordN m) i w h.c0 (by omega) (by omega)

theorem nat_of_elem {m : Nat} {a : Int} (h : elemB m a = true) : ∃ n : Nat, a = n ∧ n < 2 ^ m := by
  have h := elemB_yes h
  rw [pow_cast] at h
  exact ⟨a.toNat, by omega, by omega⟩

end Go.Proofs.YtnpkkcbadcmgkaaGreatDoor
