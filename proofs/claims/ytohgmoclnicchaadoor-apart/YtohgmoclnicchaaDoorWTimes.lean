import Derived.Test.YtohgmoclnicchaaDoorWTold
namespace Go.Proofs.YtohgmoclnicchaaDoor
open Go.RowKit Go.Deep

/-- a call of two results that answers 0 and a fault. -/
def ErrPost (n p : Int) (w : World) (e : Ending) (w' : World) : Prop := ∃ x, e = .returned (.tuple #[.int .i64 0, x]) ∧ Flt n p x w' ∧ Below w.heap.size w w'

set_option maxHeartbeats 1000000 in
theorem itimes_bad (k m q a b : Int) (gs : List Nat) (w : World) (L : Laid gs w) (h : NoF k m q) :
    Calls Tryd.prog 37 #[.int .i64 m, .int .i64 q, .int .i64 a, .int .i64 b] w (ErrPost 1 k w) := by
  have HN := hide (new_bad k m q gs w L h)
  clear L h
  go_enter Tryd.func37, Tryd.ntmps37
  go_wp2_with fail
  refine (unhide HN).mono ?_
  rintro e w1 ⟨c, rfl, hb, hF⟩
  have HB := hide hb
  have HF := hide hF
  clear hb hF
  go_wp2_with fail
  refine (unhide HF _ (unhide HB)).mono ?_
  rintro e w2 ⟨x, rfl, hf, hb2⟩
  have HC := hide hf
  have HB2 := hide (Below.join (unhide HB) hb2)
  clear hf hb2
  go_wp2
  go_ret2
  exact ⟨_, rfl, unhide HC, unhide HB2⟩

theorem ordN_bd {m : Nat} (hm : 3 ≤ m) (hm8 : m ≤ 8) : 7 ≤ Gf.ordN m ∧ Gf.ordN m < 256 ∧ Gf.ordN m + 1 = 2 ^ m := by
  have := pow_bd m hm hm8
  unfold Gf.ordN; omega

/-- Field.Times, of a field as New lays it. -/
theorem ftimes_any (m q b bp bl i j : Nat) (w : World) (hm : 3 ≤ m) (hm8 : m ≤ 8) (F : Gf.IsField m q) (h : FieldAt m q b bp bl w) (hi : i < 2 ^ m) (hj : j < 2 ^ m) :
    Calls Tryd.prog 60 #[.pointer (some ⟨b, 0, none⟩), .int .i64 i, .int .i64 j] w fun e w' => e = .returned (.int .i64 (Gf.mul m q i j)) ∧ Below w.heap.size w w' := by
  obtain ⟨hn1, hn2, hn3⟩ := ordN_bd hm hm8
  by_cases h0 : i = 0 ∨ j = 0
  · refine (ftimes_zero b i j w h0).mono ?_
    rintro e w' ⟨rfl, rfl⟩
    have : Gf.mul m q i j = 0 := by
      rcases h0 with rfl | rfl
      · exact Gf.zero_mul _ _ _
      · exact Gf.mul_zero _ _ _
    rw [this]
    exact ⟨rfl, Below.refl _ _⟩
  · have l1 := h.logs.cell (i := i) (by omega)
    have l2 := h.logs.cell (i := j) (by omega)
    have hla := Gf.logAt_lt (m := m) (q := q) (a := i) (k := Gf.ordN m) (by omega)
    have hlb := Gf.logAt_lt (m := m) (q := q) (a := j) (k := Gf.ordN m) (by omega)
    have hk := Nat.mod_lt (Gf.logAt m q (Gf.ordN m) i + Gf.logAt m q (Gf.ordN m) j) (show Gf.ordN m > 0 by omega)
    have p := h.pows.cell hk
    unfold powRow at p
    rw [if_pos hk, Gf.times_table F hi hj (by omega) (by omega)] at p
    refine (ftimes_core b bp bl (Gf.ordN m) _ _ _ i j _ w h.c0 h.c1 h.c2 (by omega) (by omega) (by omega) (by omega) (by omega) (by omega) l1 l2 (by omega) (by omega) p rfl).mono ?_
    rintro e w' ⟨rfl, d, rfl⟩
    exact ⟨rfl, below_of_drewN _ _ _⟩

theorem finv_any (m q b bp bl i : Nat) (w : World) (hm : 3 ≤ m) (hm8 : m ≤ 8) (F : Gf.IsField m q) (h : FieldAt m q b bp bl w) (hi : i < 2 ^ m) (h0 : i ≠ 0) :
    Calls Tryd.prog 63 #[.pointer (some ⟨b, 0, none⟩), .int .i64 i] w fun e w' => ∃ c : Nat, e = .returned (.int .i64 c) ∧ c < 2 ^ m ∧ Gf.mul m q i c = 1 ∧ Below w.heap.size w w' := by
  obtain ⟨hn1, hn2, hn3⟩ := ordN_bd hm hm8
  have l1 := h.logs.cell (i := i) (by omega)
  have hla := Gf.logAt_lt (m := m) (q := q) (a := i) (k := Gf.ordN m) (by omega)
  have hk := Nat.mod_lt (Gf.ordN m - Gf.logAt m q (Gf.ordN m) i) (show Gf.ordN m > 0 by omega)
  have p := h.pows.cell hk
  unfold powRow at p
  rw [if_pos hk] at p
  refine (finv_core b bp bl (Gf.ordN m) _ _ i _ w h.c0 h.c1 h.c2 (by omega) (by omega) (by omega) l1 hla p rfl).mono ?_
  rintro e w' ⟨rfl, d, rfl⟩
  exact ⟨_, rfl, Gf.pw_lt F.toDeg _, Gf.inverse_table F hi h0, below_of_drewN _ _ _⟩

/-- CheckElement, of a field as New lays it. -/
theorem checkE_no (m q b bp bl : Nat) (i : Int) (w : World) (hm : 3 ≤ m) (hm8 : m ≤ 8) (h : FieldAt m q b bp bl w) (hS : Sen 2 w) (hi : elemB m i = false) :
    Calls Tryd.prog 58 #[.pointer (some ⟨b, 0, none⟩), .int .i64 i] w fun e w' => ∃ a, e = .returned (.iface 154 (.pointer (some a))) ∧ w' = w := by
  obtain ⟨hn1, hn2, hn3⟩ := ordN_bd hm hm8
  obtain ⟨a, ha⟩ := hS
  have := elemB_no hi
  rw [pow_cast] at this
  refine (checkE_bad b (Gf.ordN m) i _ w h.c0 (by omega) (by omega) ha).mono ?_
  rintro e w' ⟨rfl, rfl⟩
  exact ⟨a, rfl, rfl⟩
theorem checkE_yes (m q b bp bl i : Nat) (w : World) (hm : 3 ≤ m) (hm8 : m ≤ 8) (h : FieldAt m q b bp bl w) (hi : i < 2 ^ m) :
    Calls Tryd.prog 58 #[.pointer (some ⟨b, 0, none⟩), .int .i64 i] w fun e w' => e = .returned .nilIface ∧ w' = w := by
  obtain ⟨hn1, hn2, hn3⟩ := ordN_bd hm hm8
  exact checkE_ok b (Gf.ordN m) i w h.c0 (by omega) (by omega)

set_option maxHeartbeats 1000000 in
theorem itimes_sym1 (m q : Nat) (a b : Int) (gs : List Nat) (w : World) (hm : 3 ≤ m) (hm8 : m ≤ 8) (F : Gf.IsField m q) (L : Laid gs w) (hE : 2 ∈ gs) (ha : elemB m a = false) :
    Calls Tryd.prog 37 #[.int .i64 m, .int .i64 q, .int .i64 a, .int .i64 b] w (ErrPost 3 0 w) := by
  have HL := hide L
  have HF := hide F
  have Ha := hide ha
  have HE := hide hE
  clear L F ha hE
  go_enter Tryd.func37, Tryd.ntmps37
  go_wp2_with fail
  refine (new_yes m q _ hm hm8 (unhide HF)).mono ?_
  rintro e w1 ⟨fb, bp, bl, rfl, hb, hf⟩
  have HB := hide hb
  have HA := hide hf
  clear hb hf
  go_wp2_with fail
  refine (checkE_no m q fb bp bl a _ hm hm8 (unhide HA) (((unhide HL).below (unhide HB)).so _ (unhide HE)) (unhide Ha)).mono ?_
  rintro e w' ⟨c, rfl, rfl⟩
  go_wp2_with fail
  refine (symbolFault_any _ _ _ _).mono ?_
  rintro e w2 ⟨x, rfl, hf, hb2⟩
  have HC := hide hf
  have HB2 := hide (Below.join (unhide HB) hb2)
  clear hf hb2
  go_wp2
  go_ret2
  exact ⟨_, rfl, unhide HC, unhide HB2⟩

set_option maxHeartbeats 1000000 in
theorem itimes_sym2 (m q a : Nat) (b : Int) (gs : List Nat) (w : World) (hm : 3 ≤ m) (hm8 : m ≤ 8) (F : Gf.IsField m q) (L : Laid gs w) (hE : 2 ∈ gs) (ha : a < 2 ^ m) (hb : elemB m b = false) :
    Calls Tryd.prog 37 #[.int .i64 m, .int .i64 q, .int .i64 a, .int .i64 b] w (ErrPost 3 0 w) := by
  have HL := hide L
  have HF := hide F
  have Ha := hide ha
  have Hb := hide hb
  have HE := hide hE
  clear L F ha hb hE
  go_enter Tryd.func37, Tryd.ntmps37
  go_wp2_with fail
  refine (new_yes m q _ hm hm8 (unhide HF)).mono ?_
  rintro e w1 ⟨fb, bp, bl, rfl, hb, hf⟩
  have HB := hide hb
  have HA := hide hf
  clear hb hf
  go_wp2_with fail
  refine (checkE_yes m q fb bp bl a _ hm hm8 (unhide HA) (unhide Ha)).mono ?_
  rintro e w' ⟨rfl, rfl⟩
  go_wp2_with fail
  refine (checkE_no m q fb bp bl b _ hm hm8 (unhide HA) (((unhide HL).below (unhide HB)).so _ (unhide HE)) (unhide Hb)).mono ?_
  rintro e w' ⟨c, rfl, rfl⟩
  go_wp2_with fail
  refine (symbolFault_any _ _ _ _).mono ?_
  rintro e w2 ⟨x, rfl, hf, hb2⟩
  have HC := hide hf
  have HB2 := hide (Below.join (unhide HB) hb2)
  clear hf hb2
  go_wp2
  go_ret2
  exact ⟨_, rfl, unhide HC, unhide HB2⟩

set_option maxHeartbeats 1000000 in
theorem itimes_yes (m q a b : Nat) (w : World) (hm : 3 ≤ m) (hm8 : m ≤ 8) (F : Gf.IsField m q) (ha : a < 2 ^ m) (hb : b < 2 ^ m) :
    Calls Tryd.prog 37 #[.int .i64 m, .int .i64 q, .int .i64 a, .int .i64 b] w fun e w' => e = .returned (.tuple #[.int .i64 (Gf.mul m q a b), .nilIface]) ∧ Below w.heap.size w w' := by
  have HF := hide F
  have Ha := hide ha
  have Hb := hide hb
  clear F ha hb
  go_enter Tryd.func37, Tryd.ntmps37
  go_wp2_with fail
  refine (new_yes m q _ hm hm8 (unhide HF)).mono ?_
  rintro e w1 ⟨fb, bp, bl, rfl, hb, hf⟩
  have HB := hide hb
  have HA := hide hf
  clear hb hf
  go_wp2_with fail
  refine (checkE_yes m q fb bp bl a _ hm hm8 (unhide HA) (unhide Ha)).mono ?_
  rintro e w' ⟨rfl, rfl⟩
  go_wp2_with fail
  refine (checkE_yes m q fb bp bl b _ hm hm8 (unhide HA) (unhide Hb)).mono ?_
  rintro e w' ⟨rfl, rfl⟩
  go_wp2_with fail
  refine (ftimes_any m q fb bp bl a b _ hm hm8 (unhide HF) (unhide HA) (unhide Ha) (unhide Hb)).mono ?_
  rintro e w2 ⟨rfl, hb2⟩
  have HB2 := hide ((unhide HB).trans (hb2.mono (unhide HB).size))
  clear hb2
  go_wp2
  go_ret2
  exact ⟨rfl, unhide HB2⟩

/-! ### Times itself -/
set_option maxHeartbeats 1000000 in
theorem Times_err (m q a b n p : Int) (gs : List Nat) (w : World) (L : Laid gs w) (h : Calls Tryd.prog 37 #[.int .i64 m, .int .i64 q, .int .i64 a, .int .i64 b] w (ErrPost n p w)) :
    Calls Tryd.prog 15 #[.int .i64 m, .int .i64 q, .int .i64 a, .int .i64 b] w fun e w' => e = .returned (.tuple #[.int .i64 0, .int .i64 n]) ∧ Below w.heap.size w w' := by
  have HL := hide L
  have Hh := hide h
  clear L h
  go_enter Tryd.func15, Tryd.ntmps15
  go_wp2_with fail
  refine (unhide Hh).mono ?_
  rintro e w1 ⟨x, rfl, hc, hb⟩
  have HC := hide hc
  have HB := hide hb
  clear hc hb
  go_wp2_with fail
  refine (told_flt n p x gs _ ((unhide HL).below (unhide HB)) (unhide HC)).mono ?_
  rintro e w2 ⟨rfl, hb2⟩
  have HB2 := hide (Below.join (unhide HB) hb2)
  clear hb2
  go_wp2
  go_ret2
  exact ⟨rfl, unhide HB2⟩

set_option maxHeartbeats 1000000 in
theorem Times_yes (m q a b : Nat) (w : World) (hm : 3 ≤ m) (hm8 : m ≤ 8) (F : Gf.IsField m q) (ha : a < 2 ^ m) (hb : b < 2 ^ m) :
    Calls Tryd.prog 15 #[.int .i64 m, .int .i64 q, .int .i64 a, .int .i64 b] w fun e w' => e = .returned (.tuple #[.int .i64 (Gf.mul m q a b), .int .i64 0]) ∧ Below w.heap.size w w' := by
  have H := hide (itimes_yes m q a b w hm hm8 F ha hb)
  clear F ha hb
  go_enter Tryd.func15, Tryd.ntmps15
  go_wp2_with fail
  refine (unhide H).mono ?_
  rintro e w1 ⟨rfl, hb⟩
  have HB := hide hb
  clear hb
  go_wp2_with fail
  refine (told_nil _).mono ?_
  rintro e w2 ⟨rfl, hb2⟩
  have HB2 := hide ((unhide HB).trans (hb2.mono (unhide HB).size))
  clear hb2
  go_wp2
  go_ret2
  exact ⟨rfl, unhide HB2⟩

theorem Times_bad (k m q a b : Int) (gs : List Nat) (w : World) (L : Laid gs w) (h : NoF k m q) :
    Calls Tryd.prog 15 #[.int .i64 m, .int .i64 q, .int .i64 a, .int .i64 b] w fun e w' => e = .returned (.tuple #[.int .i64 0, .int .i64 1]) ∧ Below w.heap.size w w' :=
  Times_err m q a b 1 k gs w L (itimes_bad k m q a b gs w L h)

theorem nat_of_elem {m : Nat} {a : Int} (h : elemB m a = true) : ∃ n : Nat, a = n ∧ n < 2 ^ m := by
  have h := elemB_yes h
  rw [pow_cast] at h
  exact ⟨a.toNat, by omega, by omega⟩

theorem Times_sym (m q : Nat) (a b : Int) (gs : List Nat) (w : World) (hm : 3 ≤ m) (hm8 : m ≤ 8) (F : Gf.IsField m q) (L : Laid gs w) (hE : 2 ∈ gs) (h : elemB m a = false ∨ elemB m b = false) :
    Calls Tryd.prog 15 #[.int .i64 m, .int .i64 q, .int .i64 a, .int .i64 b] w fun e w' => e = .returned (.tuple #[.int .i64 0, .int .i64 3]) ∧ Below w.heap.size w w' := by
  cases ha : elemB m a
  · exact Times_err m q a b 3 0 gs w L (itimes_sym1 m q a b gs w hm hm8 F L hE ha)
  · have hb : elemB m b = false := by
      rcases h with h | h
      · rw [ha] at h; cases h
      · exact h
    obtain ⟨n, rfl, hn⟩ := nat_of_elem ha
    exact Times_err m q n b 3 0 gs w L (itimes_sym2 m q n b gs w hm hm8 F L hE hn hb)
end Go.Proofs.YtohgmoclnicchaaDoor
