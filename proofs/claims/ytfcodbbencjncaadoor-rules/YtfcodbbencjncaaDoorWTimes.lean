import Derived.Test.YtfcodbbencjncaaDoorWErrno
namespace Go.Proofs.YtfcodbbencjncaaDoor
open Go.RowKit Go.Deep

theorem below_of_drewN (B : Nat) (w : World) (d : Nat) : Below B w (w.drewN d) := by
  refine ⟨?_, ?_, ?_, ?_, fun k _ => ?_⟩ <;> simp [World.drewN]

/-- no field. -/
def NoField (m q : Int) : Prop := (m < 3 ∨ 8 < m) ∨ ∃ n : Nat, m = n ∧ 3 ≤ n ∧ n ≤ 8 ∧ (q / 2 ^ n ≠ 1 ∨ ∃ p : Nat, q = p ∧ Gf.Deg n p ∧ ¬ Gf.IsField n p)

theorem field_or (m q : Int) : NoField m q ∨ ∃ n p : Nat, m = n ∧ q = p ∧ 3 ≤ n ∧ n ≤ 8 ∧ Gf.IsField n p := by
  by_cases h : m < 3 ∨ 8 < m
  · exact Or.inl (Or.inl h)
  · obtain ⟨n, rfl⟩ : ∃ n : Nat, m = n := ⟨m.toNat, by omega⟩
    by_cases hq : q / 2 ^ n = 1
    · have h0 : 0 ≤ q := by
        rcases Int.lt_or_le q 0 with h0 | h0
        · have : q / 2 ^ n < 0 := Int.ediv_neg_of_neg_of_pos h0 (Int.pow_pos (by decide))
          omega
        · exact h0
      obtain ⟨p, rfl⟩ : ∃ p : Nat, q = p := ⟨q.toNat, by omega⟩
      have hd : Gf.Deg n p := ⟨by omega, by rw [div_cast] at hq; omega⟩
      by_cases F : Gf.IsField n p
      · exact Or.inr ⟨n, p, rfl, rfl, by omega, by omega, F⟩
      · exact Or.inl (Or.inr ⟨n, rfl, by omega, by omega, Or.inr ⟨p, rfl, hd, F⟩⟩)
    · exact Or.inl (Or.inr ⟨n, rfl, by omega, by omega, Or.inl hq⟩)

/-- field.New where there is no field. -/
theorem new_bad (m q : Int) (a0 a1 a2 a3 : Addr) (w : World) (L : Laid a0 a1 a2 a3 w) (h : NoField m q) :
    Calls Tryd.prog 19 #[.int .i64 m, .int .i64 q] w fun e w' => ∃ a, (a = a0 ∨ a = a1) ∧ e = .returned (.tuple #[.pointer none, .iface 90 (.pointer (some a))]) ∧ Below w.heap.size w w' := by
  rcases h with h | ⟨n, rfl, h3, h8, h | ⟨p, rfl, hd, F⟩⟩
  · refine (new_m m q _ w h L.v0).mono ?_
    rintro e w' ⟨rfl, d, rfl⟩
    exact ⟨a0, Or.inl rfl, rfl, below_of_drewN _ _ _⟩
  · refine (new_q n q _ w h3 h8 h L.v1).mono ?_
    rintro e w' ⟨rfl, d, rfl⟩
    exact ⟨a1, Or.inr rfl, rfl, below_of_drewN _ _ _⟩
  · refine (new_no n p _ w h3 h8 hd F L.v1).mono ?_
    rintro e w' ⟨rfl, hb⟩
    exact ⟨a1, Or.inr rfl, rfl, hb⟩

def ErrPost (n : Int) (w : World) (e : Ending) (w' : World) : Prop := ∃ fb : Nat, e = .returned (.tuple #[.int .i64 0, .iface 47 (.pointer (some ⟨fb, 0, none⟩))]) ∧ w'.cell? ⟨fb, 0, none⟩ = some (.int .i64 n) ∧ Below w.heap.size w w'

/-- fieldFault of what New answers. -/
theorem fault_new (a a0 a1 a2 a3 : Addr) (w : World) (L : Laid a0 a1 a2 a3 w) (h : a = a0 ∨ a = a1) :
    Calls Tryd.prog 20 #[.iface 90 (.pointer (some a))] w fun e w' => e = .returned (.iface 47 (.pointer (some ⟨w.heap.size, 0, none⟩))) ∧ w'.cell? ⟨w.heap.size, 0, none⟩ = some (.int .i64 1) ∧ Below w.heap.size w w' := by
  rcases h with rfl | rfl
  · refine (fault_params a a2 a3 w L.v2 L.v3 L.n02 L.n03 L.r0 L.r2 L.r3).mono ?_
    rintro e w' ⟨rfl, rfl⟩
    exact ⟨rfl, by simp, (Below.refl _ _).alloc (Nat.le_refl _) _⟩
  · refine (fault_params a a2 a3 w L.v2 L.v3 L.n12 L.n13 L.r1 L.r2 L.r3).mono ?_
    rintro e w' ⟨rfl, rfl⟩
    exact ⟨rfl, by simp, (Below.refl _ _).alloc (Nat.le_refl _) _⟩

set_option maxHeartbeats 1000000 in
theorem itimes_bad (m q a b : Int) (a0 a1 a2 a3 : Addr) (w : World) (L : Laid a0 a1 a2 a3 w) (h : NoField m q) :
    Calls Tryd.prog 13 #[.int .i64 m, .int .i64 q, .int .i64 a, .int .i64 b] w (ErrPost 1 w) := by
  have HL := hide L
  have Hh := hide h
  clear L h
  go_enter Tryd.func13, Tryd.ntmps13
  go_wp2_with fail
  refine (new_bad m q a0 a1 a2 a3 _ (unhide HL) (unhide Hh)).mono ?_
  rintro e w1 ⟨c, hc, rfl, hb⟩
  have Hc := hide hc
  have HB := hide hb
  clear hc hb
  go_wp2_with fail
  refine (fault_new c a0 a1 a2 a3 _ ((unhide HL).below (unhide HB)) (unhide Hc)).mono ?_
  rintro e w2 ⟨rfl, hcell, hb2⟩
  have HC := hide hcell
  have HB2 := hide ((unhide HB).trans (hb2.mono (unhide HB).size))
  clear hcell hb2
  go_wp2
  go_ret2
  exact ⟨_, rfl, unhide HC, unhide HB2⟩

theorem ordN_bd {m : Nat} (hm : 3 ≤ m) (hm8 : m ≤ 8) : 7 ≤ Gf.ordN m ∧ Gf.ordN m < 256 ∧ Gf.ordN m + 1 = 2 ^ m := by
  have := pow_bd m hm hm8
  unfold Gf.ordN; omega

/-- Field.Times, of a field as New lays it. -/
theorem ftimes_any (m q b bp bl i j : Nat) (w : World) (hm : 3 ≤ m) (hm8 : m ≤ 8) (F : Gf.IsField m q) (h : FieldAt m q b bp bl w) (hi : i < 2 ^ m) (hj : j < 2 ^ m) :
    Calls Tryd.prog 22 #[.pointer (some ⟨b, 0, none⟩), .int .i64 i, .int .i64 j] w fun e w' => e = .returned (.int .i64 (Gf.mul m q i j)) ∧ Below w.heap.size w w' := by
  obtain ⟨hn1, hn2, hn3⟩ := ordN_bd hm hm8
  by_cases h0 : i = 0 ∨ j = 0
  · refine (ftimes_zero b i j w h0).mono ?_
    rintro e w' ⟨rfl, rfl⟩
    have : Gf.mul m q i j = 0 := by
      rcases h0 with rfl | rfl
      · exact Gf.zero_mul _ _ _
      · exact Gf.mul_zero _ _ _
    rw [this]
    exact ⟨rfl, Below.refl _ _⟩
  · have l1 := h.logs.cell (i := i) (by omega)
    have l2 := h.logs.cell (i := j) (by omega)
    have hla := Gf.logAt_lt (m := m) (q := q) (a := i) (k := Gf.ordN m) (by omega)
    have hlb := Gf.logAt_lt (m := m) (q := q) (a := j) (k := Gf.ordN m) (by omega)
    have hk := Nat.mod_lt (Gf.logAt m q (Gf.ordN m) i + Gf.logAt m q (Gf.ordN m) j) (show Gf.ordN m > 0 by omega)
    have p := h.pows.cell hk
    unfold powRow at p
    rw [if_pos hk, Gf.times_table F hi hj (by omega) (by omega)] at p
    refine (ftimes_core b bp bl (Gf.ordN m) _ _ _ i j _ w h.c0 h.c1 h.c2 (by omega) (by omega) (by omega) (by omega) (by omega) (by omega) l1 l2 (by omega) (by omega) p rfl).mono ?_
    rintro e w' ⟨rfl, d, rfl⟩
    exact ⟨rfl, below_of_drewN _ _ _⟩

theorem finv_any (m q b bp bl i : Nat) (w : World) (hm : 3 ≤ m) (hm8 : m ≤ 8) (F : Gf.IsField m q) (h : FieldAt m q b bp bl w) (hi : i < 2 ^ m) (h0 : i ≠ 0) :
    Calls Tryd.prog 25 #[.pointer (some ⟨b, 0, none⟩), .int .i64 i] w fun e w' => ∃ c : Nat, e = .returned (.int .i64 c) ∧ c < 2 ^ m ∧ Gf.mul m q i c = 1 ∧ Below w.heap.size w w' := by
  obtain ⟨hn1, hn2, hn3⟩ := ordN_bd hm hm8
  have l1 := h.logs.cell (i := i) (by omega)
  have hla := Gf.logAt_lt (m := m) (q := q) (a := i) (k := Gf.ordN m) (by omega)
  have hk := Nat.mod_lt (Gf.ordN m - Gf.logAt m q (Gf.ordN m) i) (show Gf.ordN m > 0 by omega)
  have p := h.pows.cell hk
  unfold powRow at p
  rw [if_pos hk] at p
  refine (finv_core b bp bl (Gf.ordN m) _ _ i _ w h.c0 h.c1 h.c2 (by omega) (by omega) (by omega) l1 hla p rfl).mono ?_
  rintro e w' ⟨rfl, d, rfl⟩
  exact ⟨_, rfl, Gf.pw_lt F.toDeg _, Gf.inverse_table F hi h0, below_of_drewN _ _ _⟩

theorem Laid.lts {a0 a1 a2 a3 : Addr} {w : World} (h : Laid a0 a1 a2 a3 w) : 4 < w.heap.size := lt_of_cell h.v4

/-- fieldFault of ErrElement. -/
theorem fault_elem (a0 a1 a2 a3 : Addr) (w : World) (L : Laid a0 a1 a2 a3 w) :
    Calls Tryd.prog 20 #[.iface 90 (.pointer (some a2))] w fun e w' => e = .returned (.iface 47 (.pointer (some ⟨w.heap.size, 0, none⟩))) ∧ w'.cell? ⟨w.heap.size, 0, none⟩ = some (.int .i64 3) ∧ Below w.heap.size w w' := by
  refine (fault_element a2 w L.v2).mono ?_
  rintro e w' ⟨rfl, rfl⟩
  exact ⟨rfl, by simp, (Below.refl _ _).alloc (Nat.le_refl _) _⟩
theorem fault_zeroL (a0 a1 a2 a3 : Addr) (w : World) (L : Laid a0 a1 a2 a3 w) :
    Calls Tryd.prog 20 #[.iface 90 (.pointer (some a3))] w fun e w' => e = .returned (.iface 47 (.pointer (some ⟨w.heap.size, 0, none⟩))) ∧ w'.cell? ⟨w.heap.size, 0, none⟩ = some (.int .i64 3) ∧ Below w.heap.size w w' := by
  refine (fault_zero a2 a3 w L.v2 L.v3 L.n32 L.r2 L.r3).mono ?_
  rintro e w' ⟨rfl, rfl⟩
  exact ⟨rfl, by simp, (Below.refl _ _).alloc (Nat.le_refl _) _⟩

/-- CheckElement, of a field as New lays it. -/
theorem checkE_no (m q b bp bl : Nat) (i : Int) (a0 a1 a2 a3 : Addr) (w : World) (hm : 3 ≤ m) (hm8 : m ≤ 8) (h : FieldAt m q b bp bl w) (L : Laid a0 a1 a2 a3 w) (hi : elemB m i = false) :
    Calls Tryd.prog 21 #[.pointer (some ⟨b, 0, none⟩), .int .i64 i] w fun e w' => e = .returned (.iface 90 (.pointer (some a2))) ∧ w' = w := by
  obtain ⟨hn1, hn2, hn3⟩ := ordN_bd hm hm8
  refine checkE_bad b (Gf.ordN m) i _ w h.c0 (by omega) ?_ L.v2
  have := elemB_no hi
  rw [pow_cast] at this
  omega
theorem checkE_yes (m q b bp bl i : Nat) (w : World) (hm : 3 ≤ m) (hm8 : m ≤ 8) (h : FieldAt m q b bp bl w) (hi : i < 2 ^ m) :
    Calls Tryd.prog 21 #[.pointer (some ⟨b, 0, none⟩), .int .i64 i] w fun e w' => e = .returned .nilIface ∧ w' = w := by
  obtain ⟨hn1, hn2, hn3⟩ := ordN_bd hm hm8
  exact checkE_ok b (Gf.ordN m) i w h.c0 (by omega) (by omega)

set_option maxHeartbeats 1000000 in
theorem itimes_sym1 (m q : Nat) (a b : Int) (a0 a1 a2 a3 : Addr) (w : World) (hm : 3 ≤ m) (hm8 : m ≤ 8) (F : Gf.IsField m q) (L : Laid a0 a1 a2 a3 w) (ha : elemB m a = false) :
    Calls Tryd.prog 13 #[.int .i64 m, .int .i64 q, .int .i64 a, .int .i64 b] w (ErrPost 3 w) := by
  have HL := hide L
  have HF := hide F
  have Ha := hide ha
  clear L F ha
  go_enter Tryd.func13, Tryd.ntmps13
  go_wp2_with fail
  refine (new_yes m q _ hm hm8 (unhide HF)).mono ?_
  rintro e w1 ⟨fb, bp, bl, rfl, hb, hf⟩
  have HB := hide hb
  have HA := hide hf
  clear hb hf
  go_wp2_with fail
  refine (checkE_no m q fb bp bl a a0 a1 a2 a3 _ hm hm8 (unhide HA) ((unhide HL).below (unhide HB)) (unhide Ha)).mono ?_
  rintro e w' ⟨rfl, rfl⟩
  go_wp2_with fail
  refine (fault_elem a0 a1 a2 a3 _ ((unhide HL).below (unhide HB))).mono ?_
  rintro e w2 ⟨rfl, hcell, hb2⟩
  have HC := hide hcell
  have HB2 := hide ((unhide HB).trans (hb2.mono (unhide HB).size))
  clear hcell hb2
  go_wp2
  go_ret2
  exact ⟨_, rfl, unhide HC, unhide HB2⟩

set_option maxHeartbeats 1000000 in
theorem itimes_sym2 (m q a : Nat) (b : Int) (a0 a1 a2 a3 : Addr) (w : World) (hm : 3 ≤ m) (hm8 : m ≤ 8) (F : Gf.IsField m q) (L : Laid a0 a1 a2 a3 w) (ha : a < 2 ^ m) (hb : elemB m b = false) :
    Calls Tryd.prog 13 #[.int .i64 m, .int .i64 q, .int .i64 a, .int .i64 b] w (ErrPost 3 w) := by
  have HL := hide L
  have HF := hide F
  have Ha := hide ha
  have Hb := hide hb
  clear L F ha hb
  go_enter Tryd.func13, Tryd.ntmps13
  go_wp2_with fail
  refine (new_yes m q _ hm hm8 (unhide HF)).mono ?_
  rintro e w1 ⟨fb, bp, bl, rfl, hb, hf⟩
  have HB := hide hb
  have HA := hide hf
  clear hb hf
  go_wp2_with fail
  refine (checkE_yes m q fb bp bl a _ hm hm8 (unhide HA) (unhide Ha)).mono ?_
  rintro e w' ⟨rfl, rfl⟩
  go_wp2_with fail
  refine (checkE_no m q fb bp bl b a0 a1 a2 a3 _ hm hm8 (unhide HA) ((unhide HL).below (unhide HB)) (unhide Hb)).mono ?_
  rintro e w' ⟨rfl, rfl⟩
  go_wp2_with fail
  refine (fault_elem a0 a1 a2 a3 _ ((unhide HL).below (unhide HB))).mono ?_
  rintro e w2 ⟨rfl, hcell, hb2⟩
  have HC := hide hcell
  have HB2 := hide ((unhide HB).trans (hb2.mono (unhide HB).size))
  clear hcell hb2
  go_wp2
  go_ret2
  exact ⟨_, rfl, unhide HC, unhide HB2⟩

set_option maxHeartbeats 1000000 in
theorem itimes_yes (m q a b : Nat) (w : World) (hm : 3 ≤ m) (hm8 : m ≤ 8) (F : Gf.IsField m q) (ha : a < 2 ^ m) (hb : b < 2 ^ m) :
    Calls Tryd.prog 13 #[.int .i64 m, .int .i64 q, .int .i64 a, .int .i64 b] w fun e w' => e = .returned (.tuple #[.int .i64 (Gf.mul m q a b), .nilIface]) ∧ Below w.heap.size w w' := by
  have HF := hide F
  have Ha := hide ha
  have Hb := hide hb
  clear F ha hb
  go_enter Tryd.func13, Tryd.ntmps13
  go_wp2_with fail
  refine (new_yes m q _ hm hm8 (unhide HF)).mono ?_
  rintro e w1 ⟨fb, bp, bl, rfl, hb, hf⟩
  have HB := hide hb
  have HA := hide hf
  clear hb hf
  go_wp2_with fail
  refine (checkE_yes m q fb bp bl a _ hm hm8 (unhide HA) (unhide Ha)).mono ?_
  rintro e w' ⟨rfl, rfl⟩
  go_wp2_with fail
  refine (checkE_yes m q fb bp bl b _ hm hm8 (unhide HA) (unhide Hb)).mono ?_
  rintro e w' ⟨rfl, rfl⟩
  go_wp2_with fail
  refine (ftimes_any m q fb bp bl a b _ hm hm8 (unhide HF) (unhide HA) (unhide Ha) (unhide Hb)).mono ?_
  rintro e w2 ⟨rfl, hb2⟩
  have HB2 := hide ((unhide HB).trans (hb2.mono (unhide HB).size))
  clear hb2
  go_wp2
  go_ret2
  exact ⟨rfl, unhide HB2⟩

/-! ### Times itself -/
set_option maxHeartbeats 1000000 in
theorem Times_err (m q a b n : Int) (a0 a1 a2 a3 : Addr) (w : World) (L : Laid a0 a1 a2 a3 w) (h : Calls Tryd.prog 13 #[.int .i64 m, .int .i64 q, .int .i64 a, .int .i64 b] w (ErrPost n w)) :
    Calls Tryd.prog 6 #[.int .i64 m, .int .i64 q, .int .i64 a, .int .i64 b] w fun e w' => e = .returned (.tuple #[.int .i64 0, .int .i64 n]) ∧ Below w.heap.size w w' := by
  have HL := hide L
  have Hh := hide h
  clear L h
  go_enter Tryd.func6, Tryd.ntmps6
  go_wp2_with fail
  refine (unhide Hh).mono ?_
  rintro e w1 ⟨fb, rfl, hc, hb⟩
  have HC := hide hc
  have HB := hide hb
  clear hc hb
  go_wp2_with fail
  refine (errnoOf_fault fb n _ ((unhide HL).below (unhide HB)).v4 (unhide HC)).mono ?_
  rintro e w2 ⟨rfl, hb2⟩
  have HB2 := hide ((unhide HB).trans (hb2.mono (unhide HB).size))
  clear hb2
  go_wp2
  go_ret2
  exact ⟨rfl, unhide HB2⟩

set_option maxHeartbeats 1000000 in
theorem Times_yes (m q a b : Nat) (w : World) (hm : 3 ≤ m) (hm8 : m ≤ 8) (F : Gf.IsField m q) (ha : a < 2 ^ m) (hb : b < 2 ^ m) :
    Calls Tryd.prog 6 #[.int .i64 m, .int .i64 q, .int .i64 a, .int .i64 b] w fun e w' => e = .returned (.tuple #[.int .i64 (Gf.mul m q a b), .int .i64 0]) ∧ Below w.heap.size w w' := by
  have H := hide (itimes_yes m q a b w hm hm8 F ha hb)
  clear F ha hb
  go_enter Tryd.func6, Tryd.ntmps6
  go_wp2_with fail
  refine (unhide H).mono ?_
  rintro e w1 ⟨rfl, hb⟩
  have HB := hide hb
  clear hb
  go_wp2_with fail
  refine (errnoOf_nil _).mono ?_
  rintro e w2 ⟨rfl, hb2⟩
  have HB2 := hide ((unhide HB).trans (hb2.mono (unhide HB).size))
  clear hb2
  go_wp2
  go_ret2
  exact ⟨rfl, unhide HB2⟩

theorem Times_bad (m q a b : Int) (a0 a1 a2 a3 : Addr) (w : World) (L : Laid a0 a1 a2 a3 w) (h : NoField m q) :
    Calls Tryd.prog 6 #[.int .i64 m, .int .i64 q, .int .i64 a, .int .i64 b] w fun e w' => e = .returned (.tuple #[.int .i64 0, .int .i64 1]) ∧ Below w.heap.size w w' :=
  Times_err m q a b 1 a0 a1 a2 a3 w L (itimes_bad m q a b a0 a1 a2 a3 w L h)

theorem nat_of_elem {m : Nat} {a : Int} (h : elemB m a = true) : ∃ n : Nat, a = n ∧ n < 2 ^ m := by
  have h := elemB_yes h
  rw [pow_cast] at h
  exact ⟨a.toNat, by omega, by omega⟩

theorem Times_sym (m q : Nat) (a b : Int) (a0 a1 a2 a3 : Addr) (w : World) (hm : 3 ≤ m) (hm8 : m ≤ 8) (F : Gf.IsField m q) (L : Laid a0 a1 a2 a3 w) (h : elemB m a = false ∨ elemB m b = false) :
    Calls Tryd.prog 6 #[.int .i64 m, .int .i64 q, .int .i64 a, .int .i64 b] w fun e w' => e = .returned (.tuple #[.int .i64 0, .int .i64 3]) ∧ Below w.heap.size w w' := by
  cases ha : elemB m a
  · exact Times_err m q a b 3 a0 a1 a2 a3 w L (itimes_sym1 m q a b a0 a1 a2 a3 w hm hm8 F L ha)
  · have hb : elemB m b = false := by
      rcases h with h | h
      · rw [h] at ha; cases ha
      · exact h
    obtain ⟨n, rfl, hn⟩ := nat_of_elem ha
    exact Times_err m q n b 3 a0 a1 a2 a3 w L (itimes_sym2 m q n b a0 a1 a2 a3 w hm hm8 F L hn hb)
end Go.Proofs.YtfcodbbencjncaaDoor
