import Derived.Test.YtnpkkcbadcmgkaaDoorWTimes
namespace Go.Proofs.YtnpkkcbadcmgkaaDoor
open Go.RowKit Go.Deep

theorem checkU_zero (b : Nat) (v : Value) (w : World) (g : w.cell? ⟨4, 0, none⟩ = some v) :
    Calls Tryd.prog 49 #[.pointer (some ⟨b, 0, none⟩), .int .i64 0] w fun e w' => e = .returned v ∧ w' = w := by
  go_enter Tryd.func49, Tryd.ntmps49
  go_wp2
  go_ret
  exact ⟨rfl, rfl⟩

theorem checkU_ok (b n i : Nat) (w : World) (c0 : w.cell? ⟨b, 0, none⟩ = some (.int .i64 n)) (h0 : 0 < i) (h : i ≤ n) (hn : n < 256) :
    Calls Tryd.prog 49 #[.pointer (some ⟨b, 0, none⟩), .int .i64 i] w fun e w' => e = .returned .nilIface ∧ w' = w := by
  have t1 : ((i : Int) == 0) = false := by rw [beq_eq_false_iff_ne]; omega
  go_enter Tryd.func49, Tryd.ntmps49
  go_wp2_with (go_at_call 45; refine (checkE_ok _ _ _ _ c0 ?_ ?_).mono ?_; exact h; exact hn; rintro e w' ⟨rfl, rfl⟩)
  go_ret
  exact ⟨rfl, rfl⟩

theorem checkU_bad (b n : Nat) (i : Int) (v : Value) (w : World) (c0 : w.cell? ⟨b, 0, none⟩ = some (.int .i64 n)) (hn : n < 256) (h : i < 0 ∨ (n : Int) < i) (g : w.cell? ⟨2, 0, none⟩ = some v) :
    Calls Tryd.prog 49 #[.pointer (some ⟨b, 0, none⟩), .int .i64 i] w fun e w' => e = .returned v ∧ w' = w := by
  have t1 : (i == 0) = false := by rw [beq_eq_false_iff_ne]; omega
  have H := hide h
  clear h
  go_enter Tryd.func49, Tryd.ntmps49
  go_wp2_with (go_at_call 45; refine (checkE_bad _ _ _ _ _ c0 ?_ ?_ g).mono ?_; exact hn; exact unhide H; rintro e w' ⟨rfl, rfl⟩)
  go_ret
  exact ⟨rfl, rfl⟩
/-- CheckUnit, of a field as New lays it. -/
theorem checkU_no (m q b bp bl : Nat) (i : Int) (w : World) (hm : 3 ≤ m) (hm8 : m ≤ 8) (h : FieldAt m q b bp bl w) (hS : Sen 2 w) (hZ : Sen 4 w) (hi : elemB m i = false ∨ i = 0) :
    Calls Tryd.prog 49 #[.pointer (some ⟨b, 0, none⟩), .int .i64 i] w fun e w' => ∃ c, e = .returned (.iface 159 (.pointer (some c))) ∧ w' = w := by
  obtain ⟨hn1, hn2, hn3⟩ := ordN_bd hm hm8
  obtain ⟨a2, h2⟩ := hS
  obtain ⟨a3, h3⟩ := hZ
  by_cases h0 : i = 0
  · subst h0
    refine (checkU_zero b _ w h3).mono ?_
    rintro e w' ⟨rfl, rfl⟩
    exact ⟨a3, rfl, rfl⟩
  · have hi : elemB m i = false := by
      rcases hi with hi | hi
      · exact hi
      · exact (h0 hi).elim
    have := elemB_no hi
    rw [pow_cast] at this
    refine (checkU_bad b (Gf.ordN m) i _ w h.c0 (by omega) (by omega) h2).mono ?_
    rintro e w' ⟨rfl, rfl⟩
    exact ⟨a2, rfl, rfl⟩
theorem checkU_yes (m q b bp bl i : Nat) (w : World) (hm : 3 ≤ m) (hm8 : m ≤ 8) (h : FieldAt m q b bp bl w) (hi : i < 2 ^ m) (h0 : i ≠ 0) :
    Calls Tryd.prog 49 #[.pointer (some ⟨b, 0, none⟩), .int .i64 i] w fun e w' => e = .returned .nilIface ∧ w' = w := by
  obtain ⟨hn1, hn2, hn3⟩ := ordN_bd hm hm8
  exact checkU_ok b (Gf.ordN m) i w h.c0 (by omega) (by omega) (by omega)

set_option maxHeartbeats 1000000 in
theorem iinv_bad (k m q a : Int) (gs : List Nat) (w : World) (L : Laid gs w) (h : NoF k m q) :
    Calls Tryd.prog 33 #[.int .i64 m, .int .i64 q, .int .i64 a] w (ErrPost 1 k w) := by
  have HN := hide (new_bad k m q gs w L h)
  clear L h
  go_enter Tryd.func33, Tryd.ntmps33
  go_wp2_with fail
  refine (unhide HN).mono ?_
  rintro e w1 ⟨c, rfl, hb, hF⟩
  have HB := hide hb
  have HF := hide hF
  clear hb hF
  go_wp2_with fail
  refine (unhide HF _ (unhide HB)).mono ?_
  rintro e w2 ⟨x, rfl, hf, hb2⟩
  have HC := hide hf
  have HB2 := hide (Below.join (unhide HB) hb2)
  clear hf hb2
  go_wp2
  go_ret2
  exact ⟨_, rfl, unhide HC, unhide HB2⟩

set_option maxHeartbeats 1000000 in
theorem iinv_sym (m q : Nat) (a : Int) (gs : List Nat) (w : World) (hm : 3 ≤ m) (hm8 : m ≤ 8) (F : Gf.IsField m q) (L : Laid gs w) (hE : 2 ∈ gs) (hZ : 4 ∈ gs) (ha : elemB m a = false ∨ a = 0) :
    Calls Tryd.prog 33 #[.int .i64 m, .int .i64 q, .int .i64 a] w (ErrPost 3 0 w) := by
  have HL := hide L
  have HF := hide F
  have Ha := hide ha
  have HE := hide hE
  have HZ := hide hZ
  clear L F ha hE hZ
  go_enter Tryd.func33, Tryd.ntmps33
  go_wp2_with fail
  refine (new_yes m q _ hm hm8 (unhide HF)).mono ?_
  rintro e w1 ⟨fb, bp, bl, rfl, hb, hf⟩
  have HB := hide hb
  have HA := hide hf
  clear hb hf
  go_wp2_with fail
  refine (checkU_no m q fb bp bl a _ hm hm8 (unhide HA) (((unhide HL).below (unhide HB)).so _ (unhide HE)) (((unhide HL).below (unhide HB)).so _ (unhide HZ)) (unhide Ha)).mono ?_
  rintro e w' ⟨c, rfl, rfl⟩
  go_wp2_with fail
  refine (symbolFault_any _ _ _ _).mono ?_
  rintro e w2 ⟨x, rfl, hf, hb2⟩
  have HC := hide hf
  have HB2 := hide (Below.join (unhide HB) hb2)
  clear hf hb2
  go_wp2
  go_ret2
  exact ⟨_, rfl, unhide HC, unhide HB2⟩

def InvPost (m q a : Nat) (w : World) (v : Value) (e : Ending) (w' : World) : Prop := ∃ c : Nat, e = .returned (.tuple #[.int .i64 c, v]) ∧ c < 2 ^ m ∧ Gf.mul m q a c = 1 ∧ Below w.heap.size w w'

set_option maxHeartbeats 1000000 in
theorem iinv_yes (m q a : Nat) (w : World) (hm : 3 ≤ m) (hm8 : m ≤ 8) (F : Gf.IsField m q) (ha : a < 2 ^ m) (h0 : a ≠ 0) :
    Calls Tryd.prog 33 #[.int .i64 m, .int .i64 q, .int .i64 a] w (InvPost m q a w .nilIface) := by
  have HF := hide F
  have Ha := hide ha
  have H0 := hide h0
  clear F ha h0
  go_enter Tryd.func33, Tryd.ntmps33
  go_wp2_with fail
  refine (new_yes m q _ hm hm8 (unhide HF)).mono ?_
  rintro e w1 ⟨fb, bp, bl, rfl, hb, hf⟩
  have HB := hide hb
  have HA := hide hf
  clear hb hf
  go_wp2_with fail
  refine (checkU_yes m q fb bp bl a _ hm hm8 (unhide HA) (unhide Ha) (unhide H0)).mono ?_
  rintro e w' ⟨rfl, rfl⟩
  go_wp2_with fail
  refine (finv_any m q fb bp bl a _ hm hm8 (unhide HF) (unhide HA) (unhide Ha) (unhide H0)).mono ?_
  rintro e w2 ⟨c, rfl, hc, hac, hb2⟩
  have HB2 := hide ((unhide HB).trans (hb2.mono (unhide HB).size))
  have Hc := hide hc
  have Hac := hide hac
  clear hb2 hc hac
  go_wp2
  go_ret2
  exact ⟨c, rfl, unhide Hc, unhide Hac, unhide HB2⟩

set_option maxHeartbeats 1000000 in
theorem Inv_err (m q a n p : Int) (gs : List Nat) (w : World) (L : Laid gs w) (h : Calls Tryd.prog 33 #[.int .i64 m, .int .i64 q, .int .i64 a] w (ErrPost n p w)) :
    Calls Tryd.prog 14 #[.int .i64 m, .int .i64 q, .int .i64 a] w fun e w' => e = .returned (.tuple #[.int .i64 0, .int .i64 n]) ∧ Below w.heap.size w w' := by
  have HL := hide L
  have Hh := hide h
  clear L h
  go_enter Tryd.func14, Tryd.ntmps14
  go_wp2_with fail
  refine (unhide Hh).mono ?_
  rintro e w1 ⟨x, rfl, hc, hb⟩
  have HC := hide hc
  have HB := hide hb
  clear hc hb
  go_wp2_with fail
  refine (told_flt n p x gs _ ((unhide HL).below (unhide HB)) (unhide HC)).mono ?_
  rintro e w2 ⟨rfl, hb2⟩
  have HB2 := hide (Below.join (unhide HB) hb2)
  clear hb2
  go_wp2
  go_ret2
  exact ⟨rfl, unhide HB2⟩

theorem Inv_bad (k m q a : Int) (gs : List Nat) (w : World) (L : Laid gs w) (h : NoF k m q) :
    Calls Tryd.prog 14 #[.int .i64 m, .int .i64 q, .int .i64 a] w fun e w' => e = .returned (.tuple #[.int .i64 0, .int .i64 1]) ∧ Below w.heap.size w w' :=
  Inv_err m q a 1 k gs w L (iinv_bad k m q a gs w L h)
theorem Inv_sym (m q : Nat) (a : Int) (gs : List Nat) (w : World) (hm : 3 ≤ m) (hm8 : m ≤ 8) (F : Gf.IsField m q) (L : Laid gs w) (hE : 2 ∈ gs) (hZ : 4 ∈ gs) (ha : elemB m a = false ∨ a = 0) :
    Calls Tryd.prog 14 #[.int .i64 m, .int .i64 q, .int .i64 a] w fun e w' => e = .returned (.tuple #[.int .i64 0, .int .i64 3]) ∧ Below w.heap.size w w' :=
  Inv_err m q a 3 0 gs w L (iinv_sym m q a gs w hm hm8 F L hE hZ ha)

set_option maxHeartbeats 1000000 in
theorem Inv_yes (m q a : Nat) (w : World) (hm : 3 ≤ m) (hm8 : m ≤ 8) (F : Gf.IsField m q) (ha : a < 2 ^ m) (h0 : a ≠ 0) :
    Calls Tryd.prog 14 #[.int .i64 m, .int .i64 q, .int .i64 a] w (InvPost m q a w (.int .i64 0)) := by
  have H := hide (iinv_yes m q a w hm hm8 F ha h0)
  clear F ha h0
  go_enter Tryd.func14, Tryd.ntmps14
  go_wp2_with fail
  refine (unhide H).mono ?_
  rintro e w1 ⟨c, rfl, hc, hac, hb⟩
  have HB := hide hb
  have Hc := hide hc
  have Hac := hide hac
  clear hb hc hac
  go_wp2_with fail
  refine (told_nil _).mono ?_
  rintro e w2 ⟨rfl, hb2⟩
  have HB2 := hide ((unhide HB).trans (hb2.mono (unhide HB).size))
  clear hb2
  go_wp2
  go_ret2
  exact ⟨c, rfl, unhide Hc, unhide Hac, unhide HB2⟩
end Go.Proofs.YtnpkkcbadcmgkaaDoor
