import Derived.Test.YtnpkkcbadcmgkaaDoorWFt
namespace Go.Proofs.YtnpkkcbadcmgkaaDoor
open Go.RowKit Go.Deep

/-- a call of two results that answers 0 and a fault. -/
def ErrPost (n p : Int) (w : World) (e : Ending) (w' : World) : Prop := ∃ x, e = .returned (.tuple #[.int .i64 0, x]) ∧ Flt n p x w' ∧ Below w.heap.size w w'

set_option maxHeartbeats 1000000 in
theorem itimes_bad (k m q a b : Int) (gs : List Nat) (w : World) (L : Laid gs w) (h : NoF k m q) :
    Calls Tryd.prog 28 #[.int .i64 m, .int .i64 q, .int .i64 a, .int .i64 b] w (ErrPost 1 k w) := by
  have HN := hide (new_bad k m q gs w L h)
  clear L h
  go_enter Tryd.func28, Tryd.ntmps28
  go_wp2_with fail
  refine (unhide HN).mono ?_
  rintro e w1 ⟨c, rfl, hb, hF⟩
  have HB := hide hb
  have HF := hide hF
  clear hb hF
  go_wp2_with fail
  refine (unhide HF _ (unhide HB)).mono ?_
  rintro e w2 ⟨x, rfl, hf, hb2⟩
  have HC := hide hf
  have HB2 := hide (Below.join (unhide HB) hb2)
  clear hf hb2
  go_wp2
  go_ret2
  exact ⟨_, rfl, unhide HC, unhide HB2⟩

set_option maxHeartbeats 1000000 in
theorem itimes_sym1 (m q : Nat) (a b : Int) (gs : List Nat) (w : World) (hm : 3 ≤ m) (hm8 : m ≤ 8) (F : Gf.IsField m q) (L : Laid gs w) (hE : 2 ∈ gs) (ha : elemB m a = false) :
    Calls Tryd.prog 28 #[.int .i64 m, .int .i64 q, .int .i64 a, .int .i64 b] w (ErrPost 3 0 w) := by
  have HL := hide L
  have HF := hide F
  have Ha := hide ha
  have HE := hide hE
  clear L F ha hE
  go_enter Tryd.func28, Tryd.ntmps28
  go_wp2_with fail
  refine (new_yes m q _ hm hm8 (unhide HF)).mono ?_
  rintro e w1 ⟨fb, bp, bl, rfl, hb, hf⟩
  have HB := hide hb
  have HA := hide hf
  clear hb hf
  go_wp2_with fail
  refine (checkE_no m q fb bp bl a _ hm hm8 (unhide HA) (((unhide HL).below (unhide HB)).so _ (unhide HE)) (unhide Ha)).mono ?_
  rintro e w' ⟨c, rfl, rfl⟩
  go_wp2_with fail
  refine (symbolFault_any _ _ _ _).mono ?_
  rintro e w2 ⟨x, rfl, hf, hb2⟩
  have HC := hide hf
  have HB2 := hide (Below.join (unhide HB) hb2)
  clear hf hb2
  go_wp2
  go_ret2
  exact ⟨_, rfl, unhide HC, unhide HB2⟩

set_option maxHeartbeats 1000000 in
theorem itimes_sym2 (m q a : Nat) (b : Int) (gs : List Nat) (w : World) (hm : 3 ≤ m) (hm8 : m ≤ 8) (F : Gf.IsField m q) (L : Laid gs w) (hE : 2 ∈ gs) (ha : a < 2 ^ m) (hb : elemB m b = false) :
    Calls Tryd.prog 28 #[.int .i64 m, .int .i64 q, .int .i64 a, .int .i64 b] w (ErrPost 3 0 w) := by
  have HL := hide L
  have HF := hide F
  have Ha := hide ha
  have Hb := hide hb
  have HE := hide hE
  clear L F ha hb hE
  go_enter Tryd.func28, Tryd.ntmps28
  go_wp2_with fail
  refine (new_yes m q _ hm hm8 (unhide HF)).mono ?_
  rintro e w1 ⟨fb, bp, bl, rfl, hb, hf⟩
  have HB := hide hb
  have HA := hide hf
  clear hb hf
  go_wp2_with fail
  refine (checkE_yes m q fb bp bl a _ hm hm8 (unhide HA) (unhide Ha)).mono ?_
  rintro e w' ⟨rfl, rfl⟩
  go_wp2_with fail
  refine (checkE_no m q fb bp bl b _ hm hm8 (unhide HA) (((unhide HL).below (unhide HB)).so _ (unhide HE)) (unhide Hb)).mono ?_
  rintro e w' ⟨c, rfl, rfl⟩
  go_wp2_with fail
  refine (symbolFault_any _ _ _ _).mono ?_
  rintro e w2 ⟨x, rfl, hf, hb2⟩
  have HC := hide hf
  have HB2 := hide (Below.join (unhide HB) hb2)
  clear hf hb2
  go_wp2
  go_ret2
  exact ⟨_, rfl, unhide HC, unhide HB2⟩

set_option maxHeartbeats 1000000 in
theorem itimes_yes (m q a b : Nat) (w : World) (hm : 3 ≤ m) (hm8 : m ≤ 8) (F : Gf.IsField m q) (ha : a < 2 ^ m) (hb : b < 2 ^ m) :
    Calls Tryd.prog 28 #[.int .i64 m, .int .i64 q, .int .i64 a, .int .i64 b] w fun e w' => e = .returned (.tuple #[.int .i64 (Gf.mul m q a b), .nilIface]) ∧ Below w.heap.size w w' := by
  have HF := hide F
  have Ha := hide ha
  have Hb := hide hb
  clear F ha hb
  go_enter Tryd.func28, Tryd.ntmps28
  go_wp2_with fail
  refine (new_yes m q _ hm hm8 (unhide HF)).mono ?_
  rintro e w1 ⟨fb, bp, bl, rfl, hb, hf⟩
  have HB := hide hb
  have HA := hide hf
  clear hb hf
  go_wp2_with fail
  refine (checkE_yes m q fb bp bl a _ hm hm8 (unhide HA) (unhide Ha)).mono ?_
  rintro e w' ⟨rfl, rfl⟩
  go_wp2_with fail
  refine (checkE_yes m q fb bp bl b _ hm hm8 (unhide HA) (unhide Hb)).mono ?_
  rintro e w' ⟨rfl, rfl⟩
  go_wp2_with fail
  refine (ftimes_any m q fb bp bl a b _ hm hm8 (unhide HF) (unhide HA) (unhide Ha) (unhide Hb)).mono ?_
  rintro e w2 ⟨rfl, hb2⟩
  have HB2 := hide ((unhide HB).trans (hb2.mono (unhide HB).size))
  clear hb2
  go_wp2
  go_ret2
  exact ⟨rfl, unhide HB2⟩

/-! ### Times itself -/
set_option maxHeartbeats 1000000 in
theorem Times_err (m q a b n p : Int) (gs : List Nat) (w : World) (L : Laid gs w) (h : Calls Tryd.prog 28 #[.int .i64 m, .int .i64 q, .int .i64 a, .int .i64 b] w (ErrPost n p w)) :
    Calls Tryd.prog 11 #[.int .i64 m, .int .i64 q, .int .i64 a, .int .i64 b] w fun e w' => e = .returned (.tuple #[.int .i64 0, .int .i64 n]) ∧ Below w.heap.size w w' := by
  have HL := hide L
  have Hh := hide h
  clear L h
  go_enter Tryd.func11, Tryd.ntmps11
  go_wp2_with fail
  refine (unhide Hh).mono ?_
  rintro e w1 ⟨x, rfl, hc, hb⟩
  have HC := hide hc
  have HB := hide hb
  clear hc hb
  go_wp2_with fail
  refine (told_flt n p x gs _ ((unhide HL).below (unhide HB)) (unhide HC)).mono ?_
  rintro e w2 ⟨rfl, hb2⟩
  have HB2 := hide (Below.join (unhide HB) hb2)
  clear hb2
  go_wp2
  go_ret2
  exact ⟨rfl, unhide HB2⟩

set_option maxHeartbeats 1000000 in
theorem Times_yes (m q a b : Nat) (w : World) (hm : 3 ≤ m) (hm8 : m ≤ 8) (F : Gf.IsField m q) (ha : a < 2 ^ m) (hb : b < 2 ^ m) :
    Calls Tryd.prog 11 #[.int .i64 m, .int .i64 q, .int .i64 a, .int .i64 b] w fun e w' => e = .returned (.tuple #[.int .i64 (Gf.mul m q a b), .int .i64 0]) ∧ Below w.heap.size w w' := by
  have H := hide (itimes_yes m q a b w hm hm8 F ha hb)
  clear F ha hb
  go_enter Tryd.func11, Tryd.ntmps11
  go_wp2_with fail
  refine (unhide H).mono ?_
  rintro e w1 ⟨rfl, hb⟩
  have HB := hide hb
  clear hb
  go_wp2_with fail
  refine (told_nil _).mono ?_
  rintro e w2 ⟨rfl, hb2⟩
  have HB2 := hide ((unhide HB).trans (hb2.mono (unhide HB).size))
  clear hb2
  go_wp2
  go_ret2
  exact ⟨rfl, unhide HB2⟩

theorem Times_bad (k m q a b : Int) (gs : List Nat) (w : World) (L : Laid gs w) (h : NoF k m q) :
    Calls Tryd.prog 11 #[.int .i64 m, .int .i64 q, .int .i64 a, .int .i64 b] w fun e w' => e = .returned (.tuple #[.int .i64 0, .int .i64 1]) ∧ Below w.heap.size w w' :=
  Times_err m q a b 1 k gs w L (itimes_bad k m q a b gs w L h)

theorem Times_sym (m q : Nat) (a b : Int) (gs : List Nat) (w : World) (hm : 3 ≤ m) (hm8 : m ≤ 8) (F : Gf.IsField m q) (L : Laid gs w) (hE : 2 ∈ gs) (h : elemB m a = false ∨ elemB m b = false) :
    Calls Tryd.prog 11 #[.int .i64 m, .int .i64 q, .int .i64 a, .int .i64 b] w fun e w' => e = .returned (.tuple #[.int .i64 0, .int .i64 3]) ∧ Below w.heap.size w w' := by
  cases ha : elemB m a
  · exact Times_err m q a b 3 0 gs w L (itimes_sym1 m q a b gs w hm hm8 F L hE ha)
  · have hb : elemB m b = false := by
      rcases h with h | h
      · rw [ha] at h; cases h
      · exact h
    obtain ⟨n, rfl, hn⟩ := nat_of_elem ha
    exact Times_err m q n b 3 0 gs w L (itimes_sym2 m q n b gs w hm hm8 F L hE hn hb)
end Go.Proofs.YtnpkkcbadcmgkaaDoor
