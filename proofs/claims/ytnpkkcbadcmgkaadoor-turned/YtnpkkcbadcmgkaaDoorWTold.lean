import Derived.Test.YtnpkkcbadcmgkaaDoorWHit
import Derived.Test.YtnpkkcbadcmgkaaDoorWNew
namespace Go.Proofs.YtnpkkcbadcmgkaaDoor
open Go.RowKit Go.Deep

/-- the variable g holds an error of errors.New's make. -/
def Sen (g : Nat) (w : World) : Prop := ∃ a, w.cell? ⟨g, 0, none⟩ = some (.iface 159 (.pointer (some a)))

/-- what the walks want of the package-level variables: the two sentinels of field.New, not the same; errors' own handle of the type error; and that those of gs hold errors. -/
structure Laid (gs : List Nat) (w : World) : Prop where
  v : ∃ a0 a1 : Addr, w.cell? ⟨0, 0, none⟩ = some (.iface 159 (.pointer (some a0))) ∧ w.cell? ⟨1, 0, none⟩ = some (.iface 159 (.pointer (some a1))) ∧ a1 ≠ a0 ∧ (∃ c t, w.heap[a0.block]? = some (.cells c t (0, 0))) ∧ (∃ c t, w.heap[a1.block]? = some (.cells c t (0, 0)))
  t : w.cell? ⟨3, 0, none⟩ = some (.iface 126 (.agg #[.pointer (some ⟨9, 55, none⟩)]))
  so : ∀ g, g ∈ gs → Sen g w

theorem lt_of_heap {w : World} {b : Nat} (h : ∃ c t, w.heap[b]? = some (Obj.cells c t (0, 0))) : b < w.heap.size := by
  obtain ⟨c, t, h⟩ := h
  obtain ⟨hlt, _⟩ := Array.getElem?_eq_some_iff.1 h
  exact hlt
theorem below_cell {w w' : World} (hb : Below w.heap.size w w') {a : Addr} {v : Value} (h : w.cell? a = some v) : w'.cell? a = some v := by rw [hb.cell (lt_of_cell h)]; exact h

theorem Laid.below {gs : List Nat} {w w' : World} (h : Laid gs w) (hb : Below w.heap.size w w') : Laid gs w' := by
  obtain ⟨⟨a0, a1, h0, h1, hne, r0, r1⟩, ht, hs⟩ := h
  exact ⟨⟨a0, a1, below_cell hb h0, below_cell hb h1, hne, by rw [hb.block _ (lt_of_heap r0)]; exact r0, by rw [hb.block _ (lt_of_heap r1)]; exact r1⟩, below_cell hb ht, fun g hg => by
    obtain ⟨a, ha⟩ := hs g hg
    exact ⟨a, below_cell hb ha⟩⟩
theorem Laid.sub {gs hs : List Nat} {w : World} (h : Laid gs w) (hh : ∀ g, g ∈ hs → g ∈ gs) : Laid hs w := ⟨h.v, h.t, fun g hg => h.so g (hh g hg)⟩

/-! which variables the calls read -/
def gsTimes : List Nat := [2]
def gsNew : List Nat := [7, 5]
def gsEnc : List Nat := [7, 5, 6, 2, 8]

/-- the value x is a fault of the number n at the place p. -/
def Flt (n p : Int) (x : Value) (w : World) : Prop := ∃ fb : Nat, x = .iface 81 (.pointer (some ⟨fb, 0, none⟩)) ∧ w.cell? ⟨fb, 0, none⟩ = some (.int .i64 n) ∧ w.cell? ⟨fb, 1, none⟩ = some (.int .i64 p)
theorem Flt.below {n p : Int} {x : Value} {w w' : World} (h : Flt n p x w) (hb : Below w.heap.size w w') : Flt n p x w' := by
  obtain ⟨fb, e, h0, h1⟩ := h
  exact ⟨fb, e, below_cell hb h0, below_cell hb h1⟩

/-- a call that answers a fault. -/
def FltP (n p : Int) (w : World) (e : Ending) (w' : World) : Prop := ∃ x, e = .returned x ∧ Flt n p x w' ∧ Below w.heap.size w w'

theorem paramFault_any (t : TypeId) (v : Value) (k : Int) (w : World) : Calls Tryd.prog 61 #[.iface t v, .int .i64 k] w (FltP 1 k w) := by
  go_enter Tryd.func61, Tryd.ntmps61
  go_wp2
  go_ret
  exact ⟨_, rfl, ⟨_, rfl, by simp, by simp⟩, (Below.refl _ _).alloc (Nat.le_refl _) _⟩
theorem lengthFault_any (t : TypeId) (v : Value) (w : World) : Calls Tryd.prog 77 #[.iface t v] w (FltP 2 0 w) := by
  go_enter Tryd.func77, Tryd.ntmps77
  go_wp2
  go_ret
  exact ⟨_, rfl, ⟨_, rfl, by simp, by simp⟩, (Below.refl _ _).alloc (Nat.le_refl _) _⟩
theorem symbolFault_any (t : TypeId) (v : Value) (k : Int) (w : World) : Calls Tryd.prog 46 #[.iface t v, .int .i64 k] w (FltP 3 k w) := by
  go_enter Tryd.func46, Tryd.ntmps46
  go_wp2
  go_ret
  exact ⟨_, rfl, ⟨_, rfl, by simp, by simp⟩, (Below.refl _ _).alloc (Nat.le_refl _) _⟩

set_option maxHeartbeats 1000000 in
theorem told_nil (w : World) : Calls Tryd.prog 29 #[.nilIface] w fun e w' => e = .returned (.tuple #[.int .i64 0, .int .i64 0]) ∧ Below w.heap.size w w' := by
  go_enter Tryd.func29, Tryd.ntmps29
  go_wp2_with (go_at_call 48; refine (as_nil _ _).mono ?_; rintro e w' ⟨rfl, rfl⟩)
  go_ret2
  exact ⟨rfl, (Below.refl _ _).alloc (Nat.le_refl _) _⟩

set_option maxHeartbeats 1000000 in
theorem told_flt (n p : Int) (x : Value) (gs : List Nat) (w : World) (L : Laid gs w) (h : Flt n p x w) :
    Calls Tryd.prog 29 #[x] w fun e w' => e = .returned (.tuple #[.int .i64 n, .int .i64 p]) ∧ Below w.heap.size w w' := by
  obtain ⟨fb, rfl, hc, hp⟩ := h
  have hg := L.t
  have hfb : fb < w.heap.size := lt_of_cell hc
  have hgA : (w.alloc (.cells #[.pointer none] 81)).cell? ⟨3, 0, none⟩ = some (.iface 126 (.agg #[.pointer (some ⟨9, 55, none⟩)])) := by
    rw [World.cell?_alloc_lt _ _ ⟨3, 0, none⟩ (lt_of_cell hg)]; exact hg
  have htA : (w.alloc (.cells #[.pointer none] 81)).cell? ⟨w.heap.size, 0, none⟩ = some (.pointer none) := by simp
  have hfA : (w.alloc (.cells #[.pointer none] 81)).frozen? ⟨w.heap.size, 0, none⟩ = false := by simp
  have hA : ∀ (o : Nat) (u : Value), w.cell? ⟨fb, o, none⟩ = some u → (((((w.alloc (.cells #[.pointer (some ⟨fb, 0, none⟩)] 81)).alloc (.cells #[.pointer (some ⟨w.heap.size, 0, none⟩)] 83)).alloc (.cells #[.pointer (some ⟨9, 83, none⟩), .pointer (some ⟨w.heap.size + 1, 0, none⟩), .int .u64 150] 106)).alloc (.cells #[.pointer (some ⟨9, 83, none⟩), .pointer (some ⟨w.heap.size + 1, 0, none⟩), .int .u64 150] 106)).alloc (.cells #[.pointer (some ⟨fb, 0, none⟩)] 81)).cell? ⟨fb, o, none⟩ = some u := fun o u hu => by
    rw [World.cell?_alloc_lt _ _ ⟨fb, o, none⟩ (by simp; omega), World.cell?_alloc_lt _ _ ⟨fb, o, none⟩ (by simp; omega), World.cell?_alloc_lt _ _ ⟨fb, o, none⟩ (by simp; omega), World.cell?_alloc_lt _ _ ⟨fb, o, none⟩ (by simp; omega), World.cell?_alloc_lt _ _ ⟨fb, o, none⟩ hfb]; exact hu
  have hcA := hA 0 _ hc
  have hpA := hA (0 + 1) _ hp
  clear hA hp hc L hg
  go_enter Tryd.func29, Tryd.ntmps29
  go_wp2_with (go_at_call 48; refine (as_hit _ _ (.pointer none) _ hgA htA hfA).mono ?_; rintro e w' ⟨rfl, rfl⟩)
  go_quiet (fail)
  go_wp2
  go_ret2
  refine ⟨rfl, Below.trans ?_ (below_of_drewN _ _ _)⟩
  exact (((((Below.refl _ _).alloc (Nat.le_refl _) _).alloc (by simp) _).alloc (by simp; omega) _).alloc (by simp; omega) _).alloc (by simp; omega) _

theorem fieldFault0 (a0 : Addr) (w : World) (g0 : w.cell? ⟨0, 0, none⟩ = some (.iface 159 (.pointer (some a0)))) :
    Calls Tryd.prog 44 #[.iface 159 (.pointer (some a0))] w (FltP 1 1 w) := by
  have k2 := hide (is_same a0 w)
  go_enter Tryd.func44, Tryd.ntmps44
  go_wp2_with fail
  refine (unhide k2).mono ?_
  rintro e w' ⟨rfl, rfl⟩
  go_wp2_with fail
  refine (paramFault_any _ _ _ _).mono ?_
  rintro e w1 ⟨x, rfl, hf, hb⟩
  have HF := hide hf
  have HB := hide hb
  clear hf hb
  go_wp2
  go_ret
  exact ⟨_, rfl, unhide HF, unhide HB⟩
theorem fieldFault1 (a0 a1 : Addr) (w : World) (g0 : w.cell? ⟨0, 0, none⟩ = some (.iface 159 (.pointer (some a0)))) (hne : a1 ≠ a0) (r0 : ∃ c t, w.heap[a0.block]? = some (.cells c t (0, 0))) (r1 : ∃ c t, w.heap[a1.block]? = some (.cells c t (0, 0))) :
    Calls Tryd.prog 44 #[.iface 159 (.pointer (some a1))] w (FltP 1 2 w) := by
  obtain ⟨c0, t0, r0⟩ := r0
  obtain ⟨c1, t1, r1⟩ := r1
  have k2 := hide (is_other a1 a0 c1 c0 t1 t0 w hne r1 r0)
  clear hne r0 r1
  go_enter Tryd.func44, Tryd.ntmps44
  go_wp2_with fail
  refine (unhide k2).mono ?_
  rintro e w' ⟨rfl, rfl⟩
  go_wp2_with fail
  refine (paramFault_any _ _ _ _).mono ?_
  rintro e w1 ⟨x, rfl, hf, hb⟩
  have HF := hide hf
  have HB := hide hb
  clear hf hb
  go_wp2
  go_ret
  exact ⟨_, rfl, unhide HF, unhide HB⟩

/-- no field: k: the parameter that is wrong. -/
def NoF (k m q : Int) : Prop := (k = 1 ∧ (m < 3 ∨ 8 < m)) ∨ (k = 2 ∧ ∃ n : Nat, m = n ∧ 3 ≤ n ∧ n ≤ 8 ∧ (q / 2 ^ n ≠ 1 ∨ ∃ p : Nat, q = p ∧ Gf.Deg n p ∧ ¬ Gf.IsField n p))

theorem field_or (m q : Int) : (∃ k, NoF k m q) ∨ ∃ n p : Nat, m = n ∧ q = p ∧ 3 ≤ n ∧ n ≤ 8 ∧ Gf.IsField n p := by
  by_cases h : m < 3 ∨ 8 < m
  · exact Or.inl ⟨1, Or.inl ⟨rfl, h⟩⟩
  · obtain ⟨n, rfl⟩ : ∃ n : Nat, m = n := ⟨m.toNat, by omega⟩
    by_cases hq : q / 2 ^ n = 1
    · have h0 : 0 ≤ q := by
        rcases Int.lt_or_le q 0 with h0 | h0
        · have : q / 2 ^ n < 0 := Int.ediv_neg_of_neg_of_pos h0 (Int.pow_pos (by decide))
          omega
        · exact h0
      obtain ⟨p, rfl⟩ : ∃ p : Nat, q = p := ⟨q.toNat, by omega⟩
      have hd : Gf.Deg n p := ⟨by omega, by rw [div_cast] at hq; omega⟩
      by_cases F : Gf.IsField n p
      · exact Or.inr ⟨n, p, rfl, rfl, by omega, by omega, F⟩
      · exact Or.inl ⟨2, Or.inr ⟨rfl, n, rfl, by omega, by omega, Or.inr ⟨p, rfl, hd, F⟩⟩⟩
    · exact Or.inl ⟨2, Or.inr ⟨rfl, n, rfl, by omega, by omega, Or.inl hq⟩⟩

/-- field.New where there is no field, and what fieldFault makes of its error. -/
def BadP (k : Int) (w : World) (e : Ending) (w' : World) : Prop := ∃ a, e = .returned (.tuple #[.pointer none, .iface 159 (.pointer (some a))]) ∧ Below w.heap.size w w' ∧ ∀ wx, Below w.heap.size w wx → Calls Tryd.prog 44 #[.iface 159 (.pointer (some a))] wx (FltP 1 k wx)

theorem new_bad (k m q : Int) (gs : List Nat) (w : World) (L : Laid gs w) (h : NoF k m q) :
    Calls Tryd.prog 43 #[.int .i64 m, .int .i64 q] w (BadP k w) := by
  obtain ⟨a0, a1, h0, h1, hne, r0, r1⟩ := L.v
  have f0 : ∀ wx, Below w.heap.size w wx → Calls Tryd.prog 44 #[.iface 159 (.pointer (some a0))] wx (FltP 1 1 wx) := fun wx hb => fieldFault0 a0 wx (below_cell hb h0)
  have f1 : ∀ wx, Below w.heap.size w wx → Calls Tryd.prog 44 #[.iface 159 (.pointer (some a1))] wx (FltP 1 2 wx) := fun wx hb => fieldFault1 a0 a1 wx (below_cell hb h0) hne (by rw [hb.block _ (lt_of_heap r0)]; exact r0) (by rw [hb.block _ (lt_of_heap r1)]; exact r1)
  rcases h with ⟨rfl, h⟩ | ⟨rfl, n, rfl, h3, h8, h | ⟨p, rfl, hd, F⟩⟩
  · refine (new_m m q _ w h h0).mono ?_
    rintro e w' ⟨rfl, d, rfl⟩
    exact ⟨a0, rfl, below_of_drewN _ _ _, f0⟩
  · refine (new_q n q _ w h3 h8 h h1).mono ?_
    rintro e w' ⟨rfl, d, rfl⟩
    exact ⟨a1, rfl, below_of_drewN _ _ _, f1⟩
  · refine (new_no n p _ w h3 h8 hd F h1).mono ?_
    rintro e w' ⟨rfl, hb⟩
    exact ⟨a1, rfl, hb, f1⟩
end Go.Proofs.YtnpkkcbadcmgkaaDoor
