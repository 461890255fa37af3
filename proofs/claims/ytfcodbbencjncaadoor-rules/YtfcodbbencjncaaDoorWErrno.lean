import Derived.Test.YtfcodbbencjncaaDoorWHit
import Derived.Test.YtfcodbbencjncaaDoorWNew
namespace Go.Proofs.YtfcodbbencjncaaDoor
open Go.RowKit

/-- what the walks want of the package-level variables: the four sentinels, no two of them the same, and errors' own handle of the type error. -/
structure Laid (a0 a1 a2 a3 : Addr) (w : World) : Prop where
  v0 : w.cell? ⟨0, 0, none⟩ = some (.iface 90 (.pointer (some a0)))
  v1 : w.cell? ⟨1, 0, none⟩ = some (.iface 90 (.pointer (some a1)))
  v2 : w.cell? ⟨2, 0, none⟩ = some (.iface 90 (.pointer (some a2)))
  v3 : w.cell? ⟨3, 0, none⟩ = some (.iface 90 (.pointer (some a3)))
  v4 : w.cell? ⟨4, 0, none⟩ = some (.iface 74 (.agg #[.pointer (some ⟨5, 36, none⟩)]))
  r0 : ∃ c t, w.heap[a0.block]? = some (.cells c t (0, 0))
  r1 : ∃ c t, w.heap[a1.block]? = some (.cells c t (0, 0))
  r2 : ∃ c t, w.heap[a2.block]? = some (.cells c t (0, 0))
  r3 : ∃ c t, w.heap[a3.block]? = some (.cells c t (0, 0))
  n02 : a0 ≠ a2
  n03 : a0 ≠ a3
  n12 : a1 ≠ a2
  n13 : a1 ≠ a3
  n32 : a3 ≠ a2

theorem lt_of_heap {w : World} {b : Nat} (h : ∃ c t, w.heap[b]? = some (Obj.cells c t (0, 0))) : b < w.heap.size := by
  obtain ⟨c, t, h⟩ := h
  obtain ⟨hlt, _⟩ := Array.getElem?_eq_some_iff.1 h
  exact hlt

theorem Laid.below {a0 a1 a2 a3 : Addr} {w w' : World} (h : Laid a0 a1 a2 a3 w) (hb : Below w.heap.size w w') : Laid a0 a1 a2 a3 w' :=
  ⟨by rw [hb.cell (lt_of_cell h.v0)]; exact h.v0, by rw [hb.cell (lt_of_cell h.v1)]; exact h.v1, by rw [hb.cell (lt_of_cell h.v2)]; exact h.v2, by rw [hb.cell (lt_of_cell h.v3)]; exact h.v3, by rw [hb.cell (lt_of_cell h.v4)]; exact h.v4,
   by rw [hb.block _ (lt_of_heap h.r0)]; exact h.r0, by rw [hb.block _ (lt_of_heap h.r1)]; exact h.r1, by rw [hb.block _ (lt_of_heap h.r2)]; exact h.r2, by rw [hb.block _ (lt_of_heap h.r3)]; exact h.r3, h.n02, h.n03, h.n12, h.n13, h.n32⟩

set_option maxHeartbeats 1000000 in
theorem errnoOf_nil (w : World) : Calls Tryd.prog 14 #[.nilIface] w fun e w' => e = .returned (.int .i64 0) ∧ Below w.heap.size w w' := by
  go_enter Tryd.func14, Tryd.ntmps14
  go_wp2_with (go_at_call 23; refine (as_nil _ _).mono ?_; rintro e w' ⟨rfl, rfl⟩)
  go_ret
  exact ⟨rfl, (Below.refl _ _).alloc (Nat.le_refl _) _⟩

set_option maxHeartbeats 1000000 in
theorem errnoOf_fault (fb : Nat) (n : Int) (w : World) (hg : w.cell? ⟨4, 0, none⟩ = some (.iface 74 (.agg #[.pointer (some ⟨5, 36, none⟩)]))) (hc : w.cell? ⟨fb, 0, none⟩ = some (.int .i64 n)) :
    Calls Tryd.prog 14 #[.iface 47 (.pointer (some ⟨fb, 0, none⟩))] w fun e w' => e = .returned (.int .i64 n) ∧ Below w.heap.size w w' := by
  have hfb : fb < w.heap.size := lt_of_cell hc
  have hgA : (w.alloc (.cells #[.pointer none] 47)).cell? ⟨4, 0, none⟩ = some (.iface 74 (.agg #[.pointer (some ⟨5, 36, none⟩)])) := by
    rw [World.cell?_alloc_lt _ _ ⟨4, 0, none⟩ (lt_of_cell hg)]; exact hg
  have htA : (w.alloc (.cells #[.pointer none] 47)).cell? ⟨w.heap.size, 0, none⟩ = some (.pointer none) := by simp
  have hfA : (w.alloc (.cells #[.pointer none] 47)).frozen? ⟨w.heap.size, 0, none⟩ = false := by simp
  have hcA : (((((w.alloc (.cells #[.pointer (some ⟨fb, 0, none⟩)] 47)).alloc (.cells #[.pointer (some ⟨w.heap.size, 0, none⟩)] 49)).alloc (.cells #[.pointer (some ⟨5, 49, none⟩), .pointer (some ⟨w.heap.size + 1, 0, none⟩), .int .u64 150] 60)).alloc (.cells #[.pointer (some ⟨5, 49, none⟩), .pointer (some ⟨w.heap.size + 1, 0, none⟩), .int .u64 150] 60)).alloc (.cells #[.pointer (some ⟨fb, 0, none⟩)] 47)).cell? ⟨fb, 0, none⟩ = some (.int .i64 n) := by
    rw [World.cell?_alloc_lt _ _ ⟨fb, 0, none⟩ (by simp; omega), World.cell?_alloc_lt _ _ ⟨fb, 0, none⟩ (by simp; omega), World.cell?_alloc_lt _ _ ⟨fb, 0, none⟩ (by simp; omega), World.cell?_alloc_lt _ _ ⟨fb, 0, none⟩ (by simp; omega), World.cell?_alloc_lt _ _ ⟨fb, 0, none⟩ hfb]; exact hc
  go_enter Tryd.func14, Tryd.ntmps14
  go_wp2_with (go_at_call 23; refine (as_hit _ _ (.pointer none) _ hgA htA hfA).mono ?_; rintro e w' ⟨rfl, rfl⟩)
  go_ret
  refine ⟨rfl, ?_⟩
  exact (((((Below.refl _ _).alloc (Nat.le_refl _) _).alloc (by simp) _).alloc (by simp; omega) _).alloc (by simp; omega) _).alloc (by simp; omega) _

theorem Laid.is0 {a0 a1 a2 a3 : Addr} {w : World} (h : Laid a0 a1 a2 a3 w) : 4 < w.heap.size := lt_of_cell h.v4

/-- fieldFault of a sentinel that tells a parameter. -/
theorem fault_params (a a2 a3 : Addr) (w : World) (g2 : w.cell? ⟨2, 0, none⟩ = some (.iface 90 (.pointer (some a2)))) (g3 : w.cell? ⟨3, 0, none⟩ = some (.iface 90 (.pointer (some a3))))
    (n2 : a ≠ a2) (n3 : a ≠ a3) (r : ∃ c t, w.heap[a.block]? = some (.cells c t (0, 0))) (r2 : ∃ c t, w.heap[a2.block]? = some (.cells c t (0, 0))) (r3 : ∃ c t, w.heap[a3.block]? = some (.cells c t (0, 0))) :
    Calls Tryd.prog 20 #[.iface 90 (.pointer (some a))] w fun e w' => e = .returned (.iface 47 (.pointer (some ⟨w.heap.size, 0, none⟩))) ∧ w' = w.alloc (.cells #[.int .i64 1, .iface 90 (.pointer (some a))] 51) := by
  obtain ⟨c, t, r⟩ := r
  obtain ⟨c2, t2, r2⟩ := r2
  obtain ⟨c3, t3, r3⟩ := r3
  have k2 := hide (is_other a a2 c c2 t t2 w n2 r r2)
  have k3 := hide (is_other a a3 c c3 t t3 w n3 r r3)
  clear n2 n3 r r2 r3
  go_enter Tryd.func20, Tryd.ntmps20
  go_wp2_with fail
  refine (unhide k2).mono ?_
  rintro e w' ⟨rfl, rfl⟩
  go_wp2_with fail
  refine (unhide k3).mono ?_
  rintro e w' ⟨rfl, rfl⟩
  go_wp2
  go_ret
  exact ⟨rfl, rfl⟩

theorem fault_element (a2 : Addr) (w : World) (g2 : w.cell? ⟨2, 0, none⟩ = some (.iface 90 (.pointer (some a2)))) :
    Calls Tryd.prog 20 #[.iface 90 (.pointer (some a2))] w fun e w' => e = .returned (.iface 47 (.pointer (some ⟨w.heap.size, 0, none⟩))) ∧ w' = w.alloc (.cells #[.int .i64 3, .iface 90 (.pointer (some a2))] 51) := by
  have k2 := hide (is_same a2 w)
  go_enter Tryd.func20, Tryd.ntmps20
  go_wp2_with fail
  refine (unhide k2).mono ?_
  rintro e w' ⟨rfl, rfl⟩
  go_wp2
  go_ret
  exact ⟨rfl, rfl⟩

theorem fault_zero (a2 a3 : Addr) (w : World) (g2 : w.cell? ⟨2, 0, none⟩ = some (.iface 90 (.pointer (some a2)))) (g3 : w.cell? ⟨3, 0, none⟩ = some (.iface 90 (.pointer (some a3))))
    (n2 : a3 ≠ a2) (r2 : ∃ c t, w.heap[a2.block]? = some (.cells c t (0, 0))) (r3 : ∃ c t, w.heap[a3.block]? = some (.cells c t (0, 0))) :
    Calls Tryd.prog 20 #[.iface 90 (.pointer (some a3))] w fun e w' => e = .returned (.iface 47 (.pointer (some ⟨w.heap.size, 0, none⟩))) ∧ w' = w.alloc (.cells #[.int .i64 3, .iface 90 (.pointer (some a3))] 51) := by
  obtain ⟨c2, t2, r2⟩ := r2
  obtain ⟨c3, t3, r3⟩ := r3
  have k2 := hide (is_other a3 a2 c3 c2 t3 t2 w n2 r3 r2)
  have k3 := hide (is_same a3 w)
  clear n2 r2 r3
  go_enter Tryd.func20, Tryd.ntmps20
  go_wp2_with fail
  refine (unhide k2).mono ?_
  rintro e w' ⟨rfl, rfl⟩
  go_wp2_with fail
  refine (unhide k3).mono ?_
  rintro e w' ⟨rfl, rfl⟩
  go_wp2
  go_ret
  exact ⟨rfl, rfl⟩
end Go.Proofs.YtfcodbbencjncaaDoor
