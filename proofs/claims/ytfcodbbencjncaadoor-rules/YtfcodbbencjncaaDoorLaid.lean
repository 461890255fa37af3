import Derived.Test.YtfcodbbencjncaaDoorRows
import Derived.Test.YtfcodbbencjncaaDoorWErrno
import Derived.ProofKit
import Derived.LaidMore
import Derived.LaidLaws
import Derived.LaidHandle
import Derived.OpenShut
import Derived.Stop.Joined
namespace Go.Proofs.YtfcodbbencjncaaDoor
open Go.ChangeShapes Go.WideShapes Go.ChangeAt Go.RowKit

theorem Tryd.own : ownKnob Tryd.prog.godebug = none := by kernel_rfl
theorem Tryd.gDegree : Tryd.prog.globalNamed "mend/field.ErrDegree" = some 0 := by kernel_rfl
theorem Tryd.gModulus : Tryd.prog.globalNamed "mend/field.ErrModulus" = some 1 := by kernel_rfl
theorem Tryd.gElement : Tryd.prog.globalNamed "mend/field.ErrElement" = some 2 := by kernel_rfl
theorem Tryd.gZero : Tryd.prog.globalNamed "mend/field.ErrZero" = some 3 := by kernel_rfl
theorem Tryd.gType : Tryd.prog.globalNamed "errors.errorType" = some 4 := by kernel_rfl
theorem Tryd.tDegree : (Tryd.prog.globals[0]?).map (·.type) = some 36 := by kernel_rfl
theorem Tryd.tModulus : (Tryd.prog.globals[1]?).map (·.type) = some 36 := by kernel_rfl
theorem Tryd.tElement : (Tryd.prog.globals[2]?).map (·.type) = some 36 := by kernel_rfl
theorem Tryd.tZero : (Tryd.prog.globals[3]?).map (·.type) = some 36 := by kernel_rfl
theorem Tryd.star : "*" ++ "errors.errorString" = "*errors.errorString" := by decide
theorem Tryd.row90 (u : TypeId) (h : Tryd.prog.typeName? 3 u = some "*errors.errorString") : u = 90 :=
  typeName_ptr_named (nm := "errors.errorString") (by rw [Tryd.star]; kernel_rfl) (by kernel_rfl) (by decide) u (by rw [Tryd.star]; exact h)
theorem Tryd.cells112 : Tryd.prog.cellsOf 112 = 1 := by kernel_rfl
theorem Tryd.cells9 : Tryd.prog.cellsOf 9 = 1 := by kernel_rfl
theorem Tryd.rt : (Tryd.prog.cutTypes.find? (·.1 == "internal/reflectlite.rtype")).map (·.2) = some 74 := by kernel_rfl
theorem Tryd.oneRow : ((List.range 124).filter fun t => Tryd.prog.rowNamed t [101, 114, 114, 111, 114]) = [36] := by kernel_rfl
theorem Tryd.size : Tryd.prog.types.size = 124 := by kernel_rfl

def laidAll : List (String × DataW Unit) := [("errors.errorType", Rows.laid_errors_errorType), ("mend/field.ErrDegree", Rows.laid_mend_field_ErrDegree), ("mend/field.ErrModulus", Rows.laid_mend_field_ErrModulus), ("mend/field.ErrElement", Rows.laid_mend_field_ErrElement), ("mend/field.ErrZero", Rows.laid_mend_field_ErrZero)]
def laidFour : List (String × DataW Unit) := [("mend/field.ErrDegree", Rows.laid_mend_field_ErrDegree), ("mend/field.ErrModulus", Rows.laid_mend_field_ErrModulus), ("mend/field.ErrElement", Rows.laid_mend_field_ErrElement), ("mend/field.ErrZero", Rows.laid_mend_field_ErrZero)]

set_option maxRecDepth 100000 in
theorem laid_of_four {W : World} (h : laidMet Tryd.prog laidFour W) (h4 : W.cell? ⟨4, 0, none⟩ = some (.iface 74 (.agg #[.pointer (some ⟨5, 36, none⟩)]))) : ∃ a0 a1 a2 a3, Laid a0 a1 a2 a3 W := by
  obtain ⟨ps, ⟨g0, t0, cs0, f0, p0, q0, hg0, ht0, hv0, hd0, ⟨g1, t1, cs1, f1, p1, q1, hg1, ht1, hv1, hd1, ⟨g2, t2, cs2, f2, p2, q2, hg2, ht2, hv2, hd2, ⟨g3, t3, cs3, f3, p3, q3, hg3, ht3, hv3, hd3, _, e3⟩, e2⟩, e1⟩, e0⟩, hnd, hrows⟩ := h
  obtain rfl := Option.some.inj (Tryd.gDegree.symm.trans hg0)
  obtain rfl := Option.some.inj (Tryd.gModulus.symm.trans hg1)
  obtain rfl := Option.some.inj (Tryd.gElement.symm.trans hg2)
  obtain rfl := Option.some.inj (Tryd.gZero.symm.trans hg3)
  obtain rfl := Option.some.inj (Tryd.tDegree.symm.trans ht0)
  obtain rfl := Option.some.inj (Tryd.tModulus.symm.trans ht1)
  obtain rfl := Option.some.inj (Tryd.tElement.symm.trans ht2)
  obtain rfl := Option.some.inj (Tryd.tZero.symm.trans ht3)
  subst e3
  subst e2
  subst e1
  subst e0
  obtain ⟨l0⟩ := cs0
  obtain ⟨l1⟩ := cs1
  obtain ⟨l2⟩ := cs2
  obtain ⟨l3⟩ := cs3
  have ok0 : ∀ u v, l0 = [.iface u v] → Value.okWide Tryd.prog W .any 0 u v := fun u v e => by
    subst e; exact (hrows 0 0 (by simp [MemPlace.row])).2 u v (by simpa using World.var?_cell hg0 hv0 0)
  have ok1 : ∀ u v, l1 = [.iface u v] → Value.okWide Tryd.prog W .any 0 u v := fun u v e => by
    subst e; exact (hrows 1 0 (by simp [MemPlace.row])).2 u v (by simpa using World.var?_cell hg1 hv1 0)
  have ok2 : ∀ u v, l2 = [.iface u v] → Value.okWide Tryd.prog W .any 0 u v := fun u v e => by
    subst e; exact (hrows 2 0 (by simp [MemPlace.row])).2 u v (by simpa using World.var?_cell hg2 hv2 0)
  have ok3 : ∀ u v, l3 = [.iface u v] → Value.okWide Tryd.prog W .any 0 u v := fun u v e => by
    subst e; exact (hrows 3 0 (by simp [MemPlace.row])).2 u v (by simpa using World.var?_cell hg3 hv3 0)
  obtain ⟨a0, s0, rfl, hc0, hs0, hz0, rfl⟩ := errorString_of_trod Tryd.underlying36 Tryd.row90 Tryd.underlying90 Tryd.underlying112 rfl rfl Tryd.underlying9 Tryd.cells112 Tryd.cells9 hd0 ok0
  obtain ⟨a1, s1, rfl, hc1, hs1, hz1, rfl⟩ := errorString_of_trod Tryd.underlying36 Tryd.row90 Tryd.underlying90 Tryd.underlying112 rfl rfl Tryd.underlying9 Tryd.cells112 Tryd.cells9 hd1 ok1
  obtain ⟨a2, s2, rfl, hc2, hs2, hz2, rfl⟩ := errorString_of_trod Tryd.underlying36 Tryd.row90 Tryd.underlying90 Tryd.underlying112 rfl rfl Tryd.underlying9 Tryd.cells112 Tryd.cells9 hd2 ok2
  obtain ⟨a3, s3, rfl, hc3, hs3, hz3, rfl⟩ := errorString_of_trod Tryd.underlying36 Tryd.row90 Tryd.underlying90 Tryd.underlying112 rfl rfl Tryd.underlying9 Tryd.cells112 Tryd.cells9 hd3 ok3
  refine ⟨a0, a1, a2, a3, ⟨by simpa using World.var?_cell hg0 hv0 0, by simpa using World.var?_cell hg1 hv1 0, by simpa using World.var?_cell hg2 hv2 0, by simpa using World.var?_cell hg3 hv3 0, h4,
    (hrows a0.block a0.off (by simp [MemPlace.row])).1, (hrows a1.block a1.off (by simp [MemPlace.row])).1, (hrows a2.block a2.off (by simp [MemPlace.row])).1, (hrows a3.block a3.off (by simp [MemPlace.row])).1, ?_, ?_, ?_, ?_, ?_⟩⟩
  all_goals
    rintro rfl
    simp [MemPlace.row] at hnd

theorem laid_met {W : World} (h : laidMetH Tryd.prog laidAll W) : ∃ a0 a1 a2 a3, Laid a0 a1 a2 a3 W := by
  have h' : laidMet Tryd.prog laidFour W ∧ handlesMet Tryd.prog [("errors.errorType", Rows.laid_errors_errorType)] W := h
  obtain ⟨name, u, ty, e1, e2, e3, e4, e5⟩ := h'.2 _ (List.mem_singleton.2 rfl)
  have en : name = [101, 114, 114, 111, 114] := (Option.some.inj e1).symm
  subst en
  obtain rfl := Option.some.inj (Tryd.rt.symm.trans e2)
  have hm : ty ∈ (List.range 124).filter fun t => Tryd.prog.rowNamed t [101, 114, 114, 111, 114] := List.mem_filter.2 ⟨List.mem_range.2 (by rw [← Tryd.size]; exact e3), e4⟩
  rw [Tryd.oneRow] at hm
  obtain rfl := List.mem_singleton.1 hm
  have hh : typeHandle Tryd.prog 36 = .pointer (some ⟨5, 36, none⟩) := by kernel_rfl
  rw [hh] at e5
  exact laid_of_four h'.1 (by simpa using World.var?_cell Tryd.gType e5 0)

/-- The door's own heap meets the condition. -/
theorem door_met (os : Os) (args : Array Value) : laidMetH Tryd.prog laidAll ((World.doorLaid Tryd.prog 400 os).forCall (fun _ _ => 0) ⟨#[], args, []⟩).memory :=
  laidMetH_of_parts3 (fuel := 8) (laidMet_of_run' 8 (by kernel_rfl) (by kernel_rfl)) (by kernel_rfl) (by kernel_rfl)
end Go.Proofs.YtfcodbbencjncaaDoor
