import Derived.Test.YtnpkkcbadcmgkaaGreatDoorRows
import Derived.Test.YtnpkkcbadcmgkaaGreatDoorWTold
import Derived.ProofKit
import Derived.LaidMore
import Derived.LaidLaws
import Derived.LaidHandle
import Derived.LaidSub
import Derived.OpenShut
import Derived.Stop.Joined
namespace Go.Proofs.YtnpkkcbadcmgkaaGreatDoor
open Go.ChangeShapes Go.WideShapes Go.ChangeAt Go.RowKit

theorem Tryz.own : ownKnob Tryz.prog.godebug = none := by kernel_rfl
theorem Tryz.gDegree : Tryz.prog.globalNamed "mend/field.ErrDegree" = some 5 := by kernel_rfl
theorem Tryz.gModulus : Tryz.prog.globalNamed "mend/field.ErrModulus" = some 6 := by kernel_rfl
theorem Tryz.gType : Tryz.prog.globalNamed "errors.errorType" = some 2 := by kernel_rfl
theorem Tryz.tDegree : (Tryz.prog.globals[5]?).map (·.type) = some 58 := by kernel_rfl
theorem Tryz.tModulus : (Tryz.prog.globals[6]?).map (·.type) = some 58 := by kernel_rfl
theorem Tryz.star : "*" ++ "errors.errorString" = "*errors.errorString" := by decide
theorem Tryz.row90 (u : TypeId) (h : Tryz.prog.typeName? 3 u = some "*errors.errorString") : u = 175 :=
  typeName_ptr_named (nm := "errors.errorString") (by rw [Tryz.star]; kernel_rfl) (by kernel_rfl) (by decide) u (by rw [Tryz.star]; exact h)
theorem Tryz.cells112 : Tryz.prog.cellsOf 195 = 1 := by kernel_rfl
theorem Tryz.cells9 : Tryz.prog.cellsOf 9 = 1 := by kernel_rfl
theorem Tryz.rt : (Tryz.prog.cutTypes.find? (·.1 == "internal/reflectlite.rtype")).map (·.2) = some 139 := by kernel_rfl
theorem Tryz.oneRow : ((List.range 207).filter fun t => Tryz.prog.rowNamed t [101, 114, 114, 111, 114]) = [58] := by kernel_rfl
theorem Tryz.size : Tryz.prog.types.size = 207 := by kernel_rfl

/-- a sentinel's datum. -/
def sd (s : List UInt8) : DataW Unit := .iface "*errors.errorString" (.ptr (.agg [.lit (.string s)]))

set_option maxRecDepth 100000 in
theorem sen_one {W : World} {n : String} {g : Nat} {s : List UInt8} (hg : Tryz.prog.globalNamed n = some g) (ht : (Tryz.prog.globals[g]?).map (·.type) = some 58) (h : laidMet Tryz.prog [(n, sd s)] W) : Sen g W := by
  obtain ⟨ps, ⟨g0, t0, cs0, f0, p0, q0, hg0, ht0, hv0, hd0, _, e0⟩, hnd, hrows⟩ := h
  obtain rfl := Option.some.inj (hg.symm.trans hg0)
  obtain rfl := Option.some.inj (ht.symm.trans ht0)
  subst e0
  obtain ⟨l0⟩ := cs0
  have ok0 : ∀ u v, l0 = [.iface u v] → Value.okWide Tryz.prog W .any 0 u v := fun u v e => by
    subst e; exact (hrows g 0 (by simp [MemPlace.row])).2 u v (by simpa using World.var?_cell hg0 hv0 0)
  obtain ⟨a0, s0, rfl, hc0, hs0, hz0, rfl⟩ := errorString_of_trod Tryz.underlying58 Tryz.row90 Tryz.underlying175 Tryz.underlying195 rfl rfl Tryz.underlying9 Tryz.cells112 Tryz.cells9 hd0 ok0
  exact ⟨a0, by simpa using World.var?_cell hg0 hv0 0⟩

set_option maxRecDepth 100000 in
theorem two_met {W : World} {s s' : List UInt8} (h : laidMet Tryz.prog [("mend/field.ErrDegree", sd s), ("mend/field.ErrModulus", sd s')] W) :
    ∃ a0 a1 : Addr, W.cell? ⟨5, 0, none⟩ = some (.iface 175 (.pointer (some a0))) ∧ W.cell? ⟨6, 0, none⟩ = some (.iface 175 (.pointer (some a1))) ∧ a1 ≠ a0 ∧ (∃ c t, W.heap[a0.block]? = some (.cells c t (0, 0))) ∧ (∃ c t, W.heap[a1.block]? = some (.cells c t (0, 0))) := by
  obtain ⟨ps, ⟨g0, t0, cs0, f0, p0, q0, hg0, ht0, hv0, hd0, ⟨g1, t1, cs1, f1, p1, q1, hg1, ht1, hv1, hd1, _, e1⟩, e0⟩, hnd, hrows⟩ := h
  obtain rfl := Option.some.inj (Tryz.gDegree.symm.trans hg0)
  obtain rfl := Option.some.inj (Tryz.gModulus.symm.trans hg1)
  obtain rfl := Option.some.inj (Tryz.tDegree.symm.trans ht0)
  obtain rfl := Option.some.inj (Tryz.tModulus.symm.trans ht1)
  subst e1
  subst e0
  obtain ⟨l0⟩ := cs0
  obtain ⟨l1⟩ := cs1
  have ok0 : ∀ u v, l0 = [.iface u v] → Value.okWide Tryz.prog W .any 0 u v := fun u v e => by
    subst e; exact (hrows 5 0 (by simp [MemPlace.row])).2 u v (by simpa using World.var?_cell hg0 hv0 0)
  have ok1 : ∀ u v, l1 = [.iface u v] → Value.okWide Tryz.prog W .any 0 u v := fun u v e => by
    subst e; exact (hrows 6 0 (by simp [MemPlace.row])).2 u v (by simpa using World.var?_cell hg1 hv1 0)
  obtain ⟨a0, s0, rfl, hc0, hs0, hz0, rfl⟩ := errorString_of_trod Tryz.underlying58 Tryz.row90 Tryz.underlying175 Tryz.underlying195 rfl rfl Tryz.underlying9 Tryz.cells112 Tryz.cells9 hd0 ok0
  obtain ⟨a1, s1, rfl, hc1, hs1, hz1, rfl⟩ := errorString_of_trod Tryz.underlying58 Tryz.row90 Tryz.underlying175 Tryz.underlying195 rfl rfl Tryz.underlying9 Tryz.cells112 Tryz.cells9 hd1 ok1
  refine ⟨a0, a1, by simpa using World.var?_cell hg0 hv0 0, by simpa using World.var?_cell hg1 hv1 0, ?_, (hrows a0.block a0.off (by simp [MemPlace.row])).1, (hrows a1.block a1.off (by simp [MemPlace.row])).1⟩
  rintro rfl
  simp [MemPlace.row] at hnd

theorem type_met {W : World} (h : handlesMet Tryz.prog [("errors.errorType", Rows.laid_errors_errorType)] W) : W.cell? ⟨2, 0, none⟩ = some (.iface 139 (.agg #[.pointer (some ⟨13, 58, none⟩)])) := by
  obtain ⟨name, u, ty, e1, e2, e3, e4, e5⟩ := h _ (List.mem_singleton.2 rfl)
  have en : name = [101, 114, 114, 111, 114] := (Option.some.inj e1).symm
  subst en
  obtain rfl := Option.some.inj (Tryz.rt.symm.trans e2)
  have hm : ty ∈ (List.range 207).filter fun t => Tryz.prog.rowNamed t [101, 114, 114, 111, 114] := List.mem_filter.2 ⟨List.mem_range.2 (by rw [← Tryz.size]; exact e3), e4⟩
  rw [Tryz.oneRow] at hm
  obtain rfl := List.mem_singleton.1 hm
  have hh : typeHandle Tryz.prog 58 = .pointer (some ⟨13, 58, none⟩) := by kernel_rfl
  rw [hh] at e5
  simpa using World.var?_cell Tryz.gType e5 0

/-- one of the listed, whichever. -/
theorem sen_in {W : World} {l : List (String × DataW Unit)} {n : String} {g : Nat} {s : List UInt8} (hg : Tryz.prog.globalNamed n = some g) (ht : (Tryz.prog.globals[g]?).map (·.type) = some 58)
    (hf : ((l.filter fun x => x.2.handleName?.isNone).filter fun x => x.1 == n) = [(n, sd s)]) (h : laidMetH Tryz.prog l W) : Sen g W := by
  have h1 := (laidMetH_iff.1 h).1.filter fun x => x.1 == n
  rw [hf] at h1
  exact sen_one hg ht h1

/-- the two and the handle, of whichever list. -/
theorem base_met {W : World} {l : List (String × DataW Unit)} {s s' : List UInt8} (h : laidMetH Tryz.prog l W)
    (hf : ((l.filter fun x => x.2.handleName?.isNone).filter fun x => x.1 == "mend/field.ErrDegree" || x.1 == "mend/field.ErrModulus") = [("mend/field.ErrDegree", sd s), ("mend/field.ErrModulus", sd s')])
    (hh : (l.filter fun x => x.2.handleName?.isSome) = [("errors.errorType", Rows.laid_errors_errorType)]) : Laid [] W := by
  obtain ⟨h1, h2⟩ := laidMetH_iff.1 h
  have h3 := h1.filter fun x => x.1 == "mend/field.ErrDegree" || x.1 == "mend/field.ErrModulus"
  rw [hf] at h3
  rw [hh] at h2
  exact ⟨two_met h3, type_met h2, fun _ h => by cases h⟩
theorem Laid.add {gs : List Nat} {W : World} {g : Nat} (h : Laid gs W) (hs : Sen g W) : Laid (g :: gs) W :=
  ⟨h.v, h.t, fun k hk => by
    rcases List.mem_cons.1 hk with rfl | hk
    · exact hs
    · exact h.so k hk⟩
end Go.Proofs.YtnpkkcbadcmgkaaGreatDoor
