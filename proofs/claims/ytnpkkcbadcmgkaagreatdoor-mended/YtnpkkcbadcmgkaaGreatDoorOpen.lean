import Derived.Test.YtnpkkcbadcmgkaaGreatDoorWList
import Derived.Test.YtnpkkcbadcmgkaaGreatDoorWRoots
import Derived.ProofKit
import Derived.OpenShut
import Derived.Deep.Fields
import Derived.Lib.SmallJoins
namespace Go.Proofs.YtnpkkcbadcmgkaaGreatDoor
open Go.ChangeShapes Go.WideShapes Go.ChangeAt Go.RowKit Go.Deep Go.Joins
set_option maxRecDepth 100000

section
variable {H : Type} {enc : TypeId × Value → H} {W : World}

/-- a slice of ints, as an argument: a list of numbers. -/
theorem open_list {r : Reach} {base b0 : Nat} {sp : Nat → Bool} {held : Bool} {v : Value} {d : DataW H} {ps : List MemPlace} (hval : Value.okWide Tryz.prog W r b0 24 v) (h : DataW.Trod enc Tryz.prog W base sp held 24 v d ps) :
    ∃ l : List Int, Rd W v l ∧ (∀ a n cap, v = .slice a n cap → n ≤ cap) ∧ ((d = .nil ∧ l = []) ∨ ∃ el s, d = .slice el s ∧ el.length = l.length) := by
  obtain ⟨a0, len, cap, rfl⟩ := okWide_slice Tryz.underlying24 hval
  obtain ⟨fuel, hf⟩ := h
  rcases open_ints Tryz.underlying24 Tryz.underlying3 (by kernel_rfl) hf with ⟨hcs, hx⟩ | ⟨a, len', cap', zs, hcs, _, hl, hm, hz, hx, hcell, _⟩
  · have hcs' : a0 = none ∧ len = 0 ∧ cap = 0 := by simpa [Value.cells] using hcs
    obtain ⟨rfl, rfl, rfl⟩ := hcs'
    refine ⟨[], ⟨none, 0, rfl, by simp, fun i hi => by simp at hi⟩, fun _ _ _ e => by cases e; exact Nat.le_refl _, Or.inl ⟨?_, rfl⟩⟩
    exact congrArg Prod.fst hx
  · have hcs' : a0 = some a ∧ len = len' ∧ cap = cap' := by simpa [Value.cells] using hcs
    obtain ⟨rfl, rfl, rfl⟩ := hcs'
    have hlz : len ≤ zs.length := by rw [hz]; split <;> omega
    have hll : (zs.take len).length = len := by rw [List.length_take]; omega
    refine ⟨zs.take len, ⟨some a, cap, by rw [hll], by rw [hll]; omega, fun i hi => ?_⟩, fun _ _ _ e => by cases e; exact hl, Or.inr ⟨_, _, congrArg Prod.fst hx, by simp [lits]⟩⟩
    rw [hll] at hi
    obtain ⟨b, off, rfl, hc⟩ := ints_at hcell (by omega)
    refine ⟨b, off, rfl, ?_⟩
    rw [hc i (by omega), List.getD_eq_getElem?_getD, List.getD_eq_getElem?_getD, List.getElem?_take_of_lt hi]

/-- Params, as an argument. -/
theorem open_params {r : Reach} {base b0 : Nat} {sp : Nat → Bool} {held : Bool} {v : Value} {d : DataW H} {ps : List MemPlace} (hval : Value.okWide Tryz.prog W r b0 23 v) (h : DataW.Trod enc Tryz.prog W base sp held 23 v d ps) :
    ∃ (m q f d s t : Int) (b : Bool), v = pv m q f d s t b := by
  obtain ⟨cs, rfl, hsz⟩ := okWide_struct Tryz.underlying23 hval
  have hC : Tryz.prog.cellsOf 23 = 7 := by kernel_rfl
  rw [hC] at hsz
  obtain ⟨fuel, hf⟩ := h
  obtain ⟨xs, n, _, _, _, hlen, hfs⟩ := DataW.trod_struct Tryz.underlying23 hf
  obtain ⟨l⟩ := cs
  match l, hsz with
  | [c0, c1, c2, c3, c4, c5, c6], _ =>
    have cI : Tryz.prog.cellsOf 3 = 1 := by kernel_rfl
    have cB : Tryz.prog.cellsOf 4 = 1 := by kernel_rfl
    match xs, hlen with
    | [y0, y1, y2, y3, y4, y5, y6], _ =>
      have g0 := hfs 0 _ rfl
      have g1 := hfs 1 _ rfl
      have g2 := hfs 2 _ rfl
      have g3 := hfs 3 _ rfl
      have g4 := hfs 4 _ rfl
      have g5 := hfs 5 _ rfl
      have g6 := hfs 6 _ rfl
      obtain ⟨x0, e0, -⟩ := DataW.trod_int (k := .i64) Tryz.underlying3 g0
      obtain ⟨x1, e1, -⟩ := DataW.trod_int (k := .i64) Tryz.underlying3 g1
      obtain ⟨x2, e2, -⟩ := DataW.trod_int (k := .i64) Tryz.underlying3 g2
      obtain ⟨x3, e3, -⟩ := DataW.trod_int (k := .i64) Tryz.underlying3 g3
      obtain ⟨x4, e4, -⟩ := DataW.trod_int (k := .i64) Tryz.underlying3 g4
      obtain ⟨x5, e5, -⟩ := DataW.trod_int (k := .i64) Tryz.underlying3 g5
      obtain ⟨x6, e6, -⟩ := DataW.trod_bool Tryz.underlying4 g6
      simp [Value.cells, cI, cB] at e0 e1 e2 e3 e4 e5 e6
      subst e0 e1 e2 e3 e4 e5 e6
      exact ⟨x0, x1, x2, x3, x4, x5, x6, rfl⟩
end
end Go.Proofs.YtnpkkcbadcmgkaaGreatDoor
