import Derived.Test.YtnpkkcbadcmgkaaGreatDoorWEnc
namespace Go.Proofs.YtnpkkcbadcmgkaaGreatDoor
open Go.RowKit Go.Deep
open Gf (Cd)

theorem Rd.take {w : World} {b o cap : Nat} {l : List Int} (k : Nat) (cap' : Nat) (h : Rd w (.slice (some ⟨b, o, none⟩) l.length cap) l) (hk : k ≤ l.length) : Rd w (.slice (some ⟨b, o, none⟩) k cap') (l.take k) := by
  obtain ⟨a, cap2, hv, hm, hc⟩ := h
  have e : (l.take k).length = k := by rw [List.length_take]; omega
  refine ⟨some ⟨b, o, none⟩, cap', by rw [e], by omega, fun i hi => ⟨b, o, rfl, ?_⟩⟩
  rw [e] at hi
  obtain ⟨b2, o2, ha, hcell⟩ := hc i (by omega)
  cases hv
  cases ha
  rw [hcell, List.getD_eq_getElem?_getD, List.getD_eq_getElem?_getD, List.getElem?_take_of_lt hi]

theorem good_take {m : Nat} {bin : Bool} {l : List Int} (h : good m bin l = l.length) (k : Nat) : good m bin (l.take k) = (l.take k).length := by
  refine good_all (fun i hi => ?_)
  rw [List.length_take] at hi
  have h1 := syms_all h (l[i]'(by omega)) (List.getElem_mem _)
  rw [List.getD_eq_getElem?_getD, List.getElem?_take_of_lt (by omega), List.getElem?_eq_getElem (by omega)]
  exact h1

/-- is it a word? -/
def isWord (c : Cd) (l : List Int) : Bool := (c.word (nat (l.take (c.K - c.short)))).map (fun x : Nat => (x : Int)) == l

/-- what Check answers. -/
def chkE (c : Cd) (l : List Int) : Int := givenE c.G.m c.bin l (c.n - c.short - c.cut)
def chkAt (c : Cd) (l : List Int) : Int := givenAt c.G.m c.bin l (c.n - c.short - c.cut)
def chkB (c : Cd) (l : List Int) : Bool := chkE c l == 0 && isWord c l

/-- a slice's capacity is no less than its length. -/
def CapOk (v : Value) : Prop := ∀ a n cap, v = .slice a n cap → n ≤ cap

end Go.Proofs.YtnpkkcbadcmgkaaGreatDoor
