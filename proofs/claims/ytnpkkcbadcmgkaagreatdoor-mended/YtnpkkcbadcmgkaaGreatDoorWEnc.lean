import Derived.Test.YtnpkkcbadcmgkaaGreatDoorWGiven
namespace Go.Proofs.YtnpkkcbadcmgkaaGreatDoor
open Go.RowKit Go.Deep
open Gf (Cd)

theorem word_rd {c : Cd} {l : List Nat} {w : World} {b cap : Nat} (ok : c.Ok) (hm : Gf.msg c l) (hn : c.n ≤ 256) (h : NRow w b c.n (fun i => (c.fl (List.replicate c.short 0 ++ l)).getD i 0)) :
    RdN w (.slice (some ⟨b, c.short, none⟩) (c.n - c.short - c.cut) cap) (c.word l) := by
  have hl := Gf.word_length ok hm
  have hK := Gf.K_le ok
  have hs := ok.s
  have hl2 : ((c.word l).map fun x : Nat => (x : Int)).length = c.n - c.short - c.cut := by rw [List.length_map, hl]
  rw [← hl2]
  refine Row.rd (n := c.n) h c.short _ cap (by rw [hl2]; omega) (by rw [hl2]; unfold maxLen; omega) (fun i hi => ?_)
  rw [hl2] at hi
  rw [mapN_getD]
  congr 1
  show (c.fl (List.replicate c.short 0 ++ l)).getD (c.short + i) 0 = _
  unfold Cd.word
  rw [List.getD_eq_getElem?_getD, List.getD_eq_getElem?_getD, List.getElem?_take_of_lt hi, List.getElem?_drop]

/-- what Encode answers. -/
def EncIs (c : Cd) (l : List Int) (B : Nat) (w' : World) (e : Ending) : Prop :=
  (givenE c.G.m c.bin l (c.K - c.short) ≠ 0 ∧ e = .returned (.tuple #[.slice none 0 0, .int .i64 (givenE c.G.m c.bin l (c.K - c.short)), .int .i64 (givenAt c.G.m c.bin l (c.K - c.short))])) ∨
  (givenE c.G.m c.bin l (c.K - c.short) = 0 ∧ ∃ b cap, B ≤ b ∧ e = .returned (.tuple #[.slice (some ⟨b, c.short, none⟩) (c.n - c.short - c.cut) cap, .int .i64 0, .int .i64 0]) ∧ RdN w' (.slice (some ⟨b, c.short, none⟩) (c.n - c.short - c.cut) cap) (c.word (nat l)))

end Go.Proofs.YtnpkkcbadcmgkaaGreatDoor
