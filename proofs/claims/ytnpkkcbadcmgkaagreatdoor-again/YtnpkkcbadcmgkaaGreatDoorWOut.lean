import Derived.Test.YtnpkkcbadcmgkaaGreatDoorWCheck
namespace Go.Proofs.YtnpkkcbadcmgkaaGreatDoor
open Go.RowKit Go.Deep
open Gf (Cd)

/-- what lay there lies there still, but for the blocks D. -/
structure Out (D : Nat → Prop) (w w' : World) : Prop where
  os : w'.os = w.os
  tape : w'.tape = w.tape
  output : w'.output = w.output
  size : w.heap.size ≤ w'.heap.size
  block : ∀ k, k < w.heap.size → ¬ D k → w'.heap[k]? = w.heap[k]?

theorem Out.of_below {D : Nat → Prop} {w w' : World} (h : Below w.heap.size w w') : Out D w w' := ⟨h.os, h.tape, h.output, h.size, fun k hk _ => h.block k hk⟩
theorem Out.trans {D : Nat → Prop} {a b c : World} (h : Out D a b) (k : Out D b c) : Out D a c :=
  ⟨k.os.trans h.os, k.tape.trans h.tape, k.output.trans h.output, Nat.le_trans h.size k.size, fun i hi hD => (k.block i (Nat.lt_of_lt_of_le hi h.size) hD).trans (h.block i hi hD)⟩
theorem Out.below {D : Nat → Prop} {B : Nat} {w w' : World} (h : Out D w w') (hD : ∀ k, D k → B ≤ k) (hB : B ≤ w.heap.size) : Below B w w' :=
  ⟨h.os, h.tape, h.output, h.size, fun k hk => h.block k (by omega) (fun hd => by have := hD k hd; omega)⟩
theorem Out.cell {D : Nat → Prop} {w w' : World} (h : Out D w w') {a : Addr} {v : Value} (hc : w.cell? a = some v) (hD : ¬ D a.block) : w'.cell? a = some v := by
  have := h.block a.block (lt_of_cell hc) hD
  unfold World.cell? at hc ⊢
  rw [this]; exact hc

theorem Out.set {D : Nat → Prop} {w w' : World} (h : Out D w w') {p : Addr} (hp : D p.block) (u : Value) : Out D w (w'.setCell p u) :=
  ⟨h.os, h.tape, h.output, by simpa [World.setCell] using h.size, fun k hk hD => (Below.heap_setCell w' p u k (fun e => hD (by rw [e]; exact hp))).trans (h.block k hk hD)⟩

/-- a slice that lies on none of the blocks D. -/
def Off (D : Nat → Prop) (v : Value) : Prop := ∀ b o i n cap, v = .slice (some ⟨b, o, i⟩) n cap → ¬ D b

theorem Rd.out {D : Nat → Prop} {w w' : World} {v : Value} {l : List Int} (h : Rd w v l) (ho : Off D v) (hb : Out D w w') : Rd w' v l := by
  obtain ⟨a, cap, hv, hm, hc⟩ := h
  refine ⟨a, cap, hv, hm, fun i hi => ?_⟩
  obtain ⟨b, o, ha, hcell⟩ := hc i hi
  exact ⟨b, o, ha, hb.cell hcell (ho b o none _ cap (by rw [hv, ha]))⟩

/-- the slice v reads as l, and it lies on a row, block b. -/
def Wr (w : World) (v : Value) (l : List Int) (b : Nat) : Prop :=
  ∃ (o cap n : Nat) (f : Nat → Value), v = .slice (some ⟨b, o, none⟩) l.length cap ∧ l.length ≤ cap ∧ w.rowIs b 3 n f ∧ o + l.length ≤ n ∧ l.length ≤ maxLen ∧ ∀ i, i < l.length → f (o + i) = .int .i64 (l.getD i 0)

theorem Wr.rd {w : World} {v : Value} {l : List Int} {b : Nat} (h : Wr w v l b) : Rd w v l := by
  obtain ⟨o, cap, n, f, rfl, hcap, hr, ho, hm, he⟩ := h
  exact ⟨_, cap, rfl, hm, fun i hi => ⟨b, o, rfl, by rw [World.rowIs.cell hr (show o + i < n by omega), he i hi]⟩⟩
theorem Wr.cap {w : World} {v : Value} {l : List Int} {b : Nat} (h : Wr w v l b) : CapOk v := by
  obtain ⟨o, cap, n, f, rfl, hcap, hr, ho, hm, he⟩ := h
  intro a n' cap' e
  cases e; exact hcap
theorem Wr.lt {w : World} {v : Value} {l : List Int} {b : Nat} (h : Wr w v l b) : b < w.heap.size := by
  obtain ⟨o, cap, n, f, rfl, hcap, hr, ho, hm, he⟩ := h
  exact World.rowIs.lt hr
theorem Wr.off {w : World} {v : Value} {l : List Int} {b : Nat} (h : Wr w v l b) {D : Nat → Prop} (hD : ¬ D b) : Off D v := by
  obtain ⟨o, cap, n, f, rfl, hcap, hr, ho, hm, he⟩ := h
  intro b' o' i n' cap' e
  cases e; exact hD
theorem Wr.out {w w' : World} {v : Value} {l : List Int} {b : Nat} {D : Nat → Prop} (h : Wr w v l b) (hD : ¬ D b) (hb : Out D w w') : Wr w' v l b := by
  obtain ⟨o, cap, n, f, rfl, hcap, hr, ho, hm, he⟩ := h
  exact ⟨o, cap, n, f, rfl, hcap, World.rowIs.of_block hr (hb.block b (World.rowIs.lt hr) hD), ho, hm, he⟩
theorem Wr.below {w w' : World} {v : Value} {l : List Int} {b : Nat} (h : Wr w v l b) (hb : Below w.heap.size w w') : Wr w' v l b := h.out (D := fun _ => False) (fun h => h) (Out.of_below hb)
theorem wr_of_row {w : World} {b : Nat} {l : List Int} (h : Row w b l.length (fun i => l.getD i 0)) (hm : l.length ≤ maxLen) : Wr w (.slice (some ⟨b, 0, none⟩) l.length l.length) l b :=
  ⟨0, _, _, _, rfl, Nat.le_refl _, h, by omega, hm, fun i _ => by show Value.int IntKind.i64 _ = _; rw [Nat.zero_add]⟩

/-- a slice may be spoilt: it has no number, or lies on block b. -/
def Spo (w : World) (v : Value) (b : Nat) : Prop := Rd w v [] ∨ ∃ l, Wr w v l b

end Go.Proofs.YtnpkkcbadcmgkaaGreatDoor
