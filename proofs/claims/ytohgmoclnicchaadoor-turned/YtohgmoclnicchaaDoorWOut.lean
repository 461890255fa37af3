import Derived.Test.YtohgmoclnicchaaDoorWCheck
namespace Go.Proofs.YtohgmoclnicchaaDoor
open Go.RowKit Go.Deep
open Gf (Cd)

/-- what lay there lies there still, but for the blocks D. -/
structure Out (D : Nat → Prop) (w w' : World) : Prop where
  os : w'.os = w.os
  tape : w'.tape = w.tape
  output : w'.output = w.output
  size : w.heap.size ≤ w'.heap.size
  block : ∀ k, k < w.heap.size → ¬ D k → w'.heap[k]? = w.heap[k]?

theorem Out.of_below {D : Nat → Prop} {w w' : World} (h : Below w.heap.size w w') : Out D w w' := ⟨h.os, h.tape, h.output, h.size, fun k hk _ => h.block k hk⟩
theorem Out.trans {D : Nat → Prop} {a b c : World} (h : Out D a b) (k : Out D b c) : Out D a c :=
  ⟨k.os.trans h.os, k.tape.trans h.tape, k.output.trans h.output, Nat.le_trans h.size k.size, fun i hi hD => (k.block i (Nat.lt_of_lt_of_le hi h.size) hD).trans (h.block i hi hD)⟩
theorem Out.below {D : Nat → Prop} {B : Nat} {w w' : World} (h : Out D w w') (hD : ∀ k, D k → B ≤ k) (hB : B ≤ w.heap.size) : Below B w w' :=
  ⟨h.os, h.tape, h.output, h.size, fun k hk => h.block k (by omega) (fun hd => by have := hD k hd; omega)⟩
theorem Out.cell {D : Nat → Prop} {w w' : World} (h : Out D w w') {a : Addr} {v : Value} (hc : w.cell? a = some v) (hD : ¬ D a.block) : w'.cell? a = some v := by
  have := h.block a.block (lt_of_cell hc) hD
  unfold World.cell? at hc ⊢
  rw [this]; exact hc

theorem Out.set {D : Nat → Prop} {w w' : World} (h : Out D w w') {p : Addr} (hp : D p.block) (u : Value) : Out D w (w'.setCell p u) :=
  ⟨h.os, h.tape, h.output, by simpa [World.setCell] using h.size, fun k hk hD => (Below.heap_setCell w' p u k (fun e => hD (by rw [e]; exact hp))).trans (h.block k hk hD)⟩

/-- a slice that lies on none of the blocks D. -/
def Off (D : Nat → Prop) (v : Value) : Prop := ∀ b o i n cap, v = .slice (some ⟨b, o, i⟩) n cap → ¬ D b

theorem Rd.out {D : Nat → Prop} {w w' : World} {v : Value} {l : List Int} (h : Rd w v l) (ho : Off D v) (hb : Out D w w') : Rd w' v l := by
  obtain ⟨a, cap, hv, hm, hc⟩ := h
  refine ⟨a, cap, hv, hm, fun i hi => ?_⟩
  obtain ⟨b, o, ha, hcell⟩ := hc i hi
  exact ⟨b, o, ha, hb.cell hcell (ho b o none _ cap (by rw [hv, ha]))⟩

/-- the slice v reads as l, and it lies on a row of ints, block b. -/
def Wr (w : World) (v : Value) (l : List Int) (b : Nat) : Prop :=
  ∃ (o cap n : Nat) (f : Nat → Int), v = .slice (some ⟨b, o, none⟩) l.length cap ∧ l.length ≤ cap ∧ Row w b n f ∧ o + l.length ≤ n ∧ l.length ≤ maxLen ∧ ∀ i, i < l.length → f (o + i) = l.getD i 0

theorem Wr.rd {w : World} {v : Value} {l : List Int} {b : Nat} (h : Wr w v l b) : Rd w v l := by
  obtain ⟨o, cap, n, f, rfl, hcap, hr, ho, hm, he⟩ := h
  exact Row.rd hr o l cap ho hm he
theorem Wr.cap {w : World} {v : Value} {l : List Int} {b : Nat} (h : Wr w v l b) : CapOk v := by
  obtain ⟨o, cap, n, f, rfl, hcap, hr, ho, hm, he⟩ := h
  intro a n' cap' e
  cases e; exact hcap
theorem Wr.lt {w : World} {v : Value} {l : List Int} {b : Nat} (h : Wr w v l b) : b < w.heap.size := by
  obtain ⟨o, cap, n, f, rfl, hcap, hr, ho, hm, he⟩ := h
  exact World.rowIs.lt hr
theorem Wr.off {w : World} {v : Value} {l : List Int} {b : Nat} (h : Wr w v l b) {D : Nat → Prop} (hD : ¬ D b) : Off D v := by
  obtain ⟨o, cap, n, f, rfl, hcap, hr, ho, hm, he⟩ := h
  intro b' o' i n' cap' e
  cases e; exact hD
theorem Wr.out {w w' : World} {v : Value} {l : List Int} {b : Nat} {D : Nat → Prop} (h : Wr w v l b) (hD : ¬ D b) (hb : Out D w w') : Wr w' v l b := by
  obtain ⟨o, cap, n, f, rfl, hcap, hr, ho, hm, he⟩ := h
  exact ⟨o, cap, n, f, rfl, hcap, World.rowIs.of_block hr (hb.block b (World.rowIs.lt hr) hD), ho, hm, he⟩
theorem Wr.below {w w' : World} {v : Value} {l : List Int} {b : Nat} (h : Wr w v l b) (hb : Below w.heap.size w w') : Wr w' v l b := h.out (D := fun _ => False) (fun h => h) (Out.of_below hb)
theorem wr_of_row {w : World} {b : Nat} {l : List Int} (h : Row w b l.length (fun i => l.getD i 0)) (hm : l.length ≤ maxLen) : Wr w (.slice (some ⟨b, 0, none⟩) l.length l.length) l b :=
  ⟨0, _, _, _, rfl, Nat.le_refl _, h, by omega, hm, fun i _ => by rw [Nat.zero_add]⟩

/-- a slice may be spoilt: it has no number, or lies on block b. -/
def Spo (w : World) (v : Value) (b : Nat) : Prop := Rd w v [] ∨ ∃ l, Wr w v l b

set_option maxHeartbeats 1000000 in
theorem spoil_any (v : Value) (b : Nat) (w : World) (h : Spo w v b) :
    Calls Tryd.prog 49 #[v] w fun e w' => (∃ r, e = .returned r) ∧ Out (fun k => k = b) w w' := by
  rcases h with ⟨a, cap, rfl, -, -⟩ | ⟨l, o, cap, n, f, rfl, hcap, hr, ho, hm, -⟩
  · go_enter Tryd.func49, Tryd.ntmps49
    go_wp2
    go_loopw [2] (fun i wr => i = .int .i64 0 ∧ wr = w) (fun _ _ => 0)
    case atStart => exact ⟨rfl, rfl⟩
    case round =>
      obtain ⟨rfl, rfl⟩ := hrel
      go_wp2
      go_end0
      exact ⟨⟨_, rfl⟩, Out.of_below (Below.refl _ _)⟩
  · have hm' := maxLen_lt hm
    have hr' := hide hr
    clear hr hm
    go_enter Tryd.func49, Tryd.ntmps49
    go_wp2
    go_loopw [2] (fun i wr => ∃ (k : Nat) (g : Nat → Int), k ≤ l.length ∧ i = .int .i64 k ∧ Hid (Row wr b n g) ∧ Hid (Out (fun k => k = b) w wr)) (fun i _ => l.length - (intOf i).toNat)
    case atStart => exact ⟨0, f, by omega, rfl, hr', hide (Out.of_below (Below.refl _ _))⟩
    case round =>
      obtain ⟨k, g, hk, rfl, hg, hb⟩ := hrel
      by_cases hlt : k < l.length
      · have hI : (k : Int) < (l.length : Int) := by omega
        have s1 : wr.cell? ⟨b, o + k, none⟩ = some (.int .i64 (g (o + k))) := World.rowIs.cell (unhide hg) (by omega)
        have s2 : wr.frozen? ⟨b, o + k, none⟩ = false := World.rowIs.frozen (unhide hg) _
        obtain ⟨y, hy⟩ : ∃ y, y = wrap64 (g (o + k) + 1) := ⟨_, rfl⟩
        have fin := hide (show Row (wr.setCell ⟨b, o + k, none⟩ (.int .i64 y)) b n (fun j => if j = o + k then y else g j) from World.rowIs.congr (World.rowIs.set (unhide hg) (o + k) (.int .i64 y)) (fun j _ => by show (if j = o + k then Value.int IntKind.i64 y else Value.int IntKind.i64 (g j)) = Value.int IntKind.i64 (if j = o + k then y else g j); split <;> rfl))
        have fin2 := hide (show Out (fun k => k = b) w (wr.setCell ⟨b, o + k, none⟩ (.int .i64 y)) from by
          exact (unhide hb).set (p := ⟨b, o + k, none⟩) rfl _)
        rw [hy] at fin fin2
        clear hg hb hy
        generalize g (o + k) = x at *
        go_wp2
        exact ⟨⟨k + 1, _, by omega, by go_num, fin, fin2⟩, by simp [intOf]; omega⟩
      · clear hg
        go_wp2
        go_end0
        exact ⟨⟨_, rfl⟩, unhide hb⟩
end Go.Proofs.YtohgmoclnicchaaDoor
