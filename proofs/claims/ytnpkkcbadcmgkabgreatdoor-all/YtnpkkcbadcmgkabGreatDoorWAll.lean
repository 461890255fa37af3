import Derived.Test.YtnpkkcbadcmgkabGreatDoorWDecodes
import Derived.Test.YtnpkkcbadcmgkabGreatDoorWChecks
import Derived.Test.YtnpkkcbadcmgkabGreatDoorLow
namespace Go.Proofs.YtnpkkcbadcmgkabGreatDoor
open Go.RowKit Go.Deep
open Gf (Cd)

/-- one step of a script, as it lies in memory, and its lists. -/
structure OpD where
  (k a b : Int)
  (s t : ByteArray)
  (pm pq pf pd ps pt : Int)
  pb : Bool
  (V U X : Value)
  (lv lu lx : List Int)

structure OpAt (W : World) (bs o : Nat) (x : OpD) : Prop where
  c0 : W.cell? ⟨bs, o, none⟩ = some (.int .i64 x.k)
  c1 : W.cell? ⟨bs, o + 1, none⟩ = some (.int .i64 x.a)
  c2 : W.cell? ⟨bs, o + 2, none⟩ = some (.int .i64 x.b)
  c3 : W.cell? ⟨bs, o + 3, none⟩ = some (.string x.s)
  c4 : W.cell? ⟨bs, o + 4, none⟩ = some (.string x.t)
  c5 : W.cell? ⟨bs, o + 5, none⟩ = some (.int .i64 x.pm)
  c6 : W.cell? ⟨bs, o + 6, none⟩ = some (.int .i64 x.pq)
  c7 : W.cell? ⟨bs, o + 7, none⟩ = some (.int .i64 x.pf)
  c8 : W.cell? ⟨bs, o + 8, none⟩ = some (.int .i64 x.pd)
  c9 : W.cell? ⟨bs, o + 9, none⟩ = some (.int .i64 x.ps)
  c10 : W.cell? ⟨bs, o + 10, none⟩ = some (.int .i64 x.pt)
  c11 : W.cell? ⟨bs, o + 11, none⟩ = some (.bool x.pb)
  c12 : W.cell? ⟨bs, o + 12, none⟩ = some x.V
  c13 : W.cell? ⟨bs, o + 13, none⟩ = some x.U
  c14 : W.cell? ⟨bs, o + 14, none⟩ = some x.X
  rv : Rd W x.V x.lv
  ru : Rd W x.U x.lu
  rx : Rd W x.X x.lx
  cv : CapOk x.V
  bv : 8 * x.lv.length ≤ 281474976710656
  bu : 8 * x.lu.length ≤ 281474976710656

theorem OpAt.below {W W' : World} {bs o : Nat} {x : OpD} (h : OpAt W bs o x) (hb : Below W.heap.size W W') : OpAt W' bs o x := by
  have g : ∀ {a : Addr} {v : Value}, W.cell? a = some v → W'.cell? a = some v := fun hc => by rw [hb.cell (lt_of_cell hc)]; exact hc
  exact ⟨g h.c0, g h.c1, g h.c2, g h.c3, g h.c4, g h.c5, g h.c6, g h.c7, g h.c8, g h.c9, g h.c10, g h.c11, g h.c12, g h.c13, g h.c14, h.rv.below hb, h.ru.below hb, h.rx.below hb, h.cv, h.bv, h.bu⟩

/-- one of the two places for a codec. -/
structure Side where
  C : Option Addr
  (m q f d s t : Int)
  b : Bool
def Side.zero : Side := ⟨none, 0, 0, 0, 0, 0, 0, false⟩

variable {B : Nat}
def Side.Is (P : Pd B) (X : Side) (F : Nat → Prop) (w : World) : Prop :=
  (X.C = none ∧ ∀ k, ¬ F k) ∨ ∃ (a : Addr) (c : Cd), X = ⟨some a, c.G.m, c.G.q, c.first, c.delta, c.short, c.cut, c.bin⟩ ∧ P.Cod c F (.pointer (some a)) w ∧ 3 ≤ c.G.m ∧ c.G.m ≤ 8 ∧ c.Ok

/-- the two places, in block bp. -/
def Two (w : World) (bp : Nat) (X Y : Side) : Prop := w.heap[bp]? = some (.cells #[.pointer X.C, .int .i64 X.m, .int .i64 X.q, .int .i64 X.f, .int .i64 X.d, .int .i64 X.s, .int .i64 X.t, .bool X.b, .pointer Y.C, .int .i64 Y.m, .int .i64 Y.q, .int .i64 Y.f, .int .i64 Y.d, .int .i64 Y.s, .int .i64 Y.t, .bool Y.b] 31 (0, 0))

theorem Side.Is.keep {P : Pd B} {X : Side} {F : Nat → Prop} {w w' : World} (h : X.Is P F w) (he : ∀ k, F k → w'.heap[k]? = w.heap[k]?) : X.Is P F w' := by
  rcases h with h | ⟨a, c, e, hc, h3, h8, ok⟩
  · exact Or.inl h
  · exact Or.inr ⟨a, c, e, P.cod hc he, h3, h8, ok⟩
theorem Side.Is.lt {P : Pd B} {X : Side} {F : Nat → Prop} {w : World} (h : X.Is P F w) {k : Nat} (hk : F k) : B ≤ k ∧ k < w.heap.size := by
  rcases h with h | ⟨a, c, e, hc, h3, h8, ok⟩
  · exact absurd hk (h.2 k)
  · exact P.lt hc hk

structure Inv (P : Pd B) (bp : Nat) (w wr : World) (X Y : Side) (F G : Nat → Prop) : Prop where
  gl : P.Gl wr
  hbp : B ≤ bp
  be : Below B w wr
  tw : Two wr bp X Y
  sx : X.Is P F wr
  sy : Y.Is P G wr
  fx : ∀ k, F k → bp < k
  gx : ∀ k, G k → bp < k
  ap : ∀ k, F k → ¬ G k

variable {P : Pd B} {bp : Nat} {w wr wy : World} {X Y : Side} {F G : Nat → Prop}
theorem Two.at {w : World} {bp : Nat} {X Y : Side} (h : Two w bp X Y) : (w.cell? ⟨bp, 0, none⟩ = some (.pointer X.C) ∧ w.cell? ⟨bp, 1, none⟩ = some (.int .i64 X.m) ∧ w.cell? ⟨bp, 2, none⟩ = some (.int .i64 X.q) ∧ w.cell? ⟨bp, 3, none⟩ = some (.int .i64 X.f) ∧ w.cell? ⟨bp, 4, none⟩ = some (.int .i64 X.d) ∧ w.cell? ⟨bp, 5, none⟩ = some (.int .i64 X.s) ∧ w.cell? ⟨bp, 6, none⟩ = some (.int .i64 X.t) ∧ w.cell? ⟨bp, 7, none⟩ = some (.bool X.b)) ∧
    (w.cell? ⟨bp, 8, none⟩ = some (.pointer Y.C) ∧ w.cell? ⟨bp, 9, none⟩ = some (.int .i64 Y.m) ∧ w.cell? ⟨bp, 10, none⟩ = some (.int .i64 Y.q) ∧ w.cell? ⟨bp, 11, none⟩ = some (.int .i64 Y.f) ∧ w.cell? ⟨bp, 12, none⟩ = some (.int .i64 Y.d) ∧ w.cell? ⟨bp, 13, none⟩ = some (.int .i64 Y.s) ∧ w.cell? ⟨bp, 14, none⟩ = some (.int .i64 Y.t) ∧ w.cell? ⟨bp, 15, none⟩ = some (.bool Y.b)) := by
  have h' : w.heap[bp]? = _ := h
  refine ⟨⟨?_, ?_, ?_, ?_, ?_, ?_, ?_, ?_⟩, ?_, ?_, ?_, ?_, ?_, ?_, ?_, ?_⟩ <;> simp [World.cell?, h']
theorem Inv.lt (h : Inv P bp w wr X Y F G) : bp < wr.heap.size := (Array.getElem?_eq_some_iff.1 h.tw).1
theorem Inv.ge (h : Inv P bp w wr X Y F G) : B ≤ wr.heap.size := Nat.le_trans h.hbp (Nat.le_of_lt h.lt)
theorem Inv.below (h : Inv P bp w wr X Y F G) (hb : Below wr.heap.size wr wy) : Inv P bp w wy X Y F G :=
  ⟨P.gl h.gl (hb.mono h.ge), h.hbp, h.be.trans (hb.mono h.ge), (hb.block _ h.lt).trans h.tw, h.sx.keep (fun k hk => hb.block k (h.sx.lt hk).2), h.sy.keep (fun k hk => hb.block k (h.sy.lt hk).2), h.fx, h.gx, h.ap⟩
/-- a call of the codec at X. -/
theorem Inv.outX (h : Inv P bp w wr X Y F G) (ho : Out F wr wy) (hs : X.Is P F wy) : Inv P bp w wy X Y F G :=
  ⟨P.gl h.gl (ho.below (fun k hk => (h.sx.lt hk).1) h.ge), h.hbp, h.be.trans (ho.below (fun k hk => (h.sx.lt hk).1) h.ge), (ho.block _ h.lt (fun hf => by have := h.fx _ hf; omega)).trans h.tw, hs, h.sy.keep (fun k hk => ho.block k (h.sy.lt hk).2 (fun hf => h.ap k hf hk)), h.fx, h.gx, h.ap⟩
theorem Inv.outY (h : Inv P bp w wr X Y F G) (ho : Out G wr wy) (hs : Y.Is P G wy) : Inv P bp w wy X Y F G :=
  ⟨P.gl h.gl (ho.below (fun k hk => (h.sy.lt hk).1) h.ge), h.hbp, h.be.trans (ho.below (fun k hk => (h.sy.lt hk).1) h.ge), (ho.block _ h.lt (fun hf => by have := h.gx _ hf; omega)).trans h.tw, h.sx.keep (fun k hk => ho.block k (h.sx.lt hk).2 (fun hf => h.ap k hk hf)), hs, h.fx, h.gx, h.ap⟩

theorem Two.fr {w : World} {bp : Nat} {X Y : Side} (h : Two w bp X Y) : ∀ j, w.frozen? ⟨bp, j, none⟩ = false := by
  have h' : w.heap[bp]? = _ := h
  intro j
  simp [World.frozen?, h']
theorem Two.setX {w1 : World} {bp : Nat} {X Y : Side} (h : Two w1 bp X Y) (Z : Side) : Two ((((((((w1.setCell ⟨bp, 0, none⟩ (.pointer Z.C)).setCell ⟨bp, 1, none⟩ (.int .i64 Z.m)).setCell ⟨bp, 2, none⟩ (.int .i64 Z.q)).setCell ⟨bp, 3, none⟩ (.int .i64 Z.f)).setCell ⟨bp, 4, none⟩ (.int .i64 Z.d)).setCell ⟨bp, 5, none⟩ (.int .i64 Z.s)).setCell ⟨bp, 6, none⟩ (.int .i64 Z.t)).setCell ⟨bp, 7, none⟩ (.bool Z.b)) bp Z Y := by
  unfold Two at h ⊢
  have h0 := heap_setCell_same _ bp 0 _ _ (.pointer Z.C) h
  simp only [List.setIfInBounds_toArray, List.set_cons_zero] at h0
  have h1 := heap_setCell_same _ bp 1 _ _ (.int .i64 Z.m) h0
  simp only [List.setIfInBounds_toArray, List.set_cons_zero, List.set_cons_succ] at h1
  have h2 := heap_setCell_same _ bp 2 _ _ (.int .i64 Z.q) h1
  simp only [List.setIfInBounds_toArray, List.set_cons_zero, List.set_cons_succ] at h2
  have h3 := heap_setCell_same _ bp 3 _ _ (.int .i64 Z.f) h2
  simp only [List.setIfInBounds_toArray, List.set_cons_zero, List.set_cons_succ] at h3
  have h4 := heap_setCell_same _ bp 4 _ _ (.int .i64 Z.d) h3
  simp only [List.setIfInBounds_toArray, List.set_cons_zero, List.set_cons_succ] at h4
  have h5 := heap_setCell_same _ bp 5 _ _ (.int .i64 Z.s) h4
  simp only [List.setIfInBounds_toArray, List.set_cons_zero, List.set_cons_succ] at h5
  have h6 := heap_setCell_same _ bp 6 _ _ (.int .i64 Z.t) h5
  simp only [List.setIfInBounds_toArray, List.set_cons_zero, List.set_cons_succ] at h6
  have h7 := heap_setCell_same _ bp 7 _ _ (.bool Z.b) h6
  simp only [List.setIfInBounds_toArray, List.set_cons_zero, List.set_cons_succ] at h7
  exact h7
theorem out_setX (w1 : World) (bp : Nat) (Z : Side) : Out (fun k => k = bp) w1 ((((((((w1.setCell ⟨bp, 0, none⟩ (.pointer Z.C)).setCell ⟨bp, 1, none⟩ (.int .i64 Z.m)).setCell ⟨bp, 2, none⟩ (.int .i64 Z.q)).setCell ⟨bp, 3, none⟩ (.int .i64 Z.f)).setCell ⟨bp, 4, none⟩ (.int .i64 Z.d)).setCell ⟨bp, 5, none⟩ (.int .i64 Z.s)).setCell ⟨bp, 6, none⟩ (.int .i64 Z.t)).setCell ⟨bp, 7, none⟩ (.bool Z.b)) :=
  (Out.set (D := fun k => k = bp) (Out.set (D := fun k => k = bp) (Out.set (D := fun k => k = bp) (Out.set (D := fun k => k = bp) (Out.set (D := fun k => k = bp) (Out.set (D := fun k => k = bp) (Out.set (D := fun k => k = bp) (Out.set (D := fun k => k = bp) (Out.of_below (Below.refl _ _)) (p := ⟨bp, 0, none⟩) rfl _) (p := ⟨bp, 1, none⟩) rfl _) (p := ⟨bp, 2, none⟩) rfl _) (p := ⟨bp, 3, none⟩) rfl _) (p := ⟨bp, 4, none⟩) rfl _) (p := ⟨bp, 5, none⟩) rfl _) (p := ⟨bp, 6, none⟩) rfl _) (p := ⟨bp, 7, none⟩) rfl _)
theorem Inv.newX {w1 : World} (h : Inv P bp w w1 X Y F G) {c : Cd} {F1 : Nat → Prop} {a1 : Addr} {N : Nat} (hC : P.Cod c F1 (.pointer (some a1)) w1) (h3 : 3 ≤ c.G.m) (h8 : c.G.m ≤ 8) (ok : c.Ok) (hF : ∀ k, F1 k → N ≤ k) (hN : bp < N) (hO : ∀ k, G k → k < N) :
    Inv P bp w ((((((((w1.setCell ⟨bp, 0, none⟩ (.pointer (some a1))).setCell ⟨bp, 1, none⟩ (.int .i64 c.G.m)).setCell ⟨bp, 2, none⟩ (.int .i64 c.G.q)).setCell ⟨bp, 3, none⟩ (.int .i64 c.first)).setCell ⟨bp, 4, none⟩ (.int .i64 c.delta)).setCell ⟨bp, 5, none⟩ (.int .i64 c.short)).setCell ⟨bp, 6, none⟩ (.int .i64 c.cut)).setCell ⟨bp, 7, none⟩ (.bool c.bin)) (⟨some a1, c.G.m, c.G.q, c.first, c.delta, c.short, c.cut, c.bin⟩ : Side) Y F1 G := by
  have ho := out_setX w1 bp (⟨some a1, c.G.m, c.G.q, c.first, c.delta, c.short, c.cut, c.bin⟩ : Side)
  have hb := ho.below (B := B) (fun k hk => by rw [hk]; exact h.hbp) h.ge
  exact ⟨P.gl h.gl hb, h.hbp, h.be.trans hb, h.tw.setX (⟨some a1, c.G.m, c.G.q, c.first, c.delta, c.short, c.cut, c.bin⟩ : Side), Or.inr ⟨a1, c, rfl, P.cod hC (fun k hk => ho.block k (P.lt hC hk).2 (fun e => by have := hF k hk; omega)), h3, h8, ok⟩, h.sy.keep (fun k hk => ho.block k (h.sy.lt hk).2 (fun e => by have := h.gx k hk; omega)), fun k hk => by have := hF k hk; omega, h.gx, fun k hk hg => by have := hF k hk; have := hO k hg; omega⟩

theorem Two.setY {w1 : World} {bp : Nat} {X Y : Side} (h : Two w1 bp X Y) (Z : Side) : Two ((((((((w1.setCell ⟨bp, 8, none⟩ (.pointer Z.C)).setCell ⟨bp, 9, none⟩ (.int .i64 Z.m)).setCell ⟨bp, 10, none⟩ (.int .i64 Z.q)).setCell ⟨bp, 11, none⟩ (.int .i64 Z.f)).setCell ⟨bp, 12, none⟩ (.int .i64 Z.d)).setCell ⟨bp, 13, none⟩ (.int .i64 Z.s)).setCell ⟨bp, 14, none⟩ (.int .i64 Z.t)).setCell ⟨bp, 15, none⟩ (.bool Z.b)) bp X Z := by
  unfold Two at h ⊢
  have h0 := heap_setCell_same _ bp 8 _ _ (.pointer Z.C) h
  simp only [List.setIfInBounds_toArray, List.set_cons_zero, List.set_cons_succ] at h0
  have h1 := heap_setCell_same _ bp 9 _ _ (.int .i64 Z.m) h0
  simp only [List.setIfInBounds_toArray, List.set_cons_zero, List.set_cons_succ] at h1
  have h2 := heap_setCell_same _ bp 10 _ _ (.int .i64 Z.q) h1
  simp only [List.setIfInBounds_toArray, List.set_cons_zero, List.set_cons_succ] at h2
  have h3 := heap_setCell_same _ bp 11 _ _ (.int .i64 Z.f) h2
  simp only [List.setIfInBounds_toArray, List.set_cons_zero, List.set_cons_succ] at h3
  have h4 := heap_setCell_same _ bp 12 _ _ (.int .i64 Z.d) h3
  simp only [List.setIfInBounds_toArray, List.set_cons_zero, List.set_cons_succ] at h4
  have h5 := heap_setCell_same _ bp 13 _ _ (.int .i64 Z.s) h4
  simp only [List.setIfInBounds_toArray, List.set_cons_zero, List.set_cons_succ] at h5
  have h6 := heap_setCell_same _ bp 14 _ _ (.int .i64 Z.t) h5
  simp only [List.setIfInBounds_toArray, List.set_cons_zero, List.set_cons_succ] at h6
  have h7 := heap_setCell_same _ bp 15 _ _ (.bool Z.b) h6
  simp only [List.setIfInBounds_toArray, List.set_cons_zero, List.set_cons_succ] at h7
  exact h7
theorem out_setY (w1 : World) (bp : Nat) (Z : Side) : Out (fun k => k = bp) w1 ((((((((w1.setCell ⟨bp, 8, none⟩ (.pointer Z.C)).setCell ⟨bp, 9, none⟩ (.int .i64 Z.m)).setCell ⟨bp, 10, none⟩ (.int .i64 Z.q)).setCell ⟨bp, 11, none⟩ (.int .i64 Z.f)).setCell ⟨bp, 12, none⟩ (.int .i64 Z.d)).setCell ⟨bp, 13, none⟩ (.int .i64 Z.s)).setCell ⟨bp, 14, none⟩ (.int .i64 Z.t)).setCell ⟨bp, 15, none⟩ (.bool Z.b)) :=
  (Out.set (D := fun k => k = bp) (Out.set (D := fun k => k = bp) (Out.set (D := fun k => k = bp) (Out.set (D := fun k => k = bp) (Out.set (D := fun k => k = bp) (Out.set (D := fun k => k = bp) (Out.set (D := fun k => k = bp) (Out.set (D := fun k => k = bp) (Out.of_below (Below.refl _ _)) (p := ⟨bp, 8, none⟩) rfl _) (p := ⟨bp, 9, none⟩) rfl _) (p := ⟨bp, 10, none⟩) rfl _) (p := ⟨bp, 11, none⟩) rfl _) (p := ⟨bp, 12, none⟩) rfl _) (p := ⟨bp, 13, none⟩) rfl _) (p := ⟨bp, 14, none⟩) rfl _) (p := ⟨bp, 15, none⟩) rfl _)
theorem Inv.newY {w1 : World} (h : Inv P bp w w1 X Y F G) {c : Cd} {F1 : Nat → Prop} {a1 : Addr} {N : Nat} (hC : P.Cod c F1 (.pointer (some a1)) w1) (h3 : 3 ≤ c.G.m) (h8 : c.G.m ≤ 8) (ok : c.Ok) (hF : ∀ k, F1 k → N ≤ k) (hN : bp < N) (hO : ∀ k, F k → k < N) :
    Inv P bp w ((((((((w1.setCell ⟨bp, 8, none⟩ (.pointer (some a1))).setCell ⟨bp, 9, none⟩ (.int .i64 c.G.m)).setCell ⟨bp, 10, none⟩ (.int .i64 c.G.q)).setCell ⟨bp, 11, none⟩ (.int .i64 c.first)).setCell ⟨bp, 12, none⟩ (.int .i64 c.delta)).setCell ⟨bp, 13, none⟩ (.int .i64 c.short)).setCell ⟨bp, 14, none⟩ (.int .i64 c.cut)).setCell ⟨bp, 15, none⟩ (.bool c.bin)) X (⟨some a1, c.G.m, c.G.q, c.first, c.delta, c.short, c.cut, c.bin⟩ : Side) F F1 := by
  have ho := out_setY w1 bp (⟨some a1, c.G.m, c.G.q, c.first, c.delta, c.short, c.cut, c.bin⟩ : Side)
  have hb := ho.below (B := B) (fun k hk => by rw [hk]; exact h.hbp) h.ge
  exact ⟨P.gl h.gl hb, h.hbp, h.be.trans hb, h.tw.setY (⟨some a1, c.G.m, c.G.q, c.first, c.delta, c.short, c.cut, c.bin⟩ : Side), h.sx.keep (fun k hk => ho.block k (h.sx.lt hk).2 (fun e => by have := h.fx k hk; omega)), Or.inr ⟨a1, c, rfl, P.cod hC (fun k hk => ho.block k (P.lt hC hk).2 (fun e => by have := hF k hk; omega)), h3, h8, ok⟩, h.fx, fun k hk => by have := hF k hk; omega, fun k hk hg => by have := hF k hg; have := hO k hk; omega⟩

theorem two_below (w : World) (a b : Obj) : Below w.heap.size w ((w.alloc a).alloc b) :=
  ((Below.refl _ _).alloc (Nat.le_refl _) _).alloc (by simp) _
/-- the copy of a step. -/
def OpBox (w : World) (b : Nat) (k a b' : Int) (s t : ByteArray) (m q f d ss tt : Int) (bb : Bool) (V U X : Value) : Prop :=
  w.heap[b]? = some (.cells #[.int .i64 k, .int .i64 a, .int .i64 b', .string s, .string t, .int .i64 m, .int .i64 q, .int .i64 f, .int .i64 d, .int .i64 ss, .int .i64 tt, .bool bb, V, U, X] 28 (0, 0))
theorem op_new (w : World) (k a b' : Int) (s t : ByteArray) (m q f d ss tt : Int) (bb : Bool) (V U X : Value) (ob : Obj) :
    OpBox ((w.alloc (.cells #[.int .i64 k, .int .i64 a, .int .i64 b', .string s, .string t, .int .i64 m, .int .i64 q, .int .i64 f, .int .i64 d, .int .i64 ss, .int .i64 tt, .bool bb, V, U, X] 28)).alloc ob) w.heap.size k a b' s t m q f d ss tt bb V U X := by
  have h := (Below.refl (w.heap.size + 1) (w.alloc (.cells #[.int .i64 k, .int .i64 a, .int .i64 b', .string s, .string t, .int .i64 m, .int .i64 q, .int .i64 f, .int .i64 d, .int .i64 ss, .int .i64 tt, .bool bb, V, U, X] 28))).alloc (by simp) ob
  exact (h.block _ (by omega)).trans (blk_alloc_new _ _)
theorem OpBox.below {w w' : World} {b : Nat} {k a b' : Int} {s t : ByteArray} {m q f d ss tt : Int} {bb : Bool} {V U X : Value} (h : OpBox w b k a b' s t m q f d ss tt bb V U X) (hb : Below w.heap.size w w') : OpBox w' b k a b' s t m q f d ss tt bb V U X :=
  (hb.block _ (Array.getElem?_eq_some_iff.1 h).1).trans h
theorem OpBox.at {w : World} {b : Nat} {k a b' : Int} {s t : ByteArray} {m q f d ss tt : Int} {bb : Bool} {V U X : Value} (h : OpBox w b k a b' s t m q f d ss tt bb V U X) :
    w.cell? ⟨b, 0, none⟩ = some (.int .i64 k) ∧ w.cell? ⟨b, 1, none⟩ = some (.int .i64 a) ∧ w.cell? ⟨b, 5, none⟩ = some (.int .i64 m) ∧ w.cell? ⟨b, 6, none⟩ = some (.int .i64 q) ∧ w.cell? ⟨b, 7, none⟩ = some (.int .i64 f) ∧ w.cell? ⟨b, 8, none⟩ = some (.int .i64 d) ∧ w.cell? ⟨b, 9, none⟩ = some (.int .i64 ss) ∧ w.cell? ⟨b, 10, none⟩ = some (.int .i64 tt) ∧ w.cell? ⟨b, 11, none⟩ = some (.bool bb) ∧ w.cell? ⟨b, 12, none⟩ = some V ∧ w.cell? ⟨b, 13, none⟩ = some U ∧ w.cell? ⟨b, 14, none⟩ = some X := by
  have h' : w.heap[b]? = _ := h
  refine ⟨?_, ?_, ?_, ?_, ?_, ?_, ?_, ?_, ?_, ?_, ?_, ?_⟩ <;> simp [World.cell?, h']

/-- a script, as an argument. -/
def Scr (W : World) (v : Value) (L : List OpD) : Prop :=
  ∃ (a : Option Addr) (cap : Nat), v = .slice a L.length cap ∧ L.length ≤ 1000000000000000 ∧ ∀ i (hi : i < L.length), ∃ bs o, a = some ⟨bs, o, none⟩ ∧ OpAt W bs (o + i * 15) L[i]

theorem and_one (a : Int) : bits .and .i64 a 1 = 0 ∨ bits .and .i64 a 1 = 1 := by
  have h := low_and 1 (by decide) a
  have h2 := low_lt 1 a
  rw [show ((2 : Int) ^ 1 - 1) = 1 by decide] at h
  rw [h]
  omega

theorem make_pairs (wx : World) : (Instr.makeSlice 23 (.int .i64 2) (.int .i64 2)).run Tryz.prog wx = .ok (.slice (some ⟨wx.heap.size, 0, none⟩) 2 2) (wx.alloc (.cells #[.pointer none, .int .i64 0, .int .i64 0, .int .i64 0, .int .i64 0, .int .i64 0, .int .i64 0, .bool false, .pointer none, .int .i64 0, .int .i64 0, .int .i64 0, .int .i64 0, .int .i64 0, .int .i64 0, .bool false] 31)) := by kernel_rfl

theorem isF7 : Gf.IsField 3 11 := by
  refine ⟨⟨by decide, by decide⟩, fun i h0 h1 => ?_, by decide, by decide⟩
  have h2 : i < 7 := h1
  have : i = 1 ∨ i = 2 ∨ i = 3 ∨ i = 4 ∨ i = 5 ∨ i = 6 := by omega
  rcases this with rfl | rfl | rfl | rfl | rfl | rfl <;> decide
def c7 : Cd := ⟨⟨3, 11, isF7⟩, 1, 3, 0, 0, false⟩
theorem c7_ok : c7.Ok := ⟨by decide, by decide, by decide, by decide, by decide, by decide⟩
theorem new7 (P : Pd B) (wx : World) (hG : P.Gl wx) (hB : B ≤ wx.heap.size) : Calls Tryz.prog 8 #[.agg #[.int .i64 3, .int .i64 11, .int .i64 1, .int .i64 3, .int .i64 0, .int .i64 0, .bool false]] wx fun e w' => ∃ a : Addr, e = .returned (.tuple #[.pointer (some a), .int .i64 0, .int .i64 0]) ∧ Below wx.heap.size wx w' := by
  refine (P.new c7 wx (by decide) (by decide) c7_ok hG hB).mono ?_
  rintro e w' ⟨F, v, rfl, hC, -, hb⟩
  obtain ⟨a, rfl⟩ := P.ptr hC
  exact ⟨a, rfl, hb⟩

set_option maxRecDepth 1000000 in
set_option maxHeartbeats 16000000 in
theorem All_any (P : Pd B) (v : Value) (L : List OpD) (w : World) (hG : P.Gl w) (hB : B = w.heap.size) (h : Scr w v L) :
    Calls Tryz.prog 3 #[v] w fun e w' => e = .returned (.bool true) ∧ Below w.heap.size w w' := by
  obtain ⟨a, cap, rfl, hm, hc⟩ := h
  have HC := hide hc
  have HG := hide hG
  have HB := hide hB
  have mk := make_pairs
  have I0 := hide (show Inv P w.heap.size w (w.alloc (.cells #[.pointer none, .int .i64 0, .int .i64 0, .int .i64 0, .int .i64 0, .int .i64 0, .int .i64 0, .bool false, .pointer none, .int .i64 0, .int .i64 0, .int .i64 0, .int .i64 0, .int .i64 0, .int .i64 0, .bool false] 31)) Side.zero Side.zero (fun _ => False) (fun _ => False) from
    ⟨P.gl hG (((Below.refl _ _).alloc (Nat.le_refl _) _).mono (by omega)), by omega, ((Below.refl _ _).alloc (Nat.le_refl _) _).mono (by omega), blk_alloc_new _ _, Or.inl ⟨rfl, fun _ h => h⟩, Or.inl ⟨rfl, fun _ h => h⟩, fun _ h => h.elim, fun _ h => h.elim, fun _ h => h.elim⟩)
  clear hc hG hB
  go_enter Tryz.func3, Tryz.ntmps3
  go_wp2
  clear mk
  generalize hbp : w.heap.size = bp at I0 ⊢
  have HBP := hide hbp
  clear hbp
  go_loopw [4, 5, 6, 7, 8, 9] (fun i _ _ _ _ _ wr => ∃ (k : Nat) (X Y : Side) (F G : Nat → Prop), k ≤ L.length ∧ i = .int .i64 k ∧ Hid (Inv P bp w wr X Y F G)) (fun i _ _ _ _ _ _ => L.length - (intOf i).toNat)
  case atStart => exact ⟨0, _, _, _, _, by omega, rfl, I0⟩
  case round =>
    clear I0
    obtain ⟨k, X, Y, F, G, hk, rfl, hI⟩ := hrel
    by_cases hlt : k < L.length
    · obtain ⟨bs, o, rfl, hop⟩ := unhide HC k hlt
      have hlI : (k : Int) < (L.length : Int) := by omega
      have hlM : (k : Int) < 1152921504606846976 := by omega
      have hw := hop.below ((unhide HB) ▸ (unhide hI).be)
      have hbl := (unhide hI).lt
      have hbn : bp ≠ wr.heap.size := by omega
      have c0 := hw.c0
      have c1 := hw.c1
      have c2 := hw.c2
      have c3 := hw.c3
      have c4 := hw.c4
      have c5 := hw.c5
      have c6 := hw.c6
      have c7 := hw.c7
      have c8 := hw.c8
      have c9 := hw.c9
      have c10 := hw.c10
      have c11 := hw.c11
      have c12 := hw.c12
      have c13 := hw.c13
      have c14 := hw.c14
      have HOP := hide hop
      clear hop hw
      generalize L[k] = x at *
      obtain ⟨ok, oa, ob, os, ot, pm, pq, pf, pd, ps, pt, pb, V, U, Xv, lv, lu, lx⟩ := x
      dsimp only at *
      have hop := unhide HOP
      obtain ⟨av, cv, ev⟩ : ∃ au cu, V = .slice au lv.length cu := by obtain ⟨au, cu, e, -⟩ := hop.rv; exact ⟨au, cu, e⟩
      obtain ⟨au, cu, eu⟩ : ∃ au cu, U = .slice au lu.length cu := by obtain ⟨au, cu, e, -⟩ := hop.ru; exact ⟨au, cu, e⟩
      obtain ⟨ax, cx, ex⟩ : ∃ au cu, Xv = .slice au lx.length cu := by obtain ⟨au, cu, e, -⟩ := hop.rx; exact ⟨au, cu, e⟩
      subst ev
      subst eu
      subst ex
      clear hop
      have htw := (unhide hI).tw.at
      rcases and_one oa with hA | hA
      · obtain ⟨z0, z1, z2, z3, z4, z5, z6, z7⟩ := htw.1
        clear htw
        by_cases k1 : ok = 1
        · have t1 : (ok == 1) = true := by rw [k1]; rfl
          clear k1
          obtain ⟨r, hr⟩ := wrong_total pm pq pf pd ps pt pb
          by_cases h0 : r = 0
          · subst h0
            obtain ⟨c, rfl, rfl, rfl, rfl, rfl, rfl, rfl, m3, m8, cok⟩ := elim_r hr
            have hM := hide (fun wx (hx : P.Gl wx) (hBx : B ≤ wx.heap.size) => makes_ok P.toPn c wx m3 m8 cok hx hBx)
            have HOK := hide cok
            clear hr cok
            go_wp2_with fail
            have hb2 := two_below wr (.cells #[.int .i64 ok, .int .i64 oa, .int .i64 ob, .string os, .string ot, .int .i64 c.G.m, .int .i64 c.G.q, .int .i64 c.first, .int .i64 c.delta, .int .i64 c.short, .int .i64 c.cut, .bool c.bin, .slice av lv.length cv, .slice au lu.length cu, .slice ax lx.length cx] 28) (.cells #[.pointer X.C, .int .i64 X.m, .int .i64 X.q, .int .i64 X.f, .int .i64 X.d, .int .i64 X.s, .int .i64 X.t, .bool X.b] 31)
            have hI2 := (unhide hI).below hb2
            have hbx := op_new wr ok oa ob os ot c.G.m c.G.q c.first c.delta c.short c.cut c.bin (.slice av lv.length cv) (.slice au lu.length cu) (.slice ax lx.length cx) (.cells #[.pointer X.C, .int .i64 X.m, .int .i64 X.q, .int .i64 X.f, .int .i64 X.d, .int .i64 X.s, .int .i64 X.t, .bool X.b] 31)
            refine (unhide hM _ hI2.gl hI2.ge).mono ?_
            rintro e w1 ⟨F1, v1, rfl, hC, hF, hb1⟩
            obtain ⟨a1, rfl⟩ := P.ptr hC
            have hI3 := hI2.below hb1
            clear c0 c1 c2 c3 c4 c5 c6 c7 c8 c9 c10 c11 c12 c13 c14 z0 z1 z2 z3 z4 z5 z6 z7
            obtain ⟨f0, f1, f5, f6, f7, f8, f9, f10, f11, f12, f13, f14⟩ := (hbx.below hb1).at
            obtain ⟨z0, z1, z2, z3, z4, z5, z6, z7⟩ := hI3.tw.at.1
            have zf := hI3.tw.fr
            have hI4 := hide (hI3.newX hC m3 m8 (unhide HOK) hF hI2.lt (fun k hk => (hI2.sy.lt hk).2))
            clear hb2 hI2 hI3 hbx hM hF hb1 hC
            go_wp2
            go_roundw
            case rel => exact ⟨k + 1, ⟨some a1, c.G.m, c.G.q, c.first, c.delta, c.short, c.cut, c.bin⟩, Y, F1, G, by omega, by go_num, hI4⟩
            case measure => simp [intOf]; omega
          · have hM := hide (fun wx (hx : P.Gl wx) (hBx : B ≤ wx.heap.size) => makes_no P.toPn _ _ _ _ _ _ _ r wx hr h0 hx hBx)
            clear hr h0
            go_wp2_with fail
            have hb2 := two_below wr (.cells #[.int .i64 ok, .int .i64 oa, .int .i64 ob, .string os, .string ot, .int .i64 pm, .int .i64 pq, .int .i64 pf, .int .i64 pd, .int .i64 ps, .int .i64 pt, .bool pb, .slice av lv.length cv, .slice au lu.length cu, .slice ax lx.length cx] 28) (.cells #[.pointer X.C, .int .i64 X.m, .int .i64 X.q, .int .i64 X.f, .int .i64 X.d, .int .i64 X.s, .int .i64 X.t, .bool X.b] 31)
            have hI2 := (unhide hI).below hb2
            refine (unhide hM _ hI2.gl hI2.ge).mono ?_
            rintro e w1 ⟨rfl, hb1⟩
            have hI3 := hide (hI2.below hb1)
            clear hb2 hI2 hb1 hM
            go_wp2
            go_roundw
            case rel => exact ⟨k + 1, X, Y, F, G, by omega, by go_num, hI3⟩
            case measure => simp [intOf]; omega
        · have t1 : (ok == 1) = false := beq_eq_false_iff_ne.2 k1
          clear k1
          rcases (unhide hI).sx with ⟨hn, -⟩ | ⟨a1, c, e, hC, m3, m8, cok⟩
          · rw [hn] at z0
            have hI2 := hide ((unhide hI).below (two_below wr (.cells #[.int .i64 ok, .int .i64 oa, .int .i64 ob, .string os, .string ot, .int .i64 pm, .int .i64 pq, .int .i64 pf, .int .i64 pd, .int .i64 ps, .int .i64 pt, .bool pb, .slice av lv.length cv, .slice au lu.length cu, .slice ax lx.length cx] 28) (.cells #[.pointer none, .int .i64 X.m, .int .i64 X.q, .int .i64 X.f, .int .i64 X.d, .int .i64 X.s, .int .i64 X.t, .bool X.b] 31)))
            clear hn
            go_wp2
            go_roundw
            case rel => exact ⟨k + 1, X, Y, F, G, by omega, by go_num, hI2⟩
            case measure => simp [intOf]; omega
          · subst e
            have HC := hide hC
            have HOK := hide cok
            clear hC cok
            dsimp only at z0 z1 z2 z3 z4 z5 z6 z7
            have hb2 := hide (two_below wr (.cells #[.int .i64 ok, .int .i64 oa, .int .i64 ob, .string os, .string ot, .int .i64 pm, .int .i64 pq, .int .i64 pf, .int .i64 pd, .int .i64 ps, .int .i64 pt, .bool pb, .slice av lv.length cv, .slice au lu.length cu, .slice ax lx.length cx] 28) (.cells #[.pointer (some a1), .int .i64 c.G.m, .int .i64 c.G.q, .int .i64 c.first, .int .i64 c.delta, .int .i64 c.short, .int .i64 c.cut, .bool c.bin] 31))
            have hI2 := hide ((unhide hI).below (unhide hb2))
            have HC2 := hide (P.keepB (unhide HC) (unhide hb2))
            have hop := unhide HOP
            have HW := hide (show w.heap.size ≤ B from Nat.le_of_eq (unhide HB).symm)
            have HBE := hide (show Below w.heap.size w _ from (unhide HB) ▸ (unhide hI2).be)
            have hv := hide hop.rv
            have hu := hide hop.ru
            have hx := hide hop.rx
            have hcv := hide hop.cv
            have hbv := hide hop.bv
            have hbu := hide hop.bu
            clear hop
            by_cases k2 : ok = 2
            · have t2 : (ok == 2) = true := by rw [k2]; rfl
              clear k2
              go_wp2_with fail
              refine (encodes_any P.toPe c F (.pointer (some a1)) (.slice av lv.length cv) lv _ w m3 m8 (unhide HOK) (unhide HC2) (unhide hI2).gl (unhide hI2).ge (unhide hv) (unhide HW) ((unhide hv).below (unhide HBE)) (unhide hbv)).mono ?_
              rintro e w1 ⟨rfl, ho, hC3⟩
              have hI3 := hide ((unhide hI2).outX ho (Or.inr ⟨a1, c, rfl, hC3, m3, m8, unhide HOK⟩))
              clear ho hC3
              go_wp2
              go_roundw
              case rel => exact ⟨k + 1, ⟨some a1, c.G.m, c.G.q, c.first, c.delta, c.short, c.cut, c.bin⟩, Y, F, G, by omega, by go_num, hI3⟩
              case measure => simp [intOf]; omega
            · have t2 : (ok == 2) = false := beq_eq_false_iff_ne.2 k2
              clear k2
              by_cases k3 : ok = 3
              · have t3 : (ok == 3) = true := by rw [k3]; rfl
                clear k3
                go_wp2_with fail
                refine (checks_any P.toPg c F (.pointer (some a1)) (.slice av lv.length cv) lv _ w m3 m8 (unhide HOK) (unhide HC2) (unhide hI2).gl (unhide hI2).ge (unhide hv) (unhide HW) ((unhide hv).below (unhide HBE)) (unhide hcv) (unhide hbv)).mono ?_
                rintro e w1 ⟨rfl, ho, hC3⟩
                have hI3 := hide ((unhide hI2).outX ho (Or.inr ⟨a1, c, rfl, hC3, m3, m8, unhide HOK⟩))
                clear ho hC3
                go_wp2
                go_roundw
                case rel => exact ⟨k + 1, ⟨some a1, c.G.m, c.G.q, c.first, c.delta, c.short, c.cut, c.bin⟩, Y, F, G, by omega, by go_num, hI3⟩
                case measure => simp [intOf]; omega
              · have t3 : (ok == 3) = false := beq_eq_false_iff_ne.2 k3
                clear k3
                by_cases k4 : ok = 4
                · have t4 : (ok == 4) = true := by rw [k4]; rfl
                  clear k4
                  go_wp2_with fail
                  refine (decodes_any P c F (.pointer (some a1)) (.slice av lv.length cv) (.slice au lu.length cu) (.slice ax lx.length cx) lv lu lx _ w m3 m8 (unhide HOK) (unhide HC2) (unhide hI2).gl (unhide hI2).ge (unhide HW) (unhide hv) (unhide hu) (unhide hx) (unhide HBE) (unhide hbv) (unhide hbu)).mono ?_
                  rintro e w1 ⟨rfl, ho, hC3⟩
                  have hI3 := hide ((unhide hI2).outX ho (Or.inr ⟨a1, c, rfl, hC3, m3, m8, unhide HOK⟩))
                  clear ho hC3
                  go_wp2
                  go_roundw
                  case rel => exact ⟨k + 1, ⟨some a1, c.G.m, c.G.q, c.first, c.delta, c.short, c.cut, c.bin⟩, Y, F, G, by omega, by go_num, hI3⟩
                  case measure => simp [intOf]; omega
                · have t4 : (ok == 4) = false := beq_eq_false_iff_ne.2 k4
                  clear k4
                  have hI3 := hI2
                  go_wp2
                  go_roundw
                  case rel => exact ⟨k + 1, ⟨some a1, c.G.m, c.G.q, c.first, c.delta, c.short, c.cut, c.bin⟩, Y, F, G, by omega, by go_num, hI3⟩
                  case measure => simp [intOf]; omega
      · obtain ⟨z0, z1, z2, z3, z4, z5, z6, z7⟩ := htw.2
        clear htw
        by_cases k1 : ok = 1
        · have t1 : (ok == 1) = true := by rw [k1]; rfl
          clear k1
          obtain ⟨r, hr⟩ := wrong_total pm pq pf pd ps pt pb
          by_cases h0 : r = 0
          · subst h0
            obtain ⟨c, rfl, rfl, rfl, rfl, rfl, rfl, rfl, m3, m8, cok⟩ := elim_r hr
            have hM := hide (fun wx (hx : P.Gl wx) (hBx : B ≤ wx.heap.size) => makes_ok P.toPn c wx m3 m8 cok hx hBx)
            have HOK := hide cok
            clear hr cok
            go_wp2_with fail
            have hb2 := two_below wr (.cells #[.int .i64 ok, .int .i64 oa, .int .i64 ob, .string os, .string ot, .int .i64 c.G.m, .int .i64 c.G.q, .int .i64 c.first, .int .i64 c.delta, .int .i64 c.short, .int .i64 c.cut, .bool c.bin, .slice av lv.length cv, .slice au lu.length cu, .slice ax lx.length cx] 28) (.cells #[.pointer Y.C, .int .i64 Y.m, .int .i64 Y.q, .int .i64 Y.f, .int .i64 Y.d, .int .i64 Y.s, .int .i64 Y.t, .bool Y.b] 31)
            have hI2 := (unhide hI).below hb2
            have hbx := op_new wr ok oa ob os ot c.G.m c.G.q c.first c.delta c.short c.cut c.bin (.slice av lv.length cv) (.slice au lu.length cu) (.slice ax lx.length cx) (.cells #[.pointer Y.C, .int .i64 Y.m, .int .i64 Y.q, .int .i64 Y.f, .int .i64 Y.d, .int .i64 Y.s, .int .i64 Y.t, .bool Y.b] 31)
            refine (unhide hM _ hI2.gl hI2.ge).mono ?_
            rintro e w1 ⟨F1, v1, rfl, hC, hF, hb1⟩
            obtain ⟨a1, rfl⟩ := P.ptr hC
            have hI3 := hI2.below hb1
            clear c0 c1 c2 c3 c4 c5 c6 c7 c8 c9 c10 c11 c12 c13 c14 z0 z1 z2 z3 z4 z5 z6 z7
            obtain ⟨f0, f1, f5, f6, f7, f8, f9, f10, f11, f12, f13, f14⟩ := (hbx.below hb1).at
            obtain ⟨z0, z1, z2, z3, z4, z5, z6, z7⟩ := hI3.tw.at.2
            have zf := hI3.tw.fr
            have hI4 := hide (hI3.newY hC m3 m8 (unhide HOK) hF hI2.lt (fun k hk => (hI2.sx.lt hk).2))
            clear hb2 hI2 hI3 hbx hM hF hb1 hC
            go_wp2
            go_roundw
            case rel => exact ⟨k + 1, X, ⟨some a1, c.G.m, c.G.q, c.first, c.delta, c.short, c.cut, c.bin⟩, F, F1, by omega, by go_num, hI4⟩
            case measure => simp [intOf]; omega
          · have hM := hide (fun wx (hx : P.Gl wx) (hBx : B ≤ wx.heap.size) => makes_no P.toPn _ _ _ _ _ _ _ r wx hr h0 hx hBx)
            clear hr h0
            go_wp2_with fail
            have hb2 := two_below wr (.cells #[.int .i64 ok, .int .i64 oa, .int .i64 ob, .string os, .string ot, .int .i64 pm, .int .i64 pq, .int .i64 pf, .int .i64 pd, .int .i64 ps, .int .i64 pt, .bool pb, .slice av lv.length cv, .slice au lu.length cu, .slice ax lx.length cx] 28) (.cells #[.pointer Y.C, .int .i64 Y.m, .int .i64 Y.q, .int .i64 Y.f, .int .i64 Y.d, .int .i64 Y.s, .int .i64 Y.t, .bool Y.b] 31)
            have hI2 := (unhide hI).below hb2
            refine (unhide hM _ hI2.gl hI2.ge).mono ?_
            rintro e w1 ⟨rfl, hb1⟩
            have hI3 := hide (hI2.below hb1)
            clear hb2 hI2 hb1 hM
            go_wp2
            go_roundw
            case rel => exact ⟨k + 1, X, Y, F, G, by omega, by go_num, hI3⟩
            case measure => simp [intOf]; omega
        · have t1 : (ok == 1) = false := beq_eq_false_iff_ne.2 k1
          clear k1
          rcases (unhide hI).sy with ⟨hn, -⟩ | ⟨a1, c, e, hC, m3, m8, cok⟩
          · rw [hn] at z0
            have hI2 := hide ((unhide hI).below (two_below wr (.cells #[.int .i64 ok, .int .i64 oa, .int .i64 ob, .string os, .string ot, .int .i64 pm, .int .i64 pq, .int .i64 pf, .int .i64 pd, .int .i64 ps, .int .i64 pt, .bool pb, .slice av lv.length cv, .slice au lu.length cu, .slice ax lx.length cx] 28) (.cells #[.pointer none, .int .i64 Y.m, .int .i64 Y.q, .int .i64 Y.f, .int .i64 Y.d, .int .i64 Y.s, .int .i64 Y.t, .bool Y.b] 31)))
            clear hn
            go_wp2
            go_roundw
            case rel => exact ⟨k + 1, X, Y, F, G, by omega, by go_num, hI2⟩
            case measure => simp [intOf]; omega
          · subst e
            have HC := hide hC
            have HOK := hide cok
            clear hC cok
            dsimp only at z0 z1 z2 z3 z4 z5 z6 z7
            have hb2 := hide (two_below wr (.cells #[.int .i64 ok, .int .i64 oa, .int .i64 ob, .string os, .string ot, .int .i64 pm, .int .i64 pq, .int .i64 pf, .int .i64 pd, .int .i64 ps, .int .i64 pt, .bool pb, .slice av lv.length cv, .slice au lu.length cu, .slice ax lx.length cx] 28) (.cells #[.pointer (some a1), .int .i64 c.G.m, .int .i64 c.G.q, .int .i64 c.first, .int .i64 c.delta, .int .i64 c.short, .int .i64 c.cut, .bool c.bin] 31))
            have hI2 := hide ((unhide hI).below (unhide hb2))
            have HC2 := hide (P.keepB (unhide HC) (unhide hb2))
            have hop := unhide HOP
            have HW := hide (show w.heap.size ≤ B from Nat.le_of_eq (unhide HB).symm)
            have HBE := hide (show Below w.heap.size w _ from (unhide HB) ▸ (unhide hI2).be)
            have hv := hide hop.rv
            have hu := hide hop.ru
            have hx := hide hop.rx
            have hcv := hide hop.cv
            have hbv := hide hop.bv
            have hbu := hide hop.bu
            clear hop
            by_cases k2 : ok = 2
            · have t2 : (ok == 2) = true := by rw [k2]; rfl
              clear k2
              go_wp2_with fail
              refine (encodes_any P.toPe c G (.pointer (some a1)) (.slice av lv.length cv) lv _ w m3 m8 (unhide HOK) (unhide HC2) (unhide hI2).gl (unhide hI2).ge (unhide hv) (unhide HW) ((unhide hv).below (unhide HBE)) (unhide hbv)).mono ?_
              rintro e w1 ⟨rfl, ho, hC3⟩
              have hI3 := hide ((unhide hI2).outY ho (Or.inr ⟨a1, c, rfl, hC3, m3, m8, unhide HOK⟩))
              clear ho hC3
              go_wp2
              go_roundw
              case rel => exact ⟨k + 1, X, ⟨some a1, c.G.m, c.G.q, c.first, c.delta, c.short, c.cut, c.bin⟩, F, G, by omega, by go_num, hI3⟩
              case measure => simp [intOf]; omega
            · have t2 : (ok == 2) = false := beq_eq_false_iff_ne.2 k2
              clear k2
              by_cases k3 : ok = 3
              · have t3 : (ok == 3) = true := by rw [k3]; rfl
                clear k3
                go_wp2_with fail
                refine (checks_any P.toPg c G (.pointer (some a1)) (.slice av lv.length cv) lv _ w m3 m8 (unhide HOK) (unhide HC2) (unhide hI2).gl (unhide hI2).ge (unhide hv) (unhide HW) ((unhide hv).below (unhide HBE)) (unhide hcv) (unhide hbv)).mono ?_
                rintro e w1 ⟨rfl, ho, hC3⟩
                have hI3 := hide ((unhide hI2).outY ho (Or.inr ⟨a1, c, rfl, hC3, m3, m8, unhide HOK⟩))
                clear ho hC3
                go_wp2
                go_roundw
                case rel => exact ⟨k + 1, X, ⟨some a1, c.G.m, c.G.q, c.first, c.delta, c.short, c.cut, c.bin⟩, F, G, by omega, by go_num, hI3⟩
                case measure => simp [intOf]; omega
              · have t3 : (ok == 3) = false := beq_eq_false_iff_ne.2 k3
                clear k3
                by_cases k4 : ok = 4
                · have t4 : (ok == 4) = true := by rw [k4]; rfl
                  clear k4
                  go_wp2_with fail
                  refine (decodes_any P c G (.pointer (some a1)) (.slice av lv.length cv) (.slice au lu.length cu) (.slice ax lx.length cx) lv lu lx _ w m3 m8 (unhide HOK) (unhide HC2) (unhide hI2).gl (unhide hI2).ge (unhide HW) (unhide hv) (unhide hu) (unhide hx) (unhide HBE) (unhide hbv) (unhide hbu)).mono ?_
                  rintro e w1 ⟨rfl, ho, hC3⟩
                  have hI3 := hide ((unhide hI2).outY ho (Or.inr ⟨a1, c, rfl, hC3, m3, m8, unhide HOK⟩))
                  clear ho hC3
                  go_wp2
                  go_roundw
                  case rel => exact ⟨k + 1, X, ⟨some a1, c.G.m, c.G.q, c.first, c.delta, c.short, c.cut, c.bin⟩, F, G, by omega, by go_num, hI3⟩
                  case measure => simp [intOf]; omega
                · have t4 : (ok == 4) = false := beq_eq_false_iff_ne.2 k4
                  clear k4
                  have hI3 := hI2
                  go_wp2
                  go_roundw
                  case rel => exact ⟨k + 1, X, ⟨some a1, c.G.m, c.G.q, c.first, c.delta, c.short, c.cut, c.bin⟩, F, G, by omega, by go_num, hI3⟩
                  case measure => simp [intOf]; omega
    · have hg : ¬ (k : Int) < (L.length : Int) := by omega
      have hN := hide (fun wx (hx : P.Gl wx) (hBx : B ≤ wx.heap.size) => new7 P wx hx hBx)
      go_wp2_with fail
      refine (unhide hN _ (unhide hI).gl (unhide hI).ge).mono ?_
      rintro e w1 ⟨a1, rfl, hb1⟩
      have hb2 := hide ((unhide hI).be.trans (hb1.mono (unhide hI).ge))
      clear hb1
      go_wp2
      go_ret
      exact ⟨rfl, (unhide HB) ▸ unhide hb2⟩
end Go.Proofs.YtnpkkcbadcmgkabGreatDoor
