import Derived.Test.YtnpkkcbadcmgkaaDoorWOut
import Derived.Handy
namespace Go.Proofs.YtnpkkcbadcmgkaaDoor
open Go.RowKit Go.Deep
open Gf (Cd)

/-- what Encode of the program answers. -/
def EncP (c : Cd) (l : List Int) (w w' : World) (e : Ending) : Prop :=
  (givenE c.G.m c.bin l (c.K - c.short) ≠ 0 ∧ ∃ v, e = .returned (.tuple #[v, .int .i64 (givenE c.G.m c.bin l (c.K - c.short)), .int .i64 (givenAt c.G.m c.bin l (c.K - c.short))]) ∧ Rd w' v []) ∨
  (givenE c.G.m c.bin l (c.K - c.short) = 0 ∧ ∃ v b, w.heap.size ≤ b ∧ e = .returned (.tuple #[v, .int .i64 0, .int .i64 0]) ∧ Wr w' v ((c.word (nat l)).map fun x : Nat => (x : Int)) b)

/-- a program that keeps its promises, as the statements ask it: B: where a statement's own memory begins. -/
structure Pn (B : Nat) where
  Gl : World → Prop
  Cod : Cd → (Nat → Prop) → Value → World → Prop
  gl : ∀ {w w' : World}, Gl w → Below B w w' → Gl w'
  cod : ∀ {c : Cd} {F : Nat → Prop} {v : Value} {w w' : World}, Cod c F v w → (∀ k, F k → w'.heap[k]? = w.heap[k]?) → Cod c F v w'
  lt : ∀ {c : Cd} {F : Nat → Prop} {v : Value} {w : World} {k : Nat}, Cod c F v w → F k → B ≤ k ∧ k < w.heap.size
  ptr : ∀ {c : Cd} {F : Nat → Prop} {v : Value} {w : World}, Cod c F v w → ∃ a, v = .pointer (some a)
  no : ∀ (m q f d s t : Int) (b : Bool) (r : Int) (w : World), WrongIs m q f d s t b r → r ≠ 0 → Gl w → B ≤ w.heap.size →
    Calls Tryd.prog 34 #[pv m q f d s t b] w fun e w' => e = .returned (.tuple #[.pointer none, .int .i64 1, .int .i64 r]) ∧ Below w.heap.size w w'
  new : ∀ (c : Cd) (w : World), 3 ≤ c.G.m → c.G.m ≤ 8 → c.Ok → Gl w → B ≤ w.heap.size →
    Calls Tryd.prog 34 #[pv c.G.m c.G.q c.first c.delta c.short c.cut c.bin] w fun e w' => ∃ F v, e = .returned (.tuple #[v, .int .i64 0, .int .i64 0]) ∧ Cod c F v w' ∧ (∀ k, F k → w.heap.size ≤ k) ∧ Below w.heap.size w w'
  size : ∀ {c : Cd} {F : Nat → Prop} {v : Value} {w : World}, Cod c F v w → Gl w → 3 ≤ c.G.m → c.G.m ≤ 8 → c.Ok →
    Calls Tryd.prog 37 #[v] w fun e w' => e = .returned (.tuple #[.int .i64 ((c.n - c.short - c.cut : Nat) : Int), .int .i64 ((c.K - c.short : Nat) : Int)]) ∧ Out F w w' ∧ Cod c F v w'
/-- and the calls that are handed lists. -/
structure Pg (B : Nat) extends Pn B where
  enc : ∀ {c : Cd} {F : Nat → Prop} {v : Value} {w : World}, Cod c F v w → Gl w → 3 ≤ c.G.m → c.G.m ≤ 8 → c.Ok → ∀ (x : Value) (l : List Int), Rd w x l → CapOk x → Off F x →
    Calls Tryd.prog 23 #[v, x] w fun e w' => EncP c l w w' e ∧ Out F w w' ∧ Cod c F v w'
  chk : ∀ {c : Cd} {F : Nat → Prop} {v : Value} {w : World}, Cod c F v w → Gl w → 3 ≤ c.G.m → c.G.m ≤ 8 → c.Ok → ∀ (x : Value) (l : List Int), Rd w x l → CapOk x → Off F x →
    Calls Tryd.prog 27 #[v, x] w fun e w' => e = .returned (.tuple #[.bool (chkB c l), .int .i64 (chkE c l), .int .i64 (chkAt c l)]) ∧ Out F w w' ∧ Cod c F v w'

variable {B : Nat} (P : Pn B)

/-- a codec in a world where only blocks off it have turned. -/
theorem Pn.keep {c : Cd} {F D : Nat → Prop} {v : Value} {w w' : World} (h : P.Cod c F v w) (hb : Out D w w') (hd : ∀ k, F k → ¬ D k) : P.Cod c F v w' :=
  P.cod h (fun k hk => hb.block k (P.lt h hk).2 (hd k hk))
theorem Pn.keepB {c : Cd} {F : Nat → Prop} {v : Value} {w w' : World} (h : P.Cod c F v w) (hb : Below w.heap.size w w') : P.Cod c F v w' :=
  P.cod h (fun k hk => hb.block k (P.lt h hk).2)

theorem elim_r {m q f d s t : Int} {b : Bool} (h : WrongIs m q f d s t b 0) : ∃ c : Cd, m = c.G.m ∧ q = c.G.q ∧ f = c.first ∧ d = c.delta ∧ s = c.short ∧ t = c.cut ∧ b = c.bin ∧ 3 ≤ c.G.m ∧ c.G.m ≤ 8 ∧ c.Ok := by
  rcases h with ⟨h0, h⟩ | ⟨h0, _⟩ | ⟨G, rfl, rfl, h3, h8, h0, h⟩ | ⟨G, rfl, rfl, h3, h8, h0, hf0, hf1, h⟩ | ⟨c, h1, h2, h3, h4, h5, hpre, ⟨h0, _⟩ | ⟨h0, _⟩ | ⟨h0, _⟩ | ⟨_, hs, ht, ok⟩⟩
  all_goals try (exact absurd h0 (by decide))
  exact ⟨c, h1, h2, h3, h4, hs, ht, h5, hpre.m3, hpre.m8, ok⟩

theorem wrong_of_ok (c : Cd) (m3 : 3 ≤ c.G.m) (m8 : c.G.m ≤ 8) (ok : c.Ok) : WrongIs c.G.m c.G.q c.first c.delta c.short c.cut c.bin 0 :=
  Or.inr (Or.inr (Or.inr (Or.inr ⟨c, rfl, rfl, rfl, rfl, rfl, ⟨m3, m8, ok.f, ok.d2, ok.dn⟩, Or.inr (Or.inr (Or.inr ⟨rfl, rfl, rfl, ok⟩))⟩)))

set_option maxHeartbeats 1000000 in
theorem given_any (m q f d s t : Int) (b : Bool) (w : World) :
    Calls Tryd.prog 35 #[pv m q f d s t b] w fun e w' => e = .returned (pv m q f d s t b) ∧ Below w.heap.size w w' := by
  go_enter Tryd.func35, Tryd.ntmps35
  go_wp2
  go_returns
  exact ⟨rfl, ((Below.refl _ _).alloc (Nat.le_refl _) _).alloc (by simp) _⟩

set_option maxHeartbeats 2000000 in
theorem makes_no (m q f d s t : Int) (b : Bool) (r : Int) (w : World) (h : WrongIs m q f d s t b r) (hr : r ≠ 0) (hG : P.Gl w) (hB : B ≤ w.heap.size) :
    Calls Tryd.prog 18 #[pv m q f d s t b] w fun e w' => e = .returned (.tuple #[.pointer none, .bool true]) ∧ Below w.heap.size w w' := by
  have hN := hide (fun wx (hx : P.Gl wx) (hBx : B ≤ wx.heap.size) => P.no m q f d s t b r wx h hr hx hBx)
  have hW := hide (fun wx => Wrong_any m q f d s t b r wx h)
  have hX := hide (Box.new w m q f d s t b)
  have hb := hide (box_below w m q f d s t b)
  have hGl := hide (P.gl hG ((box_below w m q f d s t b).mono hB))
  have ht : (r != 0) = true := by rw [bne_iff_ne]; exact hr
  have hB' := hide hB
  clear h hr hG hB
  go_enter Tryd.func18, Tryd.ntmps18
  go_wp2_with fail
  refine (given_any m q f d s t b _).mono ?_
  rintro e w1 ⟨rfl, hb1⟩
  have hb2 := hide (Below.join (unhide hb) hb1)
  have hX1 := hide ((unhide hX).below hb1)
  have hG1 := hide (P.gl (unhide hGl) (hb1.mono (Nat.le_trans (unhide hB') (unhide hb).size)))
  clear hb1 hX hGl hb
  go_wp2_with fail
  refine (unhide hN _ (unhide hG1) (Nat.le_trans (unhide hB') (unhide hb2).size)).mono ?_
  rintro e w2 ⟨rfl, hb3⟩
  have hx := (unhide hX1).below hb3
  have x0 := hx.c0
  have x1 := hx.c1
  have x2 := hx.c2
  have x3 := hx.c3
  have x4 := hx.c4
  have x5 := hx.c5
  have x6 := hx.c6
  have hb4 := hide (Below.join (unhide hb2) hb3)
  clear hb3 hx hX1 hb2
  go_wp2_with fail
  refine (unhide hW _).mono ?_
  rintro e w3 ⟨rfl, hb5⟩
  have hb6 := hide (Below.join (unhide hb4) hb5)
  clear hb5 hb4 x0 x1 x2 x3 x4 x5 x6
  go_wp2_with (go_at_call 13; refine (num_any _ _).mono ?_; rintro e w' ⟨rfl, rfl⟩)
  go_ret2
  exact ⟨by simp, unhide hb6⟩

set_option maxHeartbeats 2000000 in
theorem makes_ok (c : Cd) (w : World) (m3 : 3 ≤ c.G.m) (m8 : c.G.m ≤ 8) (ok : c.Ok) (hG : P.Gl w) (hB : B ≤ w.heap.size) :
    Calls Tryd.prog 18 #[pv c.G.m c.G.q c.first c.delta c.short c.cut c.bin] w fun e w' => ∃ F v, e = .returned (.tuple #[v, .bool true]) ∧ P.Cod c F v w' ∧ (∀ k, F k → w.heap.size ≤ k) ∧ Below w.heap.size w w' := by
  have hr : WrongIs c.G.m c.G.q c.first c.delta c.short c.cut c.bin 0 := wrong_of_ok c m3 m8 ok
  have hN := hide (fun wx (hx : P.Gl wx) (hBx : B ≤ wx.heap.size) => P.new c wx m3 m8 ok hx hBx)
  have hS := hide (fun (F : Nat → Prop) v wx (hc : P.Cod c F v wx) (hx : P.Gl wx) => P.size hc hx m3 m8 ok)
  have hS2 := hide (fun wx => Size_any c wx m3 m8 ok)
  have hW := hide (fun wx => Wrong_any _ _ _ _ _ _ _ _ wx hr)
  have hX := hide (Box.new w c.G.m c.G.q c.first c.delta c.short c.cut c.bin)
  have hb := hide (box_below w c.G.m c.G.q c.first c.delta c.short c.cut c.bin)
  have hGl := hide (P.gl hG ((box_below w c.G.m c.G.q c.first c.delta c.short c.cut c.bin).mono hB))
  have hB' := hide hB
  clear hr hG hB ok
  go_enter Tryd.func18, Tryd.ntmps18
  go_wp2_with fail
  refine (given_any c.G.m c.G.q c.first c.delta c.short c.cut c.bin _).mono ?_
  rintro e w1 ⟨rfl, hb1⟩
  have hb2 := hide (Below.join (unhide hb) hb1)
  have hX1 := hide ((unhide hX).below hb1)
  have hG1 := hide (P.gl (unhide hGl) (hb1.mono (Nat.le_trans (unhide hB') (unhide hb).size)))
  clear hb1 hX hGl hb
  go_wp2_with fail
  refine (unhide hN _ (unhide hG1) (Nat.le_trans (unhide hB') (unhide hb2).size)).mono ?_
  rintro e w2 ⟨F, v, rfl, hcod, hF, hb3⟩
  obtain ⟨a, rfl⟩ := P.ptr hcod
  have hx := (unhide hX1).below hb3
  have x0 := hx.c0
  have x1 := hx.c1
  have x2 := hx.c2
  have x3 := hx.c3
  have x4 := hx.c4
  have x5 := hx.c5
  have x6 := hx.c6
  have hX2 := hide hx
  have hb4 := hide (Below.join (unhide hb2) hb3)
  have hG2 := hide (P.gl (unhide hG1) (hb3.mono (Nat.le_trans (unhide hB') (unhide hb2).size)))
  have hC2 := hide hcod
  have hF2 := hide (fun k hk => Nat.le_trans (unhide hb2).size (hF k hk))
  have hFX := hide (show ∀ k, F k → k ≠ w.heap.size from fun k hk e => by
    have h1 := hF k hk
    have h2 := (unhide hX1).lt
    omega)
  clear hb3 hx hX1 hb2 hcod hF hG1
  go_wp2_with fail
  refine (unhide hW _).mono ?_
  rintro e w3 ⟨rfl, hb5⟩
  have hb6 := hide (Below.join (unhide hb4) hb5)
  have hX3 := hide ((unhide hX2).below hb5)
  have hG3 := hide (P.gl (unhide hG2) (hb5.mono (Nat.le_trans (unhide hB') (unhide hb4).size)))
  have hC3 := hide (P.keepB (unhide hC2) hb5)
  clear hb5 hb4 x0 x1 x2 x3 x4 x5 x6 hX2 hG2 hC2
  go_wp2_with (first | (go_at_call 13; refine (num_any _ _).mono ?_; rintro e w' ⟨rfl, rfl⟩) | fail)
  refine (unhide hS _ _ _ (unhide hC3) (unhide hG3)).mono ?_
  rintro e w4 ⟨rfl, ho, hC⟩
  have hb7 := hide ((unhide hb6).trans (ho.below (unhide hF2) (unhide hb6).size))
  have hx : Box w4 w.heap.size c.G.m c.G.q c.first c.delta c.short c.cut c.bin := (ho.block _ (unhide hX3).lt (fun h => unhide hFX _ h rfl)).trans (unhide hX3)
  have x0 := hx.c0
  have x1 := hx.c1
  have x2 := hx.c2
  have x3 := hx.c3
  have x4 := hx.c4
  have x5 := hx.c5
  have x6 := hx.c6
  have hC4 := hide hC
  clear ho hC hx hX3 hb6 hC3 hG3
  go_wp2_with fail
  refine (unhide hS2 _).mono ?_
  rintro e w5 ⟨rfl, hb8⟩
  have hb9 := hide ((unhide hb7).trans (hb8.mono (unhide hb7).size))
  have hC5 := hide (P.keepB (unhide hC4) hb8)
  clear hb8 hb7 hC4
  go_wp2
  go_ret2
  exact ⟨F, _, by simp, unhide hC5, unhide hF2, unhide hb9⟩
end Go.Proofs.YtnpkkcbadcmgkaaDoor
