import Derived.Test.YtnpkkcbadcmgkaaGreatDoorWPg
namespace Go.Proofs.YtnpkkcbadcmgkaaGreatDoor
open Go.RowKit Go.Deep
open Gf (Cd)
set_option maxHeartbeats 1000000 in
theorem fits_any (m : Nat) (q f d s t : Int) (bin : Bool) (v : Value) (l : List Int) (k : Nat) (w : World) (m3 : 3 ≤ m) (m8 : m ≤ 8) (h : Rd w v l) :
    Calls Tryz.prog 11 #[pv m q f d s t bin, v, .int .i64 k] w fun e w' => e = .returned (.bool (givenE m bin l k == 0)) ∧ Below w.heap.size w w' := by
  have hb := box_below w m q f d s t bin
  have hS := hide (Given_any m q f d s t bin v l k _ m3 m8 (h.below hb))
  have HB := hide hb
  clear h hb
  go_enter Tryz.func11, Tryz.ntmps11
  go_wp2_with fail
  refine (unhide hS).mono ?_
  rintro e w1 ⟨rfl, hb1⟩
  have HB1 := hide (Below.join (unhide HB) hb1)
  clear hb1 HB hS
  go_wp2
  go_ret
  exact ⟨rfl, unhide HB1⟩


variable {B : Nat} (P : Pn B)

set_option maxHeartbeats 2000000 in
theorem made_no (m q f d s t : Int) (b : Bool) (r : Int) (w : World) (h : WrongIs m q f d s t b r) (hr : r ≠ 0) (hG : P.Gl w) (hB : B ≤ w.heap.size) :
    Calls Tryz.prog 9 #[pv m q f d s t b] w fun e w' => e = .returned (.tuple #[.pointer none, .bool true]) ∧ Below w.heap.size w w' := by
  have hN := hide (fun wx (hx : P.Gl wx) (hBx : B ≤ wx.heap.size) => P.no m q f d s t b r wx h hr hx hBx)
  have hW := hide (fun wx => Wrong_any m q f d s t b r wx h)
  have hX := hide (Box.new w m q f d s t b)
  have hb := hide (box_below w m q f d s t b)
  have hGl := hide (P.gl hG ((box_below w m q f d s t b).mono hB))
  have ht : (r != 0) = true := by rw [bne_iff_ne]; exact hr
  have hB' := hide hB
  clear h hr hG hB
  go_enter Tryz.func9, Tryz.ntmps9
  go_wp2_with fail
  refine (given_any m q f d s t b _).mono ?_
  rintro e w1 ⟨rfl, hb1⟩
  have hb2 := hide (Below.join (unhide hb) hb1)
  have hX1 := hide ((unhide hX).below hb1)
  have hG1 := hide (P.gl (unhide hGl) (hb1.mono (Nat.le_trans (unhide hB') (unhide hb).size)))
  clear hb1 hX hGl hb
  go_wp2_with fail
  refine (unhide hN _ (unhide hG1) (Nat.le_trans (unhide hB') (unhide hb2).size)).mono ?_
  rintro e w2 ⟨rfl, hb3⟩
  have hx := (unhide hX1).below hb3
  have x0 := hx.c0
  have x1 := hx.c1
  have x2 := hx.c2
  have x3 := hx.c3
  have x4 := hx.c4
  have x5 := hx.c5
  have x6 := hx.c6
  have hb4 := hide (Below.join (unhide hb2) hb3)
  clear hb3 hx hX1 hb2
  go_wp2_with fail
  refine (unhide hW _).mono ?_
  rintro e w3 ⟨rfl, hb5⟩
  have hb6 := hide (Below.join (unhide hb4) hb5)
  clear hb5 hb4 x0 x1 x2 x3 x4 x5 x6
  go_wp2_with (go_at_call 14; refine (num_any _ _).mono ?_; rintro e w' ⟨rfl, rfl⟩)
  go_ret2
  exact ⟨by simp, unhide hb6⟩

set_option maxHeartbeats 2000000 in
theorem made_ok (c : Cd) (w : World) (m3 : 3 ≤ c.G.m) (m8 : c.G.m ≤ 8) (ok : c.Ok) (hG : P.Gl w) (hB : B ≤ w.heap.size) :
    Calls Tryz.prog 9 #[pv c.G.m c.G.q c.first c.delta c.short c.cut c.bin] w fun e w' => ∃ F v, e = .returned (.tuple #[v, .bool true]) ∧ P.Cod c F v w' ∧ (∀ k, F k → w.heap.size ≤ k) ∧ Below w.heap.size w w' := by
  have hr : WrongIs c.G.m c.G.q c.first c.delta c.short c.cut c.bin 0 := wrong_of_ok c m3 m8 ok
  have hN := hide (fun wx (hx : P.Gl wx) (hBx : B ≤ wx.heap.size) => P.new c wx m3 m8 ok hx hBx)
  have hW := hide (fun wx => Wrong_any _ _ _ _ _ _ _ _ wx hr)
  have hX := hide (Box.new w c.G.m c.G.q c.first c.delta c.short c.cut c.bin)
  have hb := hide (box_below w c.G.m c.G.q c.first c.delta c.short c.cut c.bin)
  have hGl := hide (P.gl hG ((box_below w c.G.m c.G.q c.first c.delta c.short c.cut c.bin).mono hB))
  have hB' := hide hB
  clear hr hG hB ok
  go_enter Tryz.func9, Tryz.ntmps9
  go_wp2_with fail
  refine (given_any c.G.m c.G.q c.first c.delta c.short c.cut c.bin _).mono ?_
  rintro e w1 ⟨rfl, hb1⟩
  have hb2 := hide (Below.join (unhide hb) hb1)
  have hX1 := hide ((unhide hX).below hb1)
  have hG1 := hide (P.gl (unhide hGl) (hb1.mono (Nat.le_trans (unhide hB') (unhide hb).size)))
  clear hb1 hX hGl hb
  go_wp2_with fail
  refine (unhide hN _ (unhide hG1) (Nat.le_trans (unhide hB') (unhide hb2).size)).mono ?_
  rintro e w2 ⟨F, v, rfl, hcod, hF, hb3⟩
  obtain ⟨a, rfl⟩ := P.ptr hcod
  have hx := (unhide hX1).below hb3
  have x0 := hx.c0
  have x1 := hx.c1
  have x2 := hx.c2
  have x3 := hx.c3
  have x4 := hx.c4
  have x5 := hx.c5
  have x6 := hx.c6
  have hb4 := hide (Below.join (unhide hb2) hb3)
  have hC2 := hide hcod
  have hF2 := hide (fun k hk => Nat.le_trans (unhide hb2).size (hF k hk))
  clear hb3 hx hX1 hb2 hcod hF hG1
  go_wp2_with fail
  refine (unhide hW _).mono ?_
  rintro e w3 ⟨rfl, hb5⟩
  have hb6 := hide (Below.join (unhide hb4) hb5)
  have hC3 := hide (P.keepB (unhide hC2) hb5)
  clear hb5 hb4 x0 x1 x2 x3 x4 x5 x6 hC2
  go_wp2_with (go_at_call 14; refine (num_any _ _).mono ?_; rintro e w' ⟨rfl, rfl⟩)
  go_ret2
  exact ⟨F, _, by simp, unhide hC3, unhide hF2, unhide hb6⟩

end Go.Proofs.YtnpkkcbadcmgkaaGreatDoor
