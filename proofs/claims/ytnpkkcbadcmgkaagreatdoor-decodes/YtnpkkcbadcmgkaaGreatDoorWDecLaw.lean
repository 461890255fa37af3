import Derived.Test.YtnpkkcbadcmgkaaGreatDoorWDecodes
namespace Go.Proofs.YtnpkkcbadcmgkaaGreatDoor
open Go.RowKit Go.Deep
open Gf (Cd)
variable {B : Nat} (P : Pd B)

set_option maxHeartbeats 1000000 in
/-- P8. -/
theorem Decodes_any (m q f d s t : Int) (b : Bool) (xw xl xo : Value) (l z lo : List Int) (w : World) (hG : P.Gl w) (hB : B = w.heap.size) (r1 : Rd w xw l) (r2 : Rd w xl z) (r3 : Rd w xo lo) (hl : 8 * l.length ≤ 281474976710656) (hz : 8 * z.length ≤ 281474976710656) :
    Calls Tryz.prog 5 #[pv m q f d s t b, xw, xl, xo] w fun e w' => e = .returned (.bool true) ∧ Below w.heap.size w w' := by
  obtain ⟨r, hr⟩ := wrong_total m q f d s t b
  have hb := hide (box_below w m q f d s t b)
  have hX := hide (Box.new w m q f d s t b)
  have hGl := hide (P.gl hG ((box_below w m q f d s t b).mono (by omega)))
  have HB := hide hB
  by_cases h0 : r = 0
  · subst h0
    obtain ⟨c, rfl, rfl, rfl, rfl, rfl, rfl, rfl, m3, m8, ok⟩ := elim_r hr
    have hM := hide (fun wx (hx : P.Gl wx) (hBx : B ≤ wx.heap.size) => makes_ok P.toPn c wx m3 m8 ok hx hBx)
    have hE := hide (fun (F : Nat → Prop) v wx (h1 : P.Cod c F v wx) (h2 : P.Gl wx) (h3 : B ≤ wx.heap.size) (h4 : Below w.heap.size w wx) => decodes_any P c F v xw xl xo l z lo wx w m3 m8 ok h1 h2 h3 (by omega) r1 r2 r3 h4 hl hz)
    clear hr ok hG r1 r2 r3 hB
    go_enter Tryz.func5, Tryz.ntmps5
    go_wp2_with fail
    refine (unhide hM _ (unhide hGl) (by rw [unhide HB]; exact (unhide hb).size)).mono ?_
    rintro e w1 ⟨F, v, rfl, hC, hF, hb1⟩
    obtain ⟨a, rfl⟩ := P.ptr hC
    have hb2 := hide (Below.join (unhide hb) hb1)
    have HC := hide hC
    have hbx := (unhide hX).below hb1
    have x0 := hbx.c0
    have x1 := hbx.c1
    have x2 := hbx.c2
    have x3 := hbx.c3
    have x4 := hbx.c4
    have x5 := hbx.c5
    have x6 := hbx.c6
    have HG1 := hide (P.gl (unhide hGl) (hb1.mono (by rw [unhide HB]; exact (unhide hb).size)))
    have HF := hide (fun k hk => Nat.le_trans (unhide hb).size (hF k hk))
    clear hC hF hb1 hbx hX hGl hb
    go_wp2_with fail
    refine (unhide hE F _ w1 (unhide HC) (unhide HG1) (by rw [unhide HB]; exact (unhide hb2).size) (unhide hb2)).mono ?_
    rintro e w2 ⟨rfl, ho, -⟩
    have hb3 := hide ((unhide hb2).trans (ho.below (unhide HF) (unhide hb2).size))
    clear ho x0 x1 x2 x3 x4 x5 x6
    go_wp2
    go_ret
    exact ⟨rfl, unhide hb3⟩
  · have hM := hide (fun wx (hx : P.Gl wx) (hBx : B ≤ wx.heap.size) => makes_no P.toPn m q f d s t b r wx hr h0 hx hBx)
    clear hr h0 hG r1 r2 r3 hB
    go_enter Tryz.func5, Tryz.ntmps5
    go_wp2_with fail
    refine (unhide hM _ (unhide hGl) (by rw [unhide HB]; exact (unhide hb).size)).mono ?_
    rintro e w1 ⟨rfl, hb1⟩
    have hb2 := hide (Below.join (unhide hb) hb1)
    clear hb1
    go_wp2
    go_ret
    exact ⟨rfl, unhide hb2⟩

end Go.Proofs.YtnpkkcbadcmgkaaGreatDoor
