import Derived.Test.YtnpkkcbadcmgkaaDoorWMade
namespace Go.Proofs.YtnpkkcbadcmgkaaDoor
open Go.RowKit Go.Deep
open Gf (Cd)
variable {B : Nat} (P : Pn B)

set_option maxHeartbeats 1000000 in
/-- P4, P5. -/
theorem News_any (m q f d s t : Int) (b : Bool) (w : World) (hG : P.Gl w) (hB : B ≤ w.heap.size) :
    Calls Tryd.prog 6 #[pv m q f d s t b] w fun e w' => e = .returned (.bool true) ∧ Below w.heap.size w w' := by
  obtain ⟨r, hr⟩ := wrong_total m q f d s t b
  have hb := hide (box_below w m q f d s t b)
  have hGl := hide (P.gl hG ((box_below w m q f d s t b).mono hB))
  by_cases h0 : r = 0
  · subst h0
    obtain ⟨c, rfl, rfl, rfl, rfl, rfl, rfl, rfl, m3, m8, ok⟩ := elim_r hr
    have hM := hide (fun wx (hx : P.Gl wx) (hBx : B ≤ wx.heap.size) => makes_ok P c wx m3 m8 ok hx hBx)
    clear hr ok hG
    go_enter Tryd.func6, Tryd.ntmps6
    go_wp2_with fail
    refine (unhide hM _ (unhide hGl) (Nat.le_trans hB (unhide hb).size)).mono ?_
    rintro e w1 ⟨F, v, rfl, hC, hF, hb1⟩
    have hb2 := hide (Below.join (unhide hb) hb1)
    clear hC hF hb1
    go_wp2
    go_ret
    exact ⟨rfl, unhide hb2⟩
  · have hM := hide (fun wx (hx : P.Gl wx) (hBx : B ≤ wx.heap.size) => makes_no P m q f d s t b r wx hr h0 hx hBx)
    clear hr h0 hG
    go_enter Tryd.func6, Tryd.ntmps6
    go_wp2_with fail
    refine (unhide hM _ (unhide hGl) (Nat.le_trans hB (unhide hb).size)).mono ?_
    rintro e w1 ⟨rfl, hb1⟩
    have hb2 := hide (Below.join (unhide hb) hb1)
    clear hb1
    go_wp2
    go_ret
    exact ⟨rfl, unhide hb2⟩
end Go.Proofs.YtnpkkcbadcmgkaaDoor
