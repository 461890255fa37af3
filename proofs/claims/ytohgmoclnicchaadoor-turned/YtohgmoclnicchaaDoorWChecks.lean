import Derived.Test.YtohgmoclnicchaaDoorWEncodes
namespace Go.Proofs.YtohgmoclnicchaaDoor
open Go.RowKit Go.Deep
open Gf (Cd)
variable {B : Nat} (P : Pg B)

set_option maxHeartbeats 2000000 in
theorem checks_any (c : Cd) (F : Nat → Prop) (v : Value) (x : Value) (l : List Int) (w W : World) (m3 : 3 ≤ c.G.m) (m8 : c.G.m ≤ 8) (ok : c.Ok) (hC : P.Cod c F v w) (hG : P.Gl w) (hB : B ≤ w.heap.size)
    (hx0 : Rd W x l) (hW : W.heap.size ≤ B) (hx : Rd w x l) (hcp : CapOk x) (hl : 8 * l.length ≤ 281474976710656) :
    Calls Tryd.prog 24 #[v, pv c.G.m c.G.q c.first c.delta c.short c.cut c.bin, x] w fun e w' => e = .returned (.bool true) ∧ Out F w w' ∧ P.Cod c F v w' := by
  obtain ⟨a, rfl⟩ := P.ptr hC
  have hE := hide (fun wx (hc : P.Cod c F (.pointer (some a)) wx) (hx : P.Gl wx) x l (h1 : Rd wx x l) (h2 : CapOk x) (h3 : Off F x) => P.chk hc hx m3 m8 ok x l h1 h2 h3)
  have hR := hide (fun wx (h1 : Rd wx x l) => Check_any c x l wx m3 m8 ok h1 hcp)
  have hFl := hide (fun k (hk : F k) => P.lt hC hk)
  have nF := hide (show ∀ b, w.heap.size ≤ b → ¬ F b from fun b h hf => absurd (P.lt hC hf).2 (by omega))
  have hGo := hide (fun wx (h : Out F w wx) => P.gl hG (h.below (fun k hk => (P.lt hC hk).1) hB))
  have hXo := hide (show ∀ (D : Nat → Prop) wx wy, Rd wx x l → (∀ k, D k → B ≤ k) → Out D wx wy → Rd wy x l from fun D wx wy h hD ho => Rd.new (D := D) hx0 h (fun k hk => Nat.le_trans hW (hD k hk)) ho)
  have hXb := hide (Box.new w c.G.m c.G.q c.first c.delta c.short c.cut c.bin)
  have hb := box_below w c.G.m c.G.q c.first c.delta c.short c.cut c.bin
  have HO0 := hide (Out.of_below (D := F) hb)
  have HC0 := hide (P.keepB hC hb)
  have HX0 := hide (hx.below hb)
  have Hs0 := hide hb.size
  clear hC hG hx0 hW hx ok hb hcp
  go_enter Tryd.func24, Tryd.ntmps24
  go_wp2_with fail
  refine (copied_any x l _ (unhide HX0) hl).mono ?_
  rintro e w1 ⟨b1, rfl, hb1, hR1, hbb⟩
  have hm1 : l.length ≤ maxLen := by unfold maxLen; omega
  have HV1 := hide (wr_of_row hR1 hm1)
  have HO1 := hide ((unhide HO0).trans (Out.of_below hbb))
  have HC1 := hide (P.keepB (unhide HC0) hbb)
  have HX1 := hide ((unhide HX0).below hbb)
  have HB1 := hide ((unhide hXb).below hbb)
  have Hb1 := hide (Nat.le_trans (unhide Hs0) hb1)
  clear hbb hR1 hb1 HO0 HC0 HX0 hXb hm1
  go_wp2_with fail
  refine (unhide hE _ (unhide HC1) (unhide hGo _ (unhide HO1)) _ _ (unhide HV1).rd (unhide HV1).cap ((unhide HV1).off (unhide nF _ (unhide Hb1)))).mono ?_
  rintro e w2 ⟨rfl, ho2, hC2⟩
  have HV2 := hide ((unhide HV1).out (unhide nF _ (unhide Hb1)) ho2)
  have HO2 := hide ((unhide HO1).trans ho2)
  have HX2 := hide (unhide hXo _ _ _ (unhide HX1) (fun k hk => (unhide hFl k hk).1) ho2)
  have hbx : Box w2 w.heap.size c.G.m c.G.q c.first c.delta c.short c.cut c.bin := (ho2.block _ (unhide HB1).lt (unhide nF _ (Nat.le_refl _))).trans (unhide HB1)
  have x0 := hbx.c0
  have x1 := hbx.c1
  have x2 := hbx.c2
  have x3 := hbx.c3
  have x4 := hbx.c4
  have x5 := hbx.c5
  have x6 := hbx.c6
  have HC2 := hide hC2
  clear ho2 hC2 HV1 HO1 HC1 HX1 HB1 hbx
  go_wp2_with fail
  refine (unhide hR _ (unhide HX2)).mono ?_
  rintro e w3 ⟨rfl, hb4⟩
  have HV4 := hide ((unhide HV2).below hb4)
  have HO4 := hide ((unhide HO2).trans (Out.of_below hb4))
  have HX4 := hide ((unhide HX2).below hb4)
  have HC4 := hide (P.keepB (unhide HC2) hb4)
  clear hb4 x0 x1 x2 x3 x4 x5 x6 HV2 HO2 HX2 HC2
  go_wp2_with fail
  refine (Same_any _ _ _ _ _ (unhide HV4).rd (unhide HX4)).mono ?_
  rintro e w5 ⟨rfl, hb5⟩
  rw [show (l == l) = true by simp]
  have HO5 := hide ((unhide HO4).trans (Out.of_below hb5))
  have HC5 := hide (P.keepB (unhide HC4) hb5)
  clear hb5 HV4 HO4 HX4 HC4
  generalize chkE c l = ee at *
  generalize chkAt c l = ea at *
  generalize chkB c l = eb at *
  have t0 : (eb == eb) = true := by simp
  have t1 : (ee == ee) = true := by simp
  have t2 : (ea == ea) = true := by simp
  go_wp2_with (go_at_call 17; refine (num_any _ _).mono ?_; rintro e w' ⟨rfl, rfl⟩)
  go_ret
  exact ⟨rfl, unhide HO5, unhide HC5⟩

set_option maxHeartbeats 1000000 in
/-- P6. -/
theorem Encodes_any (m q f d s t : Int) (b : Bool) (x : Value) (l : List Int) (w : World) (hG : P.Gl w) (hB : B = w.heap.size) (hx : Rd w x l) (hl : 8 * l.length ≤ 281474976710656) :
    Calls Tryd.prog 7 #[pv m q f d s t b, x] w fun e w' => e = .returned (.bool true) ∧ Below w.heap.size w w' := by
  obtain ⟨r, hr⟩ := wrong_total m q f d s t b
  have hb := hide (box_below w m q f d s t b)
  have hX := hide (Box.new w m q f d s t b)
  have hGl := hide (P.gl hG ((box_below w m q f d s t b).mono (by omega)))
  have HX := hide hx
  have HB := hide hB
  by_cases h0 : r = 0
  · subst h0
    obtain ⟨c, rfl, rfl, rfl, rfl, rfl, rfl, rfl, m3, m8, ok⟩ := elim_r hr
    have hM := hide (fun wx (hx : P.Gl wx) (hBx : B ≤ wx.heap.size) => makes_ok P.toPn c wx m3 m8 ok hx hBx)
    have hE := hide (fun (F : Nat → Prop) v wx (h1 : P.Cod c F v wx) (h2 : P.Gl wx) (h3 : B ≤ wx.heap.size) (h4 : Rd wx x l) => encodes_any P c F v x l wx w m3 m8 ok h1 h2 h3 hx (by omega) h4 hl)
    clear hr ok hG hx hB
    go_enter Tryd.func7, Tryd.ntmps7
    go_wp2_with fail
    refine (unhide hM _ (unhide hGl) (by rw [unhide HB]; exact (unhide hb).size)).mono ?_
    rintro e w1 ⟨F, v, rfl, hC, hF, hb1⟩
    obtain ⟨a, rfl⟩ := P.ptr hC
    have hb2 := hide (Below.join (unhide hb) hb1)
    have HC := hide hC
    have hbx := (unhide hX).below hb1
    have x0 := hbx.c0
    have x1 := hbx.c1
    have x2 := hbx.c2
    have x3 := hbx.c3
    have x4 := hbx.c4
    have x5 := hbx.c5
    have x6 := hbx.c6
    have HG1 := hide (P.gl (unhide hGl) (hb1.mono (by rw [unhide HB]; exact (unhide hb).size)))
    have HF := hide (fun k hk => Nat.le_trans (unhide hb).size (hF k hk))
    clear hC hF hb1 hbx hX hGl hb
    go_wp2_with fail
    refine (unhide hE F _ w1 (unhide HC) (unhide HG1) (by rw [unhide HB]; exact (unhide hb2).size) ((unhide HX).below (unhide hb2))).mono ?_
    rintro e w2 ⟨rfl, ho, -⟩
    have hb3 := hide ((unhide hb2).trans (ho.below (unhide HF) (unhide hb2).size))
    clear ho x0 x1 x2 x3 x4 x5 x6
    go_wp2
    go_ret
    exact ⟨rfl, unhide hb3⟩
  · have hM := hide (fun wx (hx : P.Gl wx) (hBx : B ≤ wx.heap.size) => makes_no P.toPn m q f d s t b r wx hr h0 hx hBx)
    clear hr h0 hG hx hB
    go_enter Tryd.func7, Tryd.ntmps7
    go_wp2_with fail
    refine (unhide hM _ (unhide hGl) (by rw [unhide HB]; exact (unhide hb).size)).mono ?_
    rintro e w1 ⟨rfl, hb1⟩
    have hb2 := hide (Below.join (unhide hb) hb1)
    clear hb1
    go_wp2
    go_ret
    exact ⟨rfl, unhide hb2⟩

set_option maxHeartbeats 1000000 in
/-- P7. -/
theorem Checked_any (m q f d s t : Int) (b : Bool) (x : Value) (l : List Int) (w : World) (hG : P.Gl w) (hB : B = w.heap.size) (hx : Rd w x l) (hcp : CapOk x) (hl : 8 * l.length ≤ 281474976710656) :
    Calls Tryd.prog 8 #[pv m q f d s t b, x] w fun e w' => e = .returned (.bool true) ∧ Below w.heap.size w w' := by
  obtain ⟨r, hr⟩ := wrong_total m q f d s t b
  have hb := hide (box_below w m q f d s t b)
  have hX := hide (Box.new w m q f d s t b)
  have hGl := hide (P.gl hG ((box_below w m q f d s t b).mono (by omega)))
  have HX := hide hx
  have HB := hide hB
  by_cases h0 : r = 0
  · subst h0
    obtain ⟨c, rfl, rfl, rfl, rfl, rfl, rfl, rfl, m3, m8, ok⟩ := elim_r hr
    have hM := hide (fun wx (hx : P.Gl wx) (hBx : B ≤ wx.heap.size) => makes_ok P.toPn c wx m3 m8 ok hx hBx)
    have hE := hide (fun (F : Nat → Prop) v wx (h1 : P.Cod c F v wx) (h2 : P.Gl wx) (h3 : B ≤ wx.heap.size) (h4 : Rd wx x l) => checks_any P c F v x l wx w m3 m8 ok h1 h2 h3 hx (by omega) h4 hcp hl)
    clear hr ok hG hx hB hcp
    go_enter Tryd.func8, Tryd.ntmps8
    go_wp2_with fail
    refine (unhide hM _ (unhide hGl) (by rw [unhide HB]; exact (unhide hb).size)).mono ?_
    rintro e w1 ⟨F, v, rfl, hC, hF, hb1⟩
    obtain ⟨a, rfl⟩ := P.ptr hC
    have hb2 := hide (Below.join (unhide hb) hb1)
    have HC := hide hC
    have hbx := (unhide hX).below hb1
    have x0 := hbx.c0
    have x1 := hbx.c1
    have x2 := hbx.c2
    have x3 := hbx.c3
    have x4 := hbx.c4
    have x5 := hbx.c5
    have x6 := hbx.c6
    have HG1 := hide (P.gl (unhide hGl) (hb1.mono (by rw [unhide HB]; exact (unhide hb).size)))
    have HF := hide (fun k hk => Nat.le_trans (unhide hb).size (hF k hk))
    clear hC hF hb1 hbx hX hGl hb
    go_wp2_with fail
    refine (unhide hE F _ w1 (unhide HC) (unhide HG1) (by rw [unhide HB]; exact (unhide hb2).size) ((unhide HX).below (unhide hb2))).mono ?_
    rintro e w2 ⟨rfl, ho, -⟩
    have hb3 := hide ((unhide hb2).trans (ho.below (unhide HF) (unhide hb2).size))
    clear ho x0 x1 x2 x3 x4 x5 x6
    go_wp2
    go_ret
    exact ⟨rfl, unhide hb3⟩
  · have hM := hide (fun wx (hx : P.Gl wx) (hBx : B ≤ wx.heap.size) => makes_no P.toPn m q f d s t b r wx hr h0 hx hBx)
    clear hr h0 hG hx hB hcp
    go_enter Tryd.func8, Tryd.ntmps8
    go_wp2_with fail
    refine (unhide hM _ (unhide hGl) (by rw [unhide HB]; exact (unhide hb).size)).mono ?_
    rintro e w1 ⟨rfl, hb1⟩
    have hb2 := hide (Below.join (unhide hb) hb1)
    clear hb1
    go_wp2
    go_ret
    exact ⟨rfl, unhide hb2⟩
end Go.Proofs.YtohgmoclnicchaaDoor
