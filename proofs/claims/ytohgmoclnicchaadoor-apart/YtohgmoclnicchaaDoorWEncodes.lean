import Derived.Test.YtohgmoclnicchaaDoorWOthers
namespace Go.Proofs.YtohgmoclnicchaaDoor
open Go.RowKit Go.Deep
open Gf (Cd)
variable {B : Nat} (P : Pg B)

theorem Rd.new {D : Nat → Prop} {w0 w w' : World} {v : Value} {l : List Int} (h0 : Rd w0 v l) (h : Rd w v l) (hD : ∀ k, D k → w0.heap.size ≤ k) (ho : Out D w w') : Rd w' v l := by
  obtain ⟨a, cap, hv, hm, hc⟩ := h
  obtain ⟨a0, cap0, hv0, -, hc0⟩ := h0
  refine ⟨a, cap, hv, hm, fun i hi => ?_⟩
  obtain ⟨b, o, ha, hcell⟩ := hc i hi
  obtain ⟨b0, o0, ha0, hcell0⟩ := hc0 i hi
  rw [hv] at hv0
  cases hv0
  rw [ha] at ha0
  cases ha0
  refine ⟨b, o, ha, ho.cell hcell (fun hd => ?_)⟩
  have h1 := hD _ hd
  have h2 := lt_of_cell hcell0
  exact absurd h2 (Nat.not_lt.2 h1)
theorem Rd.nil_any {w w' : World} {v : Value} (h : Rd w v []) : Rd w' v [] := by
  obtain ⟨a, cap, hv, hm, -⟩ := h
  exact ⟨a, cap, hv, hm, fun i hi => by simp at hi⟩

/-- an answer's list: it is empty, or lies on block b. -/
def SpoL (w : World) (v : Value) (L : List Int) (b : Nat) : Prop := (L = [] ∧ Rd w v []) ∨ Wr w v L b
theorem SpoL.rd {w : World} {v : Value} {L : List Int} {b : Nat} (h : SpoL w v L b) : Rd w v L := by
  rcases h with ⟨rfl, h⟩ | h
  · exact h
  · exact h.rd
theorem SpoL.spo {w : World} {v : Value} {L : List Int} {b : Nat} (h : SpoL w v L b) : Spo w v b := by
  rcases h with ⟨rfl, h⟩ | h
  · exact Or.inl h
  · exact Or.inr ⟨_, h⟩
theorem SpoL.out {D : Nat → Prop} {w w' : World} {v : Value} {L : List Int} {b : Nat} (h : SpoL w v L b) (hD : ¬ D b) (ho : Out D w w') : SpoL w' v L b := by
  rcases h with ⟨rfl, h⟩ | h
  · exact Or.inl ⟨rfl, h.nil_any⟩
  · exact Or.inr (h.out hD ho)
theorem SpoL.below {w w' : World} {v : Value} {L : List Int} {b : Nat} (h : SpoL w v L b) (ho : Below w.heap.size w w') : SpoL w' v L b := h.out (D := fun _ => False) (fun h => h) (Out.of_below ho)

/-- the word that Encode answers; where it answers an error: no symbol. -/
def encL (c : Cd) (l : List Int) : List Int := if givenE c.G.m c.bin l (c.K - c.short) = 0 then (c.word (nat l)).map (fun x : Nat => (x : Int)) else []
def encE (c : Cd) (l : List Int) : Int := givenE c.G.m c.bin l (c.K - c.short)
def encAt (c : Cd) (l : List Int) : Int := givenAt c.G.m c.bin l (c.K - c.short)

theorem at_zero {m : Nat} {bin : Bool} {l : List Int} {k : Nat} (h : givenE m bin l k = 0) : givenAt m bin l k = 0 := by
  obtain ⟨h1, h2⟩ := given_ok.1 h
  unfold givenAt; rw [if_pos h1, if_pos h2]

theorem encP_L {c : Cd} {l : List Int} {w w' : World} {e : Ending} (h : EncP c l w w' e) :
    ∃ v b, e = .returned (.tuple #[v, .int .i64 (encE c l), .int .i64 (encAt c l)]) ∧ w.heap.size ≤ b ∧ SpoL w' v (encL c l) b := by
  rcases h with ⟨hg, v, rfl, hr⟩ | ⟨hg, v, b, hb, rfl, hr⟩
  · exact ⟨v, w.heap.size, rfl, Nat.le_refl _, Or.inl ⟨by unfold encL; rw [if_neg hg], hr⟩⟩
  · refine ⟨v, b, ?_, hb, Or.inr (by unfold encL; rw [if_pos hg]; exact hr)⟩
    unfold encE encAt; rw [hg, at_zero hg]
theorem encIs_L {c : Cd} {l : List Int} {s : Nat} {w' : World} {e : Ending} (h : EncIs c l s w' e) :
    ∃ v, e = .returned (.tuple #[v, .int .i64 (encE c l), .int .i64 (encAt c l)]) ∧ Rd w' v (encL c l) ∧ Off (fun k => k < s) v := by
  rcases h with ⟨hg, rfl⟩ | ⟨hg, b, cap, hb, rfl, hr⟩
  · exact ⟨_, rfl, by unfold encL; rw [if_neg hg]; exact rd_nil _, off_none _ _ _⟩
  · refine ⟨_, ?_, by unfold encL; rw [if_pos hg]; exact hr, fun _ _ _ _ _ e => by cases e; omega⟩
    unfold encE encAt; rw [hg, at_zero hg]

set_option maxHeartbeats 2000000 in
theorem encodes_any (c : Cd) (F : Nat → Prop) (v : Value) (x : Value) (l : List Int) (w W : World) (m3 : 3 ≤ c.G.m) (m8 : c.G.m ≤ 8) (ok : c.Ok) (hC : P.Cod c F v w) (hG : P.Gl w) (hB : B ≤ w.heap.size)
    (hx0 : Rd W x l) (hW : W.heap.size ≤ B) (hx : Rd w x l) (hl : 8 * l.length ≤ 281474976710656) :
    Calls Tryd.prog 23 #[v, pv c.G.m c.G.q c.first c.delta c.short c.cut c.bin, x] w fun e w' => e = .returned (.bool true) ∧ Out F w w' ∧ P.Cod c F v w' := by
  obtain ⟨a, rfl⟩ := P.ptr hC
  have hE := hide (fun wx (hc : P.Cod c F (.pointer (some a)) wx) (hx : P.Gl wx) x l (h1 : Rd wx x l) (h2 : CapOk x) (h3 : Off F x) => P.enc hc hx m3 m8 ok x l h1 h2 h3)
  have hO := hide (fun wx (hc : P.Cod c F (.pointer (some a)) wx) (hx : P.Gl wx) (hb : B ≤ wx.heap.size) => others_any P c F (.pointer (some a)) wx m3 m8 ok hc hx hb)
  have hR := hide (fun wx x l (h1 : Rd wx x l) => Encode_any c x l wx m3 m8 ok h1)
  have hFl := hide (fun k (hk : F k) => P.lt hC hk)
  have nF := hide (show ∀ b, w.heap.size ≤ b → ¬ F b from fun b h hf => absurd (P.lt hC hf).2 (by omega))
  have hGo := hide (fun wx (h : Out F w wx) => P.gl hG (h.below (fun k hk => (P.lt hC hk).1) hB))
  have hBo := hide (fun wx (h : Out F w wx) => Nat.le_trans hB h.size)
  have hXo := hide (show ∀ (D : Nat → Prop) wx wy, Rd wx x l → (∀ k, D k → B ≤ k) → Out D wx wy → Rd wy x l from fun D wx wy h hD ho => Rd.new (D := D) hx0 h (fun k hk => Nat.le_trans hW (hD k hk)) ho)
  have hXb := hide (Box.new w c.G.m c.G.q c.first c.delta c.short c.cut c.bin)
  have hb := box_below w c.G.m c.G.q c.first c.delta c.short c.cut c.bin
  have HO0 := hide (Out.of_below (D := F) hb)
  have HC0 := hide (P.keepB hC hb)
  have HX0 := hide (hx.below hb)
  have Hs0 := hide hb.size
  clear hC hG hx0 hW hx ok hb
  go_enter Tryd.func23, Tryd.ntmps23
  go_wp2_with fail
  refine (copied_any x l _ (unhide HX0) hl).mono ?_
  rintro e w1 ⟨b1, rfl, hb1, hR1, hbb⟩
  have hm1 : l.length ≤ maxLen := by unfold maxLen; omega
  have HV1 := hide (wr_of_row hR1 hm1)
  have HO1 := hide ((unhide HO0).trans (Out.of_below hbb))
  have HC1 := hide (P.keepB (unhide HC0) hbb)
  have HX1 := hide ((unhide HX0).below hbb)
  have HB1 := hide ((unhide hXb).below hbb)
  have Hb1 := hide (Nat.le_trans (unhide Hs0) hb1)
  clear hbb hR1 hb1 HO0 HC0 HX0 hXb hm1
  go_wp2_with fail
  refine (unhide hE _ (unhide HC1) (unhide hGo _ (unhide HO1)) _ _ (unhide HV1).rd (unhide HV1).cap ((unhide HV1).off (unhide nF _ (unhide Hb1)))).mono ?_
  rintro e w2 ⟨hp, ho2, hC2⟩
  obtain ⟨v2, b2, rfl, hb2, hS2⟩ := encP_L hp
  have hlt1 := (unhide HV1).lt
  have H12 := hide (show b1 ≠ b2 by omega)
  have Hb2 := hide (show w.heap.size ≤ b2 from Nat.le_trans (unhide HO1).size hb2)
  have HS2 := hide hS2
  have HV2 := hide ((unhide HV1).out (unhide nF _ (unhide Hb1)) ho2)
  have HO2 := hide ((unhide HO1).trans ho2)
  have HX2 := hide (unhide hXo _ _ _ (unhide HX1) (fun k hk => (unhide hFl k hk).1) ho2)
  have hbx : Box w2 w.heap.size c.G.m c.G.q c.first c.delta c.short c.cut c.bin := (ho2.block _ (unhide HB1).lt (unhide nF _ (Nat.le_refl _))).trans (unhide HB1)
  have x0 := hbx.c0
  have x1 := hbx.c1
  have x2 := hbx.c2
  have x3 := hbx.c3
  have x4 := hbx.c4
  have x5 := hbx.c5
  have x6 := hbx.c6
  have HB2 := hide hbx
  have HC2 := hide hC2
  clear hp ho2 hC2 hS2 hb2 hlt1 HV1 HO1 HC1 HX1 HB1 hbx
  go_wp2_with fail
  refine (unhide hO _ (unhide HC2) (unhide hGo _ (unhide HO2)) (unhide hBo _ (unhide HO2))).mono ?_
  rintro e w3 ⟨⟨r, rfl⟩, ho3, hC3⟩
  clear x0 x1 x2 x3 x4 x5 x6
  have hbx : Box w3 w.heap.size c.G.m c.G.q c.first c.delta c.short c.cut c.bin := (ho3.block _ (unhide HB2).lt (unhide nF _ (Nat.le_refl _))).trans (unhide HB2)
  have x0 := hbx.c0
  have x1 := hbx.c1
  have x2 := hbx.c2
  have x3 := hbx.c3
  have x4 := hbx.c4
  have x5 := hbx.c5
  have x6 := hbx.c6
  have HS3 := hide ((unhide HS2).out (unhide nF _ (unhide Hb2)) ho3)
  have HV3 := hide ((unhide HV2).out (unhide nF _ (unhide Hb1)) ho3)
  have HO3 := hide ((unhide HO2).trans ho3)
  have HX3 := hide (unhide hXo _ _ _ (unhide HX2) (fun k hk => (unhide hFl k hk).1) ho3)
  have HC3 := hide hC3
  clear ho3 hC3 hbx HS2 HV2 HO2 HX2 HC2 HB2
  go_wp2_with fail
  refine (unhide hR _ _ _ (unhide HX3)).mono ?_
  rintro e w4 ⟨hi, hb4⟩
  obtain ⟨v4, rfl, hr4, -⟩ := encIs_L hi
  have HR4 := hide hr4
  have HS4 := hide ((unhide HS3).below hb4)
  have HV4 := hide ((unhide HV3).below hb4)
  have HO4 := hide ((unhide HO3).trans (Out.of_below hb4))
  have HX4 := hide ((unhide HX3).below hb4)
  have HC4 := hide (P.keepB (unhide HC3) hb4)
  clear hi hr4 hb4 x0 x1 x2 x3 x4 x5 x6 HS3 HV3 HO3 HX3 HC3
  go_wp2_with fail
  refine (Same_any _ _ _ _ _ (unhide HS4).rd (unhide HR4)).mono ?_
  rintro e w5 ⟨rfl, hb5⟩
  rw [show (encL c l == encL c l) = true by simp]
  have HS5 := hide ((unhide HS4).below hb5)
  have HV5 := hide ((unhide HV4).below hb5)
  have HO5 := hide ((unhide HO4).trans (Out.of_below hb5))
  have HX5 := hide ((unhide HX4).below hb5)
  have HC5 := hide (P.keepB (unhide HC4) hb5)
  clear hb5 HS4 HV4 HO4 HX4 HC4 HR4
  go_wp2_with fail
  refine (Same_any _ _ _ _ _ (unhide HV5).rd (unhide HX5)).mono ?_
  rintro e w6 ⟨rfl, hb6⟩
  rw [show (l == l) = true by simp]
  have HS6 := hide ((unhide HS5).below hb6)
  have HV6 := hide ((unhide HV5).below hb6)
  have HO6 := hide ((unhide HO5).trans (Out.of_below hb6))
  have HX6 := hide ((unhide HX5).below hb6)
  have HC6 := hide (P.keepB (unhide HC5) hb6)
  clear hb6 HS5 HV5 HO5 HX5 HC5
  go_wp2_with fail
  refine (spoil_any v2 b2 _ (unhide HS6).spo).mono ?_
  rintro e w7 ⟨⟨r7, rfl⟩, ho7⟩
  have HV7 := hide ((unhide HV6).out (unhide H12) ho7)
  have HO7 := hide (show Out F w w7 from ⟨ho7.os.trans (unhide HO6).os, ho7.tape.trans (unhide HO6).tape, ho7.output.trans (unhide HO6).output, Nat.le_trans (unhide HO6).size ho7.size, fun k hk hD => (ho7.block k (Nat.lt_of_lt_of_le hk (unhide HO6).size) (by have := unhide Hb2; omega)).trans ((unhide HO6).block k hk hD)⟩)
  have HX7 := hide (unhide hXo _ _ _ (unhide HX6) (fun k hk => by have := unhide Hb2; omega) ho7)
  have HC7 := hide (P.keep (unhide HC6) ho7 (fun k hk e => unhide nF _ (unhide Hb2) (by rw [← show k = b2 from e]; exact hk)))
  clear ho7 HS6 HV6 HO6 HX6 HC6
  go_wp2_with fail
  refine (Same_any _ _ _ _ _ (unhide HV7).rd (unhide HX7)).mono ?_
  rintro e w8 ⟨rfl, hb8⟩
  rw [show (l == l) = true by simp]
  have HO8 := hide ((unhide HO7).trans (Out.of_below hb8))
  have HC8 := hide (P.keepB (unhide HC7) hb8)
  clear hb8 HV7 HO7 HX7 HC7
  generalize encE c l = ee at *
  generalize encAt c l = ea at *
  have t1 : (ee == ee) = true := by simp
  have t2 : (ea == ea) = true := by simp
  go_wp2_with (go_at_call 17; refine (num_any _ _).mono ?_; rintro e w' ⟨rfl, rfl⟩)
  go_ret
  exact ⟨rfl, unhide HO8, unhide HC8⟩
end Go.Proofs.YtohgmoclnicchaaDoor
