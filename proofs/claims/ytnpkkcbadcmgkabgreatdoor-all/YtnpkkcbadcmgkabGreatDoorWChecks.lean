import Derived.Test.YtnpkkcbadcmgkabGreatDoorWSpo
namespace Go.Proofs.YtnpkkcbadcmgkabGreatDoor
open Go.RowKit Go.Deep
open Gf (Cd)
set_option maxRecDepth 100000 in
set_option maxHeartbeats 2000000 in
theorem Check_any (c : Cd) (v : Value) (l : List Int) (w : World) (m3 : 3 ≤ c.G.m) (m8 : c.G.m ≤ 8) (ok : c.Ok) (h : Rd w v l) (hcp : CapOk v) :
    Calls Tryz.prog 21 #[pv c.G.m c.G.q c.first c.delta c.short c.cut c.bin, v] w fun e w' => e = .returned (.tuple #[.bool (chkB c l), .int .i64 (chkE c l), .int .i64 (chkAt c l)]) ∧ Below w.heap.size w w' := by
  have hpre : Pre c := ⟨m3, m8, ok.f, ok.d2, ok.dn⟩
  obtain ⟨hn1, hn2⟩ := hpre.nb
  have hS := hide (fun wx => Size_any c wx m3 m8 ok)
  have hG := hide (fun wx (hx : Rd wx v l) => Given_any c.G.m c.G.q c.first c.delta c.short c.cut c.bin v l (c.n - c.short - c.cut) wx m3 m8 hx)
  have hW := hide (fun v' l' wx (hx : RdN wx v' l') (hm : Gf.msg c l') => Word_any c v' l' wx m3 m8 ok hx hm)
  have hR := hide h
  have hB := hide (box_below w c.G.m c.G.q c.first c.delta c.short c.cut c.bin)
  have hX := hide (Box.new w c.G.m c.G.q c.first c.delta c.short c.cut c.bin)
  have OK := hide ok
  have hK := Gf.K_le ok
  have hs := ok.s
  obtain ⟨a, cap, rfl, hm, hc⟩ := h
  have hm' := maxLen_lt hm
  have hcap := hcp _ _ _ rfl
  have hnz : Hid (0 < l.length → ∃ b o, a = some ⟨b, o, none⟩) := fun h0 => by obtain ⟨b, o, e, _⟩ := hc 0 h0; exact ⟨b, o, e⟩
  clear hpre ok hc hm hcp
  go_enter Tryz.func21, Tryz.ntmps21
  go_wp2_with fail
  refine (unhide hS _).mono ?_
  rintro e w1 ⟨rfl, hb⟩
  have hx1 := (unhide hX).below hb
  have x0 := hx1.c0
  have x1 := hx1.c1
  have x2 := hx1.c2
  have x3 := hx1.c3
  have x4 := hx1.c4
  have x5 := hx1.c5
  have x6 := hx1.c6
  have hX1 := hide hx1
  have hB1 := hide (Below.join (unhide hB) hb)
  clear hb hx1 hX hB
  go_wp2_with fail
  refine (unhide hG _ ((unhide hR).below (unhide hB1))).mono ?_
  rintro e w2 ⟨rfl, hb⟩
  have hx1 := (unhide hX1).below hb
  clear x0 x1 x2 x3 x4 x5 x6
  have x0 := hx1.c0
  have x1 := hx1.c1
  have x2 := hx1.c2
  have x3 := hx1.c3
  have x4 := hx1.c4
  have x5 := hx1.c5
  have x6 := hx1.c6
  have hB2 := hide (Below.join (unhide hB1) hb)
  clear hb hx1 hX1 hB1
  have e1 := hide (show givenE c.G.m c.bin l (c.n - c.short - c.cut) = chkE c l from rfl)
  have e2 := hide (show givenAt c.G.m c.bin l (c.n - c.short - c.cut) = chkAt c l from rfl)
  rw [unhide e1, unhide e2]
  by_cases hg : chkE c l = 0
  · obtain ⟨hl, hgd⟩ := given_ok.1 (unhide e1 |>.trans hg)
    have hat := hide (show chkAt c l = 0 by unfold chkAt givenAt; rw [if_pos hl, if_pos hgd])
    have hbb := hide (show chkB c l = isWord c l by unfold chkB; rw [hg]; rfl)
    rw [hg, unhide hat]
    have hlen : c.K - c.short ≤ l.length := by omega
    have hltI : ¬ ((l.length : Int) < ((c.K - c.short : Nat) : Int)) := by omega
    have hrw := hide ((unhide hR).below (unhide hB2))
    have hmm := hide (nat_msg c (l := l.take (c.K - c.short)) (by rw [List.length_take]; omega) (good_take hgd _))
    have hgt := hide (nat_map (good_take hgd (c.K - c.short)))
    have HL := hide hl
    have hg0 := hide hg
    clear hg e1 e2 hl hgd
    obtain ⟨b, o, rfl⟩ := unhide hnz (by omega)
    have htk := hide (Rd.take (c.K - c.short) cap (unhide hrw) hlen)
    have hkk0 : c.K - c.short ≤ cap := by omega
    have hkk1 : 0 < c.K - c.short := by omega
    clear hnz
    generalize hkk : c.K - c.short = kk at *
    have Hkk := hide hkk
    clear hkk
    have hkI : (kk : Int) ≤ (cap : Int) := by omega
    go_wp2
    refine region_tail 4 (by kernel_rfl) (by kernel_rfl) ?_
    simp only [List.take_succ_cons, List.take_zero, List.drop_succ_cons, List.drop_zero]
    repeat still_step
    refine wpStill_nil ?_
    go_wp2_with fail
    have hrn : RdN w2.drew (.slice (some ⟨b, o, none⟩) kk cap) (nat (l.take kk)) := by
      unfold RdN
      rw [unhide hgt]
      exact (unhide htk).below (Below.refl _ _).drew
    refine (unhide hW _ _ _ hrn (unhide hmm)).mono ?_
    rintro e w3 ⟨b3, rfl, hbl, hn, hb⟩
    have hfin := hide (word_rd (cap := c.n - c.short) (unhide OK) (unhide hmm) (by omega) hn)
    have hB3 := hide (Below.join ((unhide hB2).drew) hb)
    have hR3 := hide (((unhide hrw).below (Below.refl _ _).drew).below hb)
    clear hb hn hbl hrn x0 x1 x2 x3 x4 x5 x6
    go_wp2_with fail
    refine (Same_any _ _ _ _ _ (unhide hfin) (unhide hR3)).mono ?_
    rintro e w4 ⟨rfl, hb⟩
    have hB4 := hide (Below.join (unhide hB3) hb)
    have hbi := hide (show isWord c l = ((c.word (nat (l.take kk))).map (fun x : Nat => (x : Int)) == l) by unfold isWord; rw [unhide Hkk])
    clear hb
    go_wp2
    go_ret3
    exact ⟨by rw [unhide hbb, unhide hbi, unhide hat, unhide hg0]; rfl, unhide hB4⟩
  · have hne : (chkE c l != 0) = true := by rw [bne_iff_ne]; exact hg
    have hbb := hide (show chkB c l = false by unfold chkB; rw [show (chkE c l == 0) = false by rw [beq_eq_false_iff_ne]; exact hg]; rfl)
    clear hg e1 e2
    obtain ⟨e, he⟩ : ∃ e, chkE c l = e := ⟨_, rfl⟩
    obtain ⟨x, hx⟩ : ∃ e, chkAt c l = e := ⟨_, rfl⟩
    rw [he, hx]
    rw [he] at hne
    have He := hide he
    have Hx := hide hx
    clear he hx
    go_wp2
    go_ret3
    exact ⟨by rw [unhide hbb, unhide He, unhide Hx]; rfl, unhide hB2⟩

variable {B : Nat} (P : Pg B)

set_option maxHeartbeats 2000000 in
theorem checks_any (c : Cd) (F : Nat → Prop) (v : Value) (x : Value) (l : List Int) (w W : World) (m3 : 3 ≤ c.G.m) (m8 : c.G.m ≤ 8) (ok : c.Ok) (hC : P.Cod c F v w) (hG : P.Gl w) (hB : B ≤ w.heap.size)
    (hx0 : Rd W x l) (hW : W.heap.size ≤ B) (hx : Rd w x l) (hcp : CapOk x) (hl : 8 * l.length ≤ 281474976710656) :
    Calls Tryz.prog 6 #[v, pv c.G.m c.G.q c.first c.delta c.short c.cut c.bin, x] w fun e w' => e = .returned (.bool true) ∧ Out F w w' ∧ P.Cod c F v w' := by
  obtain ⟨a, rfl⟩ := P.ptr hC
  have hE := hide (fun wx (hc : P.Cod c F (.pointer (some a)) wx) (hx : P.Gl wx) x l (h1 : Rd wx x l) (h2 : CapOk x) (h3 : Off F x) => P.chk hc hx m3 m8 ok x l h1 h2 h3)
  have hR := hide (fun wx (h1 : Rd wx x l) => Check_any c x l wx m3 m8 ok h1 hcp)
  have hFl := hide (fun k (hk : F k) => P.lt hC hk)
  have nF := hide (show ∀ b, w.heap.size ≤ b → ¬ F b from fun b h hf => absurd (P.lt hC hf).2 (by omega))
  have hGo := hide (fun wx (h : Out F w wx) => P.gl hG (h.below (fun k hk => (P.lt hC hk).1) hB))
  have hXo := hide (show ∀ (D : Nat → Prop) wx wy, Rd wx x l → (∀ k, D k → B ≤ k) → Out D wx wy → Rd wy x l from fun D wx wy h hD ho => Rd.new (D := D) hx0 h (fun k hk => Nat.le_trans hW (hD k hk)) ho)
  have hXb := hide (Box.new w c.G.m c.G.q c.first c.delta c.short c.cut c.bin)
  have hb := box_below w c.G.m c.G.q c.first c.delta c.short c.cut c.bin
  have HO0 := hide (Out.of_below (D := F) hb)
  have HC0 := hide (P.keepB hC hb)
  have HX0 := hide (hx.below hb)
  have Hs0 := hide hb.size
  clear hC hG hx0 hW hx ok hb hcp
  go_enter Tryz.func6, Tryz.ntmps6
  go_wp2_with fail
  refine (copied_any x l _ (unhide HX0) hl).mono ?_
  rintro e w1 ⟨b1, rfl, hb1, hR1, hbb⟩
  have hm1 : l.length ≤ maxLen := by unfold maxLen; omega
  have HV1 := hide (wr_of_row hR1 hm1)
  have HO1 := hide ((unhide HO0).trans (Out.of_below hbb))
  have HC1 := hide (P.keepB (unhide HC0) hbb)
  have HX1 := hide ((unhide HX0).below hbb)
  have HB1 := hide ((unhide hXb).below hbb)
  have Hb1 := hide (Nat.le_trans (unhide Hs0) hb1)
  clear hbb hR1 hb1 HO0 HC0 HX0 hXb hm1
  go_wp2_with fail
  refine (unhide hE _ (unhide HC1) (unhide hGo _ (unhide HO1)) _ _ (unhide HV1).rd (unhide HV1).cap ((unhide HV1).off (unhide nF _ (unhide Hb1)))).mono ?_
  rintro e w2 ⟨rfl, ho2, hC2⟩
  have HV2 := hide ((unhide HV1).out (unhide nF _ (unhide Hb1)) ho2)
  have HO2 := hide ((unhide HO1).trans ho2)
  have HX2 := hide (unhide hXo _ _ _ (unhide HX1) (fun k hk => (unhide hFl k hk).1) ho2)
  have hbx : Box w2 w.heap.size c.G.m c.G.q c.first c.delta c.short c.cut c.bin := (ho2.block _ (unhide HB1).lt (unhide nF _ (Nat.le_refl _))).trans (unhide HB1)
  have x0 := hbx.c0
  have x1 := hbx.c1
  have x2 := hbx.c2
  have x3 := hbx.c3
  have x4 := hbx.c4
  have x5 := hbx.c5
  have x6 := hbx.c6
  have HC2 := hide hC2
  clear ho2 hC2 HV1 HO1 HC1 HX1 HB1 hbx
  go_wp2_with fail
  refine (unhide hR _ (unhide HX2)).mono ?_
  rintro e w3 ⟨rfl, hb4⟩
  have HV4 := hide ((unhide HV2).below hb4)
  have HO4 := hide ((unhide HO2).trans (Out.of_below hb4))
  have HX4 := hide ((unhide HX2).below hb4)
  have HC4 := hide (P.keepB (unhide HC2) hb4)
  clear hb4 x0 x1 x2 x3 x4 x5 x6 HV2 HO2 HX2 HC2
  go_wp2_with fail
  refine (Same_any _ _ _ _ _ (unhide HV4).rd (unhide HX4)).mono ?_
  rintro e w5 ⟨rfl, hb5⟩
  rw [show (l == l) = true by simp]
  have HO5 := hide ((unhide HO4).trans (Out.of_below hb5))
  have HC5 := hide (P.keepB (unhide HC4) hb5)
  clear hb5 HV4 HO4 HX4 HC4
  generalize chkE c l = ee at *
  generalize chkAt c l = ea at *
  generalize chkB c l = eb at *
  have t0 : (eb == eb) = true := by simp
  have t1 : (ee == ee) = true := by simp
  have t2 : (ea == ea) = true := by simp
  go_wp2_with (go_at_call 11; refine (num_any _ _).mono ?_; rintro e w' ⟨rfl, rfl⟩)
  go_ret
  exact ⟨rfl, unhide HO5, unhide HC5⟩
end Go.Proofs.YtnpkkcbadcmgkabGreatDoor
