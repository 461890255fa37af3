import Derived.Test.YtnpkkcbadcmgkaaGreatDoorWDecodes
import Derived.Test.YtnpkkcbadcmgkaaGreatDoorWMade
namespace Go.Proofs.YtnpkkcbadcmgkaaGreatDoor
open Go.RowKit Go.Deep
open Gf (Cd)
variable {B : Nat}

theorem De.start {P : Pg B} {c : Cd} {F : Nat → Prop} {v : Value} {w w1 : World} (rs : List (Value × List Int)) (hG : P.Gl w) (hB : B = w.heap.size) (hC : P.Cod c F v w1)
    (hF : ∀ k, F k → (w.alloc (.cells #[.int .i64 c.G.m, .int .i64 c.G.q, .int .i64 c.first, .int .i64 c.delta, .int .i64 c.short, .int .i64 c.cut, .bool c.bin] 23)).heap.size ≤ k)
    (hb : Below (w.alloc (.cells #[.int .i64 c.G.m, .int .i64 c.G.q, .int .i64 c.first, .int .i64 c.delta, .int .i64 c.short, .int .i64 c.cut, .bool c.bin] 23)).heap.size (w.alloc (.cells #[.int .i64 c.G.m, .int .i64 c.G.q, .int .i64 c.first, .int .i64 c.delta, .int .i64 c.short, .int .i64 c.cut, .bool c.bin] 23)) w1)
    (hr : ∀ p, p ∈ rs → Rd w p.1 p.2) : De P c F v w.heap.size w w1 rs [] w1 ∧ Below w.heap.size w w1 := by
  have hj := Below.join (box_below w c.G.m c.G.q c.first c.delta c.short c.cut c.bin) hb
  subst hB
  exact ⟨⟨Out.of_below (Below.refl _ _), hC, P.gl hG hj, hj.size, (Box.new w c.G.m c.G.q c.first c.delta c.short c.cut c.bin).below hb, fun h => (by have := hF _ h; simp at this; omega), fun k hk => P.lt hC hk, Nat.le_refl _, hr, fun p hp => (hr p hp).below hj, fun p hp => by cases hp⟩, hj⟩

theorem three_rd {w : World} {x y z : Value} {l k j : List Int} (h1 : Rd w x l) (h2 : Rd w y k) (h3 : Rd w z j) : ∀ p, p ∈ [(x, l), (y, k), (z, j)] → Rd w p.1 p.2 := fun p hp => by
  rcases List.mem_cons.1 hp with rfl | hp
  · exact h1
  · rcases List.mem_cons.1 hp with rfl | hp
    · exact h2
    · rcases List.mem_cons.1 hp with rfl | hp
      · exact h3
      · cases hp
theorem De.drop {P : Pg B} {c : Cd} {F : Nat → Prop} {v : Value} {s0 : Nat} {W w wx : World} {rs : List (Value × List Int)} {ws : List (Value × List Int × Nat)} {p : Value × List Int × Nat} (h : De P c F v s0 W w rs (p :: ws) wx) : De P c F v s0 W w rs ws wx :=
  ⟨h.o, h.cd, h.gl, h.bB, h.bx, h.s1, h.nF, h.hW, h.old, h.rd, fun q hq => h.wr q (List.mem_cons_of_mem _ hq)⟩

set_option maxRecDepth 100000 in
set_option maxHeartbeats 8000000 in
/-- P2, P8. -/
theorem Again_any (P : Pd B) (m q f d s t : Int) (b : Bool) (xw xl xb : Value) (l z lb : List Int) (w : World) (hG : P.Gl w) (hB : B = w.heap.size) (r1 : Rd w xw l) (r2 : Rd w xl z) (r3 : Rd w xb lb) (hl : 8 * l.length ≤ 281474976710656) (hz : 8 * z.length ≤ 281474976710656) (hlb : 8 * lb.length ≤ 281474976710656) :
    Calls Tryz.prog 6 #[pv m q f d s t b, xw, xl, xb] w fun e w' => e = .returned (.bool true) ∧ Below w.heap.size w w' := by
  obtain ⟨r, hr⟩ := wrong_total m q f d s t b
  have hb := hide (box_below w m q f d s t b)
  have hGl := hide (P.gl hG ((box_below w m q f d s t b).mono (by omega)))
  have HB := hide hB
  by_cases h0 : r = 0
  · subst h0
    obtain ⟨c, rfl, rfl, rfl, rfl, rfl, rfl, rfl, m3, m8, ok⟩ := elim_r hr
    obtain ⟨hn1, hn2⟩ := Pre.nb (c := c) ⟨m3, m8, ok.f, ok.d2, ok.dn⟩
    have hM := hide (fun wx (hx : P.Gl wx) (hBx : B ≤ wx.heap.size) => made_ok P.toPn c wx m3 m8 ok hx hBx)
    have hSt := hide (fun F v w1 (hC : P.Cod c F v w1) hF hb1 => De.start (P := P.toPg) (c := c) (F := F) (v := v) (w := w) (w1 := w1) [(xw, l), (xl, z), (xb, lb)] hG hB hC hF hb1 (three_rd r1 r2 r3))
    have hD := hide (fun F v wx x y l z (hc : P.Cod c F v wx) (hx : P.Gl wx) (h1 : Rd wx x l) (h2 : CapOk x) (h3 : Off F x) (h4 : Rd wx y z) (h5 : CapOk y) (h6 : Off F y) => P.decf hc hx m3 m8 ok x y l z h1 h2 h3 h4 h5 h6)
    have hCk := hide (fun F v wx (hc : P.Cod c F v wx) (hx : P.Gl wx) x l (h1 : Rd wx x l) (h2 : CapOk x) (h3 : Off F x) => P.chk hc hx m3 m8 ok x l h1 h2 h3)
    have hA := hide (fun wx (r1 : Rd wx xw l) (r2 : Rd wx xl z) => Asked_any c xw xl l z wx m3 m8 ok r1 r2)
    have OK := hide ok
    obtain ⟨aw, cw, rfl⟩ : ∃ au cu, xw = .slice au l.length cu := by obtain ⟨au, cu, e, -⟩ := r1; exact ⟨au, cu, e⟩
    obtain ⟨al, cl, rfl⟩ : ∃ au cu, xl = .slice au z.length cu := by obtain ⟨au, cu, e, -⟩ := r2; exact ⟨au, cu, e⟩
    obtain ⟨ab, cb, rfl⟩ : ∃ au cu, xb = .slice au lb.length cu := by obtain ⟨au, cu, e, -⟩ := r3; exact ⟨au, cu, e⟩
    clear hr ok hG hB r1 r2 r3
    go_enter Tryz.func6, Tryz.ntmps6
    go_wp2_with fail
    refine (unhide hM _ (unhide hGl) (by rw [unhide HB]; exact (unhide hb).size)).mono ?_
    rintro e w1 ⟨F, v, rfl, hC, hF, hb1⟩
    have S1 := hide (unhide hSt F v w1 hC hF hb1).1
    have HBl := hide (unhide hSt F v w1 hC hF hb1).2
    obtain ⟨a, rfl⟩ := P.ptr hC
    clear hC hF hb1 hGl hb hSt hM
    go_wp2_with fail
    refine (copied_any _ l _ ((unhide S1).rd (_, l) m0) hl).mono ?_
    rintro e wc1 ⟨b1, rfl, hb1, hR1, hbb⟩
    have V1 := hide (wr_of_row hR1 (by unfold maxLen; omega))
    have Hb1 := hide (show w1.heap.size ≤ b1 ∧ b1 ≠ w.heap.size from (by have h1 := (unhide S1).o.size; have h2 := (unhide S1).bx.lt; omega))
    have S2 := hide (((unhide S1).below hbb).push (Or.inr (unhide V1)) (unhide Hb1).1 (unhide Hb1).2)
    clear hbb hR1 hb1 S1
    go_wp2_with fail
    refine (copied_any _ z _ ((unhide S2).rd (_, z) m1) hz).mono ?_
    rintro e wc2 ⟨b2, rfl, hb1, hR1, hbb⟩
    have V2 := hide (wr_of_row hR1 (by unfold maxLen; omega))
    have Hb2 := hide (show w1.heap.size ≤ b2 ∧ b2 ≠ w.heap.size from (by have h1 := (unhide S2).o.size; have h2 := (unhide S2).bx.lt; omega))
    have S3 := hide (((unhide S2).below hbb).push (Or.inr (unhide V2)) (unhide Hb2).1 (unhide Hb2).2)
    have V1' := hide ((unhide V1).below hbb)
    have L1 := hide (unhide V1).lt
    clear hbb hR1 hb1 S2
    go_wp2_with fail
    refine (unhide hD F _ _ _ _ l z (unhide S3).cd (unhide S3).gl (unhide V1').rd (unhide V1').cap ((unhide S3).off (unhide V1') (unhide Hb1).1) (unhide V2).rd (unhide V2).cap ((unhide S3).off (unhide V2) (unhide Hb2).1)).mono ?_
    rintro e w3 ⟨hp, ho3, hC3⟩
    obtain ⟨vm, vw, lm, lw, ee, ea, b3, b4, rfl, hb3, hb4, hne, sm, sw, hF⟩ := decP_F hp
    have hs3 := (unhide S3).o.size
    have hs4 := (unhide S3).bx.lt
    have S4 := hide ((((unhide S3).out ho3 hC3).push sm (by omega) (by omega)).push sw (by omega) (by omega))
    obtain ⟨am, cm, rfl⟩ := sm.shape
    obtain ⟨av, cv, rfl⟩ := sw.shape
    have HF := hide hF
    clear hp ho3 hC3 hb3 hb4 hne sm sw hF S3 V1 V1' V2 L1 hs3 hs4
    go_wp2_with fail
    refine (copied_any _ lb _ ((unhide S4).rd (_, lb) m2) hlb).mono ?_
    rintro e wc3 ⟨b5, rfl, hb1, hR1, hbb⟩
    have V5 := hide (wr_of_row hR1 (by unfold maxLen; omega))
    have Hb5 := hide (show w1.heap.size ≤ b5 ∧ b5 ≠ w.heap.size from (by have h1 := (unhide S4).o.size; have h2 := (unhide S4).bx.lt; omega))
    have S5 := hide (((unhide S4).below hbb).push (Or.inr (unhide V5)) (unhide Hb5).1 (unhide Hb5).2)
    clear hbb hR1 hb1 S4
    go_wp2_with fail
    refine (unhide hD F _ _ _ (.slice none 0 0) lb [] (unhide S5).cd (unhide S5).gl (unhide V5).rd (unhide V5).cap ((unhide S5).off (unhide V5) (unhide Hb5).1) (rd_nil _) (cap_self _ _) (off_none _ _ _)).mono ?_
    rintro e w5 ⟨hp, ho5, hC5⟩
    obtain ⟨um, uw, km, kw, ke, ka, _, _, rfl, -⟩ := decP_F hp
    have S6 := hide ((unhide S5).out ho5 hC5).drop
    clear hp ho5 hC5 S5 V5
    go_wp2_with fail
    refine (copied_any _ lb _ ((unhide S6).rd (_, lb) m2) hlb).mono ?_
    rintro e wc4 ⟨b6, rfl, hb1, hR1, hbb⟩
    have V6 := hide (wr_of_row hR1 (by unfold maxLen; omega))
    have Hb6 := hide (show w1.heap.size ≤ b6 ∧ b6 ≠ w.heap.size from (by have h1 := (unhide S6).o.size; have h2 := (unhide S6).bx.lt; omega))
    have S7 := hide (((unhide S6).below hbb).push (Or.inr (unhide V6)) (unhide Hb6).1 (unhide Hb6).2)
    clear hbb hR1 hb1 S6
    go_wp2_with fail
    refine (unhide hCk F _ _ (unhide S7).cd (unhide S7).gl _ lb (unhide V6).rd (unhide V6).cap ((unhide S7).off (unhide V6) (unhide Hb6).1)).mono ?_
    rintro e w7 ⟨rfl, ho7, hC7⟩
    have S8 := hide ((unhide S7).out ho7 hC7).drop
    clear ho7 hC7 S7 V6
    generalize chkB c lb = kb at *
    generalize chkE c lb = kc at *
    generalize chkAt c lb = kd at *
    go_wp2_with fail
    refine (copied_any _ l _ ((unhide S8).rd (_, l) m0) hl).mono ?_
    rintro e wc5 ⟨b7, rfl, hb1, hR1, hbb⟩
    have V7 := hide (wr_of_row hR1 (by unfold maxLen; omega))
    have Hb7 := hide (show w1.heap.size ≤ b7 ∧ b7 ≠ w.heap.size from (by have h1 := (unhide S8).o.size; have h2 := (unhide S8).bx.lt; omega))
    have S9 := hide (((unhide S8).below hbb).push (Or.inr (unhide V7)) (unhide Hb7).1 (unhide Hb7).2)
    clear hbb hR1 hb1 S8
    go_wp2_with fail
    refine (copied_any _ z _ ((unhide S9).rd (_, z) m1) hz).mono ?_
    rintro e wc6 ⟨b8, rfl, hb1, hR1, hbb⟩
    have V8 := hide (wr_of_row hR1 (by unfold maxLen; omega))
    have Hb8 := hide (show w1.heap.size ≤ b8 ∧ b8 ≠ w.heap.size from (by have h1 := (unhide S9).o.size; have h2 := (unhide S9).bx.lt; omega))
    have S10 := hide (((unhide S9).below hbb).push (Or.inr (unhide V8)) (unhide Hb8).1 (unhide Hb8).2)
    have V7' := hide ((unhide V7).below hbb)
    clear hbb hR1 hb1 S9
    go_wp2_with fail
    refine (unhide hD F _ _ _ _ l z (unhide S10).cd (unhide S10).gl (unhide V7').rd (unhide V7').cap ((unhide S10).off (unhide V7') (unhide Hb7).1) (unhide V8).rd (unhide V8).cap ((unhide S10).off (unhide V8) (unhide Hb8).1)).mono ?_
    rintro e w9 ⟨hp, ho9, hC9⟩
    obtain ⟨vn, vv, ln, lv, ef, ff, b9, b10, rfl, hb9, hb10, hne, sn, sv, hF'⟩ := decP_F hp
    obtain ⟨rfl, rfl, rfl, rfl⟩ := decF_one (unhide OK) (unhide HF) hF'
    have hs3 := (unhide S10).o.size
    have hs4 := (unhide S10).bx.lt
    have S11 := hide ((((unhide S10).out ho9 hC9).drop.drop.push sn (by omega) (by omega)).push sv (by omega) (by omega))
    obtain ⟨an, cn, rfl⟩ := sn.shape
    obtain ⟨av', cv', rfl⟩ := sv.shape
    clear hp ho9 hC9 hb9 hb10 hne sn sv hF' S10 V7 V7' V8 hs3 hs4
    go_wp2_with fail
    refine (Same_any _ _ lm lm _ ((unhide S11).wr (_, lm, b3) m3').2.1.rd ((unhide S11).wr (_, lm, b9) m1).2.1.rd).mono ?_
    rintro e w10 ⟨rfl, hb10⟩
    rw [show (lm == lm) = true by simp]
    have S12 := hide ((unhide S11).below hb10)
    clear hb10 S11
    go_wp2_with fail
    refine (Same_any _ _ lw lw _ ((unhide S12).wr (_, lw, b4) m2).2.1.rd ((unhide S12).wr (_, lw, b10) m0).2.1.rd).mono ?_
    rintro e w11 ⟨rfl, hb11⟩
    rw [show (lw == lw) = true by simp]
    have S13 := hide ((unhide S12).below hb11)
    clear hb11 S12
    have t1 : (ee != ee) = false := by simp
    have t2 : (ea != ea) = false := by simp
    have x0 := (unhide S13).bx.c0
    have x1 := (unhide S13).bx.c1
    have x2 := (unhide S13).bx.c2
    have x3 := (unhide S13).bx.c3
    have x4 := (unhide S13).bx.c4
    have x5 := (unhide S13).bx.c5
    have x6 := (unhide S13).bx.c6
    go_wp2_with (first | (go_at_call 14; refine (num_any _ _).mono ?_; rintro e w' ⟨rfl, rfl⟩) | fail)
    refine (unhide hA _ ((unhide S13).rd (_, l) m0) ((unhide S13).rd (_, z) m1)).mono ?_
    rintro e w12 ⟨rfl, hb12⟩
    have S14 := hide ((unhide S13).below hb12)
    clear hb12 S13 hA x0 x1 x2 x3 x4 x5 x6
    have hfin := hide (show ∀ wz, De P.toPg c F (.pointer (some a)) w.heap.size w w1 [(.slice aw l.length cw, l), (.slice al z.length cl, z), (.slice ab lb.length cb, lb)] [] wz → Below w.heap.size w wz from fun wz hz => (unhide HBl).trans (hz.o.below (B := w.heap.size) (fun k hk => by have := (hz.nF k hk).1; have := unhide HB; omega) (unhide HBl).size))
    rcases (unhide HF).2 with ⟨h0, he, hm, hw⟩ | ⟨h0, hno, he, hm, hw⟩ | ⟨h0, hmsg, hnr, hw, he⟩
    · have u1 : (ee != 0) = true := by rw [he]; exact bne_iff_ne.2 h0
      have u2 : (ee == ee) = true := by simp
      rw [← he]
      clear HF h0 he
      generalize askAt c l z = fa at *
      go_wp2_with (go_at_call 14; refine (num_any _ _).mono ?_; rintro e w' ⟨rfl, rfl⟩)
      go_ret
      exact ⟨by simp, unhide hfin _ (unhide S14).drop.drop.drop.drop.drop.drop⟩
    · subst he
      rw [h0]
      clear HF h0 hno
      generalize askAt c l z = fa at *
      go_wp2_with (go_at_call 14; refine (num_any _ _).mono ?_; rintro e w' ⟨rfl, rfl⟩)
      go_ret
      exact ⟨by simp, unhide hfin _ (unhide S14).drop.drop.drop.drop.drop.drop⟩
    · subst he
      subst hw
      rw [h0]
      have Hmsg := hide hmsg
      have hel := enc_len (unhide OK) hmsg
      have hwh := hide (whole (unhide OK) hmsg)
      have hle : 8 * (encL c lm).length ≤ 281474976710656 := by omega
      clear HF h0 hnr hmsg t1 t2 hel
      generalize askAt c l z = fa at *
      go_wp2_with (first | (go_at_call 14; refine (num_any _ _).mono ?_; rintro e w' ⟨rfl, rfl⟩) | fail)
      refine (copied_any _ (encL c lm) _ ((unhide S14).wr (_, encL c lm, b4) m2).2.1.rd hle).mono ?_
      rintro e wc7 ⟨b11, rfl, hb1, hR1, hbb⟩
      have V11 := hide (wr_of_row hR1 (by unfold maxLen; omega))
      have Hb11 := hide (show w1.heap.size ≤ b11 ∧ b11 ≠ w.heap.size from (by have h1 := (unhide S14).o.size; have h2 := (unhide S14).bx.lt; omega))
      have S15 := hide (((unhide S14).below hbb).push (Or.inr (unhide V11)) (unhide Hb11).1 (unhide Hb11).2)
      clear hbb hR1 hb1 S14
      go_wp2_with fail
      refine (unhide hCk F _ _ (unhide S15).cd (unhide S15).gl _ (encL c lm) (unhide V11).rd (unhide V11).cap ((unhide S15).off (unhide V11) (unhide Hb11).1)).mono ?_
      rintro e w13 ⟨rfl, ho13, hC13⟩
      have S16 := hide ((unhide S15).out ho13 hC13).drop
      rw [(unhide hwh).1, (unhide hwh).2.1]
      clear ho13 hC13 S15 V11
      generalize chkAt c (encL c lm) = kd at *
      go_wp2_with fail
      refine (copied_any _ (encL c lm) _ ((unhide S16).wr (_, encL c lm, b4) m2).2.1.rd hle).mono ?_
      rintro e wc8 ⟨b12, rfl, hb1, hR1, hbb⟩
      have V12 := hide (wr_of_row hR1 (by unfold maxLen; omega))
      have Hb12 := hide (show w1.heap.size ≤ b12 ∧ b12 ≠ w.heap.size from (by have h1 := (unhide S16).o.size; have h2 := (unhide S16).bx.lt; omega))
      have S17 := hide (((unhide S16).below hbb).push (Or.inr (unhide V12)) (unhide Hb12).1 (unhide Hb12).2)
      clear hbb hR1 hb1 S16
      go_wp2_with fail
      refine (unhide hD F _ _ _ (.slice none 0 0) (encL c lm) [] (unhide S17).cd (unhide S17).gl (unhide V12).rd (unhide V12).cap ((unhide S17).off (unhide V12) (unhide Hb12).1) (rd_nil _) (cap_self _ _) (off_none _ _ _)).mono ?_
      rintro e w14 ⟨hp, ho14, hC14⟩
      obtain ⟨vx, vy, lx, ly, ex, ey, b13, b14, rfl, hb13, hb14, hne, sx, sy, hFx⟩ := decP_F hp
      obtain ⟨rfl, rfl, rfl⟩ := decF_whole (unhide OK) (unhide Hmsg) hFx
      have hs3 := (unhide S17).o.size
      have hs4 := (unhide S17).bx.lt
      have S18 := hide ((((unhide S17).out ho14 hC14).drop.push sx (by omega) (by omega)).push sy (by omega) (by omega))
      obtain ⟨ax, cx, rfl⟩ := sx.shape
      obtain ⟨ay, cy, rfl⟩ := sy.shape
      clear hp ho14 hC14 hb13 hb14 hne sx sy hFx S17 V12 hs3 hs4
      go_wp2_with fail
      refine (Same_any _ _ _ _ _ ((unhide S18).wr (_, _, b13) m1).2.1.rd ((unhide S18).wr (_, _, b3) (List.mem_cons_of_mem _ (List.mem_cons_of_mem _ m3'))).2.1.rd).mono ?_
      rintro e w15 ⟨rfl, hb15⟩
      have S19 := hide ((unhide S18).below hb15)
      clear hb15 S18
      go_wp2_with fail
      refine (Same_any _ _ _ _ _ ((unhide S19).wr (_, _, b14) m0).2.1.rd ((unhide S19).wr (_, _, b4) (List.mem_cons_of_mem _ m3')).2.1.rd).mono ?_
      rintro e w16 ⟨rfl, hb16⟩
      have S20 := hide ((unhide S19).below hb16)
      clear hb16 S19
      have u1 : ∀ k : List Int, (k == k) = true := fun k => by simp
      go_wp2_with (go_at_call 14; refine (num_any _ _).mono ?_; rintro e w' ⟨rfl, rfl⟩)
      go_ret
      exact ⟨by simp, unhide hfin _ (unhide S20).drop.drop.drop.drop.drop.drop.drop.drop⟩
  · have hM := hide (fun wx (hx : P.Gl wx) (hBx : B ≤ wx.heap.size) => made_no P.toPn m q f d s t b r wx hr h0 hx hBx)
    clear hr h0 hG hB r1 r2 r3
    go_enter Tryz.func6, Tryz.ntmps6
    go_wp2_with fail
    refine (unhide hM _ (unhide hGl) (by rw [unhide HB]; exact (unhide hb).size)).mono ?_
    rintro e w1 ⟨rfl, hb1⟩
    have hb2 := hide (Below.join (unhide hb) hb1)
    clear hb1
    go_wp2
    go_ret
    exact ⟨rfl, unhide hb2⟩
end Go.Proofs.YtnpkkcbadcmgkaaGreatDoor
