import Derived.Test.YtnpkkcbadcmgkaaGreatDoorWAgain
import Derived.Test.YtnpkkcbadcmgkaaGreatDoorWSpo
namespace Go.Proofs.YtnpkkcbadcmgkaaGreatDoor
open Go.RowKit Go.Deep
open Gf (Cd)
variable {B : Nat}

theorem row_set {w : World} {b n : Nat} {L : List Int} (h : Row w b n (fun i => L.getD i 0)) (hl : L.length = n) (k : Nat) (hk : k < n) (y : Int) : Row (w.setCell ⟨b, k, none⟩ (.int .i64 y)) b n (fun i => (L.set k y).getD i 0) :=
  World.rowIs.congr (World.rowIs.set h k (.int .i64 y)) (fun i _ => by
    show (if i = k then Value.int IntKind.i64 y else Value.int IntKind.i64 (L.getD i 0)) = Value.int IntKind.i64 ((L.set k y).getD i 0)
    rw [List.getD_eq_getElem?_getD, List.getD_eq_getElem?_getD, List.getElem?_set]
    by_cases e : i = k
    · subst e; rw [if_pos rfl, if_pos rfl, if_pos (by omega)]; rfl
    · rw [if_neg e, if_neg (Ne.symm e)])
theorem below_cell' {w w' : World} (hb : Below w.heap.size w w') {a : Addr} {v : Value} (h : w.cell? a = some v) : w'.cell? a = some v := by rw [hb.cell (lt_of_cell h)]; exact h
theorem row_wr {w : World} {b n : Nat} {L : List Int} (h : Row w b n (fun i => L.getD i 0)) (hl : L.length = n) (hn : n ≤ 256) : Wr w (.slice (some ⟨b, 0, none⟩) n n) L b := by
  subst hl
  exact wr_of_row h (by unfold maxLen; omega)

set_option maxRecDepth 100000 in
set_option maxHeartbeats 16000000 in
/-- P8: what was sent. -/
theorem Mended_any (P : Pd B) (m q f d s t : Int) (b : Bool) (xu xh xl : Value) (lu lh z : List Int) (w : World) (hG : P.Gl w) (hB : B = w.heap.size) (r1 : Rd w xu lu) (r2 : Rd w xh lh) (r3 : Rd w xl z) (hh : 8 * lh.length ≤ 281474976710656) :
    Calls Tryz.prog 4 #[pv m q f d s t b, xu, xh, xl] w fun e w' => e = .returned (.bool true) ∧ Below w.heap.size w w' := by
  obtain ⟨r, hr⟩ := wrong_total m q f d s t b
  have hb := hide (box_below w m q f d s t b)
  have hGl := hide (P.gl hG ((box_below w m q f d s t b).mono (by omega)))
  have HB := hide hB
  by_cases h0 : r = 0
  · subst h0
    obtain ⟨c, rfl, rfl, rfl, rfl, rfl, rfl, rfl, m3, m8, ok⟩ := elim_r hr
    obtain ⟨hn1, hn2⟩ := Pre.nb (c := c) ⟨m3, m8, ok.f, ok.d2, ok.dn⟩
    have hK := Gf.K_le ok
    have hks := ok.s
    have hdl := ok.dn
    have hct := ok.ct
    have hM := hide (fun wx (hx : P.Gl wx) (hBx : B ≤ wx.heap.size) => made_ok P.toPn c wx m3 m8 ok hx hBx)
    have hSt := hide (fun F v w1 (hC : P.Cod c F v w1) hF hb1 => De.start (P := P.toPg) (c := c) (F := F) (v := v) (w := w) (w1 := w1) [(xu, lu), (xh, lh), (xl, z)] hG hB hC hF hb1 (three_rd r1 r2 r3))
    have hSz := hide (fun wx => Size_any c wx m3 m8 ok)
    have hE := hide (fun F v wx (hc : P.Cod c F v wx) (hx : P.Gl wx) x l (h1 : Rd wx x l) (h2 : CapOk x) (h3 : Off F x) => P.enc hc hx m3 m8 ok x l h1 h2 h3)
    have hD := hide (fun F v wx x y l z (hc : P.Cod c F v wx) (hx : P.Gl wx) (h1 : Rd wx x l) (h2 : CapOk x) (h3 : Off F x) (h4 : Rd wx y z) (h5 : CapOk y) (h6 : Off F y) => P.decf hc hx m3 m8 ok x y l z h1 h2 h3 h4 h5 h6)
    have hA := hide (fun wx xw l (r1 : Rd wx xw l) (r2 : Rd wx xl z) => Asked_any c xw xl l z wx m3 m8 ok r1 r2)
    have hN := hide (fun wx x lw xw l (r1 : Rd wx x lw) (r2 : Rd wx xw l) (r3 : Rd wx xl z) (e1 : lw.length = c.n - c.short - c.cut) (e2 : l.length = c.n - c.short - c.cut) (e3 : z.length ≤ 256) => Near_any c.G.m c.G.q c.first c.short c.delta c.cut c.bin x xw xl lw l z wx r1 r2 r3 (by omega) (by omega) e3 (by omega) (by omega))
    have OK := hide ok
    obtain ⟨au, cu, rfl⟩ : ∃ au cu, xu = .slice au lu.length cu := by obtain ⟨au, cu, e, -⟩ := r1; exact ⟨au, cu, e⟩
    obtain ⟨ah, ch, rfl⟩ : ∃ au cu, xh = .slice au lh.length cu := by obtain ⟨au, cu, e, -⟩ := r2; exact ⟨au, cu, e⟩
    obtain ⟨al, cl, rfl⟩ : ∃ au cu, xl = .slice au z.length cu := by obtain ⟨au, cu, e, -⟩ := r3; exact ⟨au, cu, e⟩
    obtain ⟨kk, hkk⟩ : ∃ kk, kk = c.K - c.short := ⟨_, rfl⟩
    obtain ⟨nn, hnn⟩ : ∃ nn, nn = c.n - c.short - c.cut := ⟨_, rfl⟩
    have hk1 : kk ≤ 256 := by omega
    have hn3 : nn ≤ 256 := by omega
    rw [← hkk, ← hnn] at hSz
    rw [← hnn] at hN
    have Hkk := hide hkk
    have Hnn := hide hnn
    clear hr ok hG hB r1 r2 r3 hkk hnn hK hks hn1 hn2 hdl hct
    go_enter Tryz.func4, Tryz.ntmps4
    go_wp2_with fail
    refine (unhide hM _ (unhide hGl) (by rw [unhide HB]; exact (unhide hb).size)).mono ?_
    rintro e w1 ⟨F, v, rfl, hC, hF, hb1⟩
    have S1 := hide (unhide hSt F v w1 hC hF hb1).1
    have HBl := hide (unhide hSt F v w1 hC hF hb1).2
    obtain ⟨a, rfl⟩ := P.ptr hC
    clear hC hF hb1 hGl hb hSt hM
    have x0 := (unhide S1).bx.c0
    have x1 := (unhide S1).bx.c1
    have x2 := (unhide S1).bx.c2
    have x3 := (unhide S1).bx.c3
    have x4 := (unhide S1).bx.c4
    have x5 := (unhide S1).bx.c5
    have x6 := (unhide S1).bx.c6
    go_wp2_with fail
    refine (unhide hSz _).mono ?_
    rintro e w2 ⟨rfl, hb2⟩
    have S2 := hide ((unhide S1).below hb2)
    clear hb2 S1 hSz x0 x1 x2 x3 x4 x5 x6
    have x0 := (unhide S2).bx.c0
    have x1 := (unhide S2).bx.c1
    have x2 := (unhide S2).bx.c2
    have x3 := (unhide S2).bx.c3
    have x4 := (unhide S2).bx.c4
    have x5 := (unhide S2).bx.c5
    have x6 := (unhide S2).bx.c6
    go_wp2_with fail
    refine (fits_any c.G.m c.G.q c.first c.delta c.short c.cut c.bin _ lu kk _ m3 m8 ((unhide S2).rd (_, lu) m0)).mono ?_
    rintro e w3 ⟨rfl, hb3⟩
    have S3 := hide ((unhide S2).below hb3)
    clear hb3 S2 x0 x1 x2 x3 x4 x5 x6
    have hfin := hide (show ∀ wz, De P.toPg c F (.pointer (some a)) w.heap.size w w1 [(.slice au lu.length cu, lu), (.slice ah lh.length ch, lh), (.slice al z.length cl, z)] [] wz → Below w.heap.size w wz from fun wz hz => (unhide HBl).trans (hz.o.below (B := w.heap.size) (fun k hk => by have := (hz.nF k hk).1; have := unhide HB; omega) (unhide HBl).size))
    by_cases hfu : givenE c.G.m c.bin lu kk = 0
    · rw [show (givenE c.G.m c.bin lu kk == 0) = true by rw [hfu]; rfl]
      have hmsg : isMsg c lu := by unfold isMsg; rw [← unhide Hkk]; exact hfu
      have Hmsg := hide hmsg
      have hlb : 8 * lu.length ≤ 281474976710656 := by have : lu.length = kk := (given_ok.1 hfu).1; omega
      have hel := hide (show (encL c lu).length = nn by rw [unhide Hnn]; exact enc_len (unhide OK) hmsg)
      clear hfu hmsg
      go_wp2_with fail
      refine (copied_any _ lu _ ((unhide S3).rd (_, lu) m0) hlb).mono ?_
      rintro e w4 ⟨b1, rfl, hb1, hR1, hbb⟩
      have V1 := hide (wr_of_row hR1 (by unfold maxLen; omega))
      have Hb1 := hide (show w1.heap.size ≤ b1 from Nat.le_trans (unhide S3).o.size hb1)
      have S4 := hide ((unhide S3).below hbb)
      clear hbb hR1 hb1 S3
      go_wp2_with fail
      refine (unhide hE F _ _ (unhide S4).cd (unhide S4).gl _ lu (unhide V1).rd (unhide V1).cap ((unhide S4).off (unhide V1) (unhide Hb1))).mono ?_
      rintro e w5 ⟨hp, ho5, hC5⟩
      obtain ⟨x5, b5, rfl, hb5, hw5⟩ := encP_fit hp (unhide Hmsg)
      have hs3 := (unhide S4).o.size
      have hs4 := (unhide S4).bx.lt
      have e5 : zs (c.word (nat lu)) = encL c lu := (encL_msg (unhide Hmsg)).symm
      rw [e5] at hw5
      have Hb5 := hide (show w1.heap.size ≤ b5 ∧ b5 ≠ w.heap.size from ⟨by omega, by omega⟩)
      have S5 := hide (((unhide S4).out ho5 hC5).push (Or.inr hw5) (unhide Hb5).1 (unhide Hb5).2)
      have L5 := hide hw5.lt
      obtain ⟨o5, c5, hx5, hc5⟩ : ∃ o cap, x5 = .slice (some ⟨b5, o, none⟩) nn cap ∧ nn ≤ cap := by
        obtain ⟨o, cap, k, f, e, hcap, -⟩ := hw5
        exact ⟨o, cap, by rw [e, unhide hel], by rw [← unhide hel]; exact hcap⟩
      subst hx5
      clear hp ho5 hC5 hb5 hw5 S4 V1 hs3 hs4 e5 hE
      have t0 : ((nn : Int) != (nn : Int)) = false := by simp
      have hle : 8 * (encL c lu).length ≤ 281474976710656 := by rw [unhide hel]; omega
      go_wp2_with (first | (go_at_call 14; refine (num_any _ _).mono ?_; rintro e w' ⟨rfl, rfl⟩) | fail)
      refine (copied_any _ (encL c lu) _ ((unhide S5).wr (_, encL c lu, b5) m0).2.1.rd hle).mono ?_
      rintro e w6 ⟨b6, rfl, hb6, hR6, hbb⟩
      rw [unhide hel] at hR6 ⊢
      have HR6 := hide hR6
      have Hb6 := hide (show w1.heap.size ≤ b6 ∧ b6 ≠ w.heap.size ∧ b5 ≠ b6 from (by have h1 := (unhide S5).o.size; have h2 := (unhide S5).bx.lt; have h3 := unhide L5; omega))
      have S6 := hide ((unhide S5).below hbb)
      clear hbb hR6 hb6 S5 L5
      go_wp2
      go_loopw [18, 19, 20] (fun i _ _ wr => ∃ (k : Nat) (lg : List Int), k ≤ lh.length + 1 ∧ i = .int .i64 k ∧ lg.length = nn ∧ Hid (Row wr b6 nn (fun i => lg.getD i 0)) ∧ Hid (De P.toPg c F (.pointer (some a)) w.heap.size w w1 [(.slice au lu.length cu, lu), (.slice ah lh.length ch, lh), (.slice al z.length cl, z)] [(.slice (some ⟨b5, o5, none⟩) nn c5, encL c lu, b5)] wr)) (fun i _ _ _ => lh.length + 2 - (intOf i).toNat)
      case atStart => exact ⟨0, encL c lu, by omega, rfl, unhide hel, HR6, S6⟩
      case round =>
        clear HR6 S6
        obtain ⟨k, lg, hk, rfl, hlg, hR, S⟩ := hrel
        by_cases hlt : k + 1 < lh.length
        · have hI : (k : Int) + 1 < (lh.length : Int) := by omega
          have hI0 : (k : Int) < (lh.length : Int) := by omega
          have hrh := (unhide S).rd (_, lh) m1
          obtain ⟨a', cap', e', -, hcc⟩ := hrh
          cases e'
          obtain ⟨bh, oh, rfl, hc0⟩ := hcc k (show k < lh.length by omega)
          obtain ⟨bh', oh', e', hc1⟩ := hcc (k + 1) hlt
          cases e'
          have hbh := hide (show bh ≠ b6 from (by
            obtain ⟨a2, cap2, e2, -, hcc2⟩ := (unhide S).old (_, lh) m1
            cases e2
            obtain ⟨bh2, oh2, e2, hc2⟩ := hcc2 k (show k < lh.length by omega)
            cases e2
            have h1 := lt_of_cell hc2
            have h2 := (unhide Hb6).1
            have h3 := (unhide HBl).size
            have h4 : bh < w.heap.size := h1
            omega))
          have hk2 : (k : Int) + 2 ≤ 1000000000000000 := by omega
          have hw1 : IntKind.i64.wrap ((k : Int) + 1) = (k : Int) + 1 := by rw [IntKind.wrap_i64]; omega
          have hz1 : (0 : Int) ≤ (k : Int) + 1 := by omega
          clear hcc
          have hc0 : wr.cell? ⟨bh, oh + k, none⟩ = some (.int .i64 (lh.getD k 0)) := hc0
          have hc1 : wr.cell? ⟨bh, oh + (k + 1), none⟩ = some (.int .i64 (lh.getD (k + 1) 0)) := hc1
          generalize lh.getD k 0 = j at *
          generalize lh.getD (k + 1) 0 = y at *
          by_cases hj0 : 0 ≤ j
          · by_cases hj1 : j < (nn : Int)
            · obtain ⟨jn, rfl⟩ : ∃ jn : Nat, j = jn := ⟨j.toNat, by omega⟩
              have hjn : jn < nn := by omega
              have s1 : wr.cell? ⟨b6, jn, none⟩ = some (.int .i64 (lg.getD jn 0)) := World.rowIs.cell (unhide hR) hjn
              have t1 : decide ((0 : Int) ≤ (jn : Int)) = true := decide_eq_true hj0
              have t2 : decide ((jn : Int) < (nn : Int)) = true := decide_eq_true hj1
              generalize hgx : lg.getD jn 0 = gx at s1
              clear hgx
              go_wp2
              go_quiet (fail)
              generalize bits .xor .i64 gx y = sv
              have Sd := hide ((unhide S).below (below_of_drewN _ _ nq))
              have hRd := hide (show Row (wr.drewN nq) b6 nn (fun i => lg.getD i 0) from unhide hR)
              have d0 : (wr.drewN nq).cell? ⟨bh, oh + k, none⟩ = some (.int .i64 (jn : Int)) := hc0
              clear S hR hc0 hc1 s1
              generalize wr.drewN nq = wq at *
              have x0 := (unhide Sd).bx.c0
              have x1 := (unhide Sd).bx.c1
              have x2 := (unhide Sd).bx.c2
              have x3 := (unhide Sd).bx.c3
              have x4 := (unhide Sd).bx.c4
              have x5 := (unhide Sd).bx.c5
              have x6 := (unhide Sd).bx.c6
              go_wp2_with fail
              have hal := (Below.refl wq.heap.size wq).alloc (Nat.le_refl _) (.cells #[.int .i64 sv] 3)
              refine (fits_any c.G.m c.G.q c.first c.delta c.short c.cut c.bin _ [sv] 1 _ m3 m8 ⟨_, 1, rfl, by unfold maxLen; simp, fun i hi => ⟨wq.heap.size, 0, rfl, by
                have : i = 0 := by simp at hi; omega
                subst this
                simp⟩⟩).mono ?_
              rintro e wf ⟨rfl, hbf⟩
              have hbf2 := Below.join hal hbf
              have Sf := hide ((unhide Sd).below hbf2)
              have hRf := hide (Row.below (unhide hRd) hbf2)
              have f0 : wf.cell? ⟨bh, oh + k, none⟩ = some (.int .i64 (jn : Int)) := below_cell' hbf2 d0
              clear hal hbf hbf2 Sd hRd d0 x0 x1 x2 x3 x4 x5 x6
              cases hfit : (givenE c.G.m c.bin [sv] 1 == 0)
              · clear hfit
                go_wp2
                exact ⟨⟨k + 2, lg, by omega, by go_num, hlg, hRf, Sf⟩, by simp [intOf]; omega⟩
              · clear hfit
                have s2 : wf.cell? ⟨b6, jn, none⟩ = some (.int .i64 (lg.getD jn 0)) := World.rowIs.cell (unhide hRf) hjn
                have s3 : wf.frozen? ⟨b6, jn, none⟩ = false := World.rowIs.frozen (unhide hRf) jn
                generalize hgx : lg.getD jn 0 = gx at s2
                clear hgx
                have fin1 := hide (row_set (unhide hRf) hlg jn hjn sv)
                have fin2 := hide ((unhide Sf).spoil (b := b6) (show Out (fun k => k = b6) wf (wf.setCell ⟨b6, jn, none⟩ (.int .i64 sv)) from Out.set (D := fun k => k = b6) (Out.of_below (Below.refl _ _)) (p := ⟨b6, jn, none⟩) rfl (.int .i64 sv)) (unhide Hb6).1 (unhide Hb6).2.1 [(.slice (some ⟨b5, o5, none⟩) nn c5, encL c lu, b5)] (fun p hp => by
                  rcases List.mem_cons.1 hp with rfl | hp
                  · exact ⟨m0, (unhide Hb6).2.2⟩
                  · cases hp))
                have hlg2 := hide (show (lg.set jn sv).length = nn by rw [List.length_set]; exact hlg)
                clear hRf Sf
                go_wp2
                exact ⟨⟨k + 2, lg.set jn sv, by omega, by go_num, unhide hlg2, fin1, fin2⟩, by simp [intOf]; omega⟩
            · have t1 : decide ((0 : Int) ≤ j) = true := decide_eq_true hj0
              have t2 : decide (j < (nn : Int)) = false := decide_eq_false hj1
              clear hc1
              go_wp2
              exact ⟨⟨k + 2, lg, by omega, by go_num, hlg, hR, S⟩, by simp [intOf]; omega⟩
          · have t1 : decide ((0 : Int) ≤ j) = false := decide_eq_false hj0
            clear hc1
            go_wp2
            exact ⟨⟨k + 2, lg, by omega, by go_num, hlg, hR, S⟩, by simp [intOf]; omega⟩
        · have hI : ¬ (k : Int) + 1 < (lh.length : Int) := by omega
          have V6 := hide (row_wr (unhide hR) hlg hn3)
          have hw1 : IntKind.i64.wrap ((k : Int) + 1) = (k : Int) + 1 := by rw [IntKind.wrap_i64]; omega
          clear hR
          have x0 := (unhide S).bx.c0
          have x1 := (unhide S).bx.c1
          have x2 := (unhide S).bx.c2
          have x3 := (unhide S).bx.c3
          have x4 := (unhide S).bx.c4
          have x5 := (unhide S).bx.c5
          have x6 := (unhide S).bx.c6
          go_wp2_with fail
          refine (unhide hA _ _ lg (unhide V6).rd ((unhide S).rd (_, z) m2)).mono ?_
          rintro e wa ⟨rfl, hba⟩
          have SA := hide ((unhide S).below hba)
          have V6a := hide ((unhide V6).below hba)
          clear hba S V6 x0 x1 x2 x3 x4 x5 x6 hw1
          generalize askAt c lg z = fa at *
          by_cases haz : askE c lg z = 0
          · rw [haz]
            obtain ⟨hck, hbd⟩ := ask_ok haz
            have hzl := lost_len hbd
            have hzl2 : z.length ≤ 256 := by have := unhide Hnn; omega
            have hz8 : 8 * z.length ≤ 281474976710656 := by omega
            have Haz := hide haz
            clear haz hck hbd hzl
            have x0 := (unhide SA).bx.c0
            have x1 := (unhide SA).bx.c1
            have x2 := (unhide SA).bx.c2
            have x3 := (unhide SA).bx.c3
            have x4 := (unhide SA).bx.c4
            have x5 := (unhide SA).bx.c5
            have x6 := (unhide SA).bx.c6
            go_wp2_with fail
            refine (unhide hN _ _ (encL c lu) _ lg ((unhide SA).wr (_, encL c lu, b5) m0).2.1.rd (unhide V6a).rd ((unhide SA).rd (_, z) m2) (unhide hel) hlg hzl2).mono ?_
            rintro e wb ⟨rfl, hbb⟩
            have SB := hide ((unhide SA).below hbb)
            have V6b := hide ((unhide V6a).below hbb)
            clear hbb SA V6a x0 x1 x2 x3 x4 x5 x6
            cases hnb : decide (2 * far (encL c lu) lg z (encL c lu).length + z.length + c.cut < c.delta)
            · clear hnb
              go_wp2
              go_ret
              exact ⟨rfl, unhide hfin _ (unhide SB).drop⟩
            · have Hnr := hide (show nearB c (encL c lu) lg z = true from hnb)
              clear hnb
              go_wp2_with fail
              refine (copied_any _ z _ ((unhide SB).rd (_, z) m2) hz8).mono ?_
              rintro e wc ⟨b7, rfl, hb7, hR7, hbc⟩
              have V7 := hide (wr_of_row hR7 (by unfold maxLen; omega))
              have Hb7 := hide (Nat.le_trans (unhide SB).o.size hb7)
              have SC := hide ((unhide SB).below hbc)
              have V6c := hide ((unhide V6b).below hbc)
              clear hbc hR7 hb7 SB V6b
              go_wp2_with fail
              refine (unhide hD F _ _ _ _ lg z (unhide SC).cd (unhide SC).gl (unhide V6c).rd (unhide V6c).cap ((unhide SC).off (unhide V6c) (unhide Hb6).1) (unhide V7).rd (unhide V7).cap ((unhide SC).off (unhide V7) (unhide Hb7))).mono ?_
              rintro e wd ⟨hp, hod, hCd⟩
              obtain ⟨vm, vw, lm, lw, ee, ea, b8, b9, rfl, hb8, hb9, hne, sm, sw, -, hF⟩ := decP_F hp
              obtain ⟨rfl, rfl, rfl⟩ : lm = lu ∧ lw = encL c lu ∧ ee = 0 := by
                rcases hF with ⟨g0, _⟩ | ⟨g0, g1, _⟩ | ⟨g0, g1, g2, g3, g4⟩
                · exact absurd (unhide Haz) g0
                · have := g1 lu (unhide Hmsg)
                  rw [unhide Hnr] at this; cases this
                · have e := near_one (unhide OK) g0 g1 (unhide Hmsg) g2 (unhide Hnr)
                  exact ⟨e, by rw [g3, e], g4⟩
              have hs3 := (unhide SC).o.size
              have hs4 := (unhide SC).bx.lt
              have SD := hide ((((unhide SC).out hod hCd).push sm (by omega) (by omega)).push sw (by omega) (by omega))
              obtain ⟨am, cm, rfl⟩ := sm.shape
              obtain ⟨av, cv, hvw⟩ := sw.shape
              rw [unhide hel] at hvw
              subst hvw
              clear hp hod hCd hb8 hb9 hne sm sw hF SC V6c V7 hs3 hs4
              go_wp2_with fail
              refine (Same_any _ _ _ _ _ ((unhide SD).wr (_, _, b8) m1).2.1.rd ((unhide SD).rd _ m0)).mono ?_
              rintro e we ⟨rfl, hbe⟩
              have SE := hide ((unhide SD).below hbe)
              clear hbe SD
              go_wp2_with fail
              refine (Same_any _ _ _ _ _ ((unhide SE).wr (_, encL c _, b9) m0).2.1.rd ((unhide SE).wr (_, encL c _, b5) m2).2.1.rd).mono ?_
              rintro e wg ⟨rfl, hbg⟩
              have SG := hide ((unhide SE).below hbg)
              clear hbg SE
              have u1 : ∀ k : List Int, (k == k) = true := fun k => by simp
              go_wp2_with (go_at_call 14; refine (num_any _ _).mono ?_; rintro e w' ⟨rfl, rfl⟩)
              go_ret
              exact ⟨by simp, unhide hfin _ (unhide SG).drop.drop.drop⟩
          · have t3 : (askE c lg z == 0) = false := by rw [beq_eq_false_iff_ne]; exact haz
            clear haz
            generalize askE c lg z = fe at *
            go_wp2
            go_ret
            exact ⟨rfl, unhide hfin _ (unhide SA).drop⟩
    · rw [show (givenE c.G.m c.bin lu kk == 0) = false by rw [beq_eq_false_iff_ne]; exact hfu]
      clear hfu
      go_wp2
      go_ret
      exact ⟨rfl, unhide hfin _ (unhide S3)⟩
  · have hM := hide (fun wx (hx : P.Gl wx) (hBx : B ≤ wx.heap.size) => made_no P.toPn m q f d s t b r wx hr h0 hx hBx)
    clear hr h0 hG hB r1 r2 r3
    go_enter Tryz.func4, Tryz.ntmps4
    go_wp2_with fail
    refine (unhide hM _ (unhide hGl) (by rw [unhide HB]; exact (unhide hb).size)).mono ?_
    rintro e w1 ⟨rfl, hb1⟩
    have hb2 := hide (Below.join (unhide hb) hb1)
    clear hb1
    go_wp2
    go_ret
    exact ⟨rfl, unhide hb2⟩
end Go.Proofs.YtnpkkcbadcmgkaaGreatDoor
