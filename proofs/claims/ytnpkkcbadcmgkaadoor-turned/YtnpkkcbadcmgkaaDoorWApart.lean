import Derived.Test.YtnpkkcbadcmgkaaDoorWLinear
namespace Go.Proofs.YtnpkkcbadcmgkaaDoor
open Go.RowKit Go.Deep
open Gf (Cd)
variable {B : Nat}

theorem dif_succ (Q : Nat → Bool) (u v : List Nat) (k : Nat) : Gf.dif Q u v (k + 1) = Gf.dif Q u v k + (if Q k && u.getD k 0 != v.getD k 0 then 1 else 0) := by
  unfold Gf.dif
  rw [List.range_succ, List.filter_append, List.length_append]
  have h : ∀ R : Nat → Bool, ([k].filter R).length = if R k then 1 else 0 := fun R => by
    rw [List.filter_cons, List.filter_nil]; split <;> rfl
  rw [h]
theorem dif_le (Q : Nat → Bool) (u v : List Nat) (k : Nat) : Gf.dif Q u v k ≤ k := by
  unfold Gf.dif
  have := List.length_filter_le (fun i => Q i && u.getD i 0 != v.getD i 0) (List.range k)
  simpa using this

theorem rd_cell {w : World} {b o n cap : Nat} {l : List Int} (h : Rd w (.slice (some ⟨b, o, none⟩) n cap) l) {i : Nat} (hi : i < l.length) : w.cell? ⟨b, o + i, none⟩ = some (.int .i64 (l.getD i 0)) := by
  obtain ⟨a, cap', e, -, hc⟩ := h
  obtain ⟨b', o', ha, hcell⟩ := hc i hi
  rw [ha] at e
  cases e
  exact hcell

set_option maxHeartbeats 4000000 in
/-- Words. -/
theorem Apart_any (P : Pg B) (m q f d s t : Int) (b : Bool) (xu xv : Value) (lu lv : List Int) (w : World) (hG : P.Gl w) (hB : B = w.heap.size) (hu : Rd w xu lu) (hv : Rd w xv lv) :
    Calls Tryd.prog 9 #[pv m q f d s t b, xu, xv] w fun e w' => e = .returned (.bool true) ∧ Below w.heap.size w w' := by
  obtain ⟨r, hr⟩ := wrong_total m q f d s t b
  have hb := hide (box_below w m q f d s t b)
  have hGl := hide (P.gl hG ((box_below w m q f d s t b).mono (by omega)))
  have HB := hide hB
  by_cases h0 : r = 0
  · subst h0
    obtain ⟨c, rfl, rfl, rfl, rfl, rfl, rfl, rfl, m3, m8, ok⟩ := elim_r hr
    obtain ⟨hn1, hn2⟩ := Pre.nb (c := c) ⟨m3, m8, ok.f, ok.d2, ok.dn⟩
    have hK := Gf.K_le ok
    have hs := ok.s
    have hM := hide (fun wx (hx : P.Gl wx) (hBx : B ≤ wx.heap.size) => made_ok P.toPn c wx m3 m8 ok hx hBx)
    have hSz := hide (fun wx => Size_any c wx m3 m8 ok)
    have hE := hide (fun F v wx (hc : P.Cod c F v wx) (hx : P.Gl wx) x l (h1 : Rd wx x l) (h2 : CapOk x) (h3 : Off F x) => P.enc hc hx m3 m8 ok x l h1 h2 h3)
    have hCk := hide (fun F v wx (hc : P.Cod c F v wx) (hx : P.Gl wx) x l (h1 : Rd wx x l) (h2 : CapOk x) (h3 : Off F x) => P.chk hc hx m3 m8 ok x l h1 h2 h3)
    have hSt := hide (fun F v w1 (hC : P.Cod c F v w1) hF hb1 => St.start (P := P) (c := c) (F := F) (v := v) (w := w) (w1 := w1) [(xu, lu), (xv, lv)] hG hB hC hF hb1 (fun p hp => by
      rcases List.mem_cons.1 hp with rfl | hp
      · exact hu
      · rcases List.mem_cons.1 hp with rfl | hp
        · exact hv
        · cases hp))
    have OK := hide ok
    obtain ⟨au, cu, rfl⟩ : ∃ au cu, xu = .slice au lu.length cu := by obtain ⟨au, cu, e, -⟩ := hu; exact ⟨au, cu, e⟩
    obtain ⟨av, cv, rfl⟩ : ∃ av cv, xv = .slice av lv.length cv := by obtain ⟨av, cv, e, -⟩ := hv; exact ⟨av, cv, e⟩
    obtain ⟨kk, hkk⟩ : ∃ kk, kk = c.K - c.short := ⟨_, rfl⟩
    obtain ⟨nn, hnn⟩ : ∃ nn, nn = c.n - c.short - c.cut := ⟨_, rfl⟩
    have hk1 : kk ≤ 256 := by omega
    have hn3 : nn ≤ 256 := by omega
    have hkn : kk ≤ nn := by omega
    rw [← hkk, ← hnn] at hSz
    have Hkk := hide hkk
    have Hnn := hide hnn
    have hn2' := hide hn2
    clear hr ok hG hB hu hv hkk hnn hK hs hn1 hn2
    go_enter Tryd.func9, Tryd.ntmps9
    go_wp2_with fail
    refine (unhide hM _ (unhide hGl) (by rw [unhide HB]; exact (unhide hb).size)).mono ?_
    rintro e w1 ⟨F, v, rfl, hC, hF, hb1⟩
    have S1 := hide (unhide hSt F v w1 hC hF hb1)
    obtain ⟨a, rfl⟩ := P.ptr hC
    clear hC hF hb1 hGl hb hSt hM
    have x0 := (unhide S1).bx.c0
    have x1 := (unhide S1).bx.c1
    have x2 := (unhide S1).bx.c2
    have x3 := (unhide S1).bx.c3
    have x4 := (unhide S1).bx.c4
    have x5 := (unhide S1).bx.c5
    have x6 := (unhide S1).bx.c6
    go_wp2_with fail
    refine (unhide hSz _).mono ?_
    rintro e w2 ⟨rfl, hb2⟩
    have S2 := hide ((unhide S1).below hb2)
    clear hb2 S1 hSz
    clear x0 x1 x2 x3 x4 x5 x6
    have x0 := (unhide S2).bx.c0
    have x1 := (unhide S2).bx.c1
    have x2 := (unhide S2).bx.c2
    have x3 := (unhide S2).bx.c3
    have x4 := (unhide S2).bx.c4
    have x5 := (unhide S2).bx.c5
    have x6 := (unhide S2).bx.c6
    go_wp2_with fail
    refine (fits_any c.G.m c.G.q c.first c.delta c.short c.cut c.bin _ lu kk w2 m3 m8 ((unhide S2).rd (_, lu) (List.mem_cons_self ..))).mono ?_
    rintro e w3 ⟨rfl, hb3⟩
    have S3 := hide ((unhide S2).below hb3)
    clear hb3 S2
    clear x0 x1 x2 x3 x4 x5 x6
    have x0 := (unhide S3).bx.c0
    have x1 := (unhide S3).bx.c1
    have x2 := (unhide S3).bx.c2
    have x3 := (unhide S3).bx.c3
    have x4 := (unhide S3).bx.c4
    have x5 := (unhide S3).bx.c5
    have x6 := (unhide S3).bx.c6
    go_wp2_with fail
    refine (fits_any c.G.m c.G.q c.first c.delta c.short c.cut c.bin _ lv kk w3 m3 m8 ((unhide S3).rd (_, lv) (List.mem_cons_of_mem _ (List.mem_cons_self ..)))).mono ?_
    rintro e w4 ⟨rfl, hb4⟩
    have S4 := hide ((unhide S3).below hb4)
    clear hb4 S3
    clear x0 x1 x2 x3 x4 x5 x6
    go_wp2_with fail
    refine (Same_any _ _ lu lv _ ((unhide S4).rd (_, lu) (List.mem_cons_self ..)) ((unhide S4).rd (_, lv) (List.mem_cons_of_mem _ (List.mem_cons_self ..)))).mono ?_
    rintro e w4' ⟨rfl, hb4⟩
    have S4' := hide ((unhide S4).below hb4)
    clear hb4 S4
    by_cases hfu : givenE c.G.m c.bin lu kk = 0
    · by_cases hfv : givenE c.G.m c.bin lv kk = 0
      · rw [show (givenE c.G.m c.bin lu kk == 0) = true by rw [hfu]; rfl, show (givenE c.G.m c.bin lv kk == 0) = true by rw [hfv]; rfl]
        obtain ⟨hlu, hgu⟩ := given_ok.1 hfu
        obtain ⟨hlv, hgv⟩ := given_ok.1 hfv
        have hmu := nat_msg c (l := lu) (by rw [hlu]; exact unhide Hkk) hgu
        have hmv := nat_msg c (l := lv) (by rw [hlv]; exact unhide Hkk) hgv
        have hsu := nat_sy c hgu
        have hsv := nat_sy c hgv
        have hzu : zs (nat lu) = lu := nat_map hgu
        have hzv : zs (nat lv) = lv := nat_map hgv
        have FU := hide (show givenE c.G.m c.bin lu (c.K - c.short) = 0 by rw [← unhide Hkk]; exact hfu)
        have FV := hide (show givenE c.G.m c.bin lv (c.K - c.short) = 0 by rw [← unhide Hkk]; exact hfv)
        have HLU := hide hlu
        have HLV := hide hlv
        have HMU := hide hmu
        have HMV := hide hmv
        have HSU := hide hsu
        have HSV := hide hsv
        have HZU := hide hzu
        have HZV := hide hzv
        clear hfu hfv hlu hlv hgu hgv hmu hmv hsu hsv hzu hzv
        by_cases huv : lu = lv
        · rw [show (lu == lv) = true by rw [huv]; simp]
          clear huv
          go_wp2
          go_ret
          exact ⟨rfl, by rw [← unhide HB]; exact (unhide S4').b⟩
        rw [show (lu == lv) = false by rw [beq_eq_false_iff_ne]; exact huv]
        have hne : nat lu ≠ nat lv := fun e => huv (by rw [← unhide HZU, ← unhide HZV, e])
        have HD := hide (show c.delta ≤ Gf.dif (fun _ => true) (c.word (nat lu)) (c.word (nat lv)) nn + c.cut by
          have h1 := Gf.apart (unhide OK) (unhide HMU) (unhide HMV) hne
          rw [Gf.prs_dif _ _ (by rw [Gf.word_length (unhide OK) (unhide HMU), Gf.word_length (unhide OK) (unhide HMV)]), Gf.word_length (unhide OK) (unhide HMU), ← unhide Hnn] at h1
          exact h1)
        have hdb : c.delta ≤ 256 := by have := (unhide OK).dn; have := unhide hn2'; omega
        have hcb : c.cut ≤ 256 := by have := (unhide OK).ct; omega
        clear huv hne
        go_wp2_with fail
        refine (copied_any _ lu w4' ((unhide S4').rd (_, lu) (List.mem_cons_self ..)) (by have := unhide HLU; omega)).mono ?_
        rintro e w5 ⟨b5, rfl, hb5, hR5, hbb⟩
        have V5 := hide (wr_of_row hR5 (by have := unhide HLU; unfold maxLen; omega))
        have N5 := hide ((unhide S4').nF hb5)
        have S5 := hide ((unhide S4').below hbb)
        clear hb5 hR5 hbb S4'
        go_wp2_with fail
        refine (unhide hE F _ w5 (unhide S5).cd (unhide S5).gl _ lu (unhide V5).rd (unhide V5).cap ((unhide V5).off (unhide N5))).mono ?_
        rintro e w6 ⟨hp, ho6, hC6⟩
        obtain ⟨xa, ba, rfl, hba, hwa⟩ := encP_fit hp (unhide FU)
        have S6 := hide (((unhide S5).out ho6 hC6).add hwa.rd (Or.inr (hwa.off ((unhide S5).nF hba))))
        have hla : (zs (c.word (nat lu))).length = nn := by rw [show (zs (c.word (nat lu))).length = (c.word (nat lu)).length from List.length_map .., Gf.word_length (unhide OK) (unhide HMU)]; exact (unhide Hnn).symm
        obtain ⟨oa, ca, rfl, hca⟩ := hwa.shape hla
        have HLA := hide hla
        clear hp ho6 hC6 hba hwa hla S5 V5 N5
        go_wp2_with fail
        refine (copied_any _ lv w6 ((unhide S6).rd (_, lv) (List.mem_cons_of_mem _ (List.mem_cons_of_mem _ (List.mem_cons_self ..)))) (by have := unhide HLV; omega)).mono ?_
        rintro e w7 ⟨b7, rfl, hb7, hR7, hbb⟩
        have V7 := hide (wr_of_row hR7 (by have := unhide HLV; unfold maxLen; omega))
        have N7 := hide ((unhide S6).nF hb7)
        have S7 := hide ((unhide S6).below hbb)
        clear hb7 hR7 hbb S6
        go_wp2_with fail
        refine (unhide hE F _ w7 (unhide S7).cd (unhide S7).gl _ lv (unhide V7).rd (unhide V7).cap ((unhide V7).off (unhide N7))).mono ?_
        rintro e w8 ⟨hp, ho8, hC8⟩
        obtain ⟨xb, bb, rfl, hbb, hwb⟩ := encP_fit hp (unhide FV)
        have S8 := hide (((unhide S7).out ho8 hC8).add hwb.rd (Or.inr (hwb.off ((unhide S7).nF hbb))))
        have hlb : (zs (c.word (nat lv))).length = nn := by rw [show (zs (c.word (nat lv))).length = (c.word (nat lv)).length from List.length_map .., Gf.word_length (unhide OK) (unhide HMV)]; exact (unhide Hnn).symm
        obtain ⟨ob, cb, rfl, hcb⟩ := hwb.shape hlb
        have HLB := hide hlb
        clear hp ho8 hC8 hbb hwb hlb S7 V7 N7
        go_wp2_with (first | (go_at_call 13; refine (num_any _ _).mono ?_; rintro e w' ⟨rfl, rfl⟩) | fail)
        go_loopw [20, 21] (fun dv iv wr => ∃ k : Nat, k ≤ nn ∧ iv = .int .i64 k ∧ dv = .int .i64 (Gf.dif (fun _ => true) (c.word (nat lu)) (c.word (nat lv)) k : Nat) ∧ Hid (St P c F (.pointer (some a)) w.heap.size [(.slice (some ⟨bb, ob, none⟩) nn cb, zs (c.word (nat lv))), (.slice (some ⟨ba, oa, none⟩) nn ca, zs (c.word (nat lu))), (.slice au lu.length cu, lu), (.slice av lv.length cv, lv)] w wr)) (fun _ iv _ => nn - (intOf iv).toNat)
        case atStart => exact ⟨0, by omega, rfl, rfl, S8⟩
        case round =>
          clear S8
          obtain ⟨k, hk, rfl, rfl, S⟩ := hrel
          have hdl := dif_le (fun _ => true) (c.word (nat lu)) (c.word (nat lv)) k
          by_cases hlt : k < nn
          · have c1 := rd_cell ((unhide S).rd (_, zs (c.word (nat lu))) (List.mem_cons_of_mem _ (List.mem_cons_self ..))) (i := k) (by rw [unhide HLA]; exact hlt)
            have c2 := rd_cell ((unhide S).rd (_, zs (c.word (nat lv))) (List.mem_cons_self ..)) (i := k) (by rw [unhide HLB]; exact hlt)
            rw [show (zs (c.word (nat lu))).getD k 0 = (((c.word (nat lu)).getD k 0 : Nat) : Int) from mapN_getD _ _] at c1
            rw [show (zs (c.word (nat lv))).getD k 0 = (((c.word (nat lv)).getD k 0 : Nat) : Int) from mapN_getD _ _] at c2
            have hI : (k : Int) < (nn : Int) := by omega
            have hds := hide (dif_succ (fun _ => true) (c.word (nat lu)) (c.word (nat lv)) k)
            generalize Gf.dif (fun _ => true) (c.word (nat lu)) (c.word (nat lv)) k = dk at *
            generalize (c.word (nat lu)).getD k 0 = p1 at *
            generalize (c.word (nat lv)).getD k 0 = p2 at *
            by_cases hpq : p1 = p2
            · have t1 : ((p1 : Int) != (p2 : Int)) = false := by rw [hpq]; simp
              have hd2 := hide (show Gf.dif (fun _ => true) (c.word (nat lu)) (c.word (nat lv)) (k + 1) = dk by have := unhide hds; rw [hpq] at this; simpa using this)
              clear hds hpq
              go_wp2
              go_quiet (fail)
              go_wp2
              exact ⟨⟨k + 1, by omega, by go_num, by rw [unhide hd2], hide ((unhide S).below (below_of_drewN _ _ _))⟩, by simp [intOf]; omega⟩
            · have t1 : ((p1 : Int) != (p2 : Int)) = true := by rw [bne_iff_ne]; omega
              have hd2 := hide (show Gf.dif (fun _ => true) (c.word (nat lu)) (c.word (nat lv)) (k + 1) = dk + 1 by have := unhide hds; simpa [hpq] using this)
              clear hds hpq
              go_wp2
              go_quiet (fail)
              go_wp2
              exact ⟨⟨k + 1, by omega, by go_num, by rw [unhide hd2]; go_num, hide ((unhide S).below (below_of_drewN _ _ _))⟩, by simp [intOf]; omega⟩
          · have e : k = nn := by omega
            have hge : (c.delta : Int) - (c.cut : Int) ≤ ((Gf.dif (fun _ => true) (c.word (nat lu)) (c.word (nat lv)) k : Nat) : Int) := by rw [e]; have := unhide HD; omega
            have x3 := (unhide S).bx.c3
            have x5 := (unhide S).bx.c5
            clear e
            generalize Gf.dif (fun _ => true) (c.word (nat lu)) (c.word (nat lv)) k = dk at *
            go_wp2
            go_ret
            exact ⟨rfl, by rw [← unhide HB]; exact (unhide S).b⟩
      · rw [show (givenE c.G.m c.bin lu kk == 0) = true by rw [hfu]; rfl, show (givenE c.G.m c.bin lv kk == 0) = false by rw [beq_eq_false_iff_ne]; exact hfv]
        clear hfu hfv
        generalize (lu == lv) = bl at *
        go_wp2
        go_ret
        exact ⟨rfl, by rw [← unhide HB]; exact (unhide S4').b⟩
    · rw [show (givenE c.G.m c.bin lu kk == 0) = false by rw [beq_eq_false_iff_ne]; exact hfu]
      clear hfu
      generalize (givenE c.G.m c.bin lv kk == 0) = bb at *
      generalize (lu == lv) = bl at *
      go_wp2
      go_ret
      exact ⟨rfl, by rw [← unhide HB]; exact (unhide S4').b⟩
  · have hM := hide (fun wx (hx : P.Gl wx) (hBx : B ≤ wx.heap.size) => made_no P.toPn m q f d s t b r wx hr h0 hx hBx)
    clear hr h0 hG hu hv hB
    go_enter Tryd.func9, Tryd.ntmps9
    go_wp2_with fail
    refine (unhide hM _ (unhide hGl) (by rw [unhide HB]; exact (unhide hb).size)).mono ?_
    rintro e w1 ⟨rfl, hb1⟩
    have hb2 := hide (Below.join (unhide hb) hb1)
    clear hb1
    go_wp2
    go_ret
    exact ⟨rfl, unhide hb2⟩
end Go.Proofs.YtnpkkcbadcmgkaaDoor
