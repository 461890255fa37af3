import Derived.Test.YtnpkkcbadcmgkaaDoorWApart
namespace Go.Proofs.YtnpkkcbadcmgkaaDoor
open Go.RowKit Go.Deep
open Gf (Cd)
variable {B : Nat}

theorem word_fl {c : Cd} (ok : c.Ok) (hs : c.short = 0) (hc : c.cut = 0) {u : List Nat} (hm : Gf.msg c u) : c.word u = c.fl u := by
  have h1 := (Gf.pad_full ok hm).len
  unfold Cd.word
  rw [hs, hc] at *
  simp only [List.replicate_zero, List.nil_append, List.drop_zero, Nat.sub_zero] at *
  rw [List.take_of_length_le (by omega)]

/-- a full word whose last symbol is put ahead of the others is one. -/
theorem turned_chk {c : Cd} (ok : c.Ok) (hs : c.short = 0) (hc : c.cut = 0) {u : List Nat} (hm : Gf.msg c u) (hu : c.AllSy u) {p : List Nat} {z : Nat} (e : c.word u = p ++ [z]) :
    chkE c (zs (z :: p)) = 0 ∧ chkB c (zs (z :: p)) = true := by
  have hw : Gf.Full c (c.word u) := by
    rw [word_fl ok hs hc hm]
    have := Gf.pad_full ok hm
    rw [hs] at this
    exact this
  have ht := Gf.turned hw e
  have hsy : c.AllSy (z :: p) := fun a ha => word_sy ok hm hu a (by
    rw [e]
    rcases List.mem_cons.1 ha with rfl | h
    · simp
    · exact List.mem_append_left _ h)
  have hl : (zs (z :: p)).length = c.n := by rw [show (zs (z :: p)).length = (z :: p).length from List.length_map ..]; exact ht.len
  have h1 : chkE c (zs (z :: p)) = 0 := given_ok.2 ⟨by rw [hl, hs, hc]; omega, sy_good hsy⟩
  refine ⟨h1, ?_⟩
  unfold chkB
  rw [h1]
  unfold isWord
  rw [zs_take, nat_zs, hs, Nat.sub_zero]
  have hm2 : Gf.msg c ((z :: p).take c.K) := ⟨by rw [List.length_take, ht.len, hs]; have := Gf.K_le ok; omega, fun a ha => ht.el a (List.mem_of_mem_take ha)⟩
  rw [word_fl ok hs hc hm2, Gf.full_eq ht]
  simp

theorem own_cap {w : World} {base n : Nat} {v : Value} {xs : List Value} (h : w.ownsRow base 3 1 v n xs) : CapOk v := by
  obtain ⟨_, h | ⟨g, cap, cur, hv, h1, h2, h3, h4, h5, h6⟩⟩ := h
  · rw [h.1]; exact cap_self _ _
  · intro a n' cap' e
    rw [hv] at e
    cases e
    omega
theorem own_off {w : World} {base n : Nat} {v : Value} {xs : List Value} (h : w.ownsRow base 3 1 v n xs) {D : Nat → Prop} (hD : ∀ k, D k → k < base) : Off D v := by
  obtain ⟨_, h | ⟨g, cap, cur, hv, h1, h2, h3, h4, h5, h6⟩⟩ := h
  · rw [h.1]; exact off_none _ _ _
  · rw [hv]; exact off_ge hD h1

/-- the list as Turned makes it, k symbols put behind the last one. -/
def turnTo (z : Nat) (l : List Nat) (k : Nat) : List Nat := z :: l.take k
theorem turnTo_succ (z : Nat) (l : List Nat) (k : Nat) (h : k < l.length) : turnTo z l (k + 1) = turnTo z l k ++ [l.getD k 0] := by
  unfold turnTo
  rw [List.take_succ_eq_append_getElem h, List.getD_eq_getElem?_getD, List.getElem?_eq_getElem h]; rfl
theorem turnTo_last {l : List Nat} {k : Nat} (h : k + 1 = l.length) : l = l.take k ++ [l.getD k 0] := by
  have h1 : k < l.length := by omega
  have h2 := List.take_succ_eq_append_getElem h1
  rw [List.take_of_length_le (by omega)] at h2
  rw [List.getD_eq_getElem?_getD, List.getElem?_eq_getElem h1]
  exact h2

set_option maxRecDepth 100000 in
set_option maxHeartbeats 4000000 in
/-- Words, P7. -/
theorem Turned_any (P : Pg B) (m q f d s t : Int) (b : Bool) (xu : Value) (lu : List Int) (w : World) (hG : P.Gl w) (hB : B = w.heap.size) (hu : Rd w xu lu) :
    Calls Tryd.prog 10 #[pv m q f d s t b, xu] w fun e w' => e = .returned (.bool true) ∧ Below w.heap.size w w' := by
  obtain ⟨r, hr⟩ := wrong_total m q f d 0 0 b
  have hb := hide (box_below w m q f d 0 0 b)
  have hGl := hide (P.gl hG ((box_below w m q f d 0 0 b).mono (by omega)))
  have HB := hide hB
  by_cases h0 : r = 0
  · subst h0
    obtain ⟨c, rfl, rfl, rfl, rfl, hs0, hc0, rfl, m3, m8, ok⟩ := elim_r hr
    obtain ⟨hn1, hn2⟩ := Pre.nb (c := c) ⟨m3, m8, ok.f, ok.d2, ok.dn⟩
    have hK := Gf.K_le ok
    have E1 : ((c.short : Nat) : Int) = 0 := hs0.symm
    have E2 : ((c.cut : Nat) : Int) = 0 := hc0.symm
    have hM := hide (fun wx (hx : P.Gl wx) (hBx : B ≤ wx.heap.size) => made_ok P.toPn c wx m3 m8 ok hx hBx)
    have hSz := hide (fun wx => Size_any c wx m3 m8 ok)
    have hE := hide (fun F v wx (hc : P.Cod c F v wx) (hx : P.Gl wx) x l (h1 : Rd wx x l) (h2 : CapOk x) (h3 : Off F x) => P.enc hc hx m3 m8 ok x l h1 h2 h3)
    have hCk := hide (fun F v wx (hc : P.Cod c F v wx) (hx : P.Gl wx) x l (h1 : Rd wx x l) (h2 : CapOk x) (h3 : Off F x) => P.chk hc hx m3 m8 ok x l h1 h2 h3)
    have hSt := hide (fun F v w1 (hC : P.Cod c F v w1) hF hb1 => St.start (P := P) (c := c) (F := F) (v := v) (w := w) (w1 := w1) [(xu, lu)] hG hB hC hF hb1 (fun p hp => by
      rcases List.mem_cons.1 hp with rfl | hp
      · exact hu
      · cases hp))
    simp only [E1, E2] at hM hSt
    have OK := hide ok
    have HS0 := hide (show c.short = 0 by omega)
    have HC0 := hide (show c.cut = 0 by omega)
    obtain ⟨au, cu, rfl⟩ : ∃ au cu, xu = .slice au lu.length cu := by obtain ⟨au, cu, e, -⟩ := hu; exact ⟨au, cu, e⟩
    obtain ⟨kk, hkk⟩ : ∃ kk, kk = c.K - c.short := ⟨_, rfl⟩
    obtain ⟨nn, hnn⟩ : ∃ nn, nn = c.n - c.short - c.cut := ⟨_, rfl⟩
    have hk1 : kk ≤ 256 := by omega
    have hn3 : nn ≤ 256 := by omega
    have hn4 : 1 ≤ nn := by omega
    rw [← hkk, ← hnn] at hSz
    have Hkk := hide hkk
    have Hnn := hide hnn
    obtain ⟨i0, hi, hz0, hz1, hz2⟩ := info_parts (show (Tryd.prog.info? 3).map (fun i => (i.zero, i.size, i.bytes)) = some (some (.int .i64 0), 1, 8) by kernel_rfl)
    clear hr ok hG hB hu hkk hnn hK hn1 hn2 E1 E2 hs0 hc0
    go_enter Tryd.func10, Tryd.ntmps10
    go_wp2_with fail
    refine (unhide hM _ (unhide hGl) (by rw [unhide HB]; exact (unhide hb).size)).mono ?_
    rintro e w1 ⟨F, v, rfl, hC, hF, hb1⟩
    have S1 := hide (unhide hSt F v w1 hC hF hb1)
    obtain ⟨a, rfl⟩ := P.ptr hC
    clear hC hF hb1 hGl hb hSt hM
    have x0 := (unhide S1).bx.c0
    have x1 := (unhide S1).bx.c1
    have x2 := (unhide S1).bx.c2
    have x3 := (unhide S1).bx.c3
    have x4 := (unhide S1).bx.c4
    have x5 := (unhide S1).bx.c5
    have x6 := (unhide S1).bx.c6
    go_wp2_with fail
    refine (unhide hSz _).mono ?_
    rintro e w2 ⟨rfl, hb2⟩
    have S2 := hide ((unhide S1).below hb2)
    clear hb2 S1 hSz
    clear x0 x1 x2 x3 x4 x5 x6
    have x0 := (unhide S2).bx.c0
    have x1 := (unhide S2).bx.c1
    have x2 := (unhide S2).bx.c2
    have x3 := (unhide S2).bx.c3
    have x4 := (unhide S2).bx.c4
    have x5 := (unhide S2).bx.c5
    have x6 := (unhide S2).bx.c6
    go_wp2_with fail
    refine (fits_any c.G.m c.G.q c.first c.delta c.short c.cut c.bin _ lu kk w2 m3 m8 ((unhide S2).rd (_, lu) (List.mem_cons_self ..))).mono ?_
    rintro e w4 ⟨rfl, hb4⟩
    have S4 := hide ((unhide S2).below hb4)
    clear hb4 S2
    clear x0 x1 x2 x3 x4 x5 x6
    by_cases hfu : givenE c.G.m c.bin lu kk = 0
    · rw [show (givenE c.G.m c.bin lu kk == 0) = true by rw [hfu]; rfl]
      obtain ⟨hlu, hgu⟩ := given_ok.1 hfu
      have HMU := hide (nat_msg c (l := lu) (by rw [hlu]; exact unhide Hkk) hgu)
      have HSU := hide (nat_sy c hgu)
      have FU := hide (show givenE c.G.m c.bin lu (c.K - c.short) = 0 by rw [← unhide Hkk]; exact hfu)
      have HLU := hide hlu
      clear hfu hlu hgu
      go_wp2_with fail
      refine (copied_any _ lu w4 ((unhide S4).rd (_, lu) (List.mem_cons_self ..)) (by have := unhide HLU; omega)).mono ?_
      rintro e w5 ⟨b5, rfl, hb5, hR5, hbb⟩
      have V5 := hide (wr_of_row hR5 (by have := unhide HLU; unfold maxLen; omega))
      have N5 := hide ((unhide S4).nF hb5)
      have S5 := hide ((unhide S4).below hbb)
      clear hb5 hR5 hbb S4
      go_wp2_with fail
      refine (unhide hE F _ w5 (unhide S5).cd (unhide S5).gl _ lu (unhide V5).rd (unhide V5).cap ((unhide V5).off (unhide N5))).mono ?_
      rintro e w6 ⟨hp, ho6, hC6⟩
      obtain ⟨xa, ba, rfl, hba, hwa⟩ := encP_fit hp (unhide FU)
      have S6 := hide (((unhide S5).out ho6 hC6).add hwa.rd (Or.inr (hwa.off ((unhide S5).nF hba))))
      have hla : (c.word (nat lu)).length = nn := by rw [Gf.word_length (unhide OK) (unhide HMU)]; exact (unhide Hnn).symm
      obtain ⟨oa, ca, rfl, hca⟩ := hwa.shape (n := nn) (by rw [show (zs (c.word (nat lu))).length = (c.word (nat lu)).length from List.length_map ..]; exact hla)
      have HLA := hide hla
      have Hlt := hide hwa.lt
      have Hc := hide (show ∀ i, i < nn → w6.cell? ⟨ba, oa + i, none⟩ = some (.int .i64 (((c.word (nat lu)).getD i 0 : Nat) : Int)) from fun i hi => by
        have h1 := rd_cell hwa.rd (i := i) (by rw [show (zs (c.word (nat lu))).length = (c.word (nat lu)).length from List.length_map .., hla]; exact hi)
        rw [show (zs (c.word (nat lu))).getD i 0 = (((c.word (nat lu)).getD i 0 : Nat) : Int) from mapN_getD _ _] at h1
        exact h1)
      clear hp ho6 hC6 hba hwa hla S5 V5 N5
      have c0 := unhide Hc (nn - 1) (by omega)
      have hI1 : ¬ ((nn : Int) < 1) := by omega
      have hI2 : ((nn : Int) - 1).toNat = nn - 1 := by omega
      have hI3 : IntKind.i64.wrap ((nn : Int) - 1) = (nn : Int) - 1 := wrap_small (by omega) (by omega)
      have hI4 : (0 : Int) ≤ (nn : Int) - 1 := by omega
      have hI5 : (nn : Int) - 1 < (nn : Int) := by omega
      obtain ⟨z, hz⟩ : ∃ z, (c.word (nat lu)).getD (nn - 1) 0 = z := ⟨_, rfl⟩
      rw [hz] at c0
      have HZ := hide hz
      clear hz
      go_wp2_with (first | (go_at_call 13; refine (num_any _ _).mono ?_; rintro e w' ⟨rfl, hw'⟩; obtain rfl := hw'.symm) | fail)
      go_loopw [13, 14] (fun tv iv wr => ∃ k : Nat, k + 1 ≤ nn ∧ iv = .int .i64 k ∧ Hid (wr.ownsRow w6.heap.size 3 1 tv (1 + k) ((zs (turnTo z (c.word (nat lu)) k)).map (Value.int .i64))) ∧ Hid (Below w6.heap.size w6 wr)) (fun _ iv _ => nn - (intOf iv).toNat)
      case atStart =>
        refine ⟨0, by omega, rfl, hide ?_, hide ((Below.refl _ _).alloc (Nat.le_refl _) _)⟩
        have h1 := World.ownsRow_lit (base := w6.heap.size) (e := 3) (size := 1) w6 #[.int .i64 (z : Int)] 1 (Nat.le_refl _) (by unfold maxLen; omega) rfl
        exact h1
      case round =>
        obtain ⟨k, hk, rfl, hown, hb⟩ := hrel
        by_cases hlt : k + 1 < nn
        · have hcw : wr.cell? ⟨ba, oa + k, none⟩ = some (.int .i64 (((c.word (nat lu)).getD k 0 : Nat) : Int)) := by rw [(unhide hb).cell (p := ⟨ba, oa + k, none⟩) (unhide Hlt)]; exact unhide Hc k (by omega)
          have hI : (k : Int) < (nn : Int) := by omega
          have hI' : (k : Int) + 1 < (nn : Int) := by omega
          have hps := hide (turnTo_succ z (c.word (nat lu)) k (by rw [unhide HLA]; omega))
          have hwl := (unhide hb).size
          generalize (c.word (nat lu)).getD k 0 = x at *
          go_wp2_with (at_builtin; refine wpList_append_own _ rfl _ _ 41 rfl w6.heap.size 3 i0 (.int .i64 0) 1 8 Tryd.underlying41 hi hz0 hz1 hz2 rfl (by decide) _ _ _ rfl ((unhide hown).alloc _) ⟨wr.heap.size, 0, none⟩ 1 1 [.int .i64 (x : Int)] rfl rfl ?c1 ?c2 ?c3 ?c4 ?c5 ?_)
          case c1 =>
            intro j u hj
            match j, hj with
            | 0, hj => simp at hj; subst hj; simp [Addr.add]
          case c2 => intro u hu; simp at hu; subst hu; rfl
          case c3 => unfold maxLen; omega
          case c4 => omega
          case c5 => simp; omega
          intro v' w1' hown' hgrow _
          have hB := (((Below.refl w6.heap.size wr).alloc hwl (.cells #[.int .i64 (x : Int)] 3)).grown hgrow (by simp; omega) (fun r hr => ((unhide hown).lt r hr).1))
          have f1 : Hid (w1'.ownsRow w6.heap.size 3 1 v' (1 + (k + 1)) ((zs (turnTo z (c.word (nat lu)) (k + 1))).map (Value.int .i64))) := by
            show w1'.ownsRow _ _ _ _ _ _
            rw [unhide hps, show zs (turnTo z (c.word (nat lu)) k ++ [x]) = zs (turnTo z (c.word (nat lu)) k) ++ [(x : Int)] by unfold zs; rw [List.map_append]; rfl, List.map_append]
            have h9 := hown'
            rw [← List.map_map] at h9
            exact h9
          have f3 := hide ((unhide hb).trans hB)
          clear hown' hgrow hB hown hb hcw
          go_wp2
          exact ⟨⟨k + 1, by omega, by go_num, f1, f3⟩, by simp [intOf]; omega⟩
        · have e : k = nn - 1 := by omega
          have hlk : (zs (turnTo z (c.word (nat lu)) k)).length = 1 + k := by
            rw [show (zs (turnTo z (c.word (nat lu)) k)).length = (turnTo z (c.word (nat lu)) k).length from List.length_map ..]
            unfold turnTo
            rw [List.length_cons, List.length_take, unhide HLA]; omega
          have hrd := hide (own_rd (l := zs (turnTo z (c.word (nat lu)) k)) (by rw [hlk]; exact unhide hown) (by rw [hlk]; unfold maxLen; omega))
          have hcp := hide (own_cap (unhide hown))
          have hof := hide (own_off (unhide hown) (D := F) (fun k hk => (P.lt (unhide S6).cd hk).2))
          have hch := hide (show chkE c (zs (turnTo z (c.word (nat lu)) k)) = 0 ∧ chkB c (zs (turnTo z (c.word (nat lu)) k)) = true from turned_chk (unhide OK) (unhide HS0) (unhide HC0) (unhide HMU) (unhide HSU) (by
            have h1 := turnTo_last (l := c.word (nat lu)) (k := k) (by rw [unhide HLA]; omega)
            rw [show (c.word (nat lu)).getD k 0 = z by rw [e]; exact unhide HZ] at h1
            exact h1))
          have S7 := hide ((unhide S6).below (unhide hb))
          have hI' : ¬ ((k : Int) + 1 < (nn : Int)) := by omega
          clear hown e hlk S6 hb
          go_wp2_with fail
          refine (unhide hCk F _ _ (unhide S7).cd (unhide S7).gl _ _ (unhide hrd) (unhide hcp) (unhide hof)).mono ?_
          rintro e w8 ⟨rfl, ho8, hC8⟩
          rw [(unhide hch).1, (unhide hch).2]
          have S8 := hide ((unhide S7).out ho8 hC8)
          clear ho8 hC8 S7 hrd hcp hof hch
          generalize chkAt c (zs (turnTo z (c.word (nat lu)) k)) = ca' at *
          go_wp2_with (go_at_call 13; refine (num_any _ _).mono ?_; rintro e w' ⟨rfl, rfl⟩)
          go_ret
          exact ⟨rfl, by rw [← unhide HB]; exact (unhide S8).b⟩
    · rw [show (givenE c.G.m c.bin lu kk == 0) = false by rw [beq_eq_false_iff_ne]; exact hfu]
      clear hfu
      go_wp2
      go_ret
      exact ⟨rfl, by rw [← unhide HB]; exact (unhide S4).b⟩
  · have hM := hide (fun wx (hx : P.Gl wx) (hBx : B ≤ wx.heap.size) => made_no P.toPn m q f d 0 0 b r wx hr h0 hx hBx)
    clear hr h0 hG hu hB
    go_enter Tryd.func10, Tryd.ntmps10
    go_wp2_with fail
    refine (unhide hM _ (unhide hGl) (by rw [unhide HB]; exact (unhide hb).size)).mono ?_
    rintro e w1 ⟨rfl, hb1⟩
    have hb2 := hide (Below.join (unhide hb) hb1)
    clear hb1
    go_wp2
    go_ret
    exact ⟨rfl, unhide hb2⟩
end Go.Proofs.YtnpkkcbadcmgkaaDoor
