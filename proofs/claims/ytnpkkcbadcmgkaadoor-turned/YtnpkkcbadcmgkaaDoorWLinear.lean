import Derived.Test.YtnpkkcbadcmgkaaDoorWSpo
import Derived.Test.YtnpkkcbadcmgkaaDoorWMade
namespace Go.Proofs.YtnpkkcbadcmgkaaDoor
open Go.RowKit Go.Deep
open Gf (Cd)

def sumF (l1 l2 : List Nat) (k : Nat) : Nat → Nat := fun i => if i < k then l1.getD i 0 ^^^ l2.getD i 0 else 0
theorem sumF_succ (l1 l2 : List Nat) (k i : Nat) : sumF l1 l2 (k + 1) i = if i = k then l1.getD k 0 ^^^ l2.getD k 0 else sumF l1 l2 k i := by
  unfold sumF
  by_cases h : i = k
  · subst h; rw [if_pos (by omega), if_pos rfl]
  · rw [if_neg h]
    by_cases h2 : i < k
    · rw [if_pos (by omega), if_pos h2]
    · rw [if_neg (by omega), if_neg h2]

set_option maxRecDepth 100000 in
set_option maxHeartbeats 1000000 in
theorem sum_any (x y : Value) (l1 l2 : List Nat) (w : World) (hx : RdN w x l1) (hy : RdN w y l2) (hl : l1.length = l2.length) (hm : l1.length ≤ 256) (h1 : ∀ a, a ∈ l1 → a < 256) (h2 : ∀ a, a ∈ l2 → a < 256) :
    Calls Tryd.prog 25 #[x, y] w fun e w' => ∃ b, e = .returned (.slice (some ⟨b, 0, none⟩) l1.length l1.length) ∧ w.heap.size ≤ b ∧ NRow w' b l1.length (fun i => (Gf.zx l1 l2).getD i 0) ∧ Below w.heap.size w w' := by
  obtain ⟨a1, cap1, rfl, -, hc1⟩ := hx
  obtain ⟨a2, cap2, rfl, -, hc2⟩ := hy
  have Hc1 : Hid (∀ i, i < l1.length → ∃ b o, a1 = some ⟨b, o, none⟩ ∧ w.cell? ⟨b, o + i, none⟩ = some (.int .i64 ((l1.getD i 0 : Nat) : Int))) := fun i hi => by
    obtain ⟨b, o, e, hcell⟩ := hc1 i (by simpa using hi)
    rw [mapN_getD] at hcell
    exact ⟨b, o, e, hcell⟩
  have Hc2 : Hid (∀ i, i < l2.length → ∃ b o, a2 = some ⟨b, o, none⟩ ∧ w.cell? ⟨b, o + i, none⟩ = some (.int .i64 ((l2.getD i 0 : Nat) : Int))) := fun i hi => by
    obtain ⟨b, o, e, hcell⟩ := hc2 i (by simpa using hi)
    rw [mapN_getD] at hcell
    exact ⟨b, o, e, hcell⟩
  have G1 := hide (getD_lt h1)
  have G2 := hide (getD_lt h2)
  have HZ := hide (fun k => zx_getD l1 l2 k hl)
  clear hc1 hc2 h1 h2
  rw [List.length_map, List.length_map]
  have hl2 : l1.length ≤ l2.length := by omega
  clear hl
  have mk := fun (wx : World) => run_make_row' (P := Tryd.prog) 41 3 (.int .i64 0) 8 Tryd.underlying41 (show (Tryd.prog.info? 3).map (fun i => (i.zero, i.size, i.bytes)) = some (some (.int .i64 0), 1, 8) by kernel_rfl) rfl .i64 .i64 l1.length (by omega) (by omega) wx
  go_enter Tryd.func25, Tryd.ntmps25
  go_wp2
  clear mk
  go_loopw [6] (fun i wr => ∃ k : Nat, k ≤ l1.length ∧ i = .int .i64 k ∧ Hid (NRow wr w.heap.size l1.length (sumF l1 l2 k)) ∧ Hid (Below w.heap.size w wr)) (fun i _ => l1.length - (intOf i).toNat)
  case atStart => exact ⟨0, by omega, rfl, hide (World.rowIs.congr (World.rowIs_made w (.int .i64 0) l1.length 3) (fun i _ => rfl)), hide ((Below.refl _ _).alloc (Nat.le_refl _) _)⟩
  case round =>
    obtain ⟨k, hk, rfl, hr, hb⟩ := hrel
    by_cases hlt : k < l1.length
    · obtain ⟨b1, o1, rfl, hcell1⟩ := unhide Hc1 k hlt
      obtain ⟨b2, o2, rfl, hcell2⟩ := unhide Hc2 k (by omega)
      have c1 : wr.cell? ⟨b1, o1 + k, none⟩ = some (.int .i64 ((l1.getD k 0 : Nat) : Int)) := by rw [(unhide hb).cell (p := ⟨b1, o1 + k, none⟩) (lt_of_cell hcell1)]; exact hcell1
      have c2 : wr.cell? ⟨b2, o2 + k, none⟩ = some (.int .i64 ((l2.getD k 0 : Nat) : Int)) := by rw [(unhide hb).cell (p := ⟨b2, o2 + k, none⟩) (lt_of_cell hcell2)]; exact hcell2
      have s1 := (unhide hr).cell (i := k) hlt
      have s2 := (unhide hr).frozen k
      have hI1 : (k : Int) < (l1.length : Int) := by omega
      have hI2 : (k : Int) < (l2.length : Int) := by omega
      have g1 := unhide G1 k
      have g2 := unhide G2 k
      have e1 : bits .xor .i64 ((l1.getD k 0 : Nat) : Int) ((l2.getD k 0 : Nat) : Int) = ((l1.getD k 0 ^^^ l2.getD k 0 : Nat) : Int) := xor_i64 _ _ (by omega) (by omega)
      have f1 := hide (NRow.set (g := sumF l1 l2 (k + 1)) (unhide hr) k (l1.getD k 0 ^^^ l2.getD k 0) (fun i _ => sumF_succ l1 l2 k i))
      have f2 := hide ((unhide hb).setCell (p := ⟨w.heap.size, k, none⟩) (Nat.le_refl _) (.int .i64 ((l1.getD k 0 ^^^ l2.getD k 0 : Nat) : Int)))
      clear hr hb hcell1 hcell2 g1 g2
      generalize l1.getD k 0 = p1 at *
      generalize l2.getD k 0 = p2 at *
      generalize sumF l1 l2 k k = old at *
      go_wp2
      refine region_tail 12 (by kernel_rfl) (by kernel_rfl) ?_
      simp only [List.take_succ_cons, List.take_zero, List.drop_succ_cons, List.drop_zero]
      repeat still_step
      refine wpStill_nil ?_
      go_wp2
      exact ⟨⟨k + 1, by omega, by go_num, f1, hide (unhide f2).drew⟩, by simp [intOf]; omega⟩
    · have e : k = l1.length := by omega
      have f1 := hide (show NRow wr w.heap.size l1.length (fun i => (Gf.zx l1 l2).getD i 0) from NRow.congr (unhide hr) (fun i hi => by
        show sumF l1 l2 k i = (Gf.zx l1 l2).getD i 0
        rw [unhide HZ]; unfold sumF; rw [if_pos (by omega)]))
      clear hr e
      go_wp2
      go_ret
      exact ⟨_, rfl, Nat.le_refl _, unhide f1, unhide hb⟩
variable {B : Nat}

theorem St.start {P : Pg B} {c : Cd} {F : Nat → Prop} {v : Value} {w w1 : World} (ls : List (Value × List Int)) (hG : P.Gl w) (hB : B = w.heap.size) (hC : P.Cod c F v w1)
    (hF : ∀ k, F k → (w.alloc (.cells #[.int .i64 c.G.m, .int .i64 c.G.q, .int .i64 c.first, .int .i64 c.delta, .int .i64 c.short, .int .i64 c.cut, .bool c.bin] 36)).heap.size ≤ k)
    (hb : Below (w.alloc (.cells #[.int .i64 c.G.m, .int .i64 c.G.q, .int .i64 c.first, .int .i64 c.delta, .int .i64 c.short, .int .i64 c.cut, .bool c.bin] 36)).heap.size (w.alloc (.cells #[.int .i64 c.G.m, .int .i64 c.G.q, .int .i64 c.first, .int .i64 c.delta, .int .i64 c.short, .int .i64 c.cut, .bool c.bin] 36)) w1)
    (hr : ∀ p, p ∈ ls → Rd w p.1 p.2) : St P c F v w.heap.size ls w w1 := by
  have hj := Below.join (box_below w c.G.m c.G.q c.first c.delta c.short c.cut c.bin) hb
  subst hB
  refine ⟨P.gl hG hj, hj.size, hj, hC, (Box.new w c.G.m c.G.q c.first c.delta c.short c.cut c.bin).below hb, fun h => ?_, fun p hp => (hr p hp).below hj, fun p hp => (hr p hp).offL (fun k hk => ?_)⟩
  · have := hF _ h
    simp at this
    omega
  · have := hF _ hk
    simp at this
    omega

theorem Wr.shape {w : World} {x : Value} {l : List Int} {b n : Nat} (h : Wr w x l b) (hl : l.length = n) : ∃ o cap, x = .slice (some ⟨b, o, none⟩) n cap ∧ n ≤ cap := by
  obtain ⟨o, cap, k, f, rfl, hcap, -⟩ := h
  exact ⟨o, cap, by rw [hl], by omega⟩
theorem nrow_wr {w : World} {b n : Nat} {L : List Nat} (h : NRow w b n (fun i => L.getD i 0)) (hl : L.length = n) (hn : n ≤ 256) : Wr w (.slice (some ⟨b, 0, none⟩) n n) (zs L) b := by
  have e : (zs L).length = n := by unfold zs; rw [List.length_map, hl]
  exact ⟨0, n, n, _, by rw [e], by omega, h, by omega, by rw [e]; unfold maxLen; omega, fun i _ => by rw [mapN_getD, Nat.zero_add]⟩
theorem St.nF {P : Pg B} {c : Cd} {F : Nat → Prop} {v : Value} {s0 : Nat} {ls : List (Value × List Int)} {w wx : World} (h : St P c F v s0 ls w wx) {b : Nat} (hb : wx.heap.size ≤ b) : ¬ F b := fun hf => by
  have := (P.lt h.cd hf).2
  omega

set_option maxHeartbeats 4000000 in
/-- Words, P6, P7. -/
theorem Linear_any (P : Pg B) (m q f d s t : Int) (b : Bool) (xu xv : Value) (lu lv : List Int) (w : World) (hG : P.Gl w) (hB : B = w.heap.size) (hu : Rd w xu lu) (hv : Rd w xv lv) :
    Calls Tryd.prog 8 #[pv m q f d s t b, xu, xv] w fun e w' => e = .returned (.bool true) ∧ Below w.heap.size w w' := by
  obtain ⟨r, hr⟩ := wrong_total m q f d s t b
  have hb := hide (box_below w m q f d s t b)
  have hGl := hide (P.gl hG ((box_below w m q f d s t b).mono (by omega)))
  have HB := hide hB
  by_cases h0 : r = 0
  · subst h0
    obtain ⟨c, rfl, rfl, rfl, rfl, rfl, rfl, rfl, m3, m8, ok⟩ := elim_r hr
    obtain ⟨hn1, hn2⟩ := Pre.nb (c := c) ⟨m3, m8, ok.f, ok.d2, ok.dn⟩
    have hK := Gf.K_le ok
    have hs := ok.s
    have hM := hide (fun wx (hx : P.Gl wx) (hBx : B ≤ wx.heap.size) => made_ok P.toPn c wx m3 m8 ok hx hBx)
    have hSz := hide (fun wx => Size_any c wx m3 m8 ok)
    have hE := hide (fun F v wx (hc : P.Cod c F v wx) (hx : P.Gl wx) x l (h1 : Rd wx x l) (h2 : CapOk x) (h3 : Off F x) => P.enc hc hx m3 m8 ok x l h1 h2 h3)
    have hCk := hide (fun F v wx (hc : P.Cod c F v wx) (hx : P.Gl wx) x l (h1 : Rd wx x l) (h2 : CapOk x) (h3 : Off F x) => P.chk hc hx m3 m8 ok x l h1 h2 h3)
    have hSt := hide (fun F v w1 (hC : P.Cod c F v w1) hF hb1 => St.start (P := P) (c := c) (F := F) (v := v) (w := w) (w1 := w1) [(xu, lu), (xv, lv)] hG hB hC hF hb1 (fun p hp => by
      rcases List.mem_cons.1 hp with rfl | hp
      · exact hu
      · rcases List.mem_cons.1 hp with rfl | hp
        · exact hv
        · cases hp))
    have OK := hide ok
    obtain ⟨au, cu, rfl⟩ : ∃ au cu, xu = .slice au lu.length cu := by obtain ⟨au, cu, e, -⟩ := hu; exact ⟨au, cu, e⟩
    obtain ⟨av, cv, rfl⟩ : ∃ av cv, xv = .slice av lv.length cv := by obtain ⟨av, cv, e, -⟩ := hv; exact ⟨av, cv, e⟩
    obtain ⟨kk, hkk⟩ : ∃ kk, kk = c.K - c.short := ⟨_, rfl⟩
    obtain ⟨nn, hnn⟩ : ∃ nn, nn = c.n - c.short - c.cut := ⟨_, rfl⟩
    have hk1 : kk ≤ 256 := by omega
    have hn3 : nn ≤ 256 := by omega
    have hkn : kk ≤ nn := by omega
    rw [← hkk, ← hnn] at hSz
    have Hkk := hide hkk
    have Hnn := hide hnn
    clear hr ok hG hB hu hv hkk hnn hK hs hn1 hn2
    go_enter Tryd.func8, Tryd.ntmps8
    go_wp2_with fail
    refine (unhide hM _ (unhide hGl) (by rw [unhide HB]; exact (unhide hb).size)).mono ?_
    rintro e w1 ⟨F, v, rfl, hC, hF, hb1⟩
    have S1 := hide (unhide hSt F v w1 hC hF hb1)
    obtain ⟨a, rfl⟩ := P.ptr hC
    clear hC hF hb1 hGl hb hSt hM
    have x0 := (unhide S1).bx.c0
    have x1 := (unhide S1).bx.c1
    have x2 := (unhide S1).bx.c2
    have x3 := (unhide S1).bx.c3
    have x4 := (unhide S1).bx.c4
    have x5 := (unhide S1).bx.c5
    have x6 := (unhide S1).bx.c6
    go_wp2_with fail
    refine (unhide hSz _).mono ?_
    rintro e w2 ⟨rfl, hb2⟩
    have S2 := hide ((unhide S1).below hb2)
    clear hb2 S1 hSz
    clear x0 x1 x2 x3 x4 x5 x6
    have x0 := (unhide S2).bx.c0
    have x1 := (unhide S2).bx.c1
    have x2 := (unhide S2).bx.c2
    have x3 := (unhide S2).bx.c3
    have x4 := (unhide S2).bx.c4
    have x5 := (unhide S2).bx.c5
    have x6 := (unhide S2).bx.c6
    go_wp2_with fail
    refine (fits_any c.G.m c.G.q c.first c.delta c.short c.cut c.bin _ lu kk w2 m3 m8 ((unhide S2).rd (_, lu) (List.mem_cons_self ..))).mono ?_
    rintro e w3 ⟨rfl, hb3⟩
    have S3 := hide ((unhide S2).below hb3)
    clear hb3 S2
    clear x0 x1 x2 x3 x4 x5 x6
    have x0 := (unhide S3).bx.c0
    have x1 := (unhide S3).bx.c1
    have x2 := (unhide S3).bx.c2
    have x3 := (unhide S3).bx.c3
    have x4 := (unhide S3).bx.c4
    have x5 := (unhide S3).bx.c5
    have x6 := (unhide S3).bx.c6
    go_wp2_with fail
    refine (fits_any c.G.m c.G.q c.first c.delta c.short c.cut c.bin _ lv kk w3 m3 m8 ((unhide S3).rd (_, lv) (List.mem_cons_of_mem _ (List.mem_cons_self ..)))).mono ?_
    rintro e w4 ⟨rfl, hb4⟩
    have S4 := hide ((unhide S3).below hb4)
    clear hb4 S3
    clear x0 x1 x2 x3 x4 x5 x6
    by_cases hfu : givenE c.G.m c.bin lu kk = 0
    · by_cases hfv : givenE c.G.m c.bin lv kk = 0
      · rw [show (givenE c.G.m c.bin lu kk == 0) = true by rw [hfu]; rfl, show (givenE c.G.m c.bin lv kk == 0) = true by rw [hfv]; rfl]
        obtain ⟨hlu, hgu⟩ := given_ok.1 hfu
        obtain ⟨hlv, hgv⟩ := given_ok.1 hfv
        have hmu := nat_msg c (l := lu) (by rw [hlu]; exact unhide Hkk) hgu
        have hmv := nat_msg c (l := lv) (by rw [hlv]; exact unhide Hkk) hgv
        have hsu := nat_sy c hgu
        have hsv := nat_sy c hgv
        have hzu : zs (nat lu) = lu := nat_map hgu
        have hzv : zs (nat lv) = lv := nat_map hgv
        have FU := hide (show givenE c.G.m c.bin lu (c.K - c.short) = 0 by rw [← unhide Hkk]; exact hfu)
        have FV := hide (show givenE c.G.m c.bin lv (c.K - c.short) = 0 by rw [← unhide Hkk]; exact hfv)
        have HLU := hide hlu
        have HLV := hide hlv
        have HMU := hide hmu
        have HMV := hide hmv
        have HSU := hide hsu
        have HSV := hide hsv
        have HZU := hide hzu
        have HZV := hide hzv
        clear hfu hfv hlu hlv hgu hgv hmu hmv hsu hsv hzu hzv
        go_wp2_with fail
        refine (copied_any _ lu w4 ((unhide S4).rd (_, lu) (List.mem_cons_self ..)) (by have := unhide HLU; omega)).mono ?_
        rintro e w5 ⟨b5, rfl, hb5, hR5, hbb⟩
        have V5 := hide (wr_of_row hR5 (by have := unhide HLU; unfold maxLen; omega))
        have N5 := hide ((unhide S4).nF hb5)
        have S5 := hide ((unhide S4).below hbb)
        clear hb5 hR5 hbb S4
        go_wp2_with fail
        refine (unhide hE F _ w5 (unhide S5).cd (unhide S5).gl _ lu (unhide V5).rd (unhide V5).cap ((unhide V5).off (unhide N5))).mono ?_
        rintro e w6 ⟨hp, ho6, hC6⟩
        obtain ⟨xa, ba, rfl, hba, hwa⟩ := encP_fit hp (unhide FU)
        have S6 := hide (((unhide S5).out ho6 hC6).add hwa.rd (Or.inr (hwa.off ((unhide S5).nF hba))))
        have hla : (zs (c.word (nat lu))).length = nn := by rw [show (zs (c.word (nat lu))).length = (c.word (nat lu)).length from List.length_map .., Gf.word_length (unhide OK) (unhide HMU)]; exact (unhide Hnn).symm
        obtain ⟨oa, ca, rfl, hca⟩ := hwa.shape hla
        have HLA := hide hla
        clear hp ho6 hC6 hba hwa hla S5 V5 N5
        go_wp2_with fail
        refine (copied_any _ lv w6 ((unhide S6).rd (_, lv) (List.mem_cons_of_mem _ (List.mem_cons_of_mem _ (List.mem_cons_self ..)))) (by have := unhide HLV; omega)).mono ?_
        rintro e w7 ⟨b7, rfl, hb7, hR7, hbb⟩
        have V7 := hide (wr_of_row hR7 (by have := unhide HLV; unfold maxLen; omega))
        have N7 := hide ((unhide S6).nF hb7)
        have S7 := hide ((unhide S6).below hbb)
        clear hb7 hR7 hbb S6
        go_wp2_with fail
        refine (unhide hE F _ w7 (unhide S7).cd (unhide S7).gl _ lv (unhide V7).rd (unhide V7).cap ((unhide V7).off (unhide N7))).mono ?_
        rintro e w8 ⟨hp, ho8, hC8⟩
        obtain ⟨xb, bb, rfl, hbb, hwb⟩ := encP_fit hp (unhide FV)
        have S8 := hide (((unhide S7).out ho8 hC8).add hwb.rd (Or.inr (hwb.off ((unhide S7).nF hbb))))
        have hlb : (zs (c.word (nat lv))).length = nn := by rw [show (zs (c.word (nat lv))).length = (c.word (nat lv)).length from List.length_map .., Gf.word_length (unhide OK) (unhide HMV)]; exact (unhide Hnn).symm
        obtain ⟨ob, cb, rfl, hcb⟩ := hwb.shape hlb
        have HLB := hide hlb
        clear hp ho8 hC8 hbb hwb hlb S7 V7 N7
        go_wp2_with fail
        have hlnu : (nat lu).length = kk := by unfold nat; rw [List.length_map]; exact unhide HLU
        have hlnv : (nat lv).length = kk := by unfold nat; rw [List.length_map]; exact unhide HLV
        have HNU := hide hlnu
        have HNV := hide hlnv
        clear hlnu hlnv
        refine (sum_any _ _ (nat lu) (nat lv) w8 (by show Rd _ _ (zs (nat lu)); rw [unhide HZU]; exact (unhide S8).rd (_, lu) (List.mem_cons_of_mem _ (List.mem_cons_of_mem _ (List.mem_cons_self ..)))) (by show Rd _ _ (zs (nat lv)); rw [unhide HZV]; exact (unhide S8).rd (_, lv) (List.mem_cons_of_mem _ (List.mem_cons_of_mem _ (List.mem_cons_of_mem _ (List.mem_cons_self ..))))) (by rw [unhide HNU, unhide HNV]) (by have := unhide HNU; omega) (el_256 m8 (unhide HMU).2) (el_256 m8 (unhide HMV).2)).mono ?_
        rintro e w9 ⟨b9, rfl, hb9, hR9, hbb⟩
        have hlz : (Gf.zx (nat lu) (nat lv)).length = (nat lu).length := Gf.zx_length (by rw [unhide HNU, unhide HNV])
        have V9 := hide (nrow_wr hR9 hlz (by have := unhide HNU; omega))
        have N9 := hide ((unhide S8).nF hb9)
        have S9 := hide ((unhide S8).below hbb)
        clear hb9 hR9 hbb S8 hlz
        go_wp2_with fail
        refine (unhide hE F _ w9 (unhide S9).cd (unhide S9).gl _ _ (unhide V9).rd (unhide V9).cap ((unhide V9).off (unhide N9))).mono ?_
        rintro e w10 ⟨hp, ho10, hC10⟩
        obtain ⟨xs, bs, rfl, hbs, hws⟩ := encP_fit hp (fit_zs (Gf.msg_zx (unhide HMU) (unhide HMV)) (zx_sy (unhide HSU) (unhide HSV)))
        rw [nat_zs, Gf.word_zx (unhide OK) (unhide HMU) (unhide HMV)] at hws
        have S10 := hide (((unhide S9).out ho10 hC10).add hws.rd (Or.inr (hws.off ((unhide S9).nF hbs))))
        clear hp ho10 hC10 hbs hws S9 V9 N9
        go_wp2_with (first | (go_at_call 13; refine (num_any _ _).mono ?_; rintro e w' ⟨rfl, rfl⟩) | fail)
        refine (sum_any _ _ (c.word (nat lu)) (c.word (nat lv)) _ ((unhide S10).rd (_, zs (c.word (nat lu))) (List.mem_cons_of_mem _ (List.mem_cons_of_mem _ (List.mem_cons_self ..)))) ((unhide S10).rd (_, zs (c.word (nat lv))) (List.mem_cons_of_mem _ (List.mem_cons_self ..))) (by rw [Gf.word_length (unhide OK) (unhide HMU), Gf.word_length (unhide OK) (unhide HMV)]) (by rw [Gf.word_length (unhide OK) (unhide HMU), ← unhide Hnn]; exact hn3) (el_256 m8 (Gf.word_el (unhide OK) (unhide HMU))) (el_256 m8 (Gf.word_el (unhide OK) (unhide HMV)))).mono ?_
        rintro e w11 ⟨b11, rfl, hb11, hR11, hbb⟩
        have V11 := hide (nrow_wr hR11 (Gf.zx_length (by rw [Gf.word_length (unhide OK) (unhide HMU), Gf.word_length (unhide OK) (unhide HMV)])) (by rw [Gf.word_length (unhide OK) (unhide HMU), ← unhide Hnn]; exact hn3))
        have S11 := hide ((unhide S10).below hbb)
        clear hb11 hR11 hbb S10
        go_wp2_with fail
        refine (Same_any _ _ _ _ _ ((unhide S11).rd (_, zs (Gf.zx (c.word (nat lu)) (c.word (nat lv)))) (List.mem_cons_self ..)) (unhide V11).rd).mono ?_
        rintro e w12 ⟨rfl, hb12⟩
        rw [show (zs (Gf.zx (c.word (nat lu)) (c.word (nat lv))) == zs (Gf.zx (c.word (nat lu)) (c.word (nat lv)))) = true by simp]
        have S12 := hide ((unhide S11).below hb12)
        clear hb12 S11 V11
        have hI1 : (lu.length : Int) ≤ (nn : Int) := by have := unhide HLU; omega
        have hI2 : ¬ ((nn : Int) < (lu.length : Int)) := by omega
        have hI3 : (lu.length : Int) ≤ (ca : Int) := by omega
        have hI4 : lu.length ≤ ca := by omega
        go_wp2_with fail
        have hta : Rd w12 (.slice (some ⟨ba, oa, none⟩) lu.length ca) lu := by
          have h1 := (unhide S12).rd (_, zs (c.word (nat lu))) (List.mem_cons_of_mem _ (List.mem_cons_of_mem _ (List.mem_cons_self ..)))
          have h2 : Rd w12 (.slice (some ⟨ba, oa, none⟩) (zs (c.word (nat lu))).length ca) (zs (c.word (nat lu))) := by rw [unhide HLA]; exact h1
          have h3 := Rd.take lu.length ca h2 (by rw [unhide HLA]; omega)
          rw [zs_take, unhide HLU, unhide Hkk, Gf.word_take (unhide OK) (unhide HMU), unhide HZU, ← unhide Hkk, ← unhide HLU] at h3
          exact h3
        refine (Same_any _ _ _ _ _ hta ((unhide S12).rd (_, lu) (List.mem_cons_of_mem _ (List.mem_cons_of_mem _ (List.mem_cons_of_mem _ (List.mem_cons_self ..)))))).mono ?_
        rintro e w13 ⟨rfl, hb13⟩
        rw [show (lu == lu) = true by simp]
        have S13 := hide ((unhide S12).below hb13)
        clear hb13 S12 hta
        go_wp2_with fail
        refine (copied_any _ (zs (c.word (nat lu))) w13 ((unhide S13).rd (_, zs (c.word (nat lu))) (List.mem_cons_of_mem _ (List.mem_cons_of_mem _ (List.mem_cons_self ..)))) (by rw [unhide HLA]; omega)).mono ?_
        rintro e w14 ⟨b14, rfl, hb14, hR14, hbb⟩
        have V14 : Hid (Wr w14 (.slice (some ⟨b14, 0, none⟩) nn nn) (zs (c.word (nat lu))) b14) := by
          have h1 := wr_of_row hR14 (by rw [unhide HLA]; unfold maxLen; omega)
          rw [unhide HLA] at h1
          exact h1
        rw [unhide HLA]
        have N14 := hide ((unhide S13).nF hb14)
        have S14 := hide ((unhide S13).below hbb)
        clear hb14 hR14 hbb S13
        go_wp2_with fail
        refine (unhide hCk F _ w14 (unhide S14).cd (unhide S14).gl _ _ (unhide V14).rd (unhide V14).cap ((unhide V14).off (unhide N14))).mono ?_
        rintro e w15 ⟨rfl, ho15, hC15⟩
        have hcw := chk_word (unhide OK) (unhide HMU) (unhide HSU)
        rw [hcw.1, hcw.2]
        have S15 := hide ((unhide S14).out ho15 hC15)
        clear ho15 hC15 S14 V14 N14 hcw
        generalize chkAt c (zs (c.word (nat lu))) = ca' at *
        go_wp2_with (go_at_call 13; refine (num_any _ _).mono ?_; rintro e w' ⟨rfl, rfl⟩)
        go_ret
        exact ⟨rfl, by rw [← unhide HB]; exact (unhide S15).b⟩
      · rw [show (givenE c.G.m c.bin lu kk == 0) = true by rw [hfu]; rfl, show (givenE c.G.m c.bin lv kk == 0) = false by rw [beq_eq_false_iff_ne]; exact hfv]
        clear hfu hfv
        go_wp2
        go_ret
        exact ⟨rfl, by rw [← unhide HB]; exact (unhide S4).b⟩
    · rw [show (givenE c.G.m c.bin lu kk == 0) = false by rw [beq_eq_false_iff_ne]; exact hfu]
      clear hfu
      generalize (givenE c.G.m c.bin lv kk == 0) = bb at *
      go_wp2
      go_ret
      exact ⟨rfl, by rw [← unhide HB]; exact (unhide S4).b⟩
  · have hM := hide (fun wx (hx : P.Gl wx) (hBx : B ≤ wx.heap.size) => made_no P.toPn m q f d s t b r wx hr h0 hx hBx)
    clear hr h0 hG hu hv hB
    go_enter Tryd.func8, Tryd.ntmps8
    go_wp2_with fail
    refine (unhide hM _ (unhide hGl) (by rw [unhide HB]; exact (unhide hb).size)).mono ?_
    rintro e w1 ⟨rfl, hb1⟩
    have hb2 := hide (Below.join (unhide hb) hb1)
    clear hb1
    go_wp2
    go_ret
    exact ⟨rfl, unhide hb2⟩
end Go.Proofs.YtnpkkcbadcmgkaaDoor
