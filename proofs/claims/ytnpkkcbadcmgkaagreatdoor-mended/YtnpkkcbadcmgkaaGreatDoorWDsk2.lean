import Derived.Test.YtnpkkcbadcmgkaaGreatDoorWDsk1
namespace Go.Proofs.YtnpkkcbadcmgkaaGreatDoor
open Go.RowKit Go.Deep
open Gf (Cd)

/-- those below k of which R holds. -/
def flt (R : Nat → Bool) (k : Nat) : List Nat := (List.range k).filter R
theorem flt_len (R : Nat → Bool) (k : Nat) : (flt R k).length = Gf.cnt R k := rfl
theorem flt_yes {R : Nat → Bool} {k : Nat} (h : R k = true) : flt R (k + 1) = flt R k ++ [k] := by
  unfold flt; rw [List.range_succ, List.filter_append]; simp [h]
theorem flt_no {R : Nat → Bool} {k : Nat} (h : R k = false) : flt R (k + 1) = flt R k := by
  unfold flt; rw [List.range_succ, List.filter_append]; simp [h]

/-- the room: the places found stand behind oP. -/
def PlIs (c : Cd) (R : Nat → Bool) (k : Nat) (r r' : Nat → Nat) : Prop := (∀ i, i < oP c → r' i = r i) ∧ ∀ j, j < Gf.cnt R k → r' (oP c + j) = (flt R k).getD j 0

/-- what findPlaces answers. -/
def PlaP (c : Cd) (b bp bl bd bm : Nat) (lk : Int) (l z : List Nat) (μ L : Nat) (r : Nat → Nat) (w : World) (e : Ending) (w' : World) : Prop :=
  Out (Dsk bd bm) w w' ∧ ((IsErr e ∧ Gf.NoNear c l z ∧ ∃ ls dg r', DkAt c b bp bl bd bm lk ls dg r' w') ∨
    (e = .returned .nilIface ∧ L ≤ Gf.cnt (Gf.root c.G c.n L (fun i => r (oL c + i))) c.n ∧ ∃ r', DkAt c b bp bl bd bm lk μ L r' w' ∧ PlIs c (Gf.root c.G c.n L (fun i => r (oL c + i))) c.n r r'))

set_option maxRecDepth 100000 in
set_option maxHeartbeats 16000000 in
theorem findPlaces_any (c : Cd) (b bp bl bd bm : Nat) (lk : Int) (l z : List Nat) (μ L : Nat) (r : Nat → Nat) (w : World) (m3 : 3 ≤ c.G.m) (m8 : c.G.m ≤ 8) (hn : c.n < 256) (hcm : Gf.Came c l z) (h : DkAt c b bp bl bd bm lk μ L r w)
    (hB : Gf.BmC c l z (c.delta - 1) L (fun i => r (oL c + i)) (fun i => r (oE c + i))) (hS : Sen 11 w) (hne : ¬ Dsk bd bm 11) :
    Calls Tryz.prog 96 #[.pointer (some ⟨bd, 0, none⟩)] w (PlaP c b bp bl bd bm lk l z μ L r w) := by
  obtain ⟨o1, o2, o3, o4, o5, o6⟩ := lay_le c hcm.ok.d2
  have hd2 := hcm.ok.d2
  have hdn := hcm.ok.dn
  have hLD := hB.Lk
  have hrN : rN c < 4096 := by omega
  have hle := Gf.root_le (G := c.G) (n := c.n) (L := L) (Nat.le_refl _) hB.one (fun i hi => hB.lE i (by omega))
  have HLE := hide (fun k (hk : k < c.n) (hr : Gf.root c.G c.n L (fun i => r (oL c + i)) k = true) => show Gf.cnt (Gf.root c.G c.n L (fun i => r (oL c + i))) k < L from by
    have h1 := Gf.cnt_add (Gf.root c.G c.n L (fun i => r (oL c + i))) (k + 1) (c.n - (k + 1))
    have e : k + 1 + (c.n - (k + 1)) = c.n := by omega
    rw [e, Gf.cnt_succ, hr] at h1
    simp at h1
    omega)
  have HCM := hide hcm
  have HB := hide hB
  obtain ⟨ae, hae⟩ := hS
  have HAE := hide (fun wx (ho : Out (Dsk bd bm) w wx) => ho.cell hae hne)
  have K0 := hide h
  have P0 := hide (show PlIs c (Gf.root c.G c.n L (fun i => r (oL c + i))) 0 r r from ⟨fun _ _ => rfl, fun j hj => absurd hj (Nat.not_lt_zero j)⟩)
  have x14 := h.x14
  have hL1 : (L : Int) + 1 ≤ (c.delta : Int) := by omega
  have hL0 : (0 : Int) ≤ (L : Int) + 1 := by omega
  have hLt : ((L : Int) + 1).toNat = L + 1 := by omega
  clear hcm hB hae hne h hle
  go_enter Tryz.func96, Tryz.ntmps96
  go_wp2
  go_loopw [3, 4, 10] (fun f _ i wr => ∃ (k : Nat) (r' : Nat → Nat), k ≤ c.n ∧ i = .int .i64 k ∧ f = .int .i64 ((Gf.cnt (Gf.root c.G c.n L (fun i => r (oL c + i))) k : Nat) : Int) ∧ Hid (DkAt c b bp bl bd bm lk μ L r' wr) ∧ Hid (PlIs c (Gf.root c.G c.n L (fun i => r (oL c + i))) k r r') ∧ Hid (Out (Dsk bd bm) w wr)) (fun _ _ i _ => c.n - (intOf i).toNat)
  case atStart => exact ⟨0, r, by omega, rfl, rfl, K0, P0, hide (Out.of_below (Below.refl _ _))⟩
  case round =>
    clear K0 P0 x14
    obtain ⟨k, r', hk, rfl, rfl, hK, hP, ho⟩ := hrel
    by_cases hkl : k < c.n
    · have hI : (k : Int) < (c.n : Int) := by omega
      have iN := Up.ne wr
      have y0 := fun n : Up wr => n.cell (unhide hK).x0
      have y1 := fun n : Up wr => n.cell (unhide hK).x1
      have y17 := fun n : Up wr => n.cell (unhide hK).x17
      have y22 := fun n : Up wr => n.cell (unhide hK).x22
      have hE := hide (fun n : Up wr => delem_any c b bp bl bd bm k lk μ L r' n.v m3 m8 ((unhide hK).up n) hn hkl)
      have hV := hide (fun n : Up wr => value_any c.G b bp bl bm (oL c) (L + 1) c.delta (c.G.pw (c.n - 1 - k)) (fun i => r' (oL c + i)) n.v m3 m8 ((unhide hK).up n).fa (c.G.El_pw _) (fun i hi => (unhide hK).el _ (by omega)) (by omega) (fun i hi => ((unhide hK).up n).at (by omega)))
      have hvE : Gf.hv c.G (fun i => r' (oL c + i)) (c.G.pw (c.n - 1 - k)) (L + 1) = Gf.hv c.G (fun i => r (oL c + i)) (c.G.pw (c.n - 1 - k)) (L + 1) := Gf.hv_congr _ (fun i hi => (unhide hP).1 _ (by omega))
      rw [hvE] at hV
      have hroot : Gf.root c.G c.n L (fun i => r (oL c + i)) k = (Gf.hv c.G (fun i => r (oL c + i)) (c.G.pw (c.n - 1 - k)) (L + 1) == 0) := rfl
      have HR := hide hroot
      have hvb := sz256 m3 m8 (show c.G.El (Gf.hv c.G (fun i => r (oL c + i)) (c.G.pw (c.n - 1 - k)) (L + 1)) by rw [← hvE]; exact Gf.hv_El _ (fun i hi => (unhide hK).el _ (by omega)))
      have q1 : IntKind.i64.wrap ((L : Int) + 1) = (L : Int) + 1 := wrap_small (by omega) (by omega)
      clear hvE hroot
      generalize Gf.hv c.G (fun i => r (oL c + i)) (c.G.pw (c.n - 1 - k)) (L + 1) = y at *
      generalize c.G.pw (c.n - 1 - k) = x at *
      have hcb : Gf.cnt (Gf.root c.G c.n L (fun i => r (oL c + i))) k ≤ 256 := by
        have : (flt (Gf.root c.G c.n L (fun i => r (oL c + i))) k).length ≤ k := by unfold flt; have := List.length_filter_le (Gf.root c.G c.n L (fun i => r (oL c + i))) (List.range k); simpa using this
        rw [flt_len] at this
        omega
      go_wp2
      refine wide_all (by kernel_rfl) (by kernel_rfl) ?_
      repeat (quiet_step (first | (go_at_call 112; exact Calls.wide_of_drew (unhide hE ‹_›)) | (go_at_call 111; exact Calls.wide_of (unhide hV ‹_›))))
      refine wpQuiet_nil ?_
      rintro _ ⟨d1, rfl⟩
      have K3 := hide ((unhide hK).up d1)
      have O3 := hide (Up.out (unhide ho) d1)
      clear y0 y1 y17 y22 q1 hK ho iN hE hV
      generalize d1.v = w2 at *
      clear d1
      by_cases hy : y = 0
      · have hrt : Gf.root c.G c.n L (fun i => r (oL c + i)) k = true := by rw [unhide HR, hy]; rfl
        have hlt := unhide HLE k hkl hrt
        have hcs : Gf.cnt (Gf.root c.G c.n L (fun i => r (oL c + i))) (k + 1) = Gf.cnt (Gf.root c.G c.n L (fun i => r (oL c + i))) k + 1 := by rw [Gf.cnt_succ, hrt]; rfl
        have HCS := hide hcs
        have HRT := hide hrt
        clear hcs hrt HR
        subst hy
        generalize hcq : Gf.cnt (Gf.root c.G c.n L (fun i => r (oL c + i))) k = q at *
        have HCQ := hide hcq
        clear hcq
        have z20 := (unhide K3).x20
        have hqI : (q : Int) < ((c.delta - 1 : Nat) : Int) := by omega
        have s1 := (unhide K3).at (show oP c + q < rN c by omega)
        have s2 := (unhide K3).fzm (oP c + q)
        have kE : c.G.El k := by
          show k < 2 ^ c.G.m
          have h1 : c.n = Gf.ordN c.G.m := rfl
          have h2 := (ordN_bd m3 m8).2.2
          omega
        have f1 := hide ((unhide K3).set (oP c + q) k kE)
        have f2 := hide (show Out (Dsk bd bm) w (w2.setCell ⟨bm, oP c + q, none⟩ (.int .i64 (k : Int))) from (unhide O3).set (p := ⟨bm, oP c + q, none⟩) (Or.inr rfl) _)
        have fP := hide (show PlIs c (Gf.root c.G c.n L (fun i => r (oL c + i))) (k + 1) r (fun i => if i = oP c + q then k else r' i) from ⟨fun i hi => by
            show (if i = oP c + q then k else r' i) = r i
            rw [if_neg (by omega)]; exact (unhide hP).1 i hi, fun j hj => by
            show (if oP c + j = oP c + q then k else r' (oP c + j)) = _
            rw [unhide HCS] at hj
            rw [flt_yes (unhide HRT), List.getD_eq_getElem?_getD]
            by_cases e : j = q
            · subst e
              rw [if_pos rfl, List.getElem?_append_right (by rw [flt_len, unhide HCQ]; exact Nat.le_refl _), flt_len, unhide HCQ, Nat.sub_self]; rfl
            · rw [if_neg (by omega), (unhide hP).2 j (by rw [unhide HCQ]; omega), List.getD_eq_getElem?_getD, List.getElem?_append_left (by rw [flt_len, unhide HCQ]; omega)]⟩)
        clear K3 O3 hP kE HRT HCQ
        generalize r' (oP c + q) = xx at *
        go_wp2
        exact ⟨⟨k + 1, _, by omega, by go_num, by rw [unhide HCS]; go_num, f1, fP, f2⟩, by simp [intOf]; omega⟩
      · have hrf : Gf.root c.G c.n L (fun i => r (oL c + i)) k = false := by rw [unhide HR, beq_eq_false_iff_ne]; exact hy
        have hyI : ((y : Int) == 0) = false := by rw [beq_eq_false_iff_ne]; omega
        have HCS := hide (show Gf.cnt (Gf.root c.G c.n L (fun i => r (oL c + i))) (k + 1) = Gf.cnt (Gf.root c.G c.n L (fun i => r (oL c + i))) k by rw [Gf.cnt_succ, hrf]; rfl)
        have fP := hide (show PlIs c (Gf.root c.G c.n L (fun i => r (oL c + i))) (k + 1) r r' from ⟨(unhide hP).1, fun j hj => by
          rw [unhide HCS] at hj
          rw [flt_no hrf]; exact (unhide hP).2 j hj⟩)
        clear hrf HR hP
        go_wp2
        exact ⟨⟨k + 1, r', by omega, by go_num, by rw [unhide HCS], K3, fP, O3⟩, by simp [intOf]; omega⟩
    · have e : k = c.n := by omega
      subst e
      have y22 := (unhide hK).x22
      have a1 := unhide HAE wr (unhide ho)
      by_cases hlt : Gf.cnt (Gf.root c.G c.n L (fun i => r (oL c + i))) c.n < L
      · have hlI : ((Gf.cnt (Gf.root c.G c.n L (fun i => r (oL c + i))) c.n : Nat) : Int) < (L : Int) := by omega
        have hNo := hide (Gf.no_places (unhide HCM) (unhide HB) hlt)
        clear hP HLE HB
        generalize Gf.cnt (Gf.root c.G c.n L (fun i => r (oL c + i))) c.n = q at *
        go_wp2
        go_ret
        exact ⟨unhide ho, Or.inl ⟨⟨_, rfl⟩, unhide hNo, _, _, _, unhide hK⟩⟩
      · have hlI : (L : Int) ≤ ((Gf.cnt (Gf.root c.G c.n L (fun i => r (oL c + i))) c.n : Nat) : Int) := by omega
        have hge := hide (show L ≤ Gf.cnt (Gf.root c.G c.n L (fun i => r (oL c + i))) c.n by omega)
        clear HLE HB hlt
        obtain ⟨q, hq⟩ : ∃ q, q = Gf.cnt (Gf.root c.G c.n L (fun i => r (oL c + i))) c.n := ⟨_, rfl⟩
        rw [← hq] at hlI ⊢
        clear hq
        go_wp2
        go_ret
        exact ⟨unhide ho, Or.inr ⟨rfl, unhide hge, r', unhide hK, unhide hP⟩⟩
end Go.Proofs.YtnpkkcbadcmgkaaGreatDoor

namespace Go.Proofs.YtnpkkcbadcmgkaaGreatDoor
open Go.RowKit Go.Deep
open Gf (Cd)

/-- what is missing at a place. -/
def missF (c : Cd) (L : Nat) (lo S : Nat → Nat) (p : Nat) : Nat :=
  c.G.mul (Gf.hv c.G (fun i => Gf.conv c.G lo S i) (c.G.pw (c.n - 1 - p)) L) (ginv c.G (c.G.mul (Gf.slo c.G lo (c.G.pw (c.n - 1 - p)) (L + 1)) (c.G.pw (c.first * (c.n - 1 - p)))))
/-- the room once k coefficients of the evaluator stand. -/
def evM (c : Cd) (lo S r : Nat → Nat) (k i : Nat) : Nat := if oV c ≤ i ∧ i < oV c + k then Gf.conv c.G lo S (i - oV c) else r i
theorem evM_step (c : Cd) (lo S r : Nat → Nat) (k i : Nat) : evM c lo S r (k + 1) i = if i = oV c + k then Gf.conv c.G lo S k else evM c lo S r k i := by
  unfold evM
  by_cases e : i = oV c + k
  · subst e
    rw [if_pos (by omega), if_pos rfl]
    have : oV c + k - oV c = k := by omega
    rw [this]
  · rw [if_neg e]
    by_cases h : oV c ≤ i ∧ i < oV c + k
    · rw [if_pos (by omega), if_pos h]
    · rw [if_neg (by omega), if_neg h]
/-- the room once the first places P are mended. -/
def mpM (c : Cd) (ms r : Nat → Nat) (P : List Nat) (i : Nat) : Nat := if i < c.n ∧ P.contains i = true then r i ^^^ ms i else r i
theorem mpM_step (c : Cd) (ms r : Nat → Nat) (P : List Nat) (p : Nat) (hp : p < c.n) (hnp : P.contains p = false) (i : Nat) : mpM c ms r (P ++ [p]) i = if i = p then r p ^^^ ms p else mpM c ms r P i := by
  unfold mpM
  by_cases e : i = p
  · subst e
    rw [if_pos ⟨hp, by simp⟩, if_pos rfl]
  · rw [if_neg e]
    have hc : (P ++ [p]).contains i = P.contains i := by
      cases h : P.contains i
      · cases h2 : (P ++ [p]).contains i
        · rfl
        · have h3 := List.contains_iff_mem.1 h2
          rcases List.mem_append.1 h3 with h4 | h4
          · rw [List.contains_iff_mem.2 h4] at h; cases h
          · exact absurd (List.mem_singleton.1 h4) e
      · exact List.contains_iff_mem.2 (List.mem_append_left _ (List.contains_iff_mem.1 h))
    rw [hc]
theorem flt_at {R : Nat → Bool} {n k : Nat} (hk : k < (flt R n).length) : (flt R n).getD k 0 < n ∧ R ((flt R n).getD k 0) = true ∧ ((flt R n).take k).contains ((flt R n).getD k 0) = false := by
  have hg : (flt R n).getD k 0 = (flt R n)[k] := by rw [List.getD_eq_getElem?_getD, List.getElem?_eq_getElem hk]; rfl
  have hm : (flt R n)[k] ∈ flt R n := List.getElem_mem hk
  have hm2 := List.mem_filter.1 hm
  rw [hg]
  refine ⟨List.mem_range.1 hm2.1, hm2.2, ?_⟩
  cases h : ((flt R n).take k).contains (flt R n)[k]
  · rfl
  · exfalso
    have h2 := List.contains_iff_mem.1 h
    obtain ⟨i, hi, he⟩ := List.mem_iff_getElem.1 h2
    have hi' : i < k := by rw [List.length_take] at hi; omega
    have hnd : (flt R n).Nodup := List.nodup_range.filter R
    rw [List.getElem_take] at he
    have := (List.getElem_inj (h₀ := by omega) (h₁ := hk) hnd).1 he
    omega
theorem flt_take_succ {R : Nat → Bool} {n k : Nat} (hk : k < (flt R n).length) : (flt R n).take (k + 1) = (flt R n).take k ++ [(flt R n).getD k 0] := by
  rw [List.take_succ_eq_append_getElem hk, List.getD_eq_getElem?_getD, List.getElem?_eq_getElem hk]; rfl

set_option maxRecDepth 100000 in
set_option maxHeartbeats 16000000 in
theorem mendPlaces_any (c : Cd) (b bp bl bd bm : Nat) (lk : Int) (l z : List Nat) (μ L : Nat) (r : Nat → Nat) (w : World) (m3 : 3 ≤ c.G.m) (m8 : c.G.m ≤ 8) (hn : c.n < 256) (hcm : Gf.Came c l z) (h : DkAt c b bp bl bd bm lk μ L r w)
    (hB : Gf.BmC c l z (c.delta - 1) L (fun i => r (oL c + i)) (fun i => r (oE c + i))) (hge : L ≤ Gf.cnt (Gf.root c.G c.n L (fun i => r (oL c + i))) c.n)
    (hpl : ∀ j, j < L → r (oP c + j) = (flt (Gf.root c.G c.n L (fun i => r (oL c + i))) c.n).getD j 0) (hsum : ∀ j, j < c.delta - 1 → r (oS c + j) = Gf.sum0 c l j) (hfull : ∀ p, p < c.n → r p = Gf.full0 c l p) :
    Calls Tryz.prog 97 #[.pointer (some ⟨bd, 0, none⟩)] w fun e w' => e = .returned .nilIface ∧ Out (Dsk bd bm) w w' ∧ ∃ r', DkAt c b bp bl bd bm lk μ L r' w' ∧ Gf.Done c l z L (fun i => r (oL c + i)) r' := by
  obtain ⟨o1, o2, o3, o4, o5, o6⟩ := lay_le c hcm.ok.d2
  have hd2 := hcm.ok.d2
  have hdn := hcm.ok.dn
  have hfn := hcm.ok.f
  have hLD := hB.Lk
  have hrN : rN c < 4096 := by omega
  have hle := Gf.root_le (G := c.G) (n := c.n) (L := L) (Nat.le_refl _) hB.one (fun i hi => hB.lE i (by omega))
  have hPl : (flt (Gf.root c.G c.n L (fun i => r (oL c + i))) c.n).length = L := by rw [flt_len]; omega
  have HSL := hide (fun p (hp : p < c.n) (hr : Gf.root c.G c.n L (fun i => r (oL c + i)) p = true) => Gf.slope_ne (G := c.G) (n := c.n) (L := L) (lo := fun i => r (oL c + i)) (Nat.le_refl _) hB.one (fun i hi => hB.lE i (by omega)) hge hp hr)
  have hSE : ∀ j, c.G.El (Gf.sum0 c l j) := fun j => Gf.sum0_El (z := z) hcm j
  have HCE := hide (fun j (hj : j ≤ c.delta - 1) => show c.G.El (Gf.conv c.G (fun i => r (oL c + i)) (Gf.sum0 c l) j) from Gf.conv_El _ (fun i hi => h.el _ (by omega)))
  -- what comes of it
  have HFIN := hide (show ∀ r', (∀ i, i < rN c → r' i = mpM c (missF c L (fun i => r (oL c + i)) (Gf.sum0 c l)) (evM c (fun i => r (oL c + i)) (Gf.sum0 c l) r L) (flt (Gf.root c.G c.n L (fun i => r (oL c + i))) c.n) i) → Gf.Done c l z L (fun i => r (oL c + i)) r' from fun r' hr' => by
    have hms : ∀ p, c.G.El (missF c L (fun i => r (oL c + i)) (Gf.sum0 c l) p) := fun p => c.G.El_mul (Gf.hv_El _ fun i hi => Gf.conv_El _ fun j hj => h.el _ (by omega)) _
    have hat : ∀ p, p < c.n → r' p = Gf.full0 c l p ^^^ (if Gf.root c.G c.n L (fun i => r (oL c + i)) p = true then missF c L (fun i => r (oL c + i)) (Gf.sum0 c l) p else 0) := fun p hp => by
      rw [hr' p (by omega)]
      have hev : evM c (fun i => r (oL c + i)) (Gf.sum0 c l) r L p = Gf.full0 c l p := by unfold evM; rw [if_neg (by omega)]; exact hfull p hp
      unfold mpM
      rw [hev]
      cases hr : Gf.root c.G c.n L (fun i => r (oL c + i)) p
      · rw [if_neg (fun hh => by
          have := (List.mem_filter.1 (List.contains_iff_mem.1 hh.2)).2
          rw [hr] at this; cases this), if_neg (by simp), Nat.xor_zero]
      · rw [if_pos ⟨hp, List.contains_iff_mem.2 (List.mem_filter.2 ⟨List.mem_range.2 hp, hr⟩)⟩, if_pos rfl]
    have hmE : ∀ p, p < c.n → c.G.El (if Gf.root c.G c.n L (fun i => r (oL c + i)) p = true then missF c L (fun i => r (oL c + i)) (Gf.sum0 c l) p else 0) := fun p _ => by
      split
      · exact hms p
      · exact c.G.El_zero
    have hS := Gf.mended_sums (G := c.G) (n := c.n) (first := c.first) (miss := fun p => if Gf.root c.G c.n L (fun i => r (oL c + i)) p = true then missF c L (fun i => r (oL c + i)) (Gf.sum0 c l) p else 0) (Nat.le_refl _) (fun j _ => hSE j) hB.one hB.lE hB.sup hLD hB.z hge hmE (fun p _ hr => by
      show (if _ then _ else _) = 0
      rw [hr, if_neg (by simp)]) (fun p hp hr => by
      show c.G.mul (if _ then _ else _) _ = _
      rw [if_pos hr]
      have hsl : c.G.El (Gf.slo c.G (fun i => r (oL c + i)) (c.G.pw (c.n - 1 - p)) (L + 1)) := Gf.hv_El _ fun i hi => Gf.hv_El _ fun j hj => h.el _ (by omega)
      have hF0 : c.G.mul (Gf.slo c.G (fun i => r (oL c + i)) (c.G.pw (c.n - 1 - p)) (L + 1)) (c.G.pw (c.first * (c.n - 1 - p))) ≠ 0 := fun e0 => by
        rcases (c.G.mul_eq_zero hsl (c.G.El_pw _)).1 e0 with a | a
        · exact unhide HSL p hp hr a
        · exact c.G.pw_ne_zero _ a
      have hFE := c.G.El_mul hsl (c.G.pw (c.first * (c.n - 1 - p)))
      unfold missF
      rw [c.G.mul_assoc (Gf.hv_El _ fun i hi => Gf.conv_El _ fun j hj => h.el _ (by omega)) (ginv_El _ _) hFE, c.G.mul_comm (ginv_El _ _) hFE, ginv_mul hFE hF0, c.G.mul_one (Gf.hv_El _ fun i hi => Gf.conv_El _ fun j hj => h.el _ (by omega))])
    refine ⟨fun p hp => by rw [hat p hp]; exact c.G.El_xor (Gf.full0_El (z := z) hcm p) (hmE p hp), fun j hj => ?_, fun p hp hr => by rw [hat p hp, hr, if_neg (by simp), Nat.xor_zero]⟩
    rw [Gf.hv_congr _ (fun p hp => hat p hp), Gf.hv_xor _ (fun p _ => Gf.full0_El (z := z) hcm p) hmE, ← hS j hj]
    exact Nat.xor_self _)
  have HPL := hide hpl
  have HPN := hide hPl
  have HSUM := hide hsum
  have H := hide h
  have iN := Up.ne w
  have y19 := fun n : Up w => n.cell (unhide H).x19
  have y22 := fun n : Up w => n.cell (unhide H).x22
  obtain ⟨D, hD⟩ : ∃ D, c.delta - 1 = D := ⟨_, rfl⟩
  rw [hD] at y19
  have HD := hide hD
  have hLD' : L ≤ D := by omega
  have hLDi : (L : Int) ≤ (D : Int) := by omega
  have hL0i : (0 : Int) ≤ (L : Int) := by omega
  have hLti : ((L : Int)).toNat = L := by omega
  have hDb : D < 256 := by omega
  have hcd : c.delta = D + 1 := by omega
  have HCD := hide hcd
  have hL1 : (L : Int) + 1 ≤ (c.delta : Int) := by omega
  have hL10 : (0 : Int) ≤ (L : Int) + 1 := by omega
  have hL1t : ((L : Int) + 1).toNat = L + 1 := by omega
  have q0 : IntKind.i64.wrap ((L : Int) + 1) = (L : Int) + 1 := wrap_small (by omega) (by omega)
  have o2' : oS c + D = oL c := by omega
  have o3' : oL c + D + 1 = oE c := by omega
  have o5' : oV c + D = oP c := by omega
  have o6' : oP c + D = rN c := by omega
  have o4' : oE c + D + 1 = oV c := by omega
  clear hcm h hB hge hpl hsum hfull hle hSE hD hcd o2 o3 o5 o6 o4 hLD hd2 hdn hPl
  go_enter Tryz.func97, Tryz.ntmps97
  go_wp2
  refine wide_all (by kernel_rfl) (by kernel_rfl) ?_
  repeat (quiet_step (fail))
  refine wpQuiet_nil ?_
  rintro _ ⟨d0, rfl⟩
  have K0 := hide (((unhide H).up d0).congr (r' := evM c (fun i => r (oL c + i)) (Gf.sum0 c l) r 0) (fun i _ => by unfold evM; rw [if_neg (by omega)]))
  have O0 := hide (Out.of_below (D := Dsk bd bm) d0.be)
  have HEl := hide (unhide H).el
  clear y19 y22 iN H
  generalize d0.v = w0 at *
  clear d0
  go_wp2
  go_loopw [4, 22] (fun _ i wr => ∃ k : Nat, k ≤ L ∧ i = .int .i64 k ∧ Hid (DkAt c b bp bl bd bm lk μ L (evM c (fun i => r (oL c + i)) (Gf.sum0 c l) r k) wr) ∧ Hid (Out (Dsk bd bm) w wr)) (fun _ i _ => L - (intOf i).toNat)
  case atStart => exact ⟨0, by omega, rfl, K0, O0⟩
  case round =>
    clear K0 O0
    obtain ⟨k, hk, rfl, hK, ho⟩ := hrel
    by_cases hkl : k < L
    · have hI : (k : Int) < (L : Int) := by omega
      have iN := Up.ne wr
      have y0 := fun n : Up wr => n.cell (unhide hK).x0
      have y1 := fun n : Up wr => n.cell (unhide hK).x1
      have y17 := fun n : Up wr => n.cell (unhide hK).x17
      have y16 := fun n : Up wr => n.cell (unhide hK).x16
      rw [unhide HD] at y16
      have eL : ∀ i, i ≤ k → evM c (fun i => r (oL c + i)) (Gf.sum0 c l) r k (oL c + i) = r (oL c + i) := fun i hi => by unfold evM; rw [if_neg (by omega)]
      have eS : ∀ i, i ≤ k → evM c (fun i => r (oL c + i)) (Gf.sum0 c l) r k (oS c + i) = Gf.sum0 c l i := fun i hi => by
        unfold evM
        rw [if_neg (by omega)]; exact unhide HSUM i (by have := unhide HD; omega)
      have hP := hide (fun n : Up wr => productAt_any c.G b bp bl bm (oL c) c.delta c.delta bm (oS c) D D k (fun i => evM c (fun i => r (oL c + i)) (Gf.sum0 c l) r k (oL c + i)) (fun j => evM c (fun i => r (oL c + i)) (Gf.sum0 c l) r k (oS c + j)) n.v m3 m8 ((unhide hK).up n).fa (fun i hi => (unhide hK).el _ (by omega)) (fun i hi => (unhide hK).el _ (by omega)) (by have := unhide HCD; omega) (by omega) (by have := unhide HCD; omega) (by omega) (fun i hi => ((unhide hK).up n).at (by omega)) (fun i hi => ((unhide hK).up n).at (by omega)))
      rw [Gf.conv_congr eL eS] at hP
      have yE := unhide HCE k (by have := unhide HD; omega)
      have f1 := hide (fun n : Up wr => show DkAt c b bp bl bd bm lk μ L (evM c (fun i => r (oL c + i)) (Gf.sum0 c l) r (k + 1)) (n.v.setCell ⟨bm, oV c + k, none⟩ (.int .i64 ((Gf.conv c.G (fun i => r (oL c + i)) (Gf.sum0 c l) k : Nat) : Int))) from
        (((unhide hK).up n).set (oV c + k) _ yE).congr (fun i _ => (evM_step c (fun i => r (oL c + i)) (Gf.sum0 c l) r k i).symm))
      have f2 := hide (fun (n : Up wr) v => show Out (Dsk bd bm) w (n.v.setCell ⟨bm, oV c + k, none⟩ v) from (Up.out (unhide ho) n).set (p := ⟨bm, oV c + k, none⟩) (Or.inr rfl) v)
      have t1 := hide (fun n : Up wr => n.cell ((unhide hK).at (show oV c + k < rN c by omega)))
      have t2 := hide (fun n : Up wr => ((unhide hK).up n).fzm (oV c + k))
      clear eL eS yE hK ho
      generalize Gf.conv c.G (fun i => r (oL c + i)) (Gf.sum0 c l) k = y at *
      go_wp2
      refine wide_tail 16 (by kernel_rfl) (by kernel_rfl) ?_
      simp only [List.take_succ_cons, List.take_zero, List.drop_succ_cons, List.drop_zero]
      repeat (quiet_step (exact Calls.wide_of (unhide hP ‹_›)))
      refine wpQuiet_nil ?_
      intro d
      have s1 := unhide t1 d
      have s2 := unhide t2 d
      have g1 := hide (unhide f1 d)
      have g2 := hide (unhide f2 d)
      clear t1 t2 f1 f2 hP y0 y1 y17 y16 iN
      go_wp2
      exact ⟨⟨k + 1, by omega, by go_num, g1, unhide g2 _⟩, by simp [intOf]; omega⟩
    · have e : k = L := by omega
      subst e
      have iN := Up.ne wr
      have y20 := fun n : Up wr => n.cell (unhide hK).x20
      rw [unhide HD] at y20
      have y22 := fun n : Up wr => n.cell (unhide hK).x22
      go_wp2
      refine wide_all (by kernel_rfl) (by kernel_rfl) ?_
      repeat (quiet_step (fail))
      refine wpQuiet_nil ?_
      rintro _ ⟨d1, rfl⟩
      have K1 := hide (((unhide hK).up d1).congr (r' := mpM c (missF c k (fun i => r (oL c + i)) (Gf.sum0 c l)) (evM c (fun i => r (oL c + i)) (Gf.sum0 c l) r k) ((flt (Gf.root c.G c.n k (fun i => r (oL c + i))) c.n).take 0)) (fun i _ => by unfold mpM; rw [if_neg (by simp)]))
      have O1 := hide (Up.out (unhide ho) d1)
      clear y20 y22 iN hK ho
      generalize d1.v = w1 at *
      clear d1
      go_wp2
      have HLOE := hide (fun i (hi : i < k + 1) => unhide HEl (oL c + i) (by omega))
      have HCE2 := hide (fun i (hi : i < k) => unhide HCE i (by have := unhide HD; omega))
      go_loopw [6, 7, 8, 9, 10, 53] (fun _ _ _ _ _ i wr => ∃ j : Nat, j ≤ k ∧ i = .int .i64 j ∧ Hid (DkAt c b bp bl bd bm lk μ k (mpM c (missF c k (fun i => r (oL c + i)) (Gf.sum0 c l)) (evM c (fun i => r (oL c + i)) (Gf.sum0 c l) r k) ((flt (Gf.root c.G c.n k (fun i => r (oL c + i))) c.n).take j)) wr) ∧ Hid (Out (Dsk bd bm) w wr)) (fun _ _ _ _ _ i _ => k - (intOf i).toNat)
      case atStart => exact ⟨0, by omega, rfl, K1, O1⟩
      case round =>
        clear K1 O1
        obtain ⟨j, hj, rfl, hK, ho⟩ := hrel
        by_cases hjl : j < k
        · have hI : (j : Int) < (k : Int) := by omega
          obtain ⟨hpn, hpr, hpc⟩ := flt_at (R := Gf.root c.G c.n k (fun i => r (oL c + i))) (n := c.n) (k := j) (by rw [unhide HPN]; exact hjl)
          have hts := flt_take_succ (R := Gf.root c.G c.n k (fun i => r (oL c + i))) (n := c.n) (k := j) (by rw [unhide HPN]; exact hjl)
          have hpv := unhide HPL j hjl
          have sP := (unhide hK).at (show oP c + j < rN c by omega)
          have eP : mpM c (missF c k (fun i => r (oL c + i)) (Gf.sum0 c l)) (evM c (fun i => r (oL c + i)) (Gf.sum0 c l) r k) ((flt (Gf.root c.G c.n k (fun i => r (oL c + i))) c.n).take j) (oP c + j) = (flt (Gf.root c.G c.n k (fun i => r (oL c + i))) c.n).getD j 0 := by
            unfold mpM evM
            rw [if_neg (fun hh => by omega), if_neg (by omega)]; exact hpv
          rw [eP] at sP
          obtain ⟨p, hp⟩ : ∃ p, p = (flt (Gf.root c.G c.n k (fun i => r (oL c + i))) c.n).getD j 0 := ⟨_, rfl⟩
          rw [← hp] at hpn hpr hpc hts sP
          have hsl0 := unhide HSL p hpn hpr
          have HTS := hide hts
          have HPC := hide hpc
          clear hp hpv eP hts hpc hpr
          -- the numbers of this round
          have xE : c.G.El (c.G.pw (c.n - 1 - p)) := c.G.El_pw _
          have slE : c.G.El (Gf.slo c.G (fun i => r (oL c + i)) (c.G.pw (c.n - 1 - p)) (k + 1)) := Gf.hv_El _ fun i hi => Gf.hv_El _ fun j hj => unhide HLOE j (by omega)
          have pwE : c.G.El (c.G.pw (c.first * (c.n - 1 - p))) := c.G.El_pw _
          have faE : c.G.El (c.G.mul (Gf.slo c.G (fun i => r (oL c + i)) (c.G.pw (c.n - 1 - p)) (k + 1)) (c.G.pw (c.first * (c.n - 1 - p)))) := c.G.El_mul slE _
          have vaE : c.G.El (Gf.hv c.G (fun i => Gf.conv c.G (fun i => r (oL c + i)) (Gf.sum0 c l) i) (c.G.pw (c.n - 1 - p)) k) := Gf.hv_El _ (unhide HCE2)
          have msE : c.G.El (missF c k (fun i => r (oL c + i)) (Gf.sum0 c l) p) := c.G.El_mul vaE _
          have hfm : c.first * (c.n - 1 - p) < 1000000 := by
            have h1 : c.first * (c.n - 1 - p) ≤ 255 * 255 := Nat.mul_le_mul (by omega) (by omega)
            omega
          -- the room of this round
          have eF : mpM c (missF c k (fun i => r (oL c + i)) (Gf.sum0 c l)) (evM c (fun i => r (oL c + i)) (Gf.sum0 c l) r k) ((flt (Gf.root c.G c.n k (fun i => r (oL c + i))) c.n).take j) p = evM c (fun i => r (oL c + i)) (Gf.sum0 c l) r k p := by
            unfold mpM
            rw [if_neg (fun hh => by rw [unhide HPC] at hh; cases hh.2)]
          have eL := hide (show ∀ i, i < k + 1 → mpM c (missF c k (fun i => r (oL c + i)) (Gf.sum0 c l)) (evM c (fun i => r (oL c + i)) (Gf.sum0 c l) r k) ((flt (Gf.root c.G c.n k (fun i => r (oL c + i))) c.n).take j) (oL c + i) = r (oL c + i) from fun i hi => by
            unfold mpM evM
            rw [if_neg (fun hh => by omega), if_neg (by omega)])
          have eV := hide (show ∀ i, i < k → mpM c (missF c k (fun i => r (oL c + i)) (Gf.sum0 c l)) (evM c (fun i => r (oL c + i)) (Gf.sum0 c l) r k) ((flt (Gf.root c.G c.n k (fun i => r (oL c + i))) c.n).take j) (oV c + i) = Gf.conv c.G (fun i => r (oL c + i)) (Gf.sum0 c l) i from fun i hi => by
            unfold mpM evM
            rw [if_neg (fun hh => by omega), if_pos (by omega)]
            have : oV c + i - oV c = i := by omega
            rw [this])
          have hNX := hide (show ∀ i, mpM c (missF c k (fun i => r (oL c + i)) (Gf.sum0 c l)) (evM c (fun i => r (oL c + i)) (Gf.sum0 c l) r k) ((flt (Gf.root c.G c.n k (fun i => r (oL c + i))) c.n).take (j + 1)) i = if i = p then evM c (fun i => r (oL c + i)) (Gf.sum0 c l) r k p ^^^ missF c k (fun i => r (oL c + i)) (Gf.sum0 c l) p else mpM c (missF c k (fun i => r (oL c + i)) (Gf.sum0 c l)) (evM c (fun i => r (oL c + i)) (Gf.sum0 c l) r k) ((flt (Gf.root c.G c.n k (fun i => r (oL c + i))) c.n).take j) i from fun i => by
            rw [unhide HTS]; exact mpM_step c _ _ _ p hpn (unhide HPC) i)
          have hMs := hide (show missF c k (fun i => r (oL c + i)) (Gf.sum0 c l) p = c.G.mul (Gf.hv c.G (fun i => Gf.conv c.G (fun i => r (oL c + i)) (Gf.sum0 c l) i) (c.G.pw (c.n - 1 - p)) k) (ginv c.G (c.G.mul (Gf.slo c.G (fun i => r (oL c + i)) (c.G.pw (c.n - 1 - p)) (k + 1)) (c.G.pw (c.first * (c.n - 1 - p))))) from rfl)
          have hSv := hide (fun f (hf : ∀ i, i < k + 1 → f i = r (oL c + i)) => show Gf.slo c.G f (c.G.pw (c.n - 1 - p)) (k + 1) = Gf.slo c.G (fun i => r (oL c + i)) (c.G.pw (c.n - 1 - p)) (k + 1) from Gf.hv_congr _ fun i hi => Gf.hv_congr _ fun j hj => hf j (by omega))
          have hVv := hide (fun f (hf : ∀ i, i < k → f i = Gf.conv c.G (fun i => r (oL c + i)) (Gf.sum0 c l) i) => show Gf.hv c.G f (c.G.pw (c.n - 1 - p)) k = Gf.hv c.G (fun i => Gf.conv c.G (fun i => r (oL c + i)) (Gf.sum0 c l) i) (c.G.pw (c.n - 1 - p)) k from Gf.hv_congr _ hf)
          generalize mpM c (missF c k (fun i => r (oL c + i)) (Gf.sum0 c l)) (evM c (fun i => r (oL c + i)) (Gf.sum0 c l) r k) ((flt (Gf.root c.G c.n k (fun i => r (oL c + i))) c.n).take j) = rj at *
          generalize evM c (fun i => r (oL c + i)) (Gf.sum0 c l) r k p = fp at *
          have hSl := hide (unhide hSv (fun i => rj (oL c + i)) (unhide eL))
          have hVl := hide (unhide hVv (fun i => rj (oV c + i)) (unhide eV))
          clear hSv hVv eL eV HTS HPC
          have hE := hide (fun wx (hx : DkAt c b bp bl bd bm lk μ k rj wx) => delem_any c b bp bl bd bm p lk μ k rj wx m3 m8 hx hn hpn)
          have hX := hide (fun wx (hx : DkAt c b bp bl bd bm lk μ k rj wx) => exponent_any c b bp bl bd bm p lk μ k rj wx hx hn hpn)
          have hW := hide (fun wx (hx : FieldAt c.G.m c.G.q b bp bl wx) => fpower_any c.G.m c.G.q b bp bl (c.first * (c.n - 1 - p)) wx m3 m8 c.G.isF hx hfm)
          have hpq : Gf.pw c.G.m c.G.q (c.first * (c.n - 1 - p)) = c.G.pw (c.first * (c.n - 1 - p)) := rfl
          rw [hpq] at hW
          clear hpq
          have hSC := hide (fun wx (hx : DkAt c b bp bl bd bm lk μ k rj wx) => slope_any c.G b bp bl bm (oL c) (k + 1) c.delta (c.G.pw (c.n - 1 - p)) (fun i => rj (oL c + i)) wx m3 m8 hx.fa xE (fun i hi => hx.el _ (by omega)) (by omega) (fun i hi => hx.at (by omega)))
          rw [unhide hSl] at hSC
          have hVC := hide (fun wx (hx : DkAt c b bp bl bd bm lk μ k rj wx) => value_any c.G b bp bl bm (oV c) k D (c.G.pw (c.n - 1 - p)) (fun i => rj (oV c + i)) wx m3 m8 hx.fa xE (fun i hi => hx.el _ (by omega)) (by omega) (fun i hi => hx.at (by omega)))
          rw [unhide hVl] at hVC
          have hT := hide (fun i j wx (hi : c.G.El i) (hj : c.G.El j) (hx : FieldAt c.G.m c.G.q b bp bl wx) => ftimes_drew c.G.m c.G.q b bp bl i j wx m3 m8 c.G.isF hx hi hj)
          have hT1 := hide (fun wx hx => unhide hT _ _ wx slE pwE hx)
          have hIv := hide (fun wx (hx : FieldAt c.G.m c.G.q b bp bl wx) => finv_drew c.G b bp bl _ wx m3 m8 hx faE)
          have hT2 := hide (fun wx hx => unhide hT _ _ wx vaE (ginv_El c.G (c.G.mul (Gf.slo c.G (fun i => r (oL c + i)) (c.G.pw (c.n - 1 - p)) (k + 1)) (c.G.pw (c.first * (c.n - 1 - p))))) hx)
          have hq1 : Gf.mul c.G.m c.G.q (Gf.slo c.G (fun i => r (oL c + i)) (c.G.pw (c.n - 1 - p)) (k + 1)) (c.G.pw (c.first * (c.n - 1 - p))) = c.G.mul (Gf.slo c.G (fun i => r (oL c + i)) (c.G.pw (c.n - 1 - p)) (k + 1)) (c.G.pw (c.first * (c.n - 1 - p))) := rfl
          rw [hq1] at hT1
          have hq2 : Gf.mul c.G.m c.G.q (Gf.hv c.G (fun i => Gf.conv c.G (fun i => r (oL c + i)) (Gf.sum0 c l) i) (c.G.pw (c.n - 1 - p)) k) (ginv c.G (c.G.mul (Gf.slo c.G (fun i => r (oL c + i)) (c.G.pw (c.n - 1 - p)) (k + 1)) (c.G.pw (c.first * (c.n - 1 - p))))) = missF c k (fun i => r (oL c + i)) (Gf.sum0 c l) p := rfl
          rw [hq2] at hT2
          have fpE : c.G.El fp := by rw [← eF]; exact (unhide hK).el _ (by omega)
          have hPlus := hide (fun wx => fplus_any (.pointer (some ⟨b, 0, none⟩)) fp (missF c k (fun i => r (oL c + i)) (Gf.sum0 c l) p) wx (sz256 m3 m8 fpE) (sz256 m3 m8 msE))
          have hyE := c.G.El_xor fpE msE
          have HYE := hide hyE
          have sF := hide (fun wx (hx : DkAt c b bp bl bd bm lk μ k rj wx) => show wx.cell? ⟨bm, p, none⟩ = some (.int .i64 (fp : Int)) by rw [hx.at (show p < rN c by omega), eF])
          have q1 : IntKind.i64.wrap ((c.first : Int) * ((c.n - 1 - p : Nat) : Int)) = ((c.first * (c.n - 1 - p) : Nat) : Int) := by
            rw [← Int.natCast_mul, wrap_small (by omega) (by omega)]
          have hpI : (p : Int) < (c.n : Int) := by omega
          clear hT hq1 hq2 slE pwE faE vaE msE fpE hyE xE eF hSl hVl hMs hsl0
          generalize missF c k (fun i => r (oL c + i)) (Gf.sum0 c l) p = ms at *
          generalize ginv c.G (c.G.mul (Gf.slo c.G (fun i => r (oL c + i)) (c.G.pw (c.n - 1 - p)) (k + 1)) (c.G.pw (c.first * (c.n - 1 - p)))) = gi at *
          generalize c.G.mul (Gf.slo c.G (fun i => r (oL c + i)) (c.G.pw (c.n - 1 - p)) (k + 1)) (c.G.pw (c.first * (c.n - 1 - p))) = fa at *
          generalize Gf.slo c.G (fun i => r (oL c + i)) (c.G.pw (c.n - 1 - p)) (k + 1) = sl at *
          generalize Gf.hv c.G (fun i => Gf.conv c.G (fun i => r (oL c + i)) (Gf.sum0 c l) i) (c.G.pw (c.n - 1 - p)) k = va at *
          generalize c.G.pw (c.first * (c.n - 1 - p)) = pf at *
          generalize c.first * (c.n - 1 - p) = fx at *
          generalize c.G.pw (c.n - 1 - p) = x at *
          generalize c.n - 1 - p = ex at *
          -- the element
          go_wp2_with fail
          refine (unhide hE wr (unhide hK)).mono ?_
          rintro e w2 ⟨rfl, dd, hw2⟩
          have K2 := hide (show DkAt c b bp bl bd bm lk μ k rj w2 by rw [hw2]; exact (unhide hK).heap rfl)
          have O2 := hide (show Out (Dsk bd bm) w w2 by rw [hw2]; exact (unhide ho).trans (Out.of_below (below_of_drewN _ _ _)))
          clear hw2 dd hK ho sP
          go_wp2
          -- the slope
          have iN := Up.ne w2
          have y0 := fun n : Up w2 => n.cell (unhide K2).x0
          have y1 := fun n : Up w2 => n.cell (unhide K2).x1
          have y17 := fun n : Up w2 => n.cell (unhide K2).x17
          have y22 := fun n : Up w2 => n.cell (unhide K2).x22
          have hc1 := hide (fun n : Up w2 => unhide hSC n.v ((unhide K2).up n))
          refine wide_all (by kernel_rfl) (by kernel_rfl) ?_
          repeat (quiet_step (exact Calls.wide_of (unhide hc1 ‹_›)))
          refine wpQuiet_nil ?_
          rintro _ ⟨d2, rfl⟩
          have K3 := hide ((unhide K2).up d2)
          have O3 := hide (Up.out (unhide O2) d2)
          clear y0 y1 y17 y22 hc1 iN K2 O2 hSC
          generalize d2.v = w3 at *
          clear d2
          go_wp2
          -- the factor
          have iN := Up.ne w3
          have y3 := fun n : Up w3 => n.cell (unhide K3).x3
          have y5 := fun n : Up w3 => n.cell (unhide K3).x5
          have y7 := fun n : Up w3 => n.cell (unhide K3).x7
          have hc1 := hide (fun n : Up w3 => unhide hX n.v ((unhide K3).up n))
          have hc2 := hide (fun n : Up w3 => unhide hW n.v ((unhide K3).up n).fa)
          have hc3 := hide (fun n : Up w3 => unhide hT1 n.v ((unhide K3).up n).fa)
          refine wide_all (by kernel_rfl) (by kernel_rfl) ?_
          repeat (quiet_step (first | (go_at_call 116; exact Calls.wide_of_same (unhide hc1 ‹_›)) | (go_at_call 61; exact Calls.wide_of_drew (unhide hc2 ‹_›)) | (go_at_call 57; exact Calls.wide_of_drew (unhide hc3 ‹_›))))
          refine wpQuiet_nil ?_
          rintro _ ⟨d3, rfl⟩
          have K4 := hide ((unhide K3).up d3)
          have O4 := hide (Up.out (unhide O3) d3)
          clear y3 y5 y7 hc1 hc2 hc3 iN K3 O3 hX hW hT1 q1
          generalize d3.v = w4 at *
          clear d3
          go_wp2
          -- what is missing
          have iN := Up.ne w4
          have y0 := fun n : Up w4 => n.cell (unhide K4).x0
          have y1 := fun n : Up w4 => n.cell (unhide K4).x1
          have y3 := fun n : Up w4 => n.cell (unhide K4).x3
          have y4 := fun n : Up w4 => n.cell (unhide K4).x4
          have hc1 := hide (fun n : Up w4 => unhide hVC n.v ((unhide K4).up n))
          have hc2 := hide (fun n : Up w4 => unhide hIv n.v ((unhide K4).up n).fa)
          have hc3 := hide (fun n : Up w4 => unhide hT2 n.v ((unhide K4).up n).fa)
          refine wide_all (by kernel_rfl) (by kernel_rfl) ?_
          repeat (quiet_step (first | (go_at_call 111; exact Calls.wide_of (unhide hc1 ‹_›)) | (go_at_call 84; exact Calls.wide_of_drew (unhide hc2 ‹_›)) | (go_at_call 57; exact Calls.wide_of_drew (unhide hc3 ‹_›))))
          refine wpQuiet_nil ?_
          rintro _ ⟨d4, rfl⟩
          have K5 := hide ((unhide K4).up d4)
          have O5 := hide (Up.out (unhide O4) d4)
          clear y0 y1 y3 y4 hc1 hc2 hc3 iN K4 O4 hVC hIv hT2
          generalize d4.v = w5 at *
          clear d4
          go_wp2
          -- it is added
          have iN := Up.ne w5
          have y2 := fun n : Up w5 => n.cell (unhide K5).x2
          have y14 := fun n : Up w5 => n.cell (unhide K5).x14
          have yF := fun n : Up w5 => n.cell (unhide sF w5 (unhide K5))
          have hc1 := hide (fun n : Up w5 => unhide hPlus n.v)
          refine wide_tail 18 (by kernel_rfl) (by kernel_rfl) ?_
          simp only [List.take_succ_cons, List.take_zero, List.drop_succ_cons, List.drop_zero]
          repeat (quiet_step (exact Calls.wide_of_same (unhide hc1 ‹_›)))
          refine wpQuiet_nil ?_
          intro d5
          have s1 := yF d5
          have s2 := ((unhide K5).up d5).fzm p
          have g1 := hide (show DkAt c b bp bl bd bm lk μ k (mpM c (missF c k (fun i => r (oL c + i)) (Gf.sum0 c l)) (evM c (fun i => r (oL c + i)) (Gf.sum0 c l) r k) ((flt (Gf.root c.G c.n k (fun i => r (oL c + i))) c.n).take (j + 1))) (d5.v.setCell ⟨bm, p, none⟩ (.int .i64 ((fp ^^^ ms : Nat) : Int))) from
            (((unhide K5).up d5).set p _ (unhide HYE)).congr (fun i _ => (unhide hNX i).symm))
          have g2 := hide (show Out (Dsk bd bm) w (d5.v.setCell ⟨bm, p, none⟩ (.int .i64 ((fp ^^^ ms : Nat) : Int))) from (Up.out (unhide O5) d5).set (p := ⟨bm, p, none⟩) (Or.inr rfl) _)
          clear y2 y14 yF hc1 iN K5 O5 hPlus hNX HYE
          generalize fp ^^^ ms = yy at *
          go_wp2
          exact ⟨⟨j + 1, by omega, by go_num, g1, g2⟩, by simp [intOf]; omega⟩
        · have e : j = k := by omega
          subst e
          have f1 := hide (unhide HFIN (mpM c (missF c j (fun i => r (oL c + i)) (Gf.sum0 c l)) (evM c (fun i => r (oL c + i)) (Gf.sum0 c l) r j) ((flt (Gf.root c.G c.n j (fun i => r (oL c + i))) c.n).take j)) (fun i _ => by
            rw [List.take_of_length_le (by rw [unhide HPN]; exact Nat.le_refl _)]))
          clear HFIN HCE HCE2 HLOE HEl HSL HPL HPN
          generalize mpM c (missF c j (fun i => r (oL c + i)) (Gf.sum0 c l)) (evM c (fun i => r (oL c + i)) (Gf.sum0 c l) r j) ((flt (Gf.root c.G c.n j (fun i => r (oL c + i))) c.n).take j) = rj at *
          go_wp2
          go_ret
          exact ⟨rfl, unhide ho, rj, unhide hK, unhide f1⟩
end Go.Proofs.YtnpkkcbadcmgkaaGreatDoor
