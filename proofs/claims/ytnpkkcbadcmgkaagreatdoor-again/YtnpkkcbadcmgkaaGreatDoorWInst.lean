import Derived.Test.YtnpkkcbadcmgkaaGreatDoorWChkM
import Derived.Test.YtnpkkcbadcmgkaaGreatDoorWDk
namespace Go.Proofs.YtnpkkcbadcmgkaaGreatDoor
open Go.RowKit Go.Deep
open Gf (Cd)

theorem checkRange_ok (k v a b : Int) (w : World) (h1 : a ≤ v) (h2 : v ≤ b) :
    Calls Tryz.prog 52 #[.int .i64 k, .int .i64 v, .int .i64 a, .int .i64 b] w fun e w' => e = .returned .nilIface ∧ w' = w := by
  go_enter Tryz.func52, Tryz.ntmps52
  go_wp2
  go_ret
  exact ⟨rfl, rfl⟩
theorem checkRange_bad (k v a b : Int) (gs : List Nat) (w : World) (L : Laid gs w) (hR : 7 ∈ gs) (h : v < a ∨ b < v) :
    Calls Tryz.prog 52 #[.int .i64 k, .int .i64 v, .int .i64 a, .int .i64 b] w (FltP 1 k w) := by
  obtain ⟨ae, hae⟩ := L.so _ hR
  clear L hR
  by_cases h1 : v < a
  · clear h
    go_enter Tryz.func52, Tryz.ntmps52
    go_wp2_with fail
    refine (paramFault_any _ _ _ _).mono ?_
    rintro e w2 ⟨y, rfl, hf, hb⟩
    have HFl := hide hf
    have HB := hide hb
    clear hf hb
    go_wp2
    go_ret
    exact ⟨_, rfl, unhide HFl, unhide HB⟩
  · have h2 : b < v := by omega
    clear h
    go_enter Tryz.func52, Tryz.ntmps52
    go_wp2_with fail
    refine (paramFault_any _ _ _ _).mono ?_
    rintro e w2 ⟨y, rfl, hf, hb⟩
    have HFl := hide hf
    have HB := hide hb
    clear hf hb
    go_wp2
    go_ret
    exact ⟨_, rfl, unhide HFl, unhide HB⟩

theorem pbox_below (w : World) (m q f d s t : Int) (bin : Bool) : Below w.heap.size w (w.alloc (.cells #[.int .i64 m, .int .i64 q, .int .i64 f, .int .i64 d, .int .i64 s, .int .i64 t, .bool bin] 48)) := (Below.refl _ _).alloc (Nat.le_refl _) _

theorem rts_pos {c : Cd} (ok : Pre c) : 0 < c.rts.length := by
  have h := Gf.root_mem (c := c) (j := c.first) (Nat.le_refl _) (by have := ok.d2; omega)
  exact List.length_pos_of_mem h

/-- newCodec refuses: the parameter r. -/
def INo (r : Int) (w : World) (e : Ending) (w' : World) : Prop := ∃ x, e = .returned (.tuple #[.pointer none, x]) ∧ Flt 1 r x w' ∧ Below w.heap.size w w'

set_option maxHeartbeats 1000000 in
theorem newC_field (k m q f d s t : Int) (b : Bool) (gs : List Nat) (w : World) (L : Laid gs w) (h : NoF k m q) :
    Calls Tryz.prog 35 #[pv m q f d s t b] w (INo k w) := by
  have HB0 := hide (pbox_below w m q f d s t b)
  have HN := hide (new_bad k m q gs _ (L.below (unhide HB0)) h)
  clear L h
  go_enter Tryz.func35, Tryz.ntmps35
  go_wp2_with fail
  refine (unhide HN).mono ?_
  rintro e w1 ⟨c, rfl, hb, hF⟩
  have HB := hide (Below.join (unhide HB0) hb)
  have HF := hide (hF _ hb)
  clear hb hF
  go_wp2_with fail
  refine (unhide HF).mono ?_
  rintro e w2 ⟨x, rfl, hf, hb2⟩
  have HC := hide hf
  have HB2 := hide (Below.join (unhide HB) hb2)
  clear hf hb2
  go_wp2
  go_ret2
  exact ⟨_, rfl, unhide HC, unhide HB2⟩

set_option maxHeartbeats 2000000 in
theorem newC_first (G : Gf.Fd) (f d s t : Int) (b : Bool) (gs : List Nat) (w : World) (L : Laid gs w) (hR : 7 ∈ gs) (m3 : 3 ≤ G.m) (m8 : G.m ≤ 8) (h : f < 0 ∨ (G.n : Int) ≤ f) :
    Calls Tryz.prog 35 #[pv G.m G.q f d s t b] w (INo 3 w) := by
  have HB0 := hide (pbox_below w G.m G.q f d s t b)
  have HX0 := hide (PBox.new w G.m G.q f d s t b)
  have HL := hide L
  obtain ⟨hn1, hn2, _⟩ := ordN_bd m3 m8
  have hGn : (G.n : Int) = (Gf.ordN G.m : Int) := rfl
  rw [hGn] at h
  have Hh := hide h
  clear L hGn h
  go_enter Tryz.func35, Tryz.ntmps35
  go_wp2_with fail
  refine (new_yes2 G.m G.q _ m3 m8 G.isF).mono ?_
  rintro e w1 ⟨fb, bp, bl, rfl, hb, hf, hl0, hl1, hl2⟩
  have HB1 := hide (Below.join (unhide HB0) hb)
  have HX1 := hide ((unhide HX0).below hb)
  have HL1 := hide ((unhide HL).below (unhide HB1))
  have HA := hide hf
  have HM := hide (show w.heap.size ≤ fb ∧ w.heap.size ≤ bp ∧ w.heap.size ≤ bl from ⟨Nat.le_trans (unhide HB0).size hl0, Nat.le_trans (unhide HB0).size hl1, Nat.le_trans (unhide HB0).size hl2⟩)
  have y0 := (unhide HX1).c0
  have y1 := (unhide HX1).c1
  have y2 := (unhide HX1).c2
  have y3 := (unhide HX1).c3
  have y4 := (unhide HX1).c4
  have y5 := (unhide HX1).c5
  have y6 := (unhide HX1).c6
  clear hb hf hl0 hl1 hl2 HX0 HB0 HL
  go_wp2_with fail
  refine (funits_any G.m G.q fb bp bl _ (unhide HA)).mono ?_
  rintro e w' ⟨rfl, hww⟩
  obtain rfl := hww.symm
  have h := unhide Hh
  go_wp2_with fail
  refine (checkRange_bad 3 _ _ _ gs _ (unhide HL1) hR (by omega)).mono ?_
  rintro e w3 ⟨x, rfl, hfl, hb3⟩
  obtain ⟨fb3, rfl, f0, f1⟩ := hfl
  have HF3 := hide (show Flt 1 3 (.iface 83 (.pointer (some ⟨fb3, 0, none⟩))) w3 from ⟨fb3, rfl, f0, f1⟩)
  have HB3 := hide (Below.join (unhide HB1) hb3)
  clear hb3 f0 f1
  go_wp2
  go_ret2
  exact ⟨_, rfl, unhide HF3, unhide HB3⟩

set_option maxHeartbeats 2000000 in
theorem newC_delta (G : Gf.Fd) (f d s t : Int) (b : Bool) (gs : List Nat) (w : World) (L : Laid gs w) (hR : 7 ∈ gs) (m3 : 3 ≤ G.m) (m8 : G.m ≤ 8) (h0 : 0 ≤ f) (h1 : f < (G.n : Int)) (h : d < 2 ∨ (G.n : Int) < d) :
    Calls Tryz.prog 35 #[pv G.m G.q f d s t b] w (INo 4 w) := by
  have HB0 := hide (pbox_below w G.m G.q f d s t b)
  have HX0 := hide (PBox.new w G.m G.q f d s t b)
  have HL := hide L
  obtain ⟨hn1, hn2, _⟩ := ordN_bd m3 m8
  have hGn : (G.n : Int) = (Gf.ordN G.m : Int) := rfl
  rw [hGn] at h h1
  have Hh := hide h
  clear L hGn h
  go_enter Tryz.func35, Tryz.ntmps35
  go_wp2_with fail
  refine (new_yes2 G.m G.q _ m3 m8 G.isF).mono ?_
  rintro e w1 ⟨fb, bp, bl, rfl, hb, hf, hl0, hl1, hl2⟩
  have HB1 := hide (Below.join (unhide HB0) hb)
  have HX1 := hide ((unhide HX0).below hb)
  have HL1 := hide ((unhide HL).below (unhide HB1))
  have HA := hide hf
  have HM := hide (show w.heap.size ≤ fb ∧ w.heap.size ≤ bp ∧ w.heap.size ≤ bl from ⟨Nat.le_trans (unhide HB0).size hl0, Nat.le_trans (unhide HB0).size hl1, Nat.le_trans (unhide HB0).size hl2⟩)
  have y0 := (unhide HX1).c0
  have y1 := (unhide HX1).c1
  have y2 := (unhide HX1).c2
  have y3 := (unhide HX1).c3
  have y4 := (unhide HX1).c4
  have y5 := (unhide HX1).c5
  have y6 := (unhide HX1).c6
  clear hb hf hl0 hl1 hl2 HX0 HB0 HL
  go_wp2_with fail
  refine (funits_any G.m G.q fb bp bl _ (unhide HA)).mono ?_
  rintro e w' ⟨rfl, hww⟩
  obtain rfl := hww.symm
  go_wp2_with fail
  refine (checkRange_ok 3 _ _ _ _ ?_ ?_).mono ?_
  all_goals first | omega | skip
  rintro e w' ⟨rfl, hww⟩
  obtain rfl := hww.symm
  have h := unhide Hh
  go_wp2_with fail
  refine (checkRange_bad 4 _ _ _ gs _ (unhide HL1) hR (by omega)).mono ?_
  rintro e w3 ⟨x, rfl, hfl, hb3⟩
  obtain ⟨fb3, rfl, f0, f1⟩ := hfl
  have HF3 := hide (show Flt 1 4 (.iface 83 (.pointer (some ⟨fb3, 0, none⟩))) w3 from ⟨fb3, rfl, f0, f1⟩)
  have HB3 := hide (Below.join (unhide HB1) hb3)
  clear hb3 f0 f1
  go_wp2
  go_ret2
  exact ⟨_, rfl, unhide HF3, unhide HB3⟩

set_option maxHeartbeats 4000000 in
theorem newC_k (c : Cd) (s t : Int) (gs : List Nat) (w : World) (L : Laid gs w) (_hR : 7 ∈ gs) (hM : 0 ∈ gs) (ok : Pre c) (h : c.K < 1) :
    Calls Tryz.prog 35 #[pv c.G.m c.G.q c.first c.delta s t c.bin] w (INo 4 w) := by
  have HB0 := hide (pbox_below w c.G.m c.G.q c.first c.delta s t c.bin)
  have HX0 := hide (PBox.new w c.G.m c.G.q c.first c.delta s t c.bin)
  have HL := hide L
  have OK := hide ok
  have m3 := ok.m3
  have m8 := ok.m8
  have hf1 := ok.f
  have hd1 := ok.d2
  have hd2 := ok.dn
  have hr1 := rts_pos ok
  obtain ⟨hn1, hn2⟩ := ok.nb
  have hGn : Gf.ordN c.G.m = c.n := rfl
  have hK := Gf.K_add c
  have hKI : (c.n : Int) - (c.rts.length : Int) = (c.K : Int) := by omega
  have HK := hide hK
  have hk0 : c.K = 0 := by omega
  have hk1 : ((c.K : Int) == 0) = true := by rw [hk0]; rfl
  clear h hk0
  clear L ok hK
  go_enter Tryz.func35, Tryz.ntmps35
  go_wp2_with fail
  refine (new_yes2 c.G.m c.G.q _ m3 m8 c.G.isF).mono ?_
  rintro e w1 ⟨fb, bp, bl, rfl, hb, hf, hl0, hl1, hl2⟩
  have HB1 := hide (Below.join (unhide HB0) hb)
  have HX1 := hide ((unhide HX0).below hb)
  have HL1 := hide ((unhide HL).below (unhide HB1))
  have HA := hide hf
  have HM := hide (show w.heap.size ≤ fb ∧ w.heap.size ≤ bp ∧ w.heap.size ≤ bl from ⟨Nat.le_trans (unhide HB0).size hl0, Nat.le_trans (unhide HB0).size hl1, Nat.le_trans (unhide HB0).size hl2⟩)
  have y0 := (unhide HX1).c0
  have y1 := (unhide HX1).c1
  have y2 := (unhide HX1).c2
  have y3 := (unhide HX1).c3
  have y4 := (unhide HX1).c4
  have y5 := (unhide HX1).c5
  have y6 := (unhide HX1).c6
  clear hb hf hl0 hl1 hl2 HX0 HB0 HL
  go_wp2_with fail
  refine (funits_any c.G.m c.G.q fb bp bl _ (unhide HA)).mono ?_
  rintro e w' ⟨rfl, hww⟩
  obtain rfl := hww.symm
  rw [hGn]
  go_wp2_with fail
  refine (checkRange_ok 3 _ _ _ _ ?_ ?_).mono ?_
  all_goals first | omega | skip
  rintro e w' ⟨rfl, hww⟩
  obtain rfl := hww.symm
  go_wp2_with fail
  refine (checkRange_ok 4 _ _ _ _ ?_ ?_).mono ?_
  all_goals first | omega | skip
  rintro e w' ⟨rfl, hww⟩
  obtain rfl := hww.symm
  go_wp2_with fail
  refine (rootPowers_any c s t _ (unhide OK)).mono ?_
  rintro e w2 ⟨v, rfl, hown, hb2⟩
  obtain ⟨br, cr, rfl, hbr, _⟩ := World.ownsRow.form hown hr1
  have HO := hide hown
  have HB2 := hide (Below.join (unhide HB1) hb2)
  have HX2 := hide ((unhide HX1).below hb2)
  have HL2 := hide ((unhide HL1).below hb2)
  have HA2 := hide ((unhide HA).below hb2)
  clear y0 y1 y2 y3 y4 y5 y6 hown hb2 HX1 HL1 HA HB1
  have y2 := (unhide HX2).c2
  have y3 := (unhide HX2).c3
  have y4 := (unhide HX2).c4
  have y5 := (unhide HX2).c5
  have y6 := (unhide HX2).c6
  obtain ⟨ae, hae⟩ := (unhide HL2).so _ hM
  go_wp2_with fail
  refine (paramFault_any _ _ _ _).mono ?_
  rintro e w3 ⟨x, rfl, hfl, hb3⟩
  have HF3 := hide hfl
  have HB3 := hide (Below.join (unhide HB2) hb3)
  clear hb3 hfl
  go_wp2
  go_ret2
  exact ⟨_, rfl, unhide HF3, unhide HB3⟩

set_option maxHeartbeats 4000000 in
theorem newC_short (c : Cd) (s t : Int) (gs : List Nat) (w : World) (L : Laid gs w) (hR : 7 ∈ gs) (_hM : 0 ∈ gs) (ok : Pre c) (hk : 1 ≤ c.K) (h : s < 0 ∨ (c.K : Int) ≤ s) :
    Calls Tryz.prog 35 #[pv c.G.m c.G.q c.first c.delta s t c.bin] w (INo 5 w) := by
  have HB0 := hide (pbox_below w c.G.m c.G.q c.first c.delta s t c.bin)
  have HX0 := hide (PBox.new w c.G.m c.G.q c.first c.delta s t c.bin)
  have HL := hide L
  have OK := hide ok
  have m3 := ok.m3
  have m8 := ok.m8
  have hf1 := ok.f
  have hd1 := ok.d2
  have hd2 := ok.dn
  have hr1 := rts_pos ok
  obtain ⟨hn1, hn2⟩ := ok.nb
  have hGn : Gf.ordN c.G.m = c.n := rfl
  have hK := Gf.K_add c
  have hKI : (c.n : Int) - (c.rts.length : Int) = (c.K : Int) := by omega
  have HK := hide hK
  have hk1 : ((c.K : Int) == 0) = false := by rw [beq_eq_false_iff_ne]; omega
  have Hh := hide h
  clear h
  clear L ok hK
  go_enter Tryz.func35, Tryz.ntmps35
  go_wp2_with fail
  refine (new_yes2 c.G.m c.G.q _ m3 m8 c.G.isF).mono ?_
  rintro e w1 ⟨fb, bp, bl, rfl, hb, hf, hl0, hl1, hl2⟩
  have HB1 := hide (Below.join (unhide HB0) hb)
  have HX1 := hide ((unhide HX0).below hb)
  have HL1 := hide ((unhide HL).below (unhide HB1))
  have HA := hide hf
  have HM := hide (show w.heap.size ≤ fb ∧ w.heap.size ≤ bp ∧ w.heap.size ≤ bl from ⟨Nat.le_trans (unhide HB0).size hl0, Nat.le_trans (unhide HB0).size hl1, Nat.le_trans (unhide HB0).size hl2⟩)
  have y0 := (unhide HX1).c0
  have y1 := (unhide HX1).c1
  have y2 := (unhide HX1).c2
  have y3 := (unhide HX1).c3
  have y4 := (unhide HX1).c4
  have y5 := (unhide HX1).c5
  have y6 := (unhide HX1).c6
  clear hb hf hl0 hl1 hl2 HX0 HB0 HL
  go_wp2_with fail
  refine (funits_any c.G.m c.G.q fb bp bl _ (unhide HA)).mono ?_
  rintro e w' ⟨rfl, hww⟩
  obtain rfl := hww.symm
  rw [hGn]
  go_wp2_with fail
  refine (checkRange_ok 3 _ _ _ _ ?_ ?_).mono ?_
  all_goals first | omega | skip
  rintro e w' ⟨rfl, hww⟩
  obtain rfl := hww.symm
  go_wp2_with fail
  refine (checkRange_ok 4 _ _ _ _ ?_ ?_).mono ?_
  all_goals first | omega | skip
  rintro e w' ⟨rfl, hww⟩
  obtain rfl := hww.symm
  go_wp2_with fail
  refine (rootPowers_any c s t _ (unhide OK)).mono ?_
  rintro e w2 ⟨v, rfl, hown, hb2⟩
  obtain ⟨br, cr, rfl, hbr, _⟩ := World.ownsRow.form hown hr1
  have HO := hide hown
  have HB2 := hide (Below.join (unhide HB1) hb2)
  have HX2 := hide ((unhide HX1).below hb2)
  have HL2 := hide ((unhide HL1).below hb2)
  have HA2 := hide ((unhide HA).below hb2)
  clear y0 y1 y2 y3 y4 y5 y6 hown hb2 HX1 HL1 HA HB1
  have y2 := (unhide HX2).c2
  have y3 := (unhide HX2).c3
  have y4 := (unhide HX2).c4
  have y5 := (unhide HX2).c5
  have y6 := (unhide HX2).c6
  have hKb : c.K ≤ 256 := by have := unhide HK; omega
  have h := unhide Hh
  go_wp2_with fail
  refine (checkRange_bad 5 _ _ _ gs _ (unhide HL2) hR (by omega)).mono ?_
  rintro e w3 ⟨x, rfl, hfl, hb3⟩
  obtain ⟨fb3, rfl, f0, f1⟩ := hfl
  have HF3 := hide (show Flt 1 5 (.iface 83 (.pointer (some ⟨fb3, 0, none⟩))) w3 from ⟨fb3, rfl, f0, f1⟩)
  have HB3 := hide (Below.join (unhide HB2) hb3)
  clear hb3 f0 f1
  go_wp2
  go_ret2
  exact ⟨_, rfl, unhide HF3, unhide HB3⟩

set_option maxHeartbeats 4000000 in
theorem newC_cut (c : Cd) (s t : Int) (gs : List Nat) (w : World) (L : Laid gs w) (hR : 7 ∈ gs) (_hM : 0 ∈ gs) (ok : Pre c) (hk : 1 ≤ c.K) (hs0 : 0 ≤ s) (hs1 : s < (c.K : Int)) (h : t < 0 ∨ (c.delta : Int) - 2 < t) :
    Calls Tryz.prog 35 #[pv c.G.m c.G.q c.first c.delta s t c.bin] w (INo 6 w) := by
  have HB0 := hide (pbox_below w c.G.m c.G.q c.first c.delta s t c.bin)
  have HX0 := hide (PBox.new w c.G.m c.G.q c.first c.delta s t c.bin)
  have HL := hide L
  have OK := hide ok
  have m3 := ok.m3
  have m8 := ok.m8
  have hf1 := ok.f
  have hd1 := ok.d2
  have hd2 := ok.dn
  have hr1 := rts_pos ok
  obtain ⟨hn1, hn2⟩ := ok.nb
  have hGn : Gf.ordN c.G.m = c.n := rfl
  have hK := Gf.K_add c
  have hKI : (c.n : Int) - (c.rts.length : Int) = (c.K : Int) := by omega
  have HK := hide hK
  have hk1 : ((c.K : Int) == 0) = false := by rw [beq_eq_false_iff_ne]; omega
  have Hh := hide h
  clear h
  clear L ok hK
  go_enter Tryz.func35, Tryz.ntmps35
  go_wp2_with fail
  refine (new_yes2 c.G.m c.G.q _ m3 m8 c.G.isF).mono ?_
  rintro e w1 ⟨fb, bp, bl, rfl, hb, hf, hl0, hl1, hl2⟩
  have HB1 := hide (Below.join (unhide HB0) hb)
  have HX1 := hide ((unhide HX0).below hb)
  have HL1 := hide ((unhide HL).below (unhide HB1))
  have HA := hide hf
  have HM := hide (show w.heap.size ≤ fb ∧ w.heap.size ≤ bp ∧ w.heap.size ≤ bl from ⟨Nat.le_trans (unhide HB0).size hl0, Nat.le_trans (unhide HB0).size hl1, Nat.le_trans (unhide HB0).size hl2⟩)
  have y0 := (unhide HX1).c0
  have y1 := (unhide HX1).c1
  have y2 := (unhide HX1).c2
  have y3 := (unhide HX1).c3
  have y4 := (unhide HX1).c4
  have y5 := (unhide HX1).c5
  have y6 := (unhide HX1).c6
  clear hb hf hl0 hl1 hl2 HX0 HB0 HL
  go_wp2_with fail
  refine (funits_any c.G.m c.G.q fb bp bl _ (unhide HA)).mono ?_
  rintro e w' ⟨rfl, hww⟩
  obtain rfl := hww.symm
  rw [hGn]
  go_wp2_with fail
  refine (checkRange_ok 3 _ _ _ _ ?_ ?_).mono ?_
  all_goals first | omega | skip
  rintro e w' ⟨rfl, hww⟩
  obtain rfl := hww.symm
  go_wp2_with fail
  refine (checkRange_ok 4 _ _ _ _ ?_ ?_).mono ?_
  all_goals first | omega | skip
  rintro e w' ⟨rfl, hww⟩
  obtain rfl := hww.symm
  go_wp2_with fail
  refine (rootPowers_any c s t _ (unhide OK)).mono ?_
  rintro e w2 ⟨v, rfl, hown, hb2⟩
  obtain ⟨br, cr, rfl, hbr, _⟩ := World.ownsRow.form hown hr1
  have HO := hide hown
  have HB2 := hide (Below.join (unhide HB1) hb2)
  have HX2 := hide ((unhide HX1).below hb2)
  have HL2 := hide ((unhide HL1).below hb2)
  have HA2 := hide ((unhide HA).below hb2)
  clear y0 y1 y2 y3 y4 y5 y6 hown hb2 HX1 HL1 HA HB1
  have y2 := (unhide HX2).c2
  have y3 := (unhide HX2).c3
  have y4 := (unhide HX2).c4
  have y5 := (unhide HX2).c5
  have y6 := (unhide HX2).c6
  have hKb : c.K ≤ 256 := by have := unhide HK; omega
  go_wp2_with fail
  refine (checkRange_ok 5 _ _ _ _ ?_ ?_).mono ?_
  all_goals first | omega | skip
  rintro e w' ⟨rfl, hww⟩
  obtain rfl := hww.symm
  have h := unhide Hh
  go_wp2_with fail
  refine (checkRange_bad 6 _ _ _ gs _ (unhide HL2) hR (by omega)).mono ?_
  rintro e w3 ⟨x, rfl, hfl, hb3⟩
  obtain ⟨fb3, rfl, f0, f1⟩ := hfl
  have HF3 := hide (show Flt 1 6 (.iface 83 (.pointer (some ⟨fb3, 0, none⟩))) w3 from ⟨fb3, rfl, f0, f1⟩)
  have HB3 := hide (Below.join (unhide HB2) hb3)
  clear hb3 f0 f1
  go_wp2
  go_ret2
  exact ⟨_, rfl, unhide HF3, unhide HB3⟩
end Go.Proofs.YtnpkkcbadcmgkaaGreatDoor

namespace Go.Proofs.YtnpkkcbadcmgkaaGreatDoor
open Go.RowKit Go.Deep
open Gf (Cd)

theorem symbolCheck_any (b : Nat) (bin : Bool) (w : World) :
    Calls Tryz.prog 58 #[.pointer (some ⟨b, 0, none⟩), .bool bin] w fun e w' => e = .returned (.func (.func (chkF bin)) #[.pointer (some ⟨b, 0, none⟩)] #[]) ∧ w' = w := by
  have hmf : ∀ (fn : Fn) (first cap : Array Value) (w : World), (Instr.makeFunc fn first cap).run Tryz.prog w = .ok (.func fn first cap) w := fun _ _ _ _ => rfl
  cases bin
  all_goals
    go_enter Tryz.func58, Tryz.ntmps58
    go_wp2
    go_ret
    exact ⟨rfl, rfl⟩

theorem rts_bd {c : Cd} (ok : Pre c) : c.rts.length < 256 ∧ ∀ i, i < c.rts.length → c.rts.getD i 0 < 256 := by
  obtain ⟨hn1, hn2⟩ := ok.nb
  have h1 := Gf.rts_le c
  refine ⟨by omega, fun i hi => ?_⟩
  rw [List.getD_eq_getElem?_getD, List.getElem?_eq_getElem hi]
  have := Gf.rts_lt c (List.getElem_mem hi)
  show c.rts[i] < 256
  have h2 : c.G.n = c.n := rfl
  omega

theorem rootsC_any (c : Cd) (b bp bl : Nat) (v : Value) (w : World) (ok : Pre c) (hF : FieldAt c.G.m c.G.q b bp bl w) (h : RdN w v c.rts) :
    Calls Tryz.prog 60 #[v, .func (.func 61) #[.pointer (some ⟨b, 0, none⟩)] #[]] w fun e w' => ∃ br, e = .returned (.slice (some ⟨br, 0, none⟩) c.rts.length c.rts.length) ∧ RdN w' (.slice (some ⟨br, 0, none⟩) c.rts.length c.rts.length) (c.rts.map c.G.pw) ∧ Below w.heap.size w w' := by
  obtain ⟨h1, h2⟩ := rts_bd ok
  refine (rootsAt_any c.G.m c.G.q b bp bl v c.rts w ok.m3 ok.m8 c.G.isF hF h h1 h2).mono ?_
  rintro e w' ⟨br, rfl, _, hn, hb⟩
  refine ⟨br, rfl, ?_, hb⟩
  have h3 : NRow w' br c.rts.length (fun i => (c.rts.map c.G.pw).getD i 0) := NRow.congr hn (fun i hi => by
    rw [List.getD_eq_getElem?_getD, List.getElem?_eq_getElem hi, List.getD_eq_getElem?_getD, List.getElem?_map, List.getElem?_eq_getElem hi]; rfl)
  exact (wr_of_nrow h3 (by rw [List.length_map]) (by omega)).rd

theorem gen_any (c : Cd) (b bp bl : Nat) (v : Value) (w : World) (ok : Pre c) (hF : FieldAt c.G.m c.G.q b bp bl w) (h : RdN w v (c.rts.map c.G.pw)) :
    Calls Tryz.prog 59 #[.agg #[.func (.func 56) #[.pointer (some ⟨b, 0, none⟩)] #[], .func (.func 57) #[.pointer (some ⟨b, 0, none⟩)] #[]], v] w fun e w' => ∃ bg cap, e = .returned (.slice (some ⟨bg, 0, none⟩) c.g.length cap) ∧ w.heap.size ≤ bg ∧ (∀ i, i < c.g.length → w'.cell? ⟨bg, i, none⟩ = some (.int .i64 ((c.g.getD i 0 : Nat) : Int))) ∧ Below w.heap.size w w' := by
  obtain ⟨h1, _⟩ := rts_bd ok
  have hgl : c.g.length = c.rts.length + 1 := Gf.gen_length _ _
  have hgg : genR c.G [1] (c.rts.map c.G.pw) = c.g := genR_gen c.G c.rts [1]
  refine (fromRoots_any c.G b bp bl v (c.rts.map c.G.pw) w ok.m3 ok.m8 hF h (by rw [List.length_map]; exact h1) (fun a ha => by
    obtain ⟨j, _, rfl⟩ := List.mem_map.1 ha
    exact c.G.El_pw j)).mono ?_
  rintro e w' ⟨bg, rfl, hbg, hrow, hb⟩
  rw [List.length_map, ← hgl, hgg] at hrow
  rw [List.length_map, ← hgl]
  exact ⟨bg, _, rfl, hbg, fun i hi => NRow.cell hrow hi, hb⟩

/-- newCodec makes a codec. -/
def IYes (c : Cd) (w : World) (e : Ending) (w' : World) : Prop := ∃ bc b bp bl bg capg bd bm, e = .returned (.tuple #[.pointer (some ⟨bc, 0, none⟩), .nilIface]) ∧ CodAt c bc b bp bl bg capg bd w' ∧ (∃ ls dg r, DkAt c b bp bl bd bm 0 ls dg r w') ∧ (w.heap.size ≤ bc ∧ w.heap.size ≤ b ∧ w.heap.size ≤ bp ∧ w.heap.size ≤ bl ∧ w.heap.size ≤ bg ∧ w.heap.size ≤ bd ∧ w.heap.size ≤ bm) ∧ (bc ≠ bd ∧ bc ≠ bm ∧ bg ≠ bd ∧ bg ≠ bm) ∧ Below w.heap.size w w'

set_option maxRecDepth 100000 in
set_option maxHeartbeats 8000000 in
theorem newC_ok (c : Cd) (gs : List Nat) (w : World) (L : Laid gs w) (_hR : 7 ∈ gs) (_hM : 0 ∈ gs) (okc : c.Ok) (ok : Pre c) :
    Calls Tryz.prog 35 #[pv c.G.m c.G.q c.first c.delta c.short c.cut c.bin] w (IYes c w) := by
  have HB0 := hide (pbox_below w c.G.m c.G.q c.first c.delta c.short c.cut c.bin)
  have HX0 := hide (PBox.new w c.G.m c.G.q c.first c.delta c.short c.cut c.bin)
  have HL := hide L
  have OK := hide ok
  have m3 := ok.m3
  have m8 := ok.m8
  have hf1 := ok.f
  have hd1 := ok.d2
  have hd2 := ok.dn
  have hr1 := rts_pos ok
  obtain ⟨hn1, hn2⟩ := ok.nb
  have hGn : Gf.ordN c.G.m = c.n := rfl
  have hK := Gf.K_add c
  have hKI : (c.n : Int) - (c.rts.length : Int) = (c.K : Int) := by omega
  have HK := hide hK
  have hk := okc.k
  have hk1 : ((c.K : Int) == 0) = false := by rw [beq_eq_false_iff_ne]; omega
  have hs1 := okc.s
  have ht1 := okc.ct
  clear L ok hK
  go_enter Tryz.func35, Tryz.ntmps35
  go_wp2_with fail
  refine (new_yes2 c.G.m c.G.q _ m3 m8 c.G.isF).mono ?_
  rintro e w1 ⟨fb, bp, bl, rfl, hb, hf, hl0, hl1, hl2⟩
  have HB1 := hide (Below.join (unhide HB0) hb)
  have HX1 := hide ((unhide HX0).below hb)
  have HL1 := hide ((unhide HL).below (unhide HB1))
  have HA := hide hf
  have HM := hide (show w.heap.size ≤ fb ∧ w.heap.size ≤ bp ∧ w.heap.size ≤ bl from ⟨Nat.le_trans (unhide HB0).size hl0, Nat.le_trans (unhide HB0).size hl1, Nat.le_trans (unhide HB0).size hl2⟩)
  have y0 := (unhide HX1).c0
  have y1 := (unhide HX1).c1
  have y2 := (unhide HX1).c2
  have y3 := (unhide HX1).c3
  have y4 := (unhide HX1).c4
  have y5 := (unhide HX1).c5
  have y6 := (unhide HX1).c6
  clear hb hf hl0 hl1 hl2 HX0 HB0 HL
  go_wp2_with fail
  refine (funits_any c.G.m c.G.q fb bp bl _ (unhide HA)).mono ?_
  rintro e w' ⟨rfl, hww⟩
  obtain rfl := hww.symm
  rw [hGn]
  go_wp2_with fail
  refine (checkRange_ok 3 _ _ _ _ ?_ ?_).mono ?_
  all_goals first | omega | skip
  rintro e w' ⟨rfl, hww⟩
  obtain rfl := hww.symm
  go_wp2_with fail
  refine (checkRange_ok 4 _ _ _ _ ?_ ?_).mono ?_
  all_goals first | omega | skip
  rintro e w' ⟨rfl, hww⟩
  obtain rfl := hww.symm
  go_wp2_with fail
  refine (rootPowers_any c c.short c.cut _ (unhide OK)).mono ?_
  rintro e w2 ⟨v, rfl, hown, hb2⟩
  obtain ⟨br, cr, rfl, hbr, _⟩ := World.ownsRow.form hown hr1
  have HO := hide hown
  have HB2 := hide (Below.join (unhide HB1) hb2)
  have HX2 := hide ((unhide HX1).below hb2)
  have HL2 := hide ((unhide HL1).below hb2)
  have HA2 := hide ((unhide HA).below hb2)
  clear y0 y1 y2 y3 y4 y5 y6 hown hb2 HX1 HL1 HA HB1
  have y2 := (unhide HX2).c2
  have y3 := (unhide HX2).c3
  have y4 := (unhide HX2).c4
  have y5 := (unhide HX2).c5
  have y6 := (unhide HX2).c6
  have hKb : c.K ≤ 256 := by have := unhide HK; omega
  go_wp2_with fail
  refine (checkRange_ok 5 _ _ _ _ ?_ ?_).mono ?_
  all_goals first | omega | skip
  rintro e w' ⟨rfl, hww⟩
  obtain rfl := hww.symm
  go_wp2_with fail
  refine (checkRange_ok 6 _ _ _ _ ?_ ?_).mono ?_
  all_goals first | omega | skip
  rintro e w' ⟨rfl, hww⟩
  obtain rfl := hww.symm
  have hmf : ∀ (fn : Fn) (first cap : Array Value) (w : World), (Instr.makeFunc fn first cap).run Tryz.prog w = .ok (.func fn first cap) w := fun _ _ _ _ => rfl
  go_wp2_with fail
  refine (over_any fb _).mono ?_
  rintro e w3 ⟨rfl, hb3⟩
  have HB3 := hide (Below.join (unhide HB2) hb3)
  have HX3 := hide ((unhide HX2).below hb3)
  have HA3 := hide ((unhide HA2).below hb3)
  have HR3 := hide (show RdN w3 (.slice (some ⟨br, 0, none⟩) c.rts.length cr) c.rts from Rd.below (by
    have h1 := unhide HO
    have e : (c.rts.map fun x : Nat => (x : Int)).length = c.rts.length := List.length_map _
    have h2 := own_rd (l := c.rts.map fun x : Nat => (x : Int)) (by rw [e]; exact h1) (by rw [e]; unfold maxLen; omega)
    exact h2) hb3)
  clear y2 y3 y4 y5 y6 HX2 HA2 HL2 HO HB2 hb3
  have hal := (Below.refl w3.heap.size w3).alloc (Nat.le_refl _) (.cells #[.func (.func 56) #[.pointer (some ⟨fb, 0, none⟩)] #[], .func (.func 57) #[.pointer (some ⟨fb, 0, none⟩)] #[]] 73)
  have z0 : (w3.alloc (.cells #[.func (.func 56) #[.pointer (some ⟨fb, 0, none⟩)] #[], .func (.func 57) #[.pointer (some ⟨fb, 0, none⟩)] #[]] 73)).cell? ⟨w3.heap.size, 0, none⟩ = some (.func (.func 56) #[.pointer (some ⟨fb, 0, none⟩)] #[]) := by simp
  have z1 : (w3.alloc (.cells #[.func (.func 56) #[.pointer (some ⟨fb, 0, none⟩)] #[], .func (.func 57) #[.pointer (some ⟨fb, 0, none⟩)] #[]] 73)).cell? ⟨w3.heap.size, 1, none⟩ = some (.func (.func 57) #[.pointer (some ⟨fb, 0, none⟩)] #[]) := by simp
  have HB4 := hide (Below.join (unhide HB3) hal)
  have hx4 := (unhide HX3).below hal
  have HA4 := hide ((unhide HA3).below hal)
  have HR4 := hide (Rd.below (unhide HR3) hal)
  have y0 := hx4.c0
  have y1 := hx4.c1
  have y2 := hx4.c2
  have y3 := hx4.c3
  have y4 := hx4.c4
  have y5 := hx4.c5
  have y6 := hx4.c6
  clear HX3 HA3 HR3 hal hx4 HB3
  go_wp2_with fail
  generalize w3.alloc (.cells #[.func (.func 56) #[.pointer (some ⟨fb, 0, none⟩)] #[], .func (.func 57) #[.pointer (some ⟨fb, 0, none⟩)] #[]] 73) = w4 at *
  refine (symbolCheck_any fb c.bin _).mono ?_
  rintro e w' ⟨rfl, hww⟩
  obtain rfl := hww.symm
  go_wp2
  have hRA := hide (rootsC_any c fb bp bl (.slice (some ⟨br, 0, none⟩) c.rts.length cr) w4.drew (unhide OK) ((unhide HA4).heap rfl) (Rd.below (unhide HR4) (below_of_drewN _ _ 1)))
  have hkl := Gf.K_le okc
  have hWc := hide (show IntKind.i64.wrap (IntKind.i64.wrap ((c.n : Int) - (c.short : Int)) - (c.cut : Int)) = ((c.n - c.short - c.cut : Nat) : Int) by rw [wrap_small (x := (c.n : Int) - (c.short : Int)) (by omega) (by omega), wrap_small (by omega) (by omega)]; omega)
  have hMc := hide (show IntKind.i64.wrap ((c.K : Int) - (c.short : Int)) = ((c.K - c.short : Nat) : Int) by rw [wrap_small (by omega) (by omega)]; omega)
  have OKC := hide okc
  have hcn : c.n < 256 := by omega
  clear hkl
  go_region_held3 (fun w' => w'.cell? ⟨w3.heap.size, 0, none⟩ = some (.func (.func 56) #[.pointer (some ⟨fb, 0, none⟩)] #[]) ∧ w'.cell? ⟨w3.heap.size, 1, none⟩ = some (.func (.func 57) #[.pointer (some ⟨fb, 0, none⟩)] #[]) ∧ w'.cell? ⟨w.heap.size, 0, none⟩ = some (.int .i64 (c.G.m : Int)) ∧ w'.cell? ⟨w.heap.size, 1, none⟩ = some (.int .i64 (c.G.q : Int)) ∧ w'.cell? ⟨w.heap.size, 2, none⟩ = some (.int .i64 (c.first : Int)) ∧ w'.cell? ⟨w.heap.size, 3, none⟩ = some (.int .i64 (c.delta : Int)) ∧ w'.cell? ⟨w.heap.size, 4, none⟩ = some (.int .i64 (c.short : Int)) ∧ w'.cell? ⟨w.heap.size, 5, none⟩ = some (.int .i64 (c.cut : Int)) ∧ w'.cell? ⟨w.heap.size, 6, none⟩ = some (.bool c.bin))
    (first
      | (exact ⟨below_cell (w := w4.drew) ((unhide HB7).alloc (unhide HB7).size _) z0, below_cell (w := w4.drew) ((unhide HB7).alloc (unhide HB7).size _) z1, below_cell (w := w4.drew) ((unhide HB7).alloc (unhide HB7).size _) y0, below_cell (w := w4.drew) ((unhide HB7).alloc (unhide HB7).size _) y1, below_cell (w := w4.drew) ((unhide HB7).alloc (unhide HB7).size _) y2, below_cell (w := w4.drew) ((unhide HB7).alloc (unhide HB7).size _) y3, below_cell (w := w4.drew) ((unhide HB7).alloc (unhide HB7).size _) y4, below_cell (w := w4.drew) ((unhide HB7).alloc (unhide HB7).size _) y5, below_cell (w := w4.drew) ((unhide HB7).alloc (unhide HB7).size _) y6⟩)
      | (exact ⟨below_cell (w := w4.drew) (unhide HB7) z0, below_cell (w := w4.drew) (unhide HB7) z1, below_cell (w := w4.drew) (unhide HB7) y0, below_cell (w := w4.drew) (unhide HB7) y1, below_cell (w := w4.drew) (unhide HB7) y2, below_cell (w := w4.drew) (unhide HB7) y3, below_cell (w := w4.drew) (unhide HB7) y4, below_cell (w := w4.drew) (unhide HB7) y5, below_cell (w := w4.drew) (unhide HB7) y6⟩)
      | (exact ⟨below_cell (w := w4.drew) (unhide HB6) z0, below_cell (w := w4.drew) (unhide HB6) z1, below_cell (w := w4.drew) (unhide HB6) y0, below_cell (w := w4.drew) (unhide HB6) y1, below_cell (w := w4.drew) (unhide HB6) y2, below_cell (w := w4.drew) (unhide HB6) y3, below_cell (w := w4.drew) (unhide HB6) y4, below_cell (w := w4.drew) (unhide HB6) y5, below_cell (w := w4.drew) (unhide HB6) y6⟩)
      | (exact ⟨below_cell (w := w4.drew) (unhide HB5) z0, below_cell (w := w4.drew) (unhide HB5) z1, below_cell (w := w4.drew) (unhide HB5) y0, below_cell (w := w4.drew) (unhide HB5) y1, below_cell (w := w4.drew) (unhide HB5) y2, below_cell (w := w4.drew) (unhide HB5) y3, below_cell (w := w4.drew) (unhide HB5) y4, below_cell (w := w4.drew) (unhide HB5) y5, below_cell (w := w4.drew) (unhide HB5) y6⟩)
      | (exact ⟨z0, z1, y0, y1, y2, y3, y4, y5, y6⟩))
    (first
      | (go_at_call 60; refine (unhide hRA).mono ?_; rintro e w5 ⟨br5, rfl, hrd5, hb5⟩; have HB5 := hide hb5; have hG := hide (gen_any c fb bp bl _ w5 (unhide OK) (((unhide HA4).heap (w' := w4.drew) rfl).below hb5) hrd5); clear hrd5 hb5)
      | (go_at_call 59; refine (unhide hG).mono ?_; rintro e w6 ⟨bg, capg, rfl, hbg, hgs, hb6⟩; have HB6 := hide (Below.join (unhide HB5) hb6); have HGS := hide hgs; have HBG := hide (Nat.le_trans (unhide HB5).size hbg); have hND := hide (newDecoder_any c fb bp bl w6 (unhide OKC) hcn (((unhide HA4).heap (w' := w4.drew) rfl).below (unhide HB6))); clear hgs hbg hb6)
      | (go_at_call 62; refine (unhide hND).mono ?_; rintro e w7 ⟨bd, bm, rfl, hbd, hbm, hdk, hb7⟩; have HB7 := hide (Below.join (unhide HB6) hb7); have HDK := hide hdk; have HBD := hide hbd; have HBM := hide hbm; have HB67 := hide hb7; clear hbd hbm hdk hb7))
  all_goals
    rw [unhide hWc, unhide hMc]
    have hB7 := Below.join (w1 := w4.drew) (unhide HB4).drew (unhide HB7)
    have hle : w.heap.size ≤ w7.heap.size := hB7.size
    have hle4 : w.heap.size ≤ w4.drew.heap.size := (unhide HB4).size
    have hle6 : w4.drew.heap.size ≤ w6.heap.size := (unhide HB6).size
    have hfa := hide (((unhide HA4).heap (w' := w4.drew) rfl).below (unhide HB7))
    have hlg := hide (lt_of_cell (unhide HGS 0 (CodAt.g1 c)))
    have HB8 := hide hB7
    clear hB7
    go_wp2
    go_ret2
    have hM := unhide HM
    have hlg' : bg < w6.heap.size := unhide hlg
    have hbd' := unhide HBD
    have hbm' := unhide HBM
    have hd1 := (unhide HDK).lt
    have hd2 := (unhide HDK).ltm
    have hbg4 := unhide HBG
    exact ⟨w7.heap.size, fb, bp, bl, bg, capg, bd, bm, rfl, ⟨heap_alloc_new w7 _, (unhide hfa).below ((Below.refl _ _).alloc (Nat.le_refl _) _), fun i hi => below_cell ((Below.refl _ _).alloc (Nat.le_refl _) _) (below_cell (unhide HB67) (unhide HGS i hi))⟩, ⟨_, _, _, (unhide HDK).below ((Below.refl _ _).alloc (Nat.le_refl _) _)⟩, ⟨hle, hM.1, hM.2.1, hM.2.2, Nat.le_trans hle4 hbg4, by omega, by omega⟩, ⟨by omega, by omega, by omega, by omega⟩, (unhide HB8).alloc hle _⟩

/-! ### New -/
set_option maxHeartbeats 2000000 in
theorem New_no (m q f d s t : Int) (b : Bool) (r : Int) (gs : List Nat) (w : World) (L : Laid gs w) (h : Calls Tryz.prog 35 #[pv m q f d s t b] (w.alloc (.cells #[.int .i64 m, .int .i64 q, .int .i64 f, .int .i64 d, .int .i64 s, .int .i64 t, .bool b] 48)) (INo r (w.alloc (.cells #[.int .i64 m, .int .i64 q, .int .i64 f, .int .i64 d, .int .i64 s, .int .i64 t, .bool b] 48)))) :
    Calls Tryz.prog 21 #[pv m q f d s t b] w fun e w' => e = .returned (.tuple #[.pointer none, .int .i64 1, .int .i64 r]) ∧ Below w.heap.size w w' := by
  have HB0 := hide (pbox_below w m q f d s t b)
  have HL := hide L
  have HN := hide h
  clear L h
  go_enter Tryz.func21, Tryz.ntmps21
  go_wp2_with fail
  refine (unhide HN).mono ?_
  rintro e w1 ⟨x, rfl, hf, hb⟩
  have HB1 := hide (Below.join (unhide HB0) hb)
  have hT := hide (told_flt 1 r x gs w1 ((unhide HL).below (unhide HB1)) hf)
  clear hf hb
  go_wp2_with fail
  refine (unhide hT).mono ?_
  rintro e w2 ⟨rfl, hb2⟩
  have HB2 := hide (Below.join (unhide HB1) hb2)
  clear hb2
  go_wp2
  go_ret3
  exact ⟨rfl, unhide HB2⟩

def NYes (c : Cd) (w : World) (e : Ending) (w' : World) : Prop := ∃ bc b bp bl bg capg bd bm, e = .returned (.tuple #[.pointer (some ⟨bc, 0, none⟩), .int .i64 0, .int .i64 0]) ∧ CodAt c bc b bp bl bg capg bd w' ∧ (∃ ls dg r, DkAt c b bp bl bd bm 0 ls dg r w') ∧ (w.heap.size ≤ bc ∧ w.heap.size ≤ b ∧ w.heap.size ≤ bp ∧ w.heap.size ≤ bl ∧ w.heap.size ≤ bg ∧ w.heap.size ≤ bd ∧ w.heap.size ≤ bm) ∧ (bc ≠ bd ∧ bc ≠ bm ∧ bg ≠ bd ∧ bg ≠ bm) ∧ Below w.heap.size w w'

set_option maxHeartbeats 2000000 in
theorem New_ok (c : Cd) (gs : List Nat) (w : World) (L : Laid gs w) (hR : 7 ∈ gs) (hM : 0 ∈ gs) (okc : c.Ok) (ok : Pre c) :
    Calls Tryz.prog 21 #[pv c.G.m c.G.q c.first c.delta c.short c.cut c.bin] w (NYes c w) := by
  have HB0 := hide (pbox_below w c.G.m c.G.q c.first c.delta c.short c.cut c.bin)
  have HN := hide (newC_ok c gs _ (L.below (unhide HB0)) hR hM okc ok)
  clear L hR hM okc ok
  go_enter Tryz.func21, Tryz.ntmps21
  go_wp2_with fail
  refine (unhide HN).mono ?_
  rintro e w1 ⟨bc, b, bp, bl, bg, capg, bd, bm, rfl, hc, hdk, hle, hne, hb⟩
  have HB1 := hide (Below.join (unhide HB0) hb)
  have HC := hide hc
  have HDK := hide hdk
  have HLE := hide hle
  have HNE := hide hne
  clear hc hb hle hdk hne
  go_wp2_with fail
  refine (told_nil _).mono ?_
  rintro e w2 ⟨rfl, hb2⟩
  have HB2 := hide (Below.join (unhide HB1) hb2)
  have HC2 := hide ((unhide HC).below hb2)
  have HDK2 := hide (show ∃ ls dg r, DkAt c b bp bl bd bm 0 ls dg r w2 from by
    obtain ⟨ls, dg, r, hk⟩ := unhide HDK
    exact ⟨ls, dg, r, hk.below hb2⟩)
  clear hb2 HC
  go_wp2
  go_ret3
  have h0 := (unhide HB0).size
  obtain ⟨l0, l1, l2, l3, l4, l5, l6⟩ := unhide HLE
  exact ⟨bc, b, bp, bl, bg, capg, bd, bm, rfl, unhide HC2, unhide HDK2, ⟨Nat.le_trans h0 l0, Nat.le_trans h0 l1, Nat.le_trans h0 l2, Nat.le_trans h0 l3, Nat.le_trans h0 l4, Nat.le_trans h0 l5, Nat.le_trans h0 l6⟩, unhide HNE, unhide HB2⟩

theorem New_wrong (m q f d s t : Int) (b : Bool) (r : Int) (gs : List Nat) (w : World) (L : Laid gs w) (hR : 7 ∈ gs) (hM : 0 ∈ gs) (h : WrongIs m q f d s t b r) (hr : r ≠ 0) :
    Calls Tryz.prog 21 #[pv m q f d s t b] w fun e w' => e = .returned (.tuple #[.pointer none, .int .i64 1, .int .i64 r]) ∧ Below w.heap.size w w' := by
  have L0 := L.below (pbox_below w m q f d s t b)
  refine New_no m q f d s t b r gs w L ?_
  rcases h with h | h | ⟨G, rfl, rfl, h3, h8, rfl, h⟩ | ⟨G, rfl, rfl, h3, h8, rfl, hf0, hf1, h⟩ | ⟨c, rfl, rfl, rfl, rfl, rfl, hpre, ⟨rfl, h⟩ | ⟨rfl, hk, h⟩ | ⟨rfl, hk, hs0, hs1, h⟩ | ⟨h0, _⟩⟩
  · exact newC_field r m q f d s t b gs _ L0 (Or.inl h)
  · exact newC_field r m q f d s t b gs _ L0 (Or.inr h)
  · exact newC_first G f d s t b gs _ L0 hR h3 h8 h
  · exact newC_delta G f d s t b gs _ L0 hR h3 h8 hf0 hf1 h
  · exact newC_k c s t gs _ L0 hR hM hpre h
  · exact newC_short c s t gs _ L0 hR hM hpre hk h
  · exact newC_cut c s t gs _ L0 hR hM hpre hk hs0 hs1 h
  · exact (hr h0).elim
end Go.Proofs.YtnpkkcbadcmgkaaGreatDoor

namespace Go.Proofs.YtnpkkcbadcmgkaaGreatDoor
open Go.RowKit Go.Deep
open Gf (Cd)

/-- the package-level variables, as they lay when the statement's own memory began. -/
def GlP (gs : List Nat) (B : Nat) (w : World) : Prop := ∃ w0, w0.heap.size = B ∧ Laid gs w0 ∧ Below B w0 w
theorem GlP.laid {gs : List Nat} {B : Nat} {w : World} (h : GlP gs B w) : Laid gs w := by
  obtain ⟨w0, rfl, hl, hb⟩ := h
  exact hl.below hb

/-- a codec of the program: F: its blocks. -/
def CodP (B : Nat) (c : Cd) (F : Nat → Prop) (v : Value) (w : World) : Prop :=
  ∃ bc b bp bl bg capg bd bm, v = .pointer (some ⟨bc, 0, none⟩) ∧ CodAt c bc b bp bl bg capg bd w ∧ (∃ ls dg r, DkAt c b bp bl bd bm 0 ls dg r w) ∧ (∀ k, F k ↔ (k = bc ∨ k = b ∨ k = bp ∨ k = bl ∨ k = bg ∨ k = bd ∨ k = bm)) ∧ (B ≤ bc ∧ B ≤ b ∧ B ≤ bp ∧ B ≤ bl ∧ B ≤ bg ∧ B ≤ bd ∧ B ≤ bm) ∧ (bc ≠ bd ∧ bc ≠ bm ∧ bg ≠ bd ∧ bg ≠ bm)

theorem CodP.keep {B : Nat} {c : Cd} {F : Nat → Prop} {v : Value} {w w' : World} (h : CodP B c F v w) (he : ∀ k, F k → w'.heap[k]? = w.heap[k]?) : CodP B c F v w' := by
  obtain ⟨bc, b, bp, bl, bg, capg, bd, bm, hv, hc, ⟨ls, dg, r, hd⟩, hF, hB⟩ := h
  exact ⟨bc, b, bp, bl, bg, capg, bd, bm, hv, hc.of (he _ ((hF _).2 (by simp))) (he _ ((hF _).2 (by simp))) (he _ ((hF _).2 (by simp))) (he _ ((hF _).2 (by simp))) (he _ ((hF _).2 (by simp))), ⟨ls, dg, r, hd.of (he _ ((hF _).2 (by simp))) (he _ ((hF _).2 (by simp))) (he _ ((hF _).2 (by simp))) (he _ ((hF _).2 (by simp))) (he _ ((hF _).2 (by simp)))⟩, hF, hB⟩
theorem CodP.lt {B : Nat} {c : Cd} {F : Nat → Prop} {v : Value} {w : World} {k : Nat} (h : CodP B c F v w) (hk : F k) : B ≤ k ∧ k < w.heap.size := by
  obtain ⟨bc, b, bp, bl, bg, capg, bd, bm, hv, hc, ⟨ls, dg, r, hd⟩, hF, ⟨h0, h1, h2, h3, h4, h5, h6⟩, _⟩ := h
  rcases (hF k).1 hk with rfl | rfl | rfl | rfl | rfl | rfl | rfl
  · exact ⟨h0, hc.lt⟩
  · exact ⟨h1, lt_of_cell hc.fa.c0⟩
  · exact ⟨h2, hc.fa.pows.lt⟩
  · exact ⟨h3, hc.fa.logs.lt⟩
  · exact ⟨h4, lt_of_cell (hc.gs 0 (CodAt.g1 c))⟩
  · exact ⟨h5, hd.lt⟩
  · exact ⟨h6, hd.ltm⟩
theorem CodP.below {B : Nat} {c : Cd} {F : Nat → Prop} {v : Value} {w w' : World} (h : CodP B c F v w) (hb : Below w.heap.size w w') : CodP B c F v w' := h.keep (fun k hk => hb.block k (h.lt hk).2)

theorem pn_new {gs : List Nat} {B : Nat} (hR : 7 ∈ gs) (hM : 0 ∈ gs) (c : Cd) (w : World) (m3 : 3 ≤ c.G.m) (m8 : c.G.m ≤ 8) (ok : c.Ok) (hG : GlP gs B w) (hB : B ≤ w.heap.size) :
    Calls Tryz.prog 21 #[pv c.G.m c.G.q c.first c.delta c.short c.cut c.bin] w fun e w' => ∃ F v, e = .returned (.tuple #[v, .int .i64 0, .int .i64 0]) ∧ CodP B c F v w' ∧ (∀ k, F k → w.heap.size ≤ k) ∧ Below w.heap.size w w' := by
  refine (New_ok c gs w hG.laid hR hM ok ⟨m3, m8, ok.f, ok.d2, ok.dn⟩).mono ?_
  rintro e w' ⟨bc, b, bp, bl, bg, capg, bd, bm, rfl, hc, hdk, ⟨h0, h1, h2, h3, h4, h5, h6⟩, hne, hb⟩
  refine ⟨fun k => k = bc ∨ k = b ∨ k = bp ∨ k = bl ∨ k = bg ∨ k = bd ∨ k = bm, _, rfl, ⟨bc, b, bp, bl, bg, capg, bd, bm, rfl, hc, hdk, fun _ => Iff.rfl, ⟨Nat.le_trans hB h0, Nat.le_trans hB h1, Nat.le_trans hB h2, Nat.le_trans hB h3, Nat.le_trans hB h4, Nat.le_trans hB h5, Nat.le_trans hB h6⟩, hne⟩, ?_, hb⟩
  rintro k (rfl | rfl | rfl | rfl | rfl | rfl | rfl)
  · exact h0
  · exact h1
  · exact h2
  · exact h3
  · exact h4
  · exact h5
  · exact h6

theorem pn_size {gs : List Nat} {B : Nat} {c : Cd} {F : Nat → Prop} {v : Value} {w : World} (h : CodP B c F v w) (_ : GlP gs B w) (_ : 3 ≤ c.G.m) (_ : c.G.m ≤ 8) (_ : c.Ok) :
    Calls Tryz.prog 24 #[v] w fun e w' => e = .returned (.tuple #[.int .i64 ((c.n - c.short - c.cut : Nat) : Int), .int .i64 ((c.K - c.short : Nat) : Int)]) ∧ Out F w w' ∧ CodP B c F v w' := by
  have h' := h
  obtain ⟨bc, b, bp, bl, bg, capg, bd, bm, rfl, hc, _⟩ := h
  refine (Size_core bc bg _ capg _ _ w hc.x3 hc.x4 hc.x5).mono ?_
  rintro e w' ⟨rfl, d, rfl⟩
  exact ⟨rfl, Out.of_below (below_of_drewN _ _ _), h'.below (below_of_drewN _ _ _)⟩

/-- the program, as the statements of New and Size ask it. -/
def pn (gs : List Nat) (hR : 7 ∈ gs) (hM : 0 ∈ gs) (B : Nat) : Pn B where
  Gl := GlP gs B
  Cod := CodP B
  gl := fun ⟨w0, h0, hl, hb⟩ h => ⟨w0, h0, hl, hb.trans h⟩
  cod := fun h he => h.keep he
  lt := fun h hk => h.lt hk
  ptr := fun ⟨bc, _, _, _, _, _, _, _, hv, _⟩ => ⟨⟨bc, 0, none⟩, hv⟩
  no := fun m q f d s t b r w h hr hG _ => New_wrong m q f d s t b r gs w hG.laid hR hM h hr
  new := fun c w m3 m8 ok hG hB => pn_new hR hM c w m3 m8 ok hG hB
  size := fun h hG m3 m8 ok => pn_size h hG m3 m8 ok

/-- the program, as the other statements ask it. -/
def pgOf (gs : List Nat) (hs : ∀ g, g ∈ gsEnc → g ∈ gs) (B : Nat) : Pg B where
  toPn := pn gs (hs _ (by decide)) (hs _ (by decide)) B
  enc := fun {c F v w} h hG m3 m8 ok x l hr _ _ => by
    have h' : CodP B c F v w := h
    obtain ⟨bc, b, bp, bl, bg, capg, bd, bm, rfl, hc, _⟩ := h
    refine (Encode_prog c bc b bp bl bg capg bd x l w m3 m8 ok hc ((GlP.laid hG).sub hs) hr).mono ?_
    rintro e w' ⟨he, hb⟩
    exact ⟨he, Out.of_below hb, h'.below hb⟩
  chk := fun {c F v w} h hG m3 m8 ok x l hr hcp _ => by
    have h' : CodP B c F v w := h
    obtain ⟨bc, b, bp, bl, bg, capg, bd, bm, rfl, hc, _⟩ := h
    refine (Check_prog c bc b bp bl bg capg bd x l w m3 m8 ok hc ((GlP.laid hG).sub hs) hr hcp).mono ?_
    rintro e w' ⟨he, hb⟩
    exact ⟨he, Out.of_below hb, h'.below hb⟩
def pg (B : Nat) : Pg B := pgOf gsEnc (fun _ h => h) B

theorem pn_gl {gs : List Nat} {hR : 7 ∈ gs} {hM : 0 ∈ gs} {W : World} (h : Laid gs W) : (pn gs hR hM W.heap.size).Gl W := ⟨W, rfl, h, Below.refl _ _⟩
theorem pg_gl {W : World} (h : Laid gsEnc W) : (pg W.heap.size).Gl W := ⟨W, rfl, h, Below.refl _ _⟩
end Go.Proofs.YtnpkkcbadcmgkaaGreatDoor
