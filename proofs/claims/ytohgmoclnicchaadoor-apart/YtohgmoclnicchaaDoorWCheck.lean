import Derived.Test.YtohgmoclnicchaaDoorWEnc
namespace Go.Proofs.YtohgmoclnicchaaDoor
open Go.RowKit Go.Deep
open Gf (Cd)

theorem Rd.take {w : World} {b o cap : Nat} {l : List Int} (k : Nat) (cap' : Nat) (h : Rd w (.slice (some ⟨b, o, none⟩) l.length cap) l) (hk : k ≤ l.length) : Rd w (.slice (some ⟨b, o, none⟩) k cap') (l.take k) := by
  obtain ⟨a, cap2, hv, hm, hc⟩ := h
  have e : (l.take k).length = k := by rw [List.length_take]; omega
  refine ⟨some ⟨b, o, none⟩, cap', by rw [e], by omega, fun i hi => ⟨b, o, rfl, ?_⟩⟩
  rw [e] at hi
  obtain ⟨b2, o2, ha, hcell⟩ := hc i (by omega)
  cases hv
  cases ha
  rw [hcell, List.getD_eq_getElem?_getD, List.getD_eq_getElem?_getD, List.getElem?_take_of_lt hi]

theorem good_take {m : Nat} {bin : Bool} {l : List Int} (h : good m bin l = l.length) (k : Nat) : good m bin (l.take k) = (l.take k).length := by
  refine good_all (fun i hi => ?_)
  rw [List.length_take] at hi
  have h1 := syms_all h (l[i]'(by omega)) (List.getElem_mem _)
  rw [List.getD_eq_getElem?_getD, List.getElem?_take_of_lt (by omega), List.getElem?_eq_getElem (by omega)]
  exact h1

/-- is it a word? -/
def isWord (c : Cd) (l : List Int) : Bool := (c.word (nat (l.take (c.K - c.short)))).map (fun x : Nat => (x : Int)) == l

/-- what Check answers. -/
def chkE (c : Cd) (l : List Int) : Int := givenE c.G.m c.bin l (c.n - c.short - c.cut)
def chkAt (c : Cd) (l : List Int) : Int := givenAt c.G.m c.bin l (c.n - c.short - c.cut)
def chkB (c : Cd) (l : List Int) : Bool := chkE c l == 0 && isWord c l

/-- a slice's capacity is no less than its length. -/
def CapOk (v : Value) : Prop := ∀ a n cap, v = .slice a n cap → n ≤ cap

set_option maxRecDepth 100000 in
set_option maxHeartbeats 2000000 in
theorem Check_any (c : Cd) (v : Value) (l : List Int) (w : World) (m3 : 3 ≤ c.G.m) (m8 : c.G.m ≤ 8) (ok : c.Ok) (h : Rd w v l) (hcp : CapOk v) :
    Calls Tryd.prog 50 #[pv c.G.m c.G.q c.first c.delta c.short c.cut c.bin, v] w fun e w' => e = .returned (.tuple #[.bool (chkB c l), .int .i64 (chkE c l), .int .i64 (chkAt c l)]) ∧ Below w.heap.size w w' := by
  have hpre : Pre c := ⟨m3, m8, ok.f, ok.d2, ok.dn⟩
  obtain ⟨hn1, hn2⟩ := hpre.nb
  have hS := hide (fun wx => Size_any c wx m3 m8 ok)
  have hG := hide (fun wx (hx : Rd wx v l) => Given_any c.G.m c.G.q c.first c.delta c.short c.cut c.bin v l (c.n - c.short - c.cut) wx m3 m8 hx)
  have hW := hide (fun v' l' wx (hx : RdN wx v' l') (hm : Gf.msg c l') => Word_any c v' l' wx m3 m8 ok hx hm)
  have hR := hide h
  have hB := hide (box_below w c.G.m c.G.q c.first c.delta c.short c.cut c.bin)
  have hX := hide (Box.new w c.G.m c.G.q c.first c.delta c.short c.cut c.bin)
  have OK := hide ok
  have hK := Gf.K_le ok
  have hs := ok.s
  obtain ⟨a, cap, rfl, hm, hc⟩ := h
  have hm' := maxLen_lt hm
  have hcap := hcp _ _ _ rfl
  have hnz : Hid (0 < l.length → ∃ b o, a = some ⟨b, o, none⟩) := fun h0 => by obtain ⟨b, o, e, _⟩ := hc 0 h0; exact ⟨b, o, e⟩
  clear hpre ok hc hm hcp
  go_enter Tryd.func50, Tryd.ntmps50
  go_wp2_with fail
  refine (unhide hS _).mono ?_
  rintro e w1 ⟨rfl, hb⟩
  have hx1 := (unhide hX).below hb
  have x0 := hx1.c0
  have x1 := hx1.c1
  have x2 := hx1.c2
  have x3 := hx1.c3
  have x4 := hx1.c4
  have x5 := hx1.c5
  have x6 := hx1.c6
  have hX1 := hide hx1
  have hB1 := hide (Below.join (unhide hB) hb)
  clear hb hx1 hX hB
  go_wp2_with fail
  refine (unhide hG _ ((unhide hR).below (unhide hB1))).mono ?_
  rintro e w2 ⟨rfl, hb⟩
  have hx1 := (unhide hX1).below hb
  clear x0 x1 x2 x3 x4 x5 x6
  have x0 := hx1.c0
  have x1 := hx1.c1
  have x2 := hx1.c2
  have x3 := hx1.c3
  have x4 := hx1.c4
  have x5 := hx1.c5
  have x6 := hx1.c6
  have hB2 := hide (Below.join (unhide hB1) hb)
  clear hb hx1 hX1 hB1
  have e1 := hide (show givenE c.G.m c.bin l (c.n - c.short - c.cut) = chkE c l from rfl)
  have e2 := hide (show givenAt c.G.m c.bin l (c.n - c.short - c.cut) = chkAt c l from rfl)
  rw [unhide e1, unhide e2]
  by_cases hg : chkE c l = 0
  · obtain ⟨hl, hgd⟩ := given_ok.1 (unhide e1 |>.trans hg)
    have hat := hide (show chkAt c l = 0 by unfold chkAt givenAt; rw [if_pos hl, if_pos hgd])
    have hbb := hide (show chkB c l = isWord c l by unfold chkB; rw [hg]; rfl)
    rw [hg, unhide hat]
    have hlen : c.K - c.short ≤ l.length := by omega
    have hltI : ¬ ((l.length : Int) < ((c.K - c.short : Nat) : Int)) := by omega
    have hrw := hide ((unhide hR).below (unhide hB2))
    have hmm := hide (nat_msg c (l := l.take (c.K - c.short)) (by rw [List.length_take]; omega) (good_take hgd _))
    have hgt := hide (nat_map (good_take hgd (c.K - c.short)))
    have HL := hide hl
    have hg0 := hide hg
    clear hg e1 e2 hl hgd
    obtain ⟨b, o, rfl⟩ := unhide hnz (by omega)
    have htk := hide (Rd.take (c.K - c.short) cap (unhide hrw) hlen)
    have hkk0 : c.K - c.short ≤ cap := by omega
    have hkk1 : 0 < c.K - c.short := by omega
    clear hnz
    generalize hkk : c.K - c.short = kk at *
    have Hkk := hide hkk
    clear hkk
    have hkI : (kk : Int) ≤ (cap : Int) := by omega
    go_wp2
    refine region_tail 4 (by kernel_rfl) (by kernel_rfl) ?_
    simp only [List.take_succ_cons, List.take_zero, List.drop_succ_cons, List.drop_zero]
    repeat still_step
    refine wpStill_nil ?_
    go_wp2_with fail
    have hrn : RdN w2.drew (.slice (some ⟨b, o, none⟩) kk cap) (nat (l.take kk)) := by
      unfold RdN
      rw [unhide hgt]
      exact (unhide htk).below (Below.refl _ _).drew
    refine (unhide hW _ _ _ hrn (unhide hmm)).mono ?_
    rintro e w3 ⟨b3, rfl, hbl, hn, hb⟩
    have hfin := hide (word_rd (cap := c.n - c.short) (unhide OK) (unhide hmm) (by omega) hn)
    have hB3 := hide (Below.join ((unhide hB2).drew) hb)
    have hR3 := hide (((unhide hrw).below (Below.refl _ _).drew).below hb)
    clear hb hn hbl hrn x0 x1 x2 x3 x4 x5 x6
    go_wp2_with fail
    refine (Same_any _ _ _ _ _ (unhide hfin) (unhide hR3)).mono ?_
    rintro e w4 ⟨rfl, hb⟩
    have hB4 := hide (Below.join (unhide hB3) hb)
    have hbi := hide (show isWord c l = ((c.word (nat (l.take kk))).map (fun x : Nat => (x : Int)) == l) by unfold isWord; rw [unhide Hkk])
    clear hb
    go_wp2
    go_ret3
    exact ⟨by rw [unhide hbb, unhide hbi, unhide hat, unhide hg0]; rfl, unhide hB4⟩
  · have hne : (chkE c l != 0) = true := by rw [bne_iff_ne]; exact hg
    have hbb := hide (show chkB c l = false by unfold chkB; rw [show (chkE c l == 0) = false by rw [beq_eq_false_iff_ne]; exact hg]; rfl)
    clear hg e1 e2
    obtain ⟨e, he⟩ : ∃ e, chkE c l = e := ⟨_, rfl⟩
    obtain ⟨x, hx⟩ : ∃ e, chkAt c l = e := ⟨_, rfl⟩
    rw [he, hx]
    rw [he] at hne
    have He := hide he
    have Hx := hide hx
    clear he hx
    go_wp2
    go_ret3
    exact ⟨by rw [unhide hbb, unhide He, unhide Hx]; rfl, unhide hB2⟩
end Go.Proofs.YtohgmoclnicchaaDoor
