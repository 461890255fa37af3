import Derived.Test.YtohgmoclnicchaaDoorWGiven
namespace Go.Proofs.YtohgmoclnicchaaDoor
open Go.RowKit Go.Deep
open Gf (Cd)

theorem word_rd {c : Cd} {l : List Nat} {w : World} {b cap : Nat} (ok : c.Ok) (hm : Gf.msg c l) (hn : c.n ≤ 256) (h : NRow w b c.n (fun i => (c.fl (List.replicate c.short 0 ++ l)).getD i 0)) :
    RdN w (.slice (some ⟨b, c.short, none⟩) (c.n - c.short - c.cut) cap) (c.word l) := by
  have hl := Gf.word_length ok hm
  have hK := Gf.K_le ok
  have hs := ok.s
  have hl2 : ((c.word l).map fun x : Nat => (x : Int)).length = c.n - c.short - c.cut := by rw [List.length_map, hl]
  rw [← hl2]
  refine Row.rd (n := c.n) h c.short _ cap (by rw [hl2]; omega) (by rw [hl2]; unfold maxLen; omega) (fun i hi => ?_)
  rw [hl2] at hi
  rw [mapN_getD]
  congr 1
  show (c.fl (List.replicate c.short 0 ++ l)).getD (c.short + i) 0 = _
  unfold Cd.word
  rw [List.getD_eq_getElem?_getD, List.getD_eq_getElem?_getD, List.getElem?_take_of_lt hi, List.getElem?_drop]

/-- what Encode answers. -/
def EncIs (c : Cd) (l : List Int) (B : Nat) (w' : World) (e : Ending) : Prop :=
  (givenE c.G.m c.bin l (c.K - c.short) ≠ 0 ∧ e = .returned (.tuple #[.slice none 0 0, .int .i64 (givenE c.G.m c.bin l (c.K - c.short)), .int .i64 (givenAt c.G.m c.bin l (c.K - c.short))])) ∨
  (givenE c.G.m c.bin l (c.K - c.short) = 0 ∧ ∃ b cap, B ≤ b ∧ e = .returned (.tuple #[.slice (some ⟨b, c.short, none⟩) (c.n - c.short - c.cut) cap, .int .i64 0, .int .i64 0]) ∧ RdN w' (.slice (some ⟨b, c.short, none⟩) (c.n - c.short - c.cut) cap) (c.word (nat l)))

set_option maxHeartbeats 2000000 in
theorem Encode_any (c : Cd) (v : Value) (l : List Int) (w : World) (m3 : 3 ≤ c.G.m) (m8 : c.G.m ≤ 8) (ok : c.Ok) (h : Rd w v l) :
    Calls Tryd.prog 48 #[pv c.G.m c.G.q c.first c.delta c.short c.cut c.bin, v] w fun e w' => EncIs c l w.heap.size w' e ∧ Below w.heap.size w w' := by
  have hpre : Pre c := ⟨m3, m8, ok.f, ok.d2, ok.dn⟩
  obtain ⟨hn1, hn2⟩ := hpre.nb
  have hS := hide (fun wx => Size_any c wx m3 m8 ok)
  have hG := hide (fun wx (hx : Rd wx v l) => Given_any c.G.m c.G.q c.first c.delta c.short c.cut c.bin v l (c.K - c.short) wx m3 m8 hx)
  have hW := hide (fun wx (hx : RdN wx v (nat l)) (hm : Gf.msg c (nat l)) => Word_any c v (nat l) wx m3 m8 ok hx hm)
  have hR := hide h
  have hB := hide (box_below w c.G.m c.G.q c.first c.delta c.short c.cut c.bin)
  have hX := hide (Box.new w c.G.m c.G.q c.first c.delta c.short c.cut c.bin)
  have OK := hide ok
  clear hpre ok h
  go_enter Tryd.func48, Tryd.ntmps48
  go_wp2_with fail
  refine (unhide hS _).mono ?_
  rintro e w1 ⟨rfl, hb⟩
  have hx1 := (unhide hX).below hb
  have x0 := hx1.c0
  have x1 := hx1.c1
  have x2 := hx1.c2
  have x3 := hx1.c3
  have x4 := hx1.c4
  have x5 := hx1.c5
  have x6 := hx1.c6
  have hX1 := hide hx1
  have hB1 := hide (Below.join (unhide hB) hb)
  clear hb hx1 hX hB
  go_wp2_with fail
  refine (unhide hG _ ((unhide hR).below (unhide hB1))).mono ?_
  rintro e w2 ⟨rfl, hb⟩
  have hx1 := (unhide hX1).below hb
  clear x0 x1 x2 x3 x4 x5 x6
  have x0 := hx1.c0
  have x1 := hx1.c1
  have x2 := hx1.c2
  have x3 := hx1.c3
  have x4 := hx1.c4
  have x5 := hx1.c5
  have x6 := hx1.c6
  have hB2 := hide (Below.join (unhide hB1) hb)
  clear hb hx1 hX1 hB1
  by_cases hg : givenE c.G.m c.bin l (c.K - c.short) = 0
  · have Hg := hide hg
    obtain ⟨hl, hgd⟩ := given_ok.1 hg
    have hat := hide (show givenAt c.G.m c.bin l (c.K - c.short) = 0 by unfold givenAt; rw [if_pos hl, if_pos hgd])
    have hm := hide (nat_msg c hl hgd)
    have hr2 := hide (show RdN w2 v (nat l) by unfold RdN; rw [nat_map hgd]; exact (unhide hR).below (unhide hB2))
    rw [hg, unhide hat]
    clear hg hl hgd
    go_wp2_with fail
    refine (unhide hW _ (unhide hr2) (unhide hm)).mono ?_
    rintro e w3 ⟨b, rfl, hbl, hn, hb⟩
    have hfin := hide (word_rd (cap := c.n - c.short) (unhide OK) (unhide hm) (by omega) hn)
    have hB3 := hide (Below.join (unhide hB2) hb)
    have hle := hide (Nat.le_trans (unhide hB2).size hbl)
    clear hb hn hbl
    go_wp2
    go_ret3
    exact ⟨Or.inr ⟨unhide Hg, b, _, unhide hle, rfl, unhide hfin⟩, unhide hB3⟩
  · have Hg := hide hg
    have hne : (givenE c.G.m c.bin l (c.K - c.short) != 0) = true := by rw [bne_iff_ne]; exact hg
    have hI : Hid (EncIs c l w.heap.size w2 (.returned (.tuple #[.slice none 0 0, .int .i64 (givenE c.G.m c.bin l (c.K - c.short)), .int .i64 (givenAt c.G.m c.bin l (c.K - c.short))]))) := Or.inl ⟨hg, rfl⟩
    clear hg
    generalize givenE c.G.m c.bin l (c.K - c.short) = e at *
    generalize givenAt c.G.m c.bin l (c.K - c.short) = a at *
    go_wp2
    go_ret3
    exact ⟨unhide hI, unhide hB2⟩
end Go.Proofs.YtohgmoclnicchaaDoor
