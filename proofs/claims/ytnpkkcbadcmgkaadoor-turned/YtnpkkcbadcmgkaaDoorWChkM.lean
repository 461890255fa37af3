import Derived.Test.YtnpkkcbadcmgkaaDoorWList2
import Derived.Test.YtnpkkcbadcmgkaaDoorWPg
namespace Go.Proofs.YtnpkkcbadcmgkaaDoor
open Go.RowKit Go.Deep
open Gf (Cd)

set_option maxHeartbeats 1000000 in
theorem equal_any (v1 v2 : Value) (l1 l2 : List Int) (w : World) (h1 : Rd w v1 l1) (h2 : Rd w v2 l2) :
    Calls Tryd.prog 58 #[v1, v2] w fun e w' => e = .returned (.bool (l1 == l2)) ∧ Below w.heap.size w w' := by
  obtain ⟨a1, cap1, rfl, hm1, hc1⟩ := h1
  obtain ⟨a2, cap2, rfl, hm2, hc2⟩ := h2
  have hm1' := maxLen_lt hm1
  have hm2' := maxLen_lt hm2
  have H1 := hide hc1
  have H2 := hide hc2
  clear hc1 hc2 hm1 hm2
  by_cases hlen : l1.length = l2.length
  · have ht : ((l1.length : Int) != (l2.length : Int)) = false := by rw [bne_eq_false_iff_eq]; omega
    have Hlen := hide hlen
    clear hlen
    go_enter Tryd.func58, Tryd.ntmps58
    go_wp2
    go_loopw [5, 13] (fun _ i wr => ∃ j : Nat, j ≤ l1.length ∧ i = .int .i64 j ∧ Hid (∃ d, wr = w.drewN d) ∧ Hid (l1.take j = l2.take j)) (fun _ i _ => l1.length - (intOf i).toNat)
    case atStart => exact ⟨0, by omega, rfl, hide ⟨0, rfl⟩, hide rfl⟩
    case round =>
      obtain ⟨j, hj, rfl, hww, hs⟩ := hrel
      obtain ⟨d, rfl⟩ := unhide hww
      by_cases hlt : j < l1.length
      · have hlt2 : j < l2.length := by have := unhide Hlen; omega
        obtain ⟨b1, o1, rfl, c1⟩ := unhide H1 j hlt
        obtain ⟨b2, o2, rfl, c2⟩ := unhide H2 j hlt2
        have hI1 : (j : Int) < (l1.length : Int) := by omega
        have hI2 : (j : Int) < (l2.length : Int) := by omega
        have hst := hide (take_succ_iff hlt hlt2 (unhide hs))
        by_cases hx : l1.getD j 0 = l2.getD j 0
        · have hs2 := hide ((unhide hst).2 hx)
          have tx : (l1.getD j 0 != l2.getD j 0) = false := by rw [bne_eq_false_iff_eq]; exact hx
          clear hx hst hs
          generalize l1.getD j 0 = x at *
          generalize l2.getD j 0 = y at *
          go_wp2
          go_quiet (fail)
          go_wp2
          exact ⟨⟨j + 1, by omega, by go_num, hide ⟨_, rfl⟩, hs2⟩, by simp [intOf]; omega⟩
        · have hne := hide (show ¬ l1 = l2 from fun e => hx (by rw [e]))
          have tx : (l1.getD j 0 != l2.getD j 0) = true := by rw [bne_iff_ne]; exact hx
          clear hx hst hs
          generalize l1.getD j 0 = x at *
          generalize l2.getD j 0 = y at *
          go_wp2
          go_quiet (fail)
          go_wp2
          go_ret
          refine ⟨?_, (below_of_drewN _ _ _).trans (below_of_drewN _ _ _)⟩
          rw [show (l1 == l2) = false by rw [beq_eq_false_iff_ne]; exact unhide hne]
          rfl
      · have e : j = l1.length := by omega
        have heq := hide (show l1 = l2 from by
          have h := unhide hs
          rw [e, List.take_of_length_le (Nat.le_refl _), unhide Hlen, List.take_of_length_le (Nat.le_refl _)] at h
          exact h)
        clear hs e
        go_wp2
        go_ret
        refine ⟨?_, below_of_drewN _ _ _⟩
        rw [show (l1 == l2) = true by rw [beq_iff_eq]; exact unhide heq]
        rfl
  · have ht : ((l1.length : Int) != (l2.length : Int)) = true := by rw [bne_iff_ne]; omega
    have hne := hide (show ¬ l1 = l2 from fun e => hlen (by rw [e]))
    clear hlen
    go_enter Tryd.func58, Tryd.ntmps58
    go_wp2
    go_ret
    refine ⟨?_, Below.refl _ _⟩
    rw [show (l1 == l2) = false by rw [beq_eq_false_iff_ne]; exact unhide hne]
    rfl

theorem wr_of_nrow {w : World} {b W : Nat} {l : List Nat} (h : NRow w b W (fun i => l.getD i 0)) (hl : l.length = W) (hW : W < 1024) : Wr w (.slice (some ⟨b, 0, none⟩) W W) (l.map fun x : Nat => (x : Int)) b := by
  have e : (l.map fun x : Nat => (x : Int)).length = W := by rw [List.length_map, hl]
  have h2 : Row w b (l.map fun x : Nat => (x : Int)).length (fun i => (l.map fun x : Nat => (x : Int)).getD i 0) := by
    rw [e]
    exact World.rowIs.congr h (fun i _ => by show Value.int IntKind.i64 ((l.getD i 0 : Nat) : Int) = Value.int IntKind.i64 ((l.map fun x : Nat => (x : Int)).getD i 0); rw [mapN_getD])
  have h3 := wr_of_row h2 (by rw [e]; unfold maxLen; omega)
  rw [e] at h3
  exact h3

/-- what encode answers. -/
def IEnc (c : Cd) (l : List Int) (w : World) (e : Ending) (w' : World) : Prop :=
  ((givenE c.G.m c.bin l (c.K - c.short) ≠ 0 ∧ ∃ x, e = .returned (.tuple #[.slice none 0 0, x]) ∧ Flt (givenE c.G.m c.bin l (c.K - c.short)) (givenAt c.G.m c.bin l (c.K - c.short)) x w') ∨
   (givenE c.G.m c.bin l (c.K - c.short) = 0 ∧ ∃ v b, w.heap.size ≤ b ∧ e = .returned (.tuple #[v, .nilIface]) ∧ Wr w' v ((c.word (nat l)).map fun x : Nat => (x : Int)) b)) ∧ Below w.heap.size w w'

set_option maxHeartbeats 2000000 in
theorem iencode_any (c : Cd) (bc b bp bl bg capg bd : Nat) (v : Value) (l : List Int) (w : World) (m3 : 3 ≤ c.G.m) (m8 : c.G.m ≤ 8) (ok : c.Ok) (h : CodAt c bc b bp bl bg capg bd w) (L : Laid gsEnc w) (hr : Rd w v l) :
    Calls Tryd.prog 41 #[.pointer (some ⟨bc, 0, none⟩), v] w (IEnc c l w) := by
  have hpre : Pre c := ⟨m3, m8, ok.f, ok.d2, ok.dn⟩
  obtain ⟨hn1, hn2⟩ := hpre.nb
  have hKl := Gf.K_le ok
  have hS := hide (Size_core bc bg _ capg _ _ w h.x3 h.x4 h.x5)
  have hC := hide (fun wx (hx : CodAt c bc b bp bl bg capg bd wx) (hl : Laid gsEnc wx) (hrx : Rd wx v l) => checkList_any c bc b bp bl bg capg bd (c.K - c.short) v l wx m3 m8 hx hl hrx (by omega))
  have hW := hide (fun wx (hx : CodAt c bc b bp bl bg capg bd wx) (hm : Gf.msg c (nat l)) (hrx : RdN wx v (nat l)) => wordOf_any c b bp bl bc bg capg (nat l) v wx m3 m8 ok hx.wo hm hrx)
  have HC := hide h
  have HL := hide L
  have HR := hide hr
  have OK := hide ok
  clear h L hr hpre ok
  go_enter Tryd.func41, Tryd.ntmps41
  go_wp2_with fail
  refine (unhide hS).mono ?_
  rintro e w1 ⟨rfl, d, rfl⟩
  have hb0 := hide (below_of_drewN w.heap.size w d)
  have HC1 := hide ((unhide HC).below (unhide hb0))
  have HL1 := hide ((unhide HL).below (unhide hb0))
  have HR1 := hide ((unhide HR).below (unhide hb0))
  clear HC HL HR
  generalize w.drewN d = w1 at *
  go_wp2_with fail
  refine (unhide hC _ (unhide HC1) (unhide HL1) (unhide HR1)).mono ?_
  rintro e w2 ⟨hor, hb⟩
  have hB2 := hide (Below.join (unhide hb0) hb)
  have HC2 := hide ((unhide HC1).below hb)
  have HR2 := hide ((unhide HR1).below hb)
  clear HC1 HL1 HR1 hb
  rcases hor with ⟨hg, rfl⟩ | ⟨hg, x, rfl, hf⟩
  · have Hg := hide hg
    obtain ⟨hl, hgd⟩ := given_ok.1 hg
    have hm := hide (nat_msg c hl hgd)
    have hrN := hide (show RdN w2 v (nat l) by unfold RdN; rw [nat_map hgd]; exact unhide HR2)
    clear hg hl hgd HR2
    go_wp2_with fail
    refine (unhide hW _ (unhide HC2) (unhide hm) (unhide hrN)).mono ?_
    rintro e w3 ⟨bw, rfl, hbw, hn, hb3⟩
    have hfin := hide (wr_of_nrow hn (Gf.word_length (unhide OK) (unhide hm)) (by omega))
    have hB3 := hide (Below.join (unhide hB2) hb3)
    have hle := hide (Nat.le_trans (unhide hB2).size hbw)
    clear hn hb3 hbw
    go_wp2
    go_ret2
    exact ⟨Or.inr ⟨unhide Hg, _, bw, unhide hle, rfl, unhide hfin⟩, unhide hB3⟩
  · obtain ⟨fb, rfl, f0, f1⟩ := hf
    have Hg := hide hg
    have HF := hide (show Flt (givenE c.G.m c.bin l (c.K - c.short)) (givenAt c.G.m c.bin l (c.K - c.short)) (.iface 81 (.pointer (some ⟨fb, 0, none⟩))) w2 from ⟨fb, rfl, f0, f1⟩)
    clear hg f0 f1
    go_wp2
    go_ret2
    exact ⟨Or.inl ⟨unhide Hg, _, rfl, unhide HF⟩, unhide hB2⟩

set_option maxHeartbeats 2000000 in
theorem Encode_prog (c : Cd) (bc b bp bl bg capg bd : Nat) (v : Value) (l : List Int) (w : World) (m3 : 3 ≤ c.G.m) (m8 : c.G.m ≤ 8) (ok : c.Ok) (h : CodAt c bc b bp bl bg capg bd w) (L : Laid gsEnc w) (hr : Rd w v l) :
    Calls Tryd.prog 23 #[.pointer (some ⟨bc, 0, none⟩), v] w fun e w' => EncP c l w w' e ∧ Below w.heap.size w w' := by
  have hI := hide (iencode_any c bc b bp bl bg capg bd v l w m3 m8 ok h L hr)
  have HL := hide L
  clear h L hr
  go_enter Tryd.func23, Tryd.ntmps23
  go_wp2_with fail
  refine (unhide hI).mono ?_
  rintro e w1 ⟨hor, hb⟩
  have HB := hide hb
  have HL1 := hide ((unhide HL).below hb)
  clear hb HL
  rcases hor with ⟨hg, x, rfl, hf⟩ | ⟨hg, v', bw, hbw, rfl, hfin⟩
  · have hT := hide (told_flt _ _ x gsEnc w1 (unhide HL1) hf)
    have Hg := hide hg
    clear hg hf
    generalize hE : givenE c.G.m c.bin l (c.K - c.short) = gE at *
    generalize hA : givenAt c.G.m c.bin l (c.K - c.short) = gA at *
    have HE := hide hE
    have HA := hide hA
    clear hE hA
    go_wp2_with fail
    refine (unhide hT).mono ?_
    rintro e w2 ⟨rfl, hb2⟩
    have HB2 := hide (Below.join (unhide HB) hb2)
    clear hb2
    go_wp2
    go_ret3
    refine ⟨Or.inl ⟨by rw [unhide HE]; exact unhide Hg, .slice none 0 0, ?_, ?_⟩, unhide HB2⟩
    · rw [unhide HE, unhide HA]; rfl
    · exact ⟨none, 0, rfl, by unfold maxLen; simp, fun i hi => by simp at hi⟩
  · have Hg := hide hg
    have HF := hide hfin
    have Hbw := hide hbw
    clear hg hfin hbw
    go_wp2_with fail
    refine (told_nil _).mono ?_
    rintro e w2 ⟨rfl, hb2⟩
    have HB2 := hide (Below.join (unhide HB) hb2)
    have HF2 := hide ((unhide HF).below hb2)
    clear hb2 HF
    go_wp2
    go_ret3
    exact ⟨Or.inr ⟨unhide Hg, _, bw, unhide Hbw, rfl, unhide HF2⟩, unhide HB2⟩
end Go.Proofs.YtnpkkcbadcmgkaaDoor

namespace Go.Proofs.YtnpkkcbadcmgkaaDoor
open Go.RowKit Go.Deep
open Gf (Cd)

/-- what check answers. -/
def IChk (c : Cd) (l : List Int) (w : World) (e : Ending) (w' : World) : Prop :=
  ((chkE c l ≠ 0 ∧ ∃ x, e = .returned (.tuple #[.bool false, x]) ∧ Flt (chkE c l) (chkAt c l) x w') ∨ (chkE c l = 0 ∧ e = .returned (.tuple #[.bool (isWord c l), .nilIface]))) ∧ Below w.heap.size w w'

set_option maxHeartbeats 2000000 in
theorem icheck_any (c : Cd) (bc b bp bl bg capg bd : Nat) (v : Value) (l : List Int) (w : World) (m3 : 3 ≤ c.G.m) (m8 : c.G.m ≤ 8) (ok : c.Ok) (h : CodAt c bc b bp bl bg capg bd w) (L : Laid gsEnc w) (hr : Rd w v l) (hcp : CapOk v) :
    Calls Tryd.prog 42 #[.pointer (some ⟨bc, 0, none⟩), v] w (IChk c l w) := by
  have hpre : Pre c := ⟨m3, m8, ok.f, ok.d2, ok.dn⟩
  obtain ⟨hn1, hn2⟩ := hpre.nb
  have hKl := Gf.K_le ok
  have hks := ok.s
  have hS := hide (Size_core bc bg _ capg _ _ w h.x3 h.x4 h.x5)
  have hC := hide (fun wx (hx : CodAt c bc b bp bl bg capg bd wx) (hl : Laid gsEnc wx) (hrx : Rd wx v l) => checkList_any c bc b bp bl bg capg bd (c.n - c.short - c.cut) v l wx m3 m8 hx hl hrx (by omega))
  have hW := hide (fun v' u wx (hx : CodAt c bc b bp bl bg capg bd wx) (hm : Gf.msg c u) (hrx : RdN wx v' u) => wordOf_any c b bp bl bc bg capg u v' wx m3 m8 ok hx.wo hm hrx)
  have HC := hide h
  have HL := hide L
  have HR := hide hr
  have OK := hide ok
  obtain ⟨a, cap, rfl, hmx, hcc⟩ := hr
  have hcap : l.length ≤ cap := hcp _ _ _ rfl
  have hmx' := maxLen_lt hmx
  have Hcc := hide hcc
  clear h L hpre ok hcp hmx hcc
  go_enter Tryd.func42, Tryd.ntmps42
  go_wp2_with fail
  refine (unhide hS).mono ?_
  rintro e w1 ⟨rfl, d, rfl⟩
  have hb0 := hide (below_of_drewN w.heap.size w d)
  have HC1 := hide ((unhide HC).below (unhide hb0))
  have HL1 := hide ((unhide HL).below (unhide hb0))
  have HR1 := hide ((unhide HR).below (unhide hb0))
  clear HC HL HR
  generalize w.drewN d = w1 at *
  go_wp2_with fail
  refine (unhide hC _ (unhide HC1) (unhide HL1) (unhide HR1)).mono ?_
  rintro e w2 ⟨hor, hb⟩
  have hB2 := hide (Below.join (unhide hb0) hb)
  have HC2 := hide ((unhide HC1).below hb)
  have HR2 := hide ((unhide HR1).below hb)
  clear HC1 HL1 HR1 hb
  rcases hor with ⟨hg, rfl⟩ | ⟨hg, x, rfl, hf⟩
  · have Hg := hide (show chkE c l = 0 from hg)
    obtain ⟨hl, hgd⟩ := given_ok.1 hg
    obtain ⟨k, hk⟩ : ∃ k, c.K - c.short = k := ⟨_, rfl⟩
    have hkl : k ≤ l.length := by omega
    have hk1 : 1 ≤ k := by omega
    obtain ⟨bm, om, rfl, _⟩ := unhide Hcc 0 (by omega)
    have hgt := good_take hgd k
    have hlt : (l.take k).length = k := by rw [List.length_take]; omega
    have hm := hide (nat_msg c (l := l.take k) (by rw [hlt, hk]) hgt)
    have hrT := hide (Rd.take k cap (unhide HR2) hkl)
    have hrN := hide (show RdN w2 (.slice (some ⟨bm, om, none⟩) k cap) (nat (l.take k)) by unfold RdN; rw [nat_map hgt]; exact unhide hrT)
    have hiw := hide (show isWord c l = ((c.word (nat (l.take k))).map (fun x : Nat => (x : Int)) == l) by unfold isWord; rw [hk])
    rw [hk]
    have hI1 : (k : Int) ≤ (cap : Int) := by omega
    have hW2 := hide (unhide hW _ _ _ (unhide HC2) (unhide hm) (unhide hrN))
    have hwl := hide (Gf.word_length (unhide OK) (unhide hm))
    have hsz : c.n - c.short - c.cut < 1024 := by omega
    generalize c.n - c.short - c.cut = W at *
    clear hg hl hgd hgt hlt hk hrN hrT hW hm
    go_wp2_with fail
    refine (unhide hW2).mono ?_
    rintro e w3 ⟨bw, rfl, hbw, hn, hb3⟩
    have hE := hide (equal_any (.slice (some ⟨bm, om, none⟩) l.length cap) (.slice (some ⟨bw, 0, none⟩) W W) l ((c.word (nat (l.take k))).map fun x : Nat => (x : Int)) w3 ((unhide HR2).below hb3) (wr_of_nrow hn (unhide hwl) hsz).rd)
    have hB3 := hide (Below.join (unhide hB2) hb3)
    clear hn hb3 hbw HR2 HC2
    go_wp2_with fail
    refine (unhide hE).mono ?_
    rintro e w4 ⟨rfl, hb4⟩
    have hB4 := hide (Below.join (unhide hB3) hb4)
    clear hb4
    have heq := hide (show (l == (c.word (nat (l.take k))).map fun x : Nat => (x : Int)) = isWord c l by
      rw [unhide hiw]
      exact bool_eq ⟨fun h => beq_iff_eq.2 (beq_iff_eq.1 h).symm, fun h => beq_iff_eq.2 (beq_iff_eq.1 h).symm⟩)
    rw [unhide heq]
    go_wp2
    go_ret2
    exact ⟨Or.inr ⟨unhide Hg, rfl⟩, unhide hB4⟩
  · obtain ⟨fb, rfl, f0, f1⟩ := hf
    have Hg := hide hg
    have HF := hide (show Flt (chkE c l) (chkAt c l) (.iface 81 (.pointer (some ⟨fb, 0, none⟩))) w2 from ⟨fb, rfl, f0, f1⟩)
    clear hg f0 f1
    go_wp2
    go_ret2
    exact ⟨Or.inl ⟨unhide Hg, _, rfl, unhide HF⟩, unhide hB2⟩

set_option maxHeartbeats 2000000 in
theorem Check_prog (c : Cd) (bc b bp bl bg capg bd : Nat) (v : Value) (l : List Int) (w : World) (m3 : 3 ≤ c.G.m) (m8 : c.G.m ≤ 8) (ok : c.Ok) (h : CodAt c bc b bp bl bg capg bd w) (L : Laid gsEnc w) (hr : Rd w v l) (hcp : CapOk v) :
    Calls Tryd.prog 27 #[.pointer (some ⟨bc, 0, none⟩), v] w fun e w' => e = .returned (.tuple #[.bool (chkB c l), .int .i64 (chkE c l), .int .i64 (chkAt c l)]) ∧ Below w.heap.size w w' := by
  have hI := hide (icheck_any c bc b bp bl bg capg bd v l w m3 m8 ok h L hr hcp)
  have HL := hide L
  clear h L hr
  go_enter Tryd.func27, Tryd.ntmps27
  go_wp2_with fail
  refine (unhide hI).mono ?_
  rintro e w1 ⟨hor, hb⟩
  have HB := hide hb
  have HL1 := hide ((unhide HL).below hb)
  clear hb HL
  rcases hor with ⟨hg, x, rfl, hf⟩ | ⟨hg, rfl⟩
  · have hT := hide (told_flt _ _ x gsEnc w1 (unhide HL1) hf)
    have hcb := hide (show chkB c l = false by unfold chkB; rw [show (chkE c l == 0) = false by rw [beq_eq_false_iff_ne]; exact hg]; rfl)
    clear hg hf
    go_wp2_with fail
    refine (unhide hT).mono ?_
    rintro e w2 ⟨rfl, hb2⟩
    have HB2 := hide (Below.join (unhide HB) hb2)
    clear hb2
    go_wp2
    go_ret3
    exact ⟨by rw [unhide hcb]; rfl, unhide HB2⟩
  · have hcb := hide (show chkB c l = isWord c l by unfold chkB; rw [hg]; simp)
    have hca := hide (show chkAt c l = 0 by
      obtain ⟨hl, hgd⟩ := given_ok.1 hg
      unfold chkAt givenAt; rw [if_pos hl, if_pos hgd])
    have Hg := hide hg
    clear hg
    go_wp2_with fail
    refine (told_nil _).mono ?_
    rintro e w2 ⟨rfl, hb2⟩
    have HB2 := hide (Below.join (unhide HB) hb2)
    clear hb2
    go_wp2
    go_ret3
    exact ⟨by rw [unhide hcb, unhide Hg, unhide hca]; rfl, unhide HB2⟩
end Go.Proofs.YtnpkkcbadcmgkaaDoor
