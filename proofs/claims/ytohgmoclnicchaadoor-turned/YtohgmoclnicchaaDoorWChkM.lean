import Derived.Test.YtohgmoclnicchaaDoorWEncM
namespace Go.Proofs.YtohgmoclnicchaaDoor
open Go.RowKit Go.Deep
open Gf (Cd)

/-- what check answers. -/
def IChk (c : Cd) (l : List Int) (w : World) (e : Ending) (w' : World) : Prop :=
  ((chkE c l ≠ 0 ∧ ∃ x, e = .returned (.tuple #[.bool false, x]) ∧ Flt (chkE c l) (chkAt c l) x w') ∨ (chkE c l = 0 ∧ e = .returned (.tuple #[.bool (isWord c l), .nilIface]))) ∧ Below w.heap.size w w'

set_option maxHeartbeats 2000000 in
theorem icheck_any (c : Cd) (bc b bp bl bg capg : Nat) (v : Value) (l : List Int) (w : World) (m3 : 3 ≤ c.G.m) (m8 : c.G.m ≤ 8) (ok : c.Ok) (h : CodAt c bc b bp bl bg capg w) (L : Laid gsEnc w) (hr : Rd w v l) (hcp : CapOk v) :
    Calls Tryd.prog 54 #[.pointer (some ⟨bc, 0, none⟩), v] w (IChk c l w) := by
  have hpre : Pre c := ⟨m3, m8, ok.f, ok.d2, ok.dn⟩
  obtain ⟨hn1, hn2⟩ := hpre.nb
  have hKl := Gf.K_le ok
  have hks := ok.s
  have hS := hide (Size_core bc bg _ capg _ _ w h.x3 h.x4 h.x5)
  have hC := hide (fun wx (hx : CodAt c bc b bp bl bg capg wx) (hl : Laid gsEnc wx) (hrx : Rd wx v l) => checkList_any c bc b bp bl bg capg (c.n - c.short - c.cut) v l wx m3 m8 hx hl hrx (by omega))
  have hW := hide (fun v' u wx (hx : CodAt c bc b bp bl bg capg wx) (hm : Gf.msg c u) (hrx : RdN wx v' u) => wordOf_any c b bp bl bc bg capg u v' wx m3 m8 ok hx.wo hm hrx)
  have HC := hide h
  have HL := hide L
  have HR := hide hr
  have OK := hide ok
  obtain ⟨a, cap, rfl, hmx, hcc⟩ := hr
  have hcap : l.length ≤ cap := hcp _ _ _ rfl
  have hmx' := maxLen_lt hmx
  have Hcc := hide hcc
  clear h L hpre ok hcp hmx hcc
  go_enter Tryd.func54, Tryd.ntmps54
  go_wp2_with fail
  refine (unhide hS).mono ?_
  rintro e w1 ⟨rfl, d, rfl⟩
  have hb0 := hide (below_of_drewN w.heap.size w d)
  have HC1 := hide ((unhide HC).below (unhide hb0))
  have HL1 := hide ((unhide HL).below (unhide hb0))
  have HR1 := hide ((unhide HR).below (unhide hb0))
  clear HC HL HR
  generalize w.drewN d = w1 at *
  go_wp2_with fail
  refine (unhide hC _ (unhide HC1) (unhide HL1) (unhide HR1)).mono ?_
  rintro e w2 ⟨hor, hb⟩
  have hB2 := hide (Below.join (unhide hb0) hb)
  have HC2 := hide ((unhide HC1).below hb)
  have HR2 := hide ((unhide HR1).below hb)
  clear HC1 HL1 HR1 hb
  rcases hor with ⟨hg, rfl⟩ | ⟨hg, x, rfl, hf⟩
  · have Hg := hide (show chkE c l = 0 from hg)
    obtain ⟨hl, hgd⟩ := given_ok.1 hg
    obtain ⟨k, hk⟩ : ∃ k, c.K - c.short = k := ⟨_, rfl⟩
    have hkl : k ≤ l.length := by omega
    have hk1 : 1 ≤ k := by omega
    obtain ⟨bm, om, rfl, _⟩ := unhide Hcc 0 (by omega)
    have hgt := good_take hgd k
    have hlt : (l.take k).length = k := by rw [List.length_take]; omega
    have hm := hide (nat_msg c (l := l.take k) (by rw [hlt, hk]) hgt)
    have hrT := hide (Rd.take k cap (unhide HR2) hkl)
    have hrN := hide (show RdN w2 (.slice (some ⟨bm, om, none⟩) k cap) (nat (l.take k)) by unfold RdN; rw [nat_map hgt]; exact unhide hrT)
    have hiw := hide (show isWord c l = ((c.word (nat (l.take k))).map (fun x : Nat => (x : Int)) == l) by unfold isWord; rw [hk])
    rw [hk]
    have hI1 : (k : Int) ≤ (cap : Int) := by omega
    have hW2 := hide (unhide hW _ _ _ (unhide HC2) (unhide hm) (unhide hrN))
    have hwl := hide (Gf.word_length (unhide OK) (unhide hm))
    have hsz : c.n - c.short - c.cut < 1024 := by omega
    generalize c.n - c.short - c.cut = W at *
    clear hg hl hgd hgt hlt hk hrN hrT hW hm
    go_wp2_with fail
    refine (unhide hW2).mono ?_
    rintro e w3 ⟨bw, rfl, hbw, hn, hb3⟩
    have hE := hide (equal_any (.slice (some ⟨bm, om, none⟩) l.length cap) (.slice (some ⟨bw, 0, none⟩) W W) l ((c.word (nat (l.take k))).map fun x : Nat => (x : Int)) w3 ((unhide HR2).below hb3) (wr_of_nrow hn (unhide hwl) hsz).rd)
    have hB3 := hide (Below.join (unhide hB2) hb3)
    clear hn hb3 hbw HR2 HC2
    go_wp2_with fail
    refine (unhide hE).mono ?_
    rintro e w4 ⟨rfl, hb4⟩
    have hB4 := hide (Below.join (unhide hB3) hb4)
    clear hb4
    have heq := hide (show (l == (c.word (nat (l.take k))).map fun x : Nat => (x : Int)) = isWord c l by
      rw [unhide hiw]
      exact bool_eq ⟨fun h => beq_iff_eq.2 (beq_iff_eq.1 h).symm, fun h => beq_iff_eq.2 (beq_iff_eq.1 h).symm⟩)
    rw [unhide heq]
    go_wp2
    go_ret2
    exact ⟨Or.inr ⟨unhide Hg, rfl⟩, unhide hB4⟩
  · obtain ⟨fb, rfl, f0, f1⟩ := hf
    have Hg := hide hg
    have HF := hide (show Flt (chkE c l) (chkAt c l) (.iface 91 (.pointer (some ⟨fb, 0, none⟩))) w2 from ⟨fb, rfl, f0, f1⟩)
    clear hg f0 f1
    go_wp2
    go_ret2
    exact ⟨Or.inl ⟨unhide Hg, _, rfl, unhide HF⟩, unhide hB2⟩

set_option maxHeartbeats 2000000 in
theorem Check_prog (c : Cd) (bc b bp bl bg capg : Nat) (v : Value) (l : List Int) (w : World) (m3 : 3 ≤ c.G.m) (m8 : c.G.m ≤ 8) (ok : c.Ok) (h : CodAt c bc b bp bl bg capg w) (L : Laid gsEnc w) (hr : Rd w v l) (hcp : CapOk v) :
    Calls Tryd.prog 32 #[.pointer (some ⟨bc, 0, none⟩), v] w fun e w' => e = .returned (.tuple #[.bool (chkB c l), .int .i64 (chkE c l), .int .i64 (chkAt c l)]) ∧ Below w.heap.size w w' := by
  have hI := hide (icheck_any c bc b bp bl bg capg v l w m3 m8 ok h L hr hcp)
  have HL := hide L
  clear h L hr
  go_enter Tryd.func32, Tryd.ntmps32
  go_wp2_with fail
  refine (unhide hI).mono ?_
  rintro e w1 ⟨hor, hb⟩
  have HB := hide hb
  have HL1 := hide ((unhide HL).below hb)
  clear hb HL
  rcases hor with ⟨hg, x, rfl, hf⟩ | ⟨hg, rfl⟩
  · have hT := hide (told_flt _ _ x gsEnc w1 (unhide HL1) hf)
    have hcb := hide (show chkB c l = false by unfold chkB; rw [show (chkE c l == 0) = false by rw [beq_eq_false_iff_ne]; exact hg]; rfl)
    clear hg hf
    go_wp2_with fail
    refine (unhide hT).mono ?_
    rintro e w2 ⟨rfl, hb2⟩
    have HB2 := hide (Below.join (unhide HB) hb2)
    clear hb2
    go_wp2
    go_ret3
    exact ⟨by rw [unhide hcb]; rfl, unhide HB2⟩
  · have hcb := hide (show chkB c l = isWord c l by unfold chkB; rw [hg]; simp)
    have hca := hide (show chkAt c l = 0 by
      obtain ⟨hl, hgd⟩ := given_ok.1 hg
      unfold chkAt givenAt; rw [if_pos hl, if_pos hgd])
    have Hg := hide hg
    clear hg
    go_wp2_with fail
    refine (told_nil _).mono ?_
    rintro e w2 ⟨rfl, hb2⟩
    have HB2 := hide (Below.join (unhide HB) hb2)
    clear hb2
    go_wp2
    go_ret3
    exact ⟨by rw [unhide hcb, unhide Hg, unhide hca]; rfl, unhide HB2⟩

theorem Decode_prog (p x y : Value) (w : World) :
    Calls Tryd.prog 35 #[p, x, y] w fun e w' => (∃ r, e = .returned r) ∧ w' = w := by
  go_enter Tryd.func35, Tryd.ntmps35
  go_wp2
  go_returns
  exact ⟨⟨_, rfl⟩, rfl⟩
end Go.Proofs.YtohgmoclnicchaaDoor
