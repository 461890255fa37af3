import Derived.Test.YtohgmoclnicchaaDoorWWordOf
namespace Go.Proofs.YtohgmoclnicchaaDoor
open Go.RowKit Go.Deep
open Gf (Cd)

/-- the function that checks a symbol. -/
def chkF (bin : Bool) : Nat := if bin then 97 else 58

/-- a codec as New lays it in memory. -/
structure CodAt (c : Cd) (bc b bp bl bg capg : Nat) (w : World) : Prop where
  blk : w.heap[bc]? = some (.cells #[.func (.func 83) #[.pointer (some ⟨b, 0, none⟩)] #[], .func (.func 60) #[.pointer (some ⟨b, 0, none⟩)] #[], .func (.func (chkF c.bin)) #[.pointer (some ⟨b, 0, none⟩)] #[], .slice (some ⟨bg, 0, none⟩) c.g.length capg, .int .i64 ((c.n - c.short - c.cut : Nat) : Int), .int .i64 ((c.K - c.short : Nat) : Int)] 103 (0, 0))
  fa : FieldAt c.G.m c.G.q b bp bl w
  gs : ∀ i, i < c.g.length → w.cell? ⟨bg, i, none⟩ = some (.int .i64 ((c.g.getD i 0 : Nat) : Int))

section
variable {c : Cd} {bc b bp bl bg capg : Nat} {w w' : World}
theorem CodAt.x2 (h : CodAt c bc b bp bl bg capg w) : w.cell? ⟨bc, 2, none⟩ = some (.func (.func (chkF c.bin)) #[.pointer (some ⟨b, 0, none⟩)] #[]) := by simp [World.cell?, h.blk]
theorem CodAt.x3 (h : CodAt c bc b bp bl bg capg w) : w.cell? ⟨bc, 3, none⟩ = some (.slice (some ⟨bg, 0, none⟩) c.g.length capg) := by simp [World.cell?, h.blk]
theorem CodAt.x4 (h : CodAt c bc b bp bl bg capg w) : w.cell? ⟨bc, 4, none⟩ = some (.int .i64 ((c.n - c.short - c.cut : Nat) : Int)) := by simp [World.cell?, h.blk]
theorem CodAt.x5 (h : CodAt c bc b bp bl bg capg w) : w.cell? ⟨bc, 5, none⟩ = some (.int .i64 ((c.K - c.short : Nat) : Int)) := by simp [World.cell?, h.blk]
theorem CodAt.wo (h : CodAt c bc b bp bl bg capg w) : WoK c.G b bp bl bc bg capg (c.n - c.short - c.cut) c.g w :=
  ⟨h.fa, by simp [World.cell?, h.blk], by simp [World.cell?, h.blk], h.x3, h.x4, h.gs⟩
theorem CodAt.lt (h : CodAt c bc b bp bl bg capg w) : bc < w.heap.size := (Array.getElem?_eq_some_iff.1 h.blk).1
theorem CodAt.of (h : CodAt c bc b bp bl bg capg w) (e0 : w'.heap[bc]? = w.heap[bc]?) (e1 : w'.heap[b]? = w.heap[b]?) (e2 : w'.heap[bp]? = w.heap[bp]?) (e3 : w'.heap[bl]? = w.heap[bl]?) (e4 : w'.heap[bg]? = w.heap[bg]?) : CodAt c bc b bp bl bg capg w' :=
  ⟨e0.trans h.blk, h.fa.of e1 e2 e3, fun i hi => by rw [World.cell?_of_block e4]; exact h.gs i hi⟩
theorem CodAt.g1 (c : Cd) : 1 ≤ c.g.length := by have : c.g.length = c.rts.length + 1 := Gf.gen_length _ _; omega
theorem CodAt.below (h : CodAt c bc b bp bl bg capg w) (hb : Below w.heap.size w w') : CodAt c bc b bp bl bg capg w' :=
  h.of (hb.block _ h.lt) (hb.block _ (lt_of_cell h.fa.c0)) (hb.block _ h.fa.pows.lt) (hb.block _ h.fa.logs.lt) (hb.block _ (lt_of_cell (h.gs 0 (CodAt.g1 c))))
end

theorem isMade_any (bc bg n capg : Nat) (w : World) (x3 : w.cell? ⟨bc, 3, none⟩ = some (.slice (some ⟨bg, 0, none⟩) n capg)) :
    Calls Tryd.prog 65 #[.pointer (some ⟨bc, 0, none⟩)] w fun e w' => e = .returned (.bool true) ∧ w' = w := by
  have qT : ∀ (w : World) (a : Option Addr) (n c n' c' : Nat), (binOp .neq 41 (.slice a n c) (.slice none n' c')).run Tryd.prog w = .ok (.bool (!a.isNone)) w := fun w a n c n' c' => run_neq_slice_nil_any w _ _ a n c n' c' Tryd.underlying41
  go_enter Tryd.func65, Tryd.ntmps65
  go_wp2
  go_ret
  exact ⟨rfl, rfl⟩

set_option maxHeartbeats 1000000 in
theorem Size_core (bc bg n capg W M : Nat) (w : World) (x3 : w.cell? ⟨bc, 3, none⟩ = some (.slice (some ⟨bg, 0, none⟩) n capg)) (x4 : w.cell? ⟨bc, 4, none⟩ = some (.int .i64 (W : Int))) (x5 : w.cell? ⟨bc, 5, none⟩ = some (.int .i64 (M : Int))) :
    Calls Tryd.prog 46 #[.pointer (some ⟨bc, 0, none⟩)] w fun e w' => e = .returned (.tuple #[.int .i64 (W : Int), .int .i64 (M : Int)]) ∧ ∃ d, w' = w.drewN d := by
  have hM := hide (fun wx h => isMade_any bc bg n capg wx h)
  go_enter Tryd.func46, Tryd.ntmps46
  go_wp2_with fail
  refine (unhide hM _ x3).mono ?_
  rintro e w' ⟨rfl, rfl⟩
  go_wp2
  go_quiet (fail)
  go_wp2
  go_ret2
  exact ⟨rfl, nq, rfl⟩

/-- what checkList answers. -/
def ChkP (m : Nat) (bin : Bool) (l : List Int) (k : Nat) (w : World) (e : Ending) (w' : World) : Prop :=
  ((givenE m bin l k = 0 ∧ e = .returned .nilIface) ∨ (givenE m bin l k ≠ 0 ∧ ∃ x, e = .returned x ∧ Flt (givenE m bin l k) (givenAt m bin l k) x w')) ∧ Below w.heap.size w w'

theorem bit_sym {m : Nat} (m3 : 3 ≤ m) {x : Int} : symB m true x = true ↔ x = 0 ∨ x = 1 := by
  have := Nat.pow_le_pow_right (show 0 < 2 by decide) m3
  unfold symB elemB
  rw [pow_cast]
  simp only [Bool.and_eq_true, decide_eq_true_eq, Bool.not_true, Bool.false_or]
  omega
theorem el_sym {m : Nat} {x : Int} : symB m false x = elemB m x := by unfold symB; simp

theorem checkS_yes (m q b bp bl : Nat) (x : Int) (w : World) (hm : 3 ≤ m) (hm8 : m ≤ 8) (h : FieldAt m q b bp bl w) (hx : symB m false x = true) :
    Calls Tryd.prog 58 #[.pointer (some ⟨b, 0, none⟩), .int .i64 x] w fun e w' => e = .returned .nilIface ∧ w' = w := by
  rw [el_sym] at hx
  obtain ⟨n, rfl, hn⟩ := nat_of_elem hx
  exact checkE_yes m q b bp bl n w hm hm8 h hn

set_option maxHeartbeats 2000000 in
theorem checkList_el (m q b bp bl bc bg n capg k : Nat) (v : Value) (l : List Int) (w : World) (hm : 3 ≤ m) (hm8 : m ≤ 8) (hF : FieldAt m q b bp bl w) (L : Laid gsEnc w) (x3 : w.cell? ⟨bc, 3, none⟩ = some (.slice (some ⟨bg, 0, none⟩) n capg))
    (x2 : w.cell? ⟨bc, 2, none⟩ = some (.func (.func 58) #[.pointer (some ⟨b, 0, none⟩)] #[])) (h : Rd w v l) (_hk : k < 1000) :
    Calls Tryd.prog 69 #[.pointer (some ⟨bc, 0, none⟩), v, .int .i64 (k : Int)] w (ChkP m false l k w) := by
  obtain ⟨a, cap, rfl, hmx, hc⟩ := h
  have hmx' := maxLen_lt hmx
  have HC := hide hc
  have hM := hide (fun wx h => isMade_any bc bg n capg wx h)
  have hY := hide (fun (x : Int) wx (h : FieldAt m q b bp bl wx) (hx : symB m false x = true) => checkS_yes m q b bp bl x wx hm hm8 h hx)
  have hN := hide (fun (x : Int) wx (h : FieldAt m q b bp bl wx) (hL : Laid gsEnc wx) (hx : symB m false x = false) => checkE_no m q b bp bl x wx hm hm8 h (hL.so _ (by decide)) (by rw [← el_sym]; exact hx))
  obtain ⟨ae, hae⟩ := L.so 6 (by decide)
  have HL := hide L
  have HF := hide hF
  clear hc L hF hmx
  by_cases hlen : l.length = k
  · have ht : ((l.length : Int) != (k : Int)) = false := by rw [bne_eq_false_iff_eq]; omega
    have Hlen := hide hlen
    clear hlen hae
    go_enter Tryd.func69, Tryd.ntmps69
    go_wp2_with fail
    refine (unhide hM _ x3).mono ?_
    rintro e w' ⟨rfl, hww⟩
    obtain rfl := hww.symm
    go_wp2_with fail
    go_loopw [7, 8, 9, 23] (fun _ _ _ i wr => ∃ j : Nat, j ≤ l.length ∧ i = .int .i64 j ∧ wr = w ∧ Hid (Syms m false l j)) (fun _ _ _ i _ => l.length - (intOf i).toNat)
    case atStart => exact ⟨0, by omega, rfl, rfl, hide fun i hi => by omega⟩
    case round =>
      obtain ⟨j, hj, rfl, hww, hs⟩ := hrel
      obtain rfl := hww.symm
      by_cases hlt : j < l.length
      · obtain ⟨b', o, rfl, hcell⟩ := unhide HC j hlt
        have hI : (j : Int) < (l.length : Int) := by omega
        cases hx : symB m false (l.getD j 0)
        · have hNx := hide (unhide hN _ _ (unhide HF) (unhide HL) hx)
          have hgd := hide (good_at hlt (unhide hs) hx)
          generalize l.getD j 0 = x at *
          clear hx hY hN
          go_wp2_with fail
          refine (unhide hNx).mono ?_
          rintro e w' ⟨c, rfl, hww⟩
          obtain rfl := hww.symm
          go_wp2_with fail
          refine (symbolFault_any _ _ _ _).mono ?_
          rintro e w2 ⟨y, rfl, hf, hb⟩
          have HFl := hide hf
          have HB := hide hb
          clear hf hb
          go_wp2
          go_ret
          refine ⟨Or.inr ⟨?_, _, rfl, ?_⟩, unhide HB⟩
          · unfold givenE; rw [if_pos (unhide Hlen), unhide hgd, if_neg (by omega)]; decide
          · unfold givenE givenAt
            rw [if_pos (unhide Hlen), if_pos (unhide Hlen), unhide hgd, if_neg (by omega), if_neg (by omega)]
            exact unhide HFl
        · have hYx := hide (unhide hY _ _ (unhide HF) hx)
          have hs2 := hide (show Syms m false l (j + 1) from fun i hi => by
            rcases Nat.lt_or_ge i j with h | h
            · exact unhide hs i h
            · have : i = j := by omega
              subst this; exact hx)
          generalize l.getD j 0 = x at *
          clear hx hY hN
          go_wp2_with fail
          refine (unhide hYx).mono ?_
          rintro e w' ⟨rfl, hww⟩
          obtain rfl := hww.symm
          go_wp2
          exact ⟨⟨j + 1, by omega, by go_num, trivial, hs2⟩, by simp [intOf]; omega⟩
      · have e : j = l.length := by omega
        have hg := hide (good_all (show Syms m false l l.length by rw [← e]; exact unhide hs))
        clear e hs
        go_wp2
        go_ret
        refine ⟨Or.inl ⟨?_, rfl⟩, Below.refl _ _⟩
        exact given_ok.2 ⟨unhide Hlen, unhide hg⟩
  · have ht : ((l.length : Int) != (k : Int)) = true := by rw [bne_iff_ne]; omega
    have Hlen := hide hlen
    clear hlen
    go_enter Tryd.func69, Tryd.ntmps69
    go_wp2_with fail
    refine (unhide hM _ x3).mono ?_
    rintro e w' ⟨rfl, hww⟩
    obtain rfl := hww.symm
    go_wp2_with fail
    refine (lengthFault_any _ _ _).mono ?_
    rintro e w2 ⟨y, rfl, hf, hb⟩
    have HFl := hide hf
    have HB := hide hb
    clear hf hb
    go_wp2
    go_ret
    refine ⟨Or.inr ⟨?_, _, rfl, ?_⟩, unhide HB⟩
    · unfold givenE; rw [if_neg (unhide Hlen)]; decide
    · unfold givenE givenAt
      rw [if_neg (unhide Hlen), if_neg (unhide Hlen)]
      exact unhide HFl

set_option maxHeartbeats 2000000 in
theorem checkList_bit (m q b bp bl bc bg n capg k : Nat) (v : Value) (l : List Int) (w : World) (hm : 3 ≤ m) (_hm8 : m ≤ 8) (hF : FieldAt m q b bp bl w) (L : Laid gsEnc w) (x3 : w.cell? ⟨bc, 3, none⟩ = some (.slice (some ⟨bg, 0, none⟩) n capg))
    (x2 : w.cell? ⟨bc, 2, none⟩ = some (.func (.func 97) #[.pointer (some ⟨b, 0, none⟩)] #[])) (h : Rd w v l) (_hk : k < 1000) :
    Calls Tryd.prog 69 #[.pointer (some ⟨bc, 0, none⟩), v, .int .i64 (k : Int)] w (ChkP m true l k w) := by
  obtain ⟨a, cap, rfl, hmx, hc⟩ := h
  have hmx' := maxLen_lt hmx
  have HC := hide hc
  have hM := hide (fun wx h => isMade_any bc bg n capg wx h)
  have hY := hide (fun (x : Int) wx (h : FieldAt m q b bp bl wx) (hx : symB m true x = true) => checkB_yes (.pointer (some ⟨b, 0, none⟩)) x wx ((bit_sym hm).1 hx))
  have hN := hide (fun (x : Int) wx (h : FieldAt m q b bp bl wx) (hL : Laid gsEnc wx) (hx : symB m true x = false) => checkB_no (.pointer (some ⟨b, 0, none⟩)) x wx (fun e => by rw [(bit_sym hm).2 e] at hx; cases hx) (hL.so _ (by decide)))
  obtain ⟨ae, hae⟩ := L.so 6 (by decide)
  have HL := hide L
  have HF := hide hF
  clear hc L hF hmx
  by_cases hlen : l.length = k
  · have ht : ((l.length : Int) != (k : Int)) = false := by rw [bne_eq_false_iff_eq]; omega
    have Hlen := hide hlen
    clear hlen hae
    go_enter Tryd.func69, Tryd.ntmps69
    go_wp2_with fail
    refine (unhide hM _ x3).mono ?_
    rintro e w' ⟨rfl, hww⟩
    obtain rfl := hww.symm
    go_wp2_with fail
    go_loopw [7, 8, 9, 23] (fun _ _ _ i wr => ∃ j : Nat, j ≤ l.length ∧ i = .int .i64 j ∧ wr = w ∧ Hid (Syms m true l j)) (fun _ _ _ i _ => l.length - (intOf i).toNat)
    case atStart => exact ⟨0, by omega, rfl, rfl, hide fun i hi => by omega⟩
    case round =>
      obtain ⟨j, hj, rfl, hww, hs⟩ := hrel
      obtain rfl := hww.symm
      by_cases hlt : j < l.length
      · obtain ⟨b', o, rfl, hcell⟩ := unhide HC j hlt
        have hI : (j : Int) < (l.length : Int) := by omega
        cases hx : symB m true (l.getD j 0)
        · have hNx := hide (unhide hN _ _ (unhide HF) (unhide HL) hx)
          have hgd := hide (good_at hlt (unhide hs) hx)
          generalize l.getD j 0 = x at *
          clear hx hY hN
          go_wp2_with fail
          refine (unhide hNx).mono ?_
          rintro e w' ⟨c, rfl, hww⟩
          obtain rfl := hww.symm
          go_wp2_with fail
          refine (symbolFault_any _ _ _ _).mono ?_
          rintro e w2 ⟨y, rfl, hf, hb⟩
          have HFl := hide hf
          have HB := hide hb
          clear hf hb
          go_wp2
          go_ret
          refine ⟨Or.inr ⟨?_, _, rfl, ?_⟩, unhide HB⟩
          · unfold givenE; rw [if_pos (unhide Hlen), unhide hgd, if_neg (by omega)]; decide
          · unfold givenE givenAt
            rw [if_pos (unhide Hlen), if_pos (unhide Hlen), unhide hgd, if_neg (by omega), if_neg (by omega)]
            exact unhide HFl
        · have hYx := hide (unhide hY _ _ (unhide HF) hx)
          have hs2 := hide (show Syms m true l (j + 1) from fun i hi => by
            rcases Nat.lt_or_ge i j with h | h
            · exact unhide hs i h
            · have : i = j := by omega
              subst this; exact hx)
          generalize l.getD j 0 = x at *
          clear hx hY hN
          go_wp2_with fail
          refine (unhide hYx).mono ?_
          rintro e w' ⟨rfl, hww⟩
          obtain rfl := hww.symm
          go_wp2
          exact ⟨⟨j + 1, by omega, by go_num, trivial, hs2⟩, by simp [intOf]; omega⟩
      · have e : j = l.length := by omega
        have hg := hide (good_all (show Syms m true l l.length by rw [← e]; exact unhide hs))
        clear e hs
        go_wp2
        go_ret
        refine ⟨Or.inl ⟨?_, rfl⟩, Below.refl _ _⟩
        exact given_ok.2 ⟨unhide Hlen, unhide hg⟩
  · have ht : ((l.length : Int) != (k : Int)) = true := by rw [bne_iff_ne]; omega
    have Hlen := hide hlen
    clear hlen
    go_enter Tryd.func69, Tryd.ntmps69
    go_wp2_with fail
    refine (unhide hM _ x3).mono ?_
    rintro e w' ⟨rfl, hww⟩
    obtain rfl := hww.symm
    go_wp2_with fail
    refine (lengthFault_any _ _ _).mono ?_
    rintro e w2 ⟨y, rfl, hf, hb⟩
    have HFl := hide hf
    have HB := hide hb
    clear hf hb
    go_wp2
    go_ret
    refine ⟨Or.inr ⟨?_, _, rfl, ?_⟩, unhide HB⟩
    · unfold givenE; rw [if_neg (unhide Hlen)]; decide
    · unfold givenE givenAt
      rw [if_neg (unhide Hlen), if_neg (unhide Hlen)]
      exact unhide HFl

theorem checkList_any (c : Cd) (bc b bp bl bg capg k : Nat) (v : Value) (l : List Int) (w : World) (m3 : 3 ≤ c.G.m) (m8 : c.G.m ≤ 8) (h : CodAt c bc b bp bl bg capg w) (L : Laid gsEnc w) (hr : Rd w v l) (hk : k < 1000) :
    Calls Tryd.prog 69 #[.pointer (some ⟨bc, 0, none⟩), v, .int .i64 (k : Int)] w (ChkP c.G.m c.bin l k w) := by
  have x2 := h.x2
  cases hb : c.bin
  · rw [hb] at x2
    exact checkList_el c.G.m c.G.q b bp bl bc bg _ capg k v l w m3 m8 h.fa L h.x3 x2 hr hk
  · rw [hb] at x2
    exact checkList_bit c.G.m c.G.q b bp bl bc bg _ capg k v l w m3 m8 h.fa L h.x3 x2 hr hk
end Go.Proofs.YtohgmoclnicchaaDoor
