import Derived.Test.YtnpkkcbadcmgkaaGreatDoorWDsk1
namespace Go.Proofs.YtnpkkcbadcmgkaaGreatDoor
open Go.RowKit Go.Deep
open Gf (Cd)

/-! ### the last step -/
/-- what checkFull answers. -/
def ChfP (c : Cd) (r : Nat → Nat) (w : World) (e : Ending) (w' : World) : Prop :=
  w' = w ∧ ((IsErr e ∧ ∃ p, p < c.n ∧ ((p < c.short ∧ r p ≠ 0) ∨ ¬ c.Sy (r p))) ∨ (e = .returned .nilIface ∧ (∀ p, p < c.short → r p = 0) ∧ ∀ p, p < c.n → c.Sy (r p)))

set_option maxRecDepth 100000 in
set_option maxHeartbeats 8000000 in
theorem checkFull_el (c : Cd) (b bp bl bd bm : Nat) (lk ls dg : Int) (r : Nat → Nat) (w : World) (m3 : 3 ≤ c.G.m) (m8 : c.G.m ≤ 8) (ok : c.Ok) (hn : c.n < 256) (hbin : c.bin = false) (h : DkAt c b bp bl bd bm lk ls dg r w) (hS : Sen 12 w) :
    Calls Tryz.prog 98 #[.pointer (some ⟨bd, 0, none⟩)] w (ChfP c r w) := by
  obtain ⟨o1, o2, o3, o4, o5, o6⟩ := lay_le c ok.d2
  have hsK := ok.s
  have hKn := Gf.K_le ok
  obtain ⟨ae, hae⟩ := hS
  have x14 := h.x14
  have x9 := h.x9
  have x6 := h.x6
  rw [hbin] at x6
  have x6' : w.cell? ⟨bd, 6, none⟩ = some (.func (.func 82) #[.pointer (some ⟨b, 0, none⟩)] #[]) := x6
  have H := hide h
  have hY := hide (fun x (hx : c.G.El x) => checkE_yes c.G.m c.G.q b bp bl x w m3 m8 (unhide H).fa hx)
  have HB := hide hbin
  clear h ok hbin x6
  go_enter Tryz.func98, Tryz.ntmps98
  go_wp2
  go_loopw [3, 4, 5, 11] (fun _ _ _ i wr => ∃ k : Nat, k ≤ c.n ∧ i = .int .i64 k ∧ wr = w ∧ Hid (∀ p, p < k → p < c.short → r p = 0)) (fun _ _ _ i _ => c.n - (intOf i).toNat)
  case atStart => exact ⟨0, by omega, rfl, rfl, hide fun p hp => by omega⟩
  case round =>
    obtain ⟨k, hk, rfl, hww, hz⟩ := hrel
    obtain rfl := hww.symm
    by_cases hkl : k < c.n
    · have hI : (k : Int) < (c.n : Int) := by omega
      have s1 := (unhide H).at (show k < rN c by omega)
      have hx := (unhide H).el k (by omega)
      have hxb := sz256 m3 m8 hx
      have hYx := hide (unhide hY _ hx)
      by_cases hks : k < c.short
      · have hI2 : (k : Int) < (c.short : Int) := by omega
        by_cases h0 : r k = 0
        · rw [h0] at s1 hYx
          have s1' : w.cell? ⟨bm, k, none⟩ = some (.int .i64 0) := s1
          have hYx' : Hid (Calls Tryz.prog 82 #[.pointer (some ⟨b, 0, none⟩), .int .i64 0] w fun e w' => e = .returned .nilIface ∧ w' = w) := hYx
          have f1 := hide (show ∀ p, p < k + 1 → p < c.short → r p = 0 from fun p hp hs => by
            rcases Nat.lt_or_ge p k with a | a
            · exact unhide hz p a hs
            · have : p = k := by omega
              rw [this]; exact h0)
          clear s1 hYx hx h0 hz hxb
          go_wp2_with fail
          refine (unhide hYx').mono ?_
          rintro e w' ⟨rfl, hww⟩
          obtain rfl := hww.symm
          go_wp2
          exact ⟨⟨k + 1, by omega, by go_num, trivial, f1⟩, by simp [intOf]; omega⟩
        · have hbad := hide (show ∃ p, p < c.n ∧ ((p < c.short ∧ r p ≠ 0) ∨ ¬ c.Sy (r p)) from ⟨k, hkl, Or.inl ⟨hks, h0⟩⟩)
          have hne : ((r k : Int) != 0) = true := by rw [bne_iff_ne]; omega
          clear hYx hz hY hx
          generalize r k = x at *
          go_wp2
          go_ret
          exact ⟨rfl, Or.inl ⟨⟨_, rfl⟩, unhide hbad⟩⟩
      · have hI2 : (c.short : Int) ≤ (k : Int) := by omega
        have f1 := hide (show ∀ p, p < k + 1 → p < c.short → r p = 0 from fun p hp hs => unhide hz p (by omega) hs)
        clear hx hz
        generalize r k = x at *
        go_wp2_with fail
        refine (unhide hYx).mono ?_
        rintro e w' ⟨rfl, hww⟩
        obtain rfl := hww.symm
        go_wp2
        exact ⟨⟨k + 1, by omega, by go_num, trivial, f1⟩, by simp [intOf]; omega⟩
    · have e : k = c.n := by omega
      subst e
      have f1 := hide (show ∀ p, p < c.short → r p = 0 from fun p hp => unhide hz p (by omega) hp)
      have f2 := hide (show ∀ p, p < c.n → c.Sy (r p) from fun p hp => ⟨(unhide H).el p (by omega), fun hb => by rw [unhide HB] at hb; cases hb⟩)
      clear hz
      go_wp2
      go_ret
      exact ⟨rfl, Or.inr ⟨rfl, unhide f1, unhide f2⟩⟩

set_option maxRecDepth 100000 in
set_option maxHeartbeats 8000000 in
theorem checkFull_bit (c : Cd) (b bp bl bd bm : Nat) (lk ls dg : Int) (r : Nat → Nat) (w : World) (m3 : 3 ≤ c.G.m) (m8 : c.G.m ≤ 8) (ok : c.Ok) (hn : c.n < 256) (hbin : c.bin = true) (h : DkAt c b bp bl bd bm lk ls dg r w) (hS : Sen 12 w) (hSb : Sen 8 w) :
    Calls Tryz.prog 98 #[.pointer (some ⟨bd, 0, none⟩)] w (ChfP c r w) := by
  obtain ⟨o1, o2, o3, o4, o5, o6⟩ := lay_le c ok.d2
  have hsK := ok.s
  have hKn := Gf.K_le ok
  obtain ⟨ae, hae⟩ := hS
  have x14 := h.x14
  have x9 := h.x9
  have x6 := h.x6
  rw [hbin] at x6
  have x6' : w.cell? ⟨bd, 6, none⟩ = some (.func (.func 81) #[.pointer (some ⟨b, 0, none⟩)] #[]) := x6
  have H := hide h
  have hY := hide (fun (x : Nat) (hx : x ≤ 1) => checkB_yes (.pointer (some ⟨b, 0, none⟩)) x w (by omega))
  have hN := hide (fun (x : Nat) (hx : ¬ x ≤ 1) => checkB_no (.pointer (some ⟨b, 0, none⟩)) x w (by omega) hSb)
  have HB := hide hbin
  clear h ok hbin x6 hSb
  go_enter Tryz.func98, Tryz.ntmps98
  go_wp2
  go_loopw [3, 4, 5, 11] (fun _ _ _ i wr => ∃ k : Nat, k ≤ c.n ∧ i = .int .i64 k ∧ wr = w ∧ Hid (∀ p, p < k → (p < c.short → r p = 0) ∧ r p ≤ 1)) (fun _ _ _ i _ => c.n - (intOf i).toNat)
  case atStart => exact ⟨0, by omega, rfl, rfl, hide fun p hp => by omega⟩
  case round =>
    obtain ⟨k, hk, rfl, hww, hz⟩ := hrel
    obtain rfl := hww.symm
    by_cases hkl : k < c.n
    · have hI : (k : Int) < (c.n : Int) := by omega
      have s1 := (unhide H).at (show k < rN c by omega)
      have hx := (unhide H).el k (by omega)
      have hxb := sz256 m3 m8 hx
      have step := hide (show (k < c.short → r k = 0) → r k ≤ 1 → ∀ p, p < k + 1 → (p < c.short → r p = 0) ∧ r p ≤ 1 from fun a b p hp => by
        rcases Nat.lt_or_ge p k with q | q
        · exact unhide hz p q
        · have : p = k := by omega
          rw [this]; exact ⟨a, b⟩)
      clear hx hz
      by_cases hks : k < c.short
      · have hI2 : (k : Int) < (c.short : Int) := by omega
        by_cases h0 : r k = 0
        · have f1 := hide (unhide step (fun _ => h0) (by omega))
          have hYx := hide (unhide hY 0 (by omega))
          have hYx' : Hid (Calls Tryz.prog 81 #[.pointer (some ⟨b, 0, none⟩), .int .i64 0] w fun e w' => e = .returned .nilIface ∧ w' = w) := hYx
          rw [h0] at s1
          have s1' : w.cell? ⟨bm, k, none⟩ = some (.int .i64 0) := s1
          clear s1 hYx h0 hxb step hY hN
          go_wp2_with fail
          refine (unhide hYx').mono ?_
          rintro e w' ⟨rfl, hww⟩
          obtain rfl := hww.symm
          go_wp2
          exact ⟨⟨k + 1, by omega, by go_num, trivial, f1⟩, by simp [intOf]; omega⟩
        · have hbad := hide (show ∃ p, p < c.n ∧ ((p < c.short ∧ r p ≠ 0) ∨ ¬ c.Sy (r p)) from ⟨k, hkl, Or.inl ⟨hks, h0⟩⟩)
          have hne : ((r k : Int) != 0) = true := by rw [bne_iff_ne]; omega
          clear step hY hN
          generalize r k = x at *
          go_wp2
          go_ret
          exact ⟨rfl, Or.inl ⟨⟨_, rfl⟩, unhide hbad⟩⟩
      · have hI2 : (c.short : Int) ≤ (k : Int) := by omega
        by_cases h1 : r k ≤ 1
        · have f1 := hide (unhide step (fun a => absurd a hks) h1)
          have hYx := hide (unhide hY _ h1)
          clear step hY hN
          generalize r k = x at *
          go_wp2_with fail
          refine (unhide hYx).mono ?_
          rintro e w' ⟨rfl, hww⟩
          obtain rfl := hww.symm
          go_wp2
          exact ⟨⟨k + 1, by omega, by go_num, trivial, f1⟩, by simp [intOf]; omega⟩
        · have hbad := hide (show ∃ p, p < c.n ∧ ((p < c.short ∧ r p ≠ 0) ∨ ¬ c.Sy (r p)) from ⟨k, hkl, Or.inr fun hs => h1 (hs.2 (unhide HB))⟩)
          have hNx := hide (unhide hN _ h1)
          clear step hY hN
          generalize r k = x at *
          go_wp2_with fail
          refine (unhide hNx).mono ?_
          rintro e w' ⟨a, rfl, hww⟩
          obtain rfl := hww.symm
          go_wp2
          go_ret
          exact ⟨rfl, Or.inl ⟨⟨_, rfl⟩, unhide hbad⟩⟩
    · have e : k = c.n := by omega
      subst e
      have f1 := hide (show ∀ p, p < c.short → r p = 0 from fun p hp => (unhide hz p (by omega)).1 hp)
      have f2 := hide (show ∀ p, p < c.n → c.Sy (r p) from fun p hp => ⟨(unhide H).el p (by omega), fun _ => (unhide hz p hp).2⟩)
      clear hz
      go_wp2
      go_ret
      exact ⟨rfl, Or.inr ⟨rfl, unhide f1, unhide f2⟩⟩
theorem checkFull_any (c : Cd) (b bp bl bd bm : Nat) (lk ls dg : Int) (r : Nat → Nat) (w : World) (m3 : 3 ≤ c.G.m) (m8 : c.G.m ≤ 8) (ok : c.Ok) (hn : c.n < 256) (h : DkAt c b bp bl bd bm lk ls dg r w) (hS : Sen 12 w) (hSb : Sen 8 w) :
    Calls Tryz.prog 98 #[.pointer (some ⟨bd, 0, none⟩)] w (ChfP c r w) := by
  cases hb : c.bin
  · exact checkFull_el c b bp bl bd bm lk ls dg r w m3 m8 ok hn hb h hS
  · exact checkFull_bit c b bp bl bd bm lk ls dg r w m3 m8 ok hn hb h hS hSb
end Go.Proofs.YtnpkkcbadcmgkaaGreatDoor

namespace Go.Proofs.YtnpkkcbadcmgkaaGreatDoor
open Go.RowKit Go.Deep
open Gf (Cd)

/-! ### what has come is laid down -/
def goK (c : Cd) (z : List Nat) (k cu p : Nat) : Bool := decide (c.n ≤ p + cu) || (decide (c.short ≤ p) && (z.take k).contains (p - c.short))
/-- the room once k places that are lost, and cu of those that are cut, are marked. -/
def bgM (c : Cd) (l z : List Nat) (k cu i : Nat) : Nat := if i < c.n then Gf.full0 c l i else if i < c.n + c.n then (if goK c z k cu (i - c.n) then 1 else 0) else 0
theorem bgM_El (c : Cd) {l z : List Nat} (hE : Gf.AllEl c.G l) (k cu i : Nat) : c.G.El (bgM c l z k cu i) := by
  unfold bgM Gf.full0
  split
  · split
    · exact Gf.getD_El hE _
    · exact c.G.El_zero
  · split
    · split
      · exact c.G.El_one
      · exact c.G.El_zero
    · exact c.G.El_zero
theorem bgM_lost (c : Cd) (l z : List Nat) {k : Nat} (hk : k < z.length) (hz : c.short + z.getD k 0 < c.n) (i : Nat) : bgM c l z (k + 1) 0 i = if i = c.n + (c.short + z.getD k 0) then 1 else bgM c l z k 0 i := by
  have ht : z.take (k + 1) = z.take k ++ [z.getD k 0] := by rw [List.take_succ_eq_append_getElem hk, List.getD_eq_getElem?_getD, List.getElem?_eq_getElem hk]; rfl
  unfold bgM
  by_cases h1 : i < c.n
  · rw [if_pos h1, if_neg (by omega), if_pos h1]
  · rw [if_neg h1, if_neg h1]
    by_cases h2 : i < c.n + c.n
    · rw [if_pos h2, if_pos h2]
      unfold goK
      rw [ht]
      by_cases e : i = c.n + (c.short + z.getD k 0)
      · rw [if_pos e]
        have a : decide (c.short ≤ i - c.n) = true := by rw [decide_eq_true_iff]; omega
        have b : i - c.n - c.short = z.getD k 0 := by omega
        rw [a, b]
        simp
      · rw [if_neg e]
        by_cases a : c.short ≤ i - c.n
        · have hc : (z.take k ++ [z.getD k 0]).contains (i - c.n - c.short) = (z.take k).contains (i - c.n - c.short) := by
            have hne : (i - c.n - c.short) ≠ z.getD k 0 := by omega
            cases h : (z.take k).contains (i - c.n - c.short)
            · cases h3 : (z.take k ++ [z.getD k 0]).contains (i - c.n - c.short)
              · rfl
              · rcases List.mem_append.1 (List.contains_iff_mem.1 h3) with h4 | h4
                · rw [List.contains_iff_mem.2 h4] at h; cases h
                · exact absurd (List.mem_singleton.1 h4) hne
            · exact List.contains_iff_mem.2 (List.mem_append_left _ (List.contains_iff_mem.1 h))
          rw [hc]
        · have a' : decide (c.short ≤ i - c.n) = false := by rw [decide_eq_false_iff_not]; exact a
          rw [a', Bool.false_and, Bool.false_and]
    · rw [if_neg h2, if_neg h2, if_neg (by omega)]
theorem bgM_cut (c : Cd) (l z : List Nat) (k cu : Nat) (hcu : cu < c.n) (i : Nat) : bgM c l z k (cu + 1) i = if i = c.n + (c.n - 1 - cu) then 1 else bgM c l z k cu i := by
  unfold bgM
  by_cases h1 : i < c.n
  · rw [if_pos h1, if_neg (by omega), if_pos h1]
  · rw [if_neg h1, if_neg h1]
    by_cases h2 : i < c.n + c.n
    · rw [if_pos h2, if_pos h2]
      unfold goK
      by_cases e : i = c.n + (c.n - 1 - cu)
      · rw [if_pos e]
        have a : decide (c.n ≤ i - c.n + (cu + 1)) = true := by rw [decide_eq_true_iff]; omega
        rw [a, Bool.true_or, if_pos rfl]
      · rw [if_neg e]
        have a : decide (c.n ≤ i - c.n + (cu + 1)) = decide (c.n ≤ i - c.n + cu) := by
          by_cases q : c.n ≤ i - c.n + cu
          · rw [decide_eq_true (show c.n ≤ i - c.n + (cu + 1) by omega), decide_eq_true q]
          · rw [decide_eq_false (show ¬ c.n ≤ i - c.n + (cu + 1) by omega), decide_eq_false q]
        rw [a]
    · rw [if_neg h2, if_neg h2, if_neg (by omega)]

/-- what begin leaves. -/
def BegIs (c : Cd) (l z : List Nat) (r : Nat → Nat) : Prop := (∀ p, p < c.n → r p = Gf.full0 c l p) ∧ (∀ p, p < c.n → r (c.n + p) = if Gf.gone0 c z p then 1 else 0) ∧ ∀ i, oS c ≤ i → r i = 0
theorem bgM_is (c : Cd) (l z : List Nat) (hS : oS c = c.n + c.n) : BegIs c l z (bgM c l z z.length c.cut) := by
  refine ⟨fun p hp => by unfold bgM; rw [if_pos hp], fun p hp => ?_, fun i hi => ?_⟩
  · unfold bgM
    rw [if_neg (by omega), if_pos (by omega)]
    have e : c.n + p - c.n = p := by omega
    rw [e]
    unfold goK Gf.gone0
    rw [List.take_of_length_le (Nat.le_refl _)]
  · unfold bgM
    rw [if_neg (by omega), if_neg (by omega)]

set_option maxRecDepth 100000 in
set_option maxHeartbeats 16000000 in
theorem begin_any (c : Cd) (b bp bl bd bm : Nat) (lk ls dg : Int) (r : Nat → Nat) (x y : Value) (l z : List Nat) (w : World) (hn : c.n < 256) (hcm : Gf.Came c l z) (h : DkAt c b bp bl bd bm lk ls dg r w) (hx : RdN w x l) (hxo : Off (Dsk bd bm) x) (hy : RdN w y z) (hyo : Off (Dsk bd bm) y) :
    Calls Tryz.prog 76 #[.pointer (some ⟨bd, 0, none⟩), x, y] w fun e w' => (∃ v, e = .returned v) ∧ Out (Dsk bd bm) w w' ∧ ∃ r', DkAt c b bp bl bd bm lk 0 0 r' w' ∧ BegIs c l z r' := by
  obtain ⟨o1, o2, o3, o4, o5, o6⟩ := lay_le c hcm.ok.d2
  have hd2 := hcm.ok.d2
  have hdn := hcm.ok.dn
  have hrm := hcm.room
  have hct := hcm.ok.ct
  have hsK := hcm.ok.s
  have hKn := Gf.K_le hcm.ok
  have hll := hcm.len
  have hrN : rN c < 4096 := by omega
  have hrN0 : 0 < rN c := by omega
  have hlE := hcm.el
  have HZ := hide (fun k (hk : k < z.length) => show z.getD k 0 < c.n - c.short - c.cut from hcm.lt _ (by rw [List.getD_eq_getElem?_getD, List.getElem?_eq_getElem hk]; exact List.getElem_mem hk))
  obtain ⟨ax, cx, rfl, hxm, hxc⟩ := hx
  have hxl : (l.map fun x : Nat => (x : Int)).length = l.length := List.length_map _
  rw [hxl] at hxc hxm
  obtain ⟨bw, ow, rfl, hdrop⟩ := hxc 0 (by omega)
  clear hdrop
  have hbw : ¬ Dsk bd bm bw := hxo bw ow none _ _ rfl
  have HXC := hide (show ∀ i, i < l.length → w.cell? ⟨bw, ow + i, none⟩ = some (.int .i64 ((l.getD i 0 : Nat) : Int)) from fun i hi => by
    obtain ⟨b', o', e, hc⟩ := hxc i hi
    cases e
    rw [mapN_getD] at hc
    exact hc)
  obtain ⟨ay, cy, rfl, hym, hyc⟩ := hy
  have hyl : (z.map fun x : Nat => (x : Int)).length = z.length := List.length_map _
  rw [hyl] at hyc hym hyo
  rw [hxl, hyl]
  have HYC := hide (show ∀ wx, Out (Dsk bd bm) w wx → ∀ i, i < z.length → ∃ b' o', ay = some ⟨b', o', none⟩ ∧ wx.cell? ⟨b', o' + i, none⟩ = some (.int .i64 ((z.getD i 0 : Nat) : Int)) from fun wx ho i hi => by
    obtain ⟨b', o', e, hc⟩ := hyc i hi
    rw [mapN_getD] at hc
    exact ⟨b', o', e, ho.cell hc (hyo b' o' none _ _ (by rw [e]))⟩)
  have hzm := maxLen_lt hym
  have hcl := fun ty => clear_row w bm (rN c) ty r h.row hrN0 (rN c)
  have r1N := NRow.cells (List.replicate (rN c) 0) 0 h.row
  have r1O := Out.cells (b := bm) (ints (List.replicate (rN c) 0)) 0 (Out.of_below (D := fun k => k = bm) (Below.refl w.heap.size w))
  have K1 := h.rowed r1O (NRow.congr (g := fun _ => 0) r1N (fun i hi => by
    rw [List.length_replicate, if_pos (by omega)]
    rw [List.getD_eq_getElem?_getD, List.getElem?_replicate]
    split <;> rfl)) (fun _ _ => c.G.El_zero)
  have O1 := (r1O.mono (E := Dsk bd bm) fun _ h => Or.inr h)
  have x13 := h.x13
  clear r1N r1O h hxl hyl hxc hyc hxo hyo hxm hym
  generalize w.setCells bm 0 (ints (List.replicate (rN c) 0)) = w1 at *
  have K2 := hide ((K1.setLs 0).setDg 0)
  have O2 := hide (show Out (Dsk bd bm) w ((w1.setCell ⟨bd, 21, none⟩ (.int .i64 0)).setCell ⟨bd, 22, none⟩ (.int .i64 0)) from (O1.set (p := ⟨bd, 21, none⟩) (Or.inl rfl) _).set (p := ⟨bd, 22, none⟩) (Or.inl rfl) _)
  have v21 := K1.x21
  have v22 := (K1.setLs 0).x22
  have f21 := K1.fz 21
  have f22 := (K1.setLs 0).fz 22
  clear K1 O1
  have hlb : l.length + c.short + c.cut = c.n := by omega
  have HCM := hide hcm
  clear hll hcm hrm
  go_enter Tryz.func76, Tryz.ntmps76
  go_wp2
  clear v21 v22 f21 f22 hcl x13
  generalize (w1.setCell ⟨bd, 21, none⟩ (.int .i64 0)).setCell ⟨bd, 22, none⟩ (.int .i64 0) = w2 at *
  have iN := Up.ne w2
  have y14 := fun n : Up w2 => n.cell (unhide K2).x14
  have y9 := fun n : Up w2 => n.cell (unhide K2).x9
  have hns : ¬ c.n = c.short := by omega
  have hs0 : (0 : Int) ≤ (c.short : Int) := by omega
  have hs1 : (c.short : Int) ≤ (c.n : Int) := by omega
  refine wide_tail 10 (by kernel_rfl) (by kernel_rfl) ?_
  simp only [List.take_succ_cons, List.take_zero, List.drop_succ_cons, List.drop_zero]
  repeat (quiet_step (fail))
  refine wpQuiet_nil ?_
  intro d
  have hcp := copy_row d.v bm c.short (c.n - c.short) (c.n - c.short) bw ow l.length cx (rN c) (fun _ => 0) l ((unhide K2).up d).row (show l.length = Nat.min l.length (c.n - c.short) from (Nat.min_eq_left (by omega)).symm) (fun i hi => d.cell ((unhide O2).cell (unhide HXC i hi) hbw)) (by omega)
  have r3N := NRow.cells l c.short ((unhide K2).up d).row
  have r3O := Out.cells (b := bm) (ints l) c.short (Out.of_below (D := fun k => k = bm) (Below.refl d.v.heap.size d.v))
  have K3 := hide (((unhide K2).up d).rowed r3O (NRow.congr (g := bgM c l z 0 0) r3N (fun i hi => by
    show (if c.short ≤ i ∧ i < c.short + l.length then l.getD (i - c.short) 0 else 0) = bgM c l z 0 0 i
    unfold bgM Gf.full0
    by_cases h1 : i < c.n
    · rw [if_pos h1]
      by_cases h2 : c.short ≤ i
      · rw [if_pos h2]
        by_cases h3 : i < c.short + l.length
        · rw [if_pos ⟨h2, h3⟩]
        · rw [if_neg (by omega), List.getD_eq_getElem?_getD, List.getElem?_eq_none (by omega)]; rfl
      · rw [if_neg h2, if_neg (by omega)]
    · rw [if_neg h1, if_neg (by omega)]
      by_cases h2 : i < c.n + c.n
      · rw [if_pos h2]
        unfold goK
        have a : decide (c.n ≤ i - c.n + 0) = false := by rw [decide_eq_false_iff_not]; omega
        rw [a]
        simp
      · rw [if_neg h2])) (fun i _ => bgM_El c hlE _ _ _))
  have O3 := hide (show Out (Dsk bd bm) w (d.v.setCells bm c.short (ints l)) from (Up.out (unhide O2) d).trans (r3O.mono fun _ h => Or.inr h))
  clear r3N r3O y14 y9 iN K2 O2 HXC
  generalize d.v.setCells bm c.short (ints l) = w3 at *
  have HLE := hide hlE
  clear hlE
  go_wp2
  clear hcp
  go_loopw [7, 32] (fun _ i wr => ∃ k : Nat, k ≤ z.length ∧ i = .int .i64 k ∧ Hid (DkAt c b bp bl bd bm lk 0 0 (bgM c l z k 0) wr) ∧ Hid (Out (Dsk bd bm) w wr)) (fun _ i _ => z.length - (intOf i).toNat)
  case atStart => exact ⟨0, by omega, rfl, K3, O3⟩
  case round =>
    clear K3 O3
    obtain ⟨k, hk, rfl, hK, ho⟩ := hrel
    by_cases hkl : k < z.length
    · obtain ⟨b', o', rfl, hcell⟩ := unhide HYC wr (unhide ho) k hkl
      have hI : (k : Int) < (z.length : Int) := by omega
      have hzk := unhide HZ k hkl
      have hNX := hide (bgM_lost c l z hkl (by omega))
      generalize z.getD k 0 = p at *
      have iN := Up.ne wr
      have y15 := fun n : Up wr => n.cell (unhide hK).x15
      have y9 := fun n : Up wr => n.cell (unhide hK).x9
      obtain ⟨q, hq⟩ : ∃ q, q = c.short + p := ⟨_, rfl⟩
      have q1 : IntKind.i64.wrap ((c.short : Int) + (p : Int)) = (q : Int) := by rw [wrap_small (by omega) (by omega)]; omega
      rw [← hq] at hNX
      have hqn : q < c.n := by omega
      have hqI : (q : Int) < (c.n : Int) := by omega
      clear hq hzk
      go_wp2
      refine wide_tail 10 (by kernel_rfl) (by kernel_rfl) ?_
      simp only [List.take_succ_cons, List.take_zero, List.drop_succ_cons, List.drop_zero]
      repeat (quiet_step (fail))
      refine wpQuiet_nil ?_
      intro d1
      have s1 := ((unhide hK).up d1).at (show c.n + q < rN c by omega)
      have s2 := ((unhide hK).up d1).fzm (c.n + q)
      have g1 := hide (show DkAt c b bp bl bd bm lk 0 0 (bgM c l z (k + 1) 0) (d1.v.setCell ⟨bm, c.n + q, none⟩ (.int .i64 1)) from (((unhide hK).up d1).set (c.n + q) 1 c.G.El_one).congr (fun i _ => (unhide hNX i).symm))
      have g2 := hide (show Out (Dsk bd bm) w (d1.v.setCell ⟨bm, c.n + q, none⟩ (.int .i64 1)) from (Up.out (unhide ho) d1).set (p := ⟨bm, c.n + q, none⟩) (Or.inr rfl) _)
      clear hK ho y15 y9 iN hNX hcell q1
      go_wp2
      exact ⟨⟨k + 1, by omega, by go_num, g1, g2⟩, by simp [intOf]; omega⟩
    · have e : k = z.length := by omega
      subst e
      have y10 := (unhide hK).x10
      go_wp2
      go_loopw [8, 52] (fun _ i wz => ∃ j : Nat, j ≤ c.cut ∧ i = .int .i64 j ∧ Hid (DkAt c b bp bl bd bm lk 0 0 (bgM c l z z.length j) wz) ∧ Hid (Out (Dsk bd bm) w wz)) (fun _ i _ => c.cut - (intOf i).toNat)
      case atStart => exact ⟨0, by omega, rfl, hK, ho⟩
      case round =>
        clear hK ho y10
        obtain ⟨j, hj, rfl, hK, ho⟩ := hrel
        by_cases hjl : j < c.cut
        · have hI : (j : Int) < (c.cut : Int) := by omega
          have hNX := hide (bgM_cut c l z z.length j (by omega))
          have iN := Up.ne wr
          have y15 := fun n : Up wr => n.cell (unhide hK).x15
          obtain ⟨q, hq⟩ : ∃ q, q = c.n - 1 - j := ⟨_, rfl⟩
          have q1 : IntKind.i64.wrap ((c.n : Int) - 1) = (c.n : Int) - 1 := wrap_small (by omega) (by omega)
          have q2 : IntKind.i64.wrap ((c.n : Int) - 1 - (j : Int)) = (q : Int) := by rw [wrap_small (by omega) (by omega)]; omega
          rw [← hq] at hNX
          have hqn : q < c.n := by omega
          have hqI : (q : Int) < (c.n : Int) := by omega
          clear hq
          go_wp2
          refine wide_tail 12 (by kernel_rfl) (by kernel_rfl) ?_
          simp only [List.take_succ_cons, List.take_zero, List.drop_succ_cons, List.drop_zero]
          repeat (quiet_step (fail))
          refine wpQuiet_nil ?_
          intro d1
          have s1 := ((unhide hK).up d1).at (show c.n + q < rN c by omega)
          have s2 := ((unhide hK).up d1).fzm (c.n + q)
          have g1 := hide (show DkAt c b bp bl bd bm lk 0 0 (bgM c l z z.length (j + 1)) (d1.v.setCell ⟨bm, c.n + q, none⟩ (.int .i64 1)) from (((unhide hK).up d1).set (c.n + q) 1 c.G.El_one).congr (fun i _ => (unhide hNX i).symm))
          have g2 := hide (show Out (Dsk bd bm) w (d1.v.setCell ⟨bm, c.n + q, none⟩ (.int .i64 1)) from (Up.out (unhide ho) d1).set (p := ⟨bm, c.n + q, none⟩) (Or.inr rfl) _)
          clear hK ho y15 iN hNX q1 q2
          go_wp2
          exact ⟨⟨j + 1, by omega, by go_num, g1, g2⟩, by simp [intOf]; omega⟩
        · have e : j = c.cut := by omega
          subst e
          go_wp2
          go_end0
          exact ⟨⟨_, rfl⟩, unhide ho, _, unhide hK, bgM_is c l z o1.symm⟩
end Go.Proofs.YtnpkkcbadcmgkaaGreatDoor
