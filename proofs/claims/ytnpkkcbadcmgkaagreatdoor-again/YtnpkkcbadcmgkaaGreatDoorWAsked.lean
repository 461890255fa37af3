import Derived.Test.YtnpkkcbadcmgkaaGreatDoorWCheck
namespace Go.Proofs.YtnpkkcbadcmgkaaGreatDoor
open Go.RowKit Go.Deep
open Gf (Cd)

/-- the first place below k where Q holds; none: k. -/
def upTo (Q : Nat → Bool) : Nat → Nat
  | 0 => 0
  | k + 1 => if upTo Q k < k then upTo Q k else if Q k then k else k + 1
theorem upTo_all {Q : Nat → Bool} : ∀ {k : Nat}, (∀ i, i < k → Q i = false) → upTo Q k = k
  | 0, _ => rfl
  | k + 1, h => by
    have ih := upTo_all (Q := Q) (k := k) (fun i hi => h i (by omega))
    unfold upTo
    rw [ih, if_neg (by omega), h k (by omega)]
    rfl
theorem upTo_at {Q : Nat → Bool} {k : Nat} (h : ∀ i, i < k → Q i = false) (hk : Q k = true) : ∀ {n : Nat}, k < n → upTo Q n = k
  | 0, hn => by omega
  | n + 1, hn => by
    unfold upTo
    rcases Nat.lt_or_ge k n with h1 | h1
    · rw [upTo_at h hk h1, if_pos h1]
    · have e : k = n := by omega
      subst e
      rw [upTo_all h, if_neg (by omega), hk]
      rfl

set_option maxHeartbeats 1000000 in
theorem in_any (v : Value) (l : List Int) (x : Int) (w : World) (h : Rd w v l) :
    Calls Tryz.prog 32 #[v, .int .i64 x] w fun e w' => e = .returned (.bool (l.contains x)) ∧ w' = w := by
  obtain ⟨a, cap, rfl, hm, hc⟩ := h
  have hm' := maxLen_lt hm
  have Hc := hide hc
  clear hc hm
  go_enter Tryz.func32, Tryz.ntmps32
  go_wp2
  go_loopw [5] (fun i wr => ∃ k : Nat, k ≤ l.length ∧ i = .int .i64 k ∧ wr = w ∧ Hid (∀ j, j < k → l.getD j 0 ≠ x)) (fun i _ => l.length - (intOf i).toNat)
  case atStart => exact ⟨0, by omega, rfl, rfl, hide (fun j hj => by omega)⟩
  case round =>
    obtain ⟨k, hk, rfl, rfl, hn⟩ := hrel
    by_cases hlt : k < l.length
    · obtain ⟨b, o, rfl, hcell⟩ := unhide Hc k hlt
      have hI : (k : Int) < (l.length : Int) := by omega
      have hM := hide (show l.getD k 0 = x → l.contains x = true from fun e => by
        rw [List.contains_iff_mem, ← e, List.getD_eq_getElem?_getD, List.getElem?_eq_getElem hlt]; exact List.getElem_mem _)
      have hN := hide (show l.getD k 0 ≠ x → ∀ j, j < k + 1 → l.getD j 0 ≠ x from fun e j hj => by
        rcases Nat.lt_or_ge j k with h1 | h1
        · exact unhide hn j h1
        · have : j = k := by omega
          rw [this]; exact e)
      clear hn
      generalize l.getD k 0 = y at *
      by_cases hyx : y = x
      · have t1 : (y == x) = true := by rw [hyx]; simp
        have hA := hide (unhide hM hyx)
        clear hM hN hyx
        go_wp2
        go_ret
        exact ⟨by rw [unhide hA]; rfl, rfl⟩
      · have t1 : (y == x) = false := by rw [beq_eq_false_iff_ne]; exact hyx
        have hA := hide (unhide hN hyx)
        clear hM hN hyx
        go_wp2
        exact ⟨⟨k + 1, by omega, by go_num, trivial, hA⟩, by simp [intOf]; omega⟩
    · have hA := hide (show l.contains x = false by
        rw [← Bool.not_eq_true, List.contains_iff_mem]
        intro hmem
        obtain ⟨j, hj, e⟩ := List.getElem_of_mem hmem
        refine unhide hn j (by omega) ?_
        rw [List.getD_eq_getElem?_getD, List.getElem?_eq_getElem hj]; exact e)
      clear hn
      go_wp2
      go_ret
      exact ⟨by rw [unhide hA]; rfl, rfl⟩

/-- at how many of the first k places, those in ll aside, two lists differ. -/
def far (lw lg ll : List Int) (k : Nat) : Nat := ((List.range k).filter fun i => lw.getD i 0 != lg.getD i 0 && !ll.contains (i : Int)).length
theorem far_succ (lw lg ll : List Int) (k : Nat) : far lw lg ll (k + 1) = far lw lg ll k + (if lw.getD k 0 != lg.getD k 0 && !ll.contains (k : Int) then 1 else 0) := by
  unfold far
  rw [List.range_succ, List.filter_append, List.length_append]
  have h : ∀ R : Nat → Bool, ([k].filter R).length = if R k then 1 else 0 := fun R => by
    rw [List.filter_cons, List.filter_nil]; split <;> rfl
  rw [h]
theorem far_le (lw lg ll : List Int) (k : Nat) : far lw lg ll k ≤ k := by
  unfold far
  have := List.length_filter_le (fun i : Nat => lw.getD i 0 != lg.getD i 0 && !ll.contains (i : Int)) (List.range k)
  simpa using this

set_option maxHeartbeats 2000000 in
theorem Near_any (m q f s : Int) (dl ct : Nat) (bin : Bool) (v1 v2 v3 : Value) (lw lg ll : List Int) (w : World) (h1 : Rd w v1 lw) (h2 : Rd w v2 lg) (h3 : Rd w v3 ll) (hl : lw.length ≤ lg.length) (hb : lw.length ≤ 256) (hq : ll.length ≤ 256) (hd : dl ≤ 256) (ht : ct ≤ 256) :
    Calls Tryz.prog 16 #[pv m q f dl s ct bin, v1, v2, v3] w fun e w' => e = .returned (.bool (decide (2 * far lw lg ll lw.length + ll.length + ct < dl))) ∧ Below w.heap.size w w' := by
  have H3 := hide h3
  obtain ⟨a1, cap1, rfl, -, hc1⟩ := h1
  obtain ⟨a2, cap2, rfl, -, hc2⟩ := h2
  obtain ⟨a3, cap3, rfl, -, -⟩ := h3
  have Hc1 := hide hc1
  have Hc2 := hide hc2
  clear hc1 hc2
  go_enter Tryz.func16, Tryz.ntmps16
  go_wp2
  go_loopw [9, 10] (fun e i wr => ∃ k : Nat, k ≤ lw.length ∧ i = .int .i64 k ∧ e = .int .i64 (far lw lg ll k : Nat) ∧ Hid (Box wr w.heap.size m q f dl s ct bin) ∧ Hid (Below w.heap.size w wr)) (fun _ i _ => lw.length - (intOf i).toNat)
  case atStart => exact ⟨0, by omega, rfl, rfl, hide (Box.new _ _ _ _ _ _ _ _), hide (box_below _ _ _ _ _ _ _ _)⟩
  case round =>
    obtain ⟨k, hk, rfl, rfl, hx, hbl⟩ := hrel
    have hfl := far_le lw lg ll k
    by_cases hlt : k < lw.length
    · obtain ⟨b1, o1, rfl, hcell1⟩ := unhide Hc1 k hlt
      obtain ⟨b2, o2, rfl, hcell2⟩ := unhide Hc2 k (by omega)
      have c1 : wr.cell? ⟨b1, o1 + k, none⟩ = some (.int .i64 (lw.getD k 0)) := by rw [(unhide hbl).cell (lt_of_cell hcell1)]; exact hcell1
      have c2 : wr.cell? ⟨b2, o2 + k, none⟩ = some (.int .i64 (lg.getD k 0)) := by rw [(unhide hbl).cell (lt_of_cell hcell2)]; exact hcell2
      have hI1 : (k : Int) < (lw.length : Int) := by omega
      have hI2 : (k : Int) < (lg.length : Int) := by omega
      have hfs := hide (far_succ lw lg ll k)
      have hR3 := hide ((unhide H3).below (unhide hbl))
      clear hcell1 hcell2
      generalize lw.getD k 0 = p1 at *
      generalize lg.getD k 0 = p2 at *
      go_wp2_with fail
      refine (in_any _ ll (k : Int) wr (unhide hR3)).mono ?_
      rintro e w' ⟨rfl, hw'⟩
      obtain rfl := hw'.symm
      clear hw'
      generalize ll.contains (k : Int) = g at *
      by_cases hpq : p1 = p2
      · have t1 : (p1 != p2) = false := by rw [hpq]; simp
        have hd2 := hide (show far lw lg ll (k + 1) = far lw lg ll k by have := unhide hfs; rw [t1] at this; simpa using this)
        clear hfs hpq
        generalize far lw lg ll k = dk at *
        go_wp2
        go_quiet (fail)
        go_wp2
        exact ⟨⟨k + 1, by omega, by go_num, by rw [unhide hd2], hide ((unhide hx).below (below_of_drewN _ _ _)), hide ((unhide hbl).trans (below_of_drewN _ _ _))⟩, by simp [intOf]; omega⟩
      · have t1 : (p1 != p2) = true := by rw [bne_iff_ne]; exact hpq
        cases g
        · have hd2 := hide (show far lw lg ll (k + 1) = far lw lg ll k + 1 by have := unhide hfs; rw [t1] at this; simpa using this)
          clear hfs hpq
          generalize far lw lg ll k = dk at *
          go_wp2
          go_quiet (fail)
          go_wp2
          exact ⟨⟨k + 1, by omega, by go_num, by rw [unhide hd2]; go_num, hide ((unhide hx).below (below_of_drewN _ _ _)), hide ((unhide hbl).trans (below_of_drewN _ _ _))⟩, by simp [intOf]; omega⟩
        · have hd2 := hide (show far lw lg ll (k + 1) = far lw lg ll k by have := unhide hfs; rw [t1] at this; simpa using this)
          clear hfs hpq
          generalize far lw lg ll k = dk at *
          go_wp2
          go_quiet (fail)
          go_wp2
          exact ⟨⟨k + 1, by omega, by go_num, by rw [unhide hd2], hide ((unhide hx).below (below_of_drewN _ _ _)), hide ((unhide hbl).trans (below_of_drewN _ _ _))⟩, by simp [intOf]; omega⟩
    · have e : k = lw.length := by omega
      have x3 := (unhide hx).c3
      have x5 := (unhide hx).c5
      have he := hide (show far lw lg ll lw.length = far lw lg ll k by rw [e])
      clear e hx
      generalize far lw lg ll k = dk at *
      by_cases hge : 2 * dk + ll.length + ct < dl
      · have hI : 2 * (dk : Int) + (ll.length : Int) + (ct : Int) < (dl : Int) := by omega
        have hA := hide (show decide (2 * dk + ll.length + ct < dl) = true by simp [hge])
        go_wp2
        go_ret
        exact ⟨by rw [unhide he, unhide hA]; rfl, unhide hbl⟩
      · have hI : ¬ (2 * (dk : Int) + (ll.length : Int) + (ct : Int) < (dl : Int)) := by omega
        have hA := hide (show decide (2 * dk + ll.length + ct < dl) = false by simp [hge])
        go_wp2
        go_ret
        exact ⟨by rw [unhide he, unhide hA]; rfl, unhide hbl⟩
end Go.Proofs.YtnpkkcbadcmgkaaGreatDoor

namespace Go.Proofs.YtnpkkcbadcmgkaaGreatDoor
open Go.RowKit Go.Deep
open Gf (Cd)

/-- a place that may not be. -/
def badAt (n : Nat) (l : List Int) (i : Nat) : Bool := decide (l.getD i 0 < 0) || decide ((n : Int) ≤ l.getD i 0) || (decide (0 < i) && decide (l.getD i 0 ≤ l.getD (i - 1) 0))
/-- what Asked answers. -/
def askE (c : Cd) (lw ll : List Int) : Int := if chkE c lw = 0 then (if upTo (badAt (c.n - c.short - c.cut) ll) ll.length = ll.length then 0 else 4) else chkE c lw
def askAt (c : Cd) (lw ll : List Int) : Int := if chkE c lw = 0 then (if upTo (badAt (c.n - c.short - c.cut) ll) ll.length = ll.length then 0 else upTo (badAt (c.n - c.short - c.cut) ll) ll.length) else chkAt c lw

set_option maxHeartbeats 4000000 in
theorem Asked_any (c : Cd) (v v2 : Value) (l ll : List Int) (w : World) (m3 : 3 ≤ c.G.m) (m8 : c.G.m ≤ 8) (ok : c.Ok) (h : Rd w v l) (h2 : Rd w v2 ll) :
    Calls Tryz.prog 15 #[pv c.G.m c.G.q c.first c.delta c.short c.cut c.bin, v, v2] w fun e w' => e = .returned (.tuple #[.int .i64 (askE c l ll), .int .i64 (askAt c l ll)]) ∧ Below w.heap.size w w' := by
  have hpre : Pre c := ⟨m3, m8, ok.f, ok.d2, ok.dn⟩
  obtain ⟨hn1, hn2⟩ := hpre.nb
  have hS := hide (fun wx => Size_any c wx m3 m8 ok)
  have hG := hide (fun wx (hx : Rd wx v l) => Given_any c.G.m c.G.q c.first c.delta c.short c.cut c.bin v l (c.n - c.short - c.cut) wx m3 m8 hx)
  have hR := hide h
  have hB := hide (box_below w c.G.m c.G.q c.first c.delta c.short c.cut c.bin)
  have hX := hide (Box.new w c.G.m c.G.q c.first c.delta c.short c.cut c.bin)
  obtain ⟨a, cap, rfl, -, -⟩ := h
  obtain ⟨a2, cap2, rfl, hm, hc⟩ := h2
  have hm' := maxLen_lt hm
  have Hc := hide hc
  obtain ⟨nn, hnn⟩ : ∃ nn, nn = c.n - c.short - c.cut := ⟨_, rfl⟩
  have hn3 : nn ≤ 256 := by omega
  have e1 := hide (show givenE c.G.m c.bin l nn = chkE c l by rw [hnn]; rfl)
  have e2 := hide (show givenAt c.G.m c.bin l nn = chkAt c l by rw [hnn]; rfl)
  rw [← hnn] at hS hG
  have Hnn := hide hnn
  clear hpre ok hc hm hnn hn1 hn2
  go_enter Tryz.func15, Tryz.ntmps15
  go_wp2_with fail
  refine (unhide hS _).mono ?_
  rintro e w1 ⟨rfl, hb⟩
  have hx1 := (unhide hX).below hb
  have x0 := hx1.c0
  have x1 := hx1.c1
  have x2 := hx1.c2
  have x3 := hx1.c3
  have x4 := hx1.c4
  have x5 := hx1.c5
  have x6 := hx1.c6
  have hB1 := hide (Below.join (unhide hB) hb)
  clear hb hx1 hX hB
  go_wp2_with fail
  refine (unhide hG _ ((unhide hR).below (unhide hB1))).mono ?_
  rintro e w2 ⟨rfl, hb⟩
  clear x0 x1 x2 x3 x4 x5 x6
  have hB2 := hide (Below.join (unhide hB1) hb)
  clear hb hB1
  rw [unhide e1, unhide e2]
  by_cases hg : chkE c l = 0
  · have hz := hide hg
    rw [hg]
    obtain ⟨ea, hea⟩ : ∃ e, chkAt c l = e := ⟨_, rfl⟩
    rw [hea]
    clear hg e1 e2 hea
    go_wp2
    go_loopw [12] (fun i wr => ∃ k : Nat, k ≤ ll.length ∧ i = .int .i64 k ∧ Hid (∀ j, j < k → badAt nn ll j = false) ∧ Hid (Below w.heap.size w wr)) (fun i _ => ll.length - (intOf i).toNat)
    case atStart => exact ⟨0, by omega, rfl, hide (fun j hj => by omega), hB2⟩
    case round =>
      clear hB2
      obtain ⟨k, hk, rfl, hn, hb⟩ := hrel
      by_cases hlt : k < ll.length
      · obtain ⟨b, o, rfl, hcell⟩ := unhide Hc k hlt
        have hcw : wr.cell? ⟨b, o + k, none⟩ = some (.int .i64 (ll.getD k 0)) := by rw [(unhide hb).cell (lt_of_cell hcell)]; exact hcell
        have hI : (k : Int) < (ll.length : Int) := by omega
        have hT := hide (show badAt nn ll k = true → askE c l ll = 4 ∧ askAt c l ll = k from fun hbd => by
          have h1 := upTo_at (unhide hn) hbd hlt
          rw [unhide Hnn] at h1
          unfold askE askAt
          rw [if_pos (unhide hz), if_pos (unhide hz), h1, if_neg (by omega), if_neg (by omega)]
          exact ⟨rfl, rfl⟩)
        have hF := hide (show badAt nn ll k = false → ∀ j, j < k + 1 → badAt nn ll j = false from fun hbd j hj => by
          rcases Nat.lt_or_ge j k with h1 | h1
          · exact unhide hn j h1
          · have : j = k := by omega
            rw [this]; exact hbd)
        have hbd := hide (show badAt nn ll k = (decide (ll.getD k 0 < 0) || decide ((nn : Int) ≤ ll.getD k 0) || (decide (0 < k) && decide (ll.getD k 0 ≤ ll.getD (k - 1) 0))) from rfl)
        by_cases hk0 : k = 0
        · have hk1 : decide ((0 : Int) < (k : Int)) = false := decide_eq_false (by omega)
          have hk2 : decide (0 < k) = false := decide_eq_false (by omega)
          have hk3 : ¬ 0 < k := by omega
          have hbd0 := hide (show badAt nn ll k = (decide (ll.getD k 0 < 0) || decide ((nn : Int) ≤ ll.getD k 0)) by rw [unhide hbd, hk0]; simp)
          clear hcell hn hk0 hbd
          have hbd := hbd0
          clear hbd0
          generalize ll.getD k 0 = x at *
          by_cases hx0 : x < 0
          · have hA := hide (unhide hT (by rw [unhide hbd]; simp [hx0]))
            clear hT hF hbd
            have t1 : decide (x < 0) = true := decide_eq_true hx0
            go_wp2
            go_quiet (fail)
            go_wp2
            go_ret2
            exact ⟨by rw [(unhide hA).1, (unhide hA).2]; rfl, (unhide hb).trans (below_of_drewN _ _ _)⟩
          · by_cases hxn : (nn : Int) ≤ x
            · have hA := hide (unhide hT (by rw [unhide hbd]; simp [hxn]))
              clear hT hF hbd
              have t1 : decide (x < 0) = false := decide_eq_false hx0
              have t2 : decide ((nn : Int) ≤ x) = true := decide_eq_true hxn
              go_wp2
              go_quiet (fail)
              go_wp2
              go_ret2
              exact ⟨by rw [(unhide hA).1, (unhide hA).2]; rfl, (unhide hb).trans (below_of_drewN _ _ _)⟩
            · have hA := hide (unhide hF (by rw [unhide hbd]; simp [hx0, hxn]))
              clear hT hF hbd
              have t1 : decide (x < 0) = false := decide_eq_false hx0
              have t2 : decide ((nn : Int) ≤ x) = false := decide_eq_false hxn
              go_wp2
              go_quiet (fail)
              go_wp2
              exact ⟨⟨k + 1, by omega, by go_num, hA, hide ((unhide hb).trans (below_of_drewN _ _ _))⟩, by simp [intOf]; omega⟩
        · obtain ⟨j, rfl⟩ : ∃ j, k = j + 1 := ⟨k - 1, by omega⟩
          obtain ⟨b', o', e', hcell'⟩ := unhide Hc j (by omega)
          cases e'
          have hcp : wr.cell? ⟨b, o + j, none⟩ = some (.int .i64 (ll.getD j 0)) := by rw [(unhide hb).cell (lt_of_cell hcell')]; exact hcell'
          have ej : (((j + 1 : Nat)) : Int) = (j : Int) + 1 := by omega
          rw [ej] at hI ⊢
          have hbd2 := hide (show badAt nn ll (j + 1) = (decide (ll.getD (j + 1) 0 < 0) || decide ((nn : Int) ≤ ll.getD (j + 1) 0) || decide (ll.getD (j + 1) 0 ≤ ll.getD j 0)) by rw [unhide hbd]; simp)
          have hk1 : (0 : Int) < (j : Int) + 1 := by omega
          have w1' : IntKind.i64.wrap (j : Int) = (j : Int) := by rw [IntKind.wrap_i64]; omega
          have w2' : (0 : Int) ≤ (j : Int) + 1 := by omega
          have w4' : (j : Int) < (ll.length : Int) := by omega
          clear hcell hcell' hn ej hbd
          generalize ll.getD (j + 1) 0 = x at *
          generalize ll.getD j 0 = y at *
          by_cases hx0 : x < 0
          · have hA := hide (unhide hT (by rw [unhide hbd2]; simp [hx0]))
            clear hT hF hbd2
            have t1 : decide (x < 0) = true := decide_eq_true hx0
            go_wp2
            go_quiet (fail)
            go_wp2
            go_ret2
            exact ⟨by rw [(unhide hA).1, (unhide hA).2]; rfl, (unhide hb).trans (below_of_drewN _ _ _)⟩
          · by_cases hxn : (nn : Int) ≤ x
            · have hA := hide (unhide hT (by rw [unhide hbd2]; simp [hxn]))
              clear hT hF hbd2
              have t1 : decide (x < 0) = false := decide_eq_false hx0
              have t2 : decide ((nn : Int) ≤ x) = true := decide_eq_true hxn
              go_wp2
              go_quiet (fail)
              go_wp2
              go_ret2
              exact ⟨by rw [(unhide hA).1, (unhide hA).2]; rfl, (unhide hb).trans (below_of_drewN _ _ _)⟩
            · by_cases hxy : x ≤ y
              · have hA := hide (unhide hT (by rw [unhide hbd2]; simp [hxy]))
                clear hT hF hbd2
                have t1 : decide (x < 0) = false := decide_eq_false hx0
                have t2 : decide ((nn : Int) ≤ x) = false := decide_eq_false hxn
                have t3 : decide (x ≤ y) = true := decide_eq_true hxy
                go_wp2
                go_quiet (fail)
                go_wp2
                go_ret2
                exact ⟨by rw [(unhide hA).1, (unhide hA).2]; rfl, (unhide hb).trans (below_of_drewN _ _ _)⟩
              · have hA := hide (unhide hF (by rw [unhide hbd2]; simp [hx0, hxn, hxy]))
                clear hT hF hbd2
                have t1 : decide (x < 0) = false := decide_eq_false hx0
                have t2 : decide ((nn : Int) ≤ x) = false := decide_eq_false hxn
                have t3 : decide (x ≤ y) = false := decide_eq_false hxy
                go_wp2
                go_quiet (fail)
                go_wp2
                exact ⟨⟨j + 1 + 1, by omega, by go_num, hA, hide ((unhide hb).trans (below_of_drewN _ _ _))⟩, by simp [intOf]; omega⟩
      · have hA := hide (show askE c l ll = 0 ∧ askAt c l ll = 0 by
          have e : k = ll.length := by omega
          have h1 := unhide hn
          rw [e] at h1
          have h2 := upTo_all h1
          rw [unhide Hnn] at h2
          unfold askE askAt
          rw [if_pos (unhide hz), if_pos (unhide hz), if_pos h2, if_pos h2]
          exact ⟨rfl, rfl⟩)
        clear hn
        go_wp2
        go_ret2
        exact ⟨by rw [(unhide hA).1, (unhide hA).2]; rfl, unhide hb⟩
  · have hne : (chkE c l != 0) = true := by rw [bne_iff_ne]; exact hg
    have hA := hide (show askE c l ll = chkE c l ∧ askAt c l ll = chkAt c l by unfold askE askAt; rw [if_neg hg, if_neg hg]; exact ⟨rfl, rfl⟩)
    clear hg e1 e2
    obtain ⟨e, he⟩ : ∃ e, chkE c l = e := ⟨_, rfl⟩
    obtain ⟨x, hx⟩ : ∃ e, chkAt c l = e := ⟨_, rfl⟩
    rw [he, hx]
    rw [he] at hne
    have He := hide he
    have Hx := hide hx
    clear he hx
    go_wp2
    go_ret2
    exact ⟨by rw [(unhide hA).1, (unhide hA).2, unhide He, unhide Hx]; rfl, unhide hB2⟩
end Go.Proofs.YtnpkkcbadcmgkaaGreatDoor
