import Derived.Test.YtnpkkcbadcmgkaaGreatDoorWRing
import Derived.Test.YtnpkkcbadcmgkaaGreatDoorWOut
import Derived.Deep.Onto
namespace Go.Proofs.YtnpkkcbadcmgkaaGreatDoor
open Go.RowKit Go.Deep
open Gf (Cd)

/-! ### the marks -/
theorem ask0_dbl {c : Cd} (hb : c.bin = true) {t0 j : Nat} (h : ask0 c t0 j = true) : ask0 c t0 (j * 2 % c.n) = true := by
  unfold ask0 at h ⊢
  simp only [List.any_eq_true, List.mem_range, beq_iff_eq] at h ⊢
  obtain ⟨t, ht, k, hk, e⟩ := h
  have e2 : j * 2 % c.n = (c.first + t) * 2 ^ (k + 1) % c.n := by
    rw [← e, Nat.mod_mul_mod, Nat.mul_assoc, ← Nat.pow_succ]
  have hm : c.turns = c.G.m := by unfold Gf.Cd.turns; rw [if_pos hb]
  by_cases hl : k + 1 < c.turns
  · exact ⟨t, ht, k + 1, hl, e2.symm⟩
  · refine ⟨t, ht, 0, Gf.turns_pos c, ?_⟩
    have : k + 1 = c.G.m := by omega
    rw [e2, this, Gf.pow_mod_n]; simp
theorem ask1_iff {c : Cd} {t0 h i : Nat} : ask1 c t0 h i = true ↔ ask0 c t0 i = true ∨ ∃ k, k < h ∧ (c.first + t0) * 2 ^ k % c.n = i := by
  unfold ask1
  simp only [Bool.or_eq_true, List.any_eq_true, List.mem_range, beq_iff_eq]
theorem ask1_rest {c : Cd} (hb : c.bin = true) {t0 h : Nat} (hx : ask1 c t0 h ((c.first + t0) * 2 ^ h % c.n) = true) : ∀ d, ask1 c t0 h ((c.first + t0) * 2 ^ (h + d) % c.n) = true
  | 0 => hx
  | d + 1 => by
    have ih := ask1_rest hb hx d
    have e : (c.first + t0) * 2 ^ (h + (d + 1)) % c.n = (c.first + t0) * 2 ^ (h + d) % c.n * 2 % c.n := by
      rw [Nat.mod_mul_mod, Nat.mul_assoc, ← Nat.pow_succ]; rfl
    rw [e]
    rcases ask1_iff.1 ih with h1 | ⟨k, hk, h1⟩
    · exact ask1_iff.2 (Or.inl (ask0_dbl hb h1))
    · rw [← h1, Nat.mod_mul_mod, Nat.mul_assoc, ← Nat.pow_succ]
      by_cases hl : k + 1 < h
      · exact ask1_iff.2 (Or.inr ⟨k + 1, hl, rfl⟩)
      · have : k.succ = h := by omega
        rw [this]; exact hx
theorem ask1_up {c : Cd} {t0 h h' i : Nat} (hh : h ≤ h') (hx : ask1 c t0 h i = true) : ask1 c t0 h' i = true := by
  rcases ask1_iff.1 hx with h1 | ⟨k, hk, h1⟩
  · exact ask1_iff.2 (Or.inl h1)
  · exact ask1_iff.2 (Or.inr ⟨k, by omega, h1⟩)

/-- the power that markPower looks at, h marks made. -/
def cur (c : Cd) (t0 h : Nat) : Nat := if c.bin then (c.first + t0) * 2 ^ h % c.n else (c.first + t0) % c.n

theorem bool_eq {a b : Bool} (h : a = true ↔ b = true) : a = b := by cases a <;> cases b <;> simp_all

theorem ask1_done {c : Cd} {t0 h : Nat} (hh : h ≤ c.turns) (hx : ask1 c t0 h (cur c t0 h) = true) (i : Nat) : ask1 c t0 h i = ask0 c (t0 + 1) i := by
  rw [ask0_succ]
  refine bool_eq ⟨ask1_up hh, fun h2 => ?_⟩
  rcases ask1_iff.1 h2 with h3 | ⟨k, hk, h3⟩
  · exact ask1_iff.2 (Or.inl h3)
  · by_cases hl : k < h
    · exact ask1_iff.2 (Or.inr ⟨k, hl, h3⟩)
    · cases hb : c.bin
      · have h1 : c.turns = 1 := by unfold Gf.Cd.turns; rw [hb]; rfl
        have hk0 : k = 0 := by omega
        subst hk0
        unfold cur at hx
        rw [hb] at hx
        have h3' : (c.first + t0) % c.n = i := by simpa using h3
        rw [← h3']; simpa using hx
      · unfold cur at hx
        rw [if_pos hb] at hx
        rw [← h3, show k = h + (k - h) by omega]
        exact ask1_rest hb hx _
theorem cur_lt {c : Cd} (hn : 0 < c.n) (t0 h : Nat) : cur c t0 h < c.n := by unfold cur; split <;> exact Nat.mod_lt _ hn
theorem cur_zero {c : Cd} (t0 : Nat) : cur c t0 0 = (c.first + t0) % c.n := by unfold cur; simp
/-- not yet marked: not all marks are made. -/
theorem cur_turns {c : Cd} {t0 h : Nat} (hh : h ≤ c.turns) (hx : ask1 c t0 h (cur c t0 h) = false) : h < c.turns := by
  rcases Nat.lt_or_ge h c.turns with h1 | h1
  · exact h1
  · have e : h = c.turns := by omega
    have hp := Gf.turns_pos c
    have : ask1 c t0 h (cur c t0 h) = true := by
      refine ask1_iff.2 (Or.inr ⟨0, by omega, ?_⟩)
      unfold cur
      cases hb : c.bin
      · simp
      · have hm : c.turns = c.G.m := by unfold Gf.Cd.turns; rw [if_pos hb]
        rw [if_pos rfl, e, hm, Gf.pow_mod_n]; simp
    rw [this] at hx; cases hx
theorem cur_mark {c : Cd} {t0 h : Nat} (hh : h < c.turns) (i : Nat) : ask1 c t0 (h + 1) i = (ask1 c t0 h i || (cur c t0 h == i)) := by
  rw [ask1_succ]
  unfold cur
  cases hb : c.bin
  · have h1 : c.turns = 1 := by unfold Gf.Cd.turns; rw [hb]; rfl
    have : h = 0 := by omega
    subst this
    simp
  · rfl
theorem cur_bin {c : Cd} (hb : c.bin = true) (t0 h : Nat) : cur c t0 h * 2 % c.n = cur c t0 (h + 1) := by
  unfold cur; rw [if_pos hb, if_pos hb, Nat.mod_mul_mod, Nat.mul_assoc, ← Nat.pow_succ]
theorem cur_one {c : Cd} (hb : c.bin = false) (t0 h h' : Nat) : cur c t0 h = cur c t0 h' := by
  unfold cur; rw [hb]; rfl

/-- how many cells of a row of bools are not true. -/
def unm (w : World) (b n : Nat) : Nat := ((List.range n).filter fun i => match w.cell? ⟨b, i, none⟩ with | some (.bool true) => false | _ => true).length
theorem unm_row {w : World} {b n : Nat} {f : Nat → Bool} (h : BRow w b n f) : unm w b n = ((List.range n).filter fun i => !f i).length := by
  unfold unm
  congr 1
  refine List.filter_congr fun i hi => ?_
  rw [World.rowIs.cell h (List.mem_range.1 hi)]
  cases f i <;> rfl
theorem filter_lt : ∀ {l : List Nat} {p q : Nat → Bool} (a : Nat), (∀ i, p i = true → q i = true) → a ∈ l → q a = true → p a = false → (l.filter p).length < (l.filter q).length
  | [], _, _, _, _, h, _, _ => by cases h
  | x :: l, p, q, a, hpq, ha, hq, hp => by
    have hle : ∀ l : List Nat, (l.filter p).length ≤ (l.filter q).length := fun l => by
      induction l with
      | nil => simp
      | cons y l ih =>
        by_cases h1 : p y = true
        · rw [List.filter_cons_of_pos h1, List.filter_cons_of_pos (hpq y h1)]; simp; exact ih
        · rw [List.filter_cons_of_neg h1]
          by_cases h2 : q y = true
          · rw [List.filter_cons_of_pos h2]; simp; omega
          · rw [List.filter_cons_of_neg h2]; exact ih
    rcases List.mem_cons.1 ha with rfl | ha
    · rw [List.filter_cons_of_neg (by rw [hp]; decide), List.filter_cons_of_pos hq]
      have := hle l
      simp; omega
    · have ih := filter_lt (l := l) a hpq ha hq hp
      by_cases h1 : p x = true
      · rw [List.filter_cons_of_pos h1, List.filter_cons_of_pos (hpq x h1)]; simp; exact ih
      · rw [List.filter_cons_of_neg h1]
        by_cases h2 : q x = true
        · rw [List.filter_cons_of_pos h2]; simp; omega
        · rw [List.filter_cons_of_neg h2]; exact ih
theorem unm_mark {w w' : World} {b n k : Nat} {f g : Nat → Bool} (h : BRow w b n f) (h' : BRow w' b n g) (hg : ∀ i, g i = (f i || (k == i))) (hk : k < n) (hf : f k = false) : unm w' b n < unm w b n := by
  rw [unm_row h, unm_row h']
  refine filter_lt k (fun i hi => ?_) (List.mem_range.2 hk) (by rw [hf]; rfl) (by rw [hg]; simp)
  rw [hg] at hi
  cases hfi : f i
  · rfl
  · rw [hfi] at hi; simp at hi

set_option maxHeartbeats 1000000 in
theorem mark_any (c : Cd) (b t0 : Nat) (w : World) (ok : Pre c) (h : BRow w b c.n (ask0 c t0)) :
    Calls Tryz.prog 80 #[.slice (some ⟨b, 0, none⟩) c.n c.n, .int .i64 ((cur c t0 0 : Nat) : Int), .bool c.bin] w fun e w' => (∃ r, e = .returned r) ∧ BRow w' b c.n (ask0 c (t0 + 1)) ∧ Out (fun k => k = b) w w' := by
  obtain ⟨hn1, hn2⟩ := ok.nb
  have hr := hide h
  clear ok h
  go_enter Tryz.func80, Tryz.ntmps80
  go_wp2
  go_loopw [1] (fun p wr => ∃ h : Nat, h ≤ c.turns ∧ p = .int .i64 ((cur c t0 h : Nat) : Int) ∧ Hid (BRow wr b c.n (ask1 c t0 h)) ∧ Hid (Out (fun k => k = b) w wr)) (fun _ wr => unm wr b c.n)
  case atStart => exact ⟨0, by omega, rfl, hide (World.rowIs.congr (unhide hr) (fun i _ => by rw [ask1_zero])), hide (Out.of_below (Below.refl _ _))⟩
  case round =>
    clear hr
    obtain ⟨h, hh, rfl, hr, ho⟩ := hrel
    have hl := cur_lt (c := c) (by omega) t0 h
    have hlI : ((cur c t0 h : Nat) : Int) < (c.n : Int) := by omega
    have s1 := World.rowIs.cell (unhide hr) hl
    have s2 := World.rowIs.frozen (unhide hr) (cur c t0 h)
    cases ha : ask1 c t0 h (cur c t0 h)
    · rw [ha] at s1
      have hT := cur_turns hh ha
      have hr2 := hide (show BRow (wr.setCell ⟨b, cur c t0 h, none⟩ (.bool true)) b c.n (ask1 c t0 (h + 1)) from World.rowIs.congr (BRow.mark (unhide hr) (cur c t0 h)) (fun i _ => by rw [cur_mark hT]))
      have ho2 := hide ((unhide ho).set (p := ⟨b, cur c t0 h, none⟩) rfl (.bool true))
      have hu := hide (unm_mark (unhide hr) (unhide hr2) (cur_mark hT) hl ha)
      cases hb : c.bin
      · have e1 := hide (cur_one hb t0 h (h + 1))
        clear ha hr ho
        go_wp2
        exact ⟨⟨h + 1, by omega, by rw [unhide e1], hr2, ho2⟩, unhide hu⟩
      · have e1 := hide (cur_bin hb t0 h)
        have e2 : ((cur c t0 h : Nat) : Int) * 2 % (c.n : Int) = ((cur c t0 (h + 1) : Nat) : Int) := by rw [← unhide e1, Int.natCast_emod]; simp
        clear ha hr ho
        go_wp2
        exact ⟨⟨h + 1, by omega, by rw [e2], hr2, ho2⟩, unhide hu⟩
    · rw [ha] at s1
      have hr2 := hide (show BRow wr b c.n (ask0 c (t0 + 1)) from World.rowIs.congr (unhide hr) (fun i _ => by rw [ask1_done hh ha]))
      clear ha hr
      go_wp2
      go_end0
      exact ⟨⟨_, rfl⟩, unhide hr2, unhide ho⟩
end Go.Proofs.YtnpkkcbadcmgkaaGreatDoor

namespace Go.Proofs.YtnpkkcbadcmgkaaGreatDoor
open Go.RowKit Go.Deep
open Gf (Cd)

/-- the parameters as the program holds them, at block b. -/
def PBox (w : World) (b : Nat) (m q f d s t : Int) (bin : Bool) : Prop := w.heap[b]? = some (.cells #[.int .i64 m, .int .i64 q, .int .i64 f, .int .i64 d, .int .i64 s, .int .i64 t, .bool bin] 48 (0, 0))

section
variable {w : World} {b : Nat} {m q f d s t : Int} {bin : Bool}
theorem PBox.c0 (h : PBox w b m q f d s t bin) : w.cell? ⟨b, 0, none⟩ = some (.int .i64 m) := by simp [World.cell?, show w.heap[b]? = _ from h]
theorem PBox.c1 (h : PBox w b m q f d s t bin) : w.cell? ⟨b, 1, none⟩ = some (.int .i64 q) := by simp [World.cell?, show w.heap[b]? = _ from h]
theorem PBox.c2 (h : PBox w b m q f d s t bin) : w.cell? ⟨b, 2, none⟩ = some (.int .i64 f) := by simp [World.cell?, show w.heap[b]? = _ from h]
theorem PBox.c3 (h : PBox w b m q f d s t bin) : w.cell? ⟨b, 3, none⟩ = some (.int .i64 d) := by simp [World.cell?, show w.heap[b]? = _ from h]
theorem PBox.c4 (h : PBox w b m q f d s t bin) : w.cell? ⟨b, 4, none⟩ = some (.int .i64 s) := by simp [World.cell?, show w.heap[b]? = _ from h]
theorem PBox.c5 (h : PBox w b m q f d s t bin) : w.cell? ⟨b, 5, none⟩ = some (.int .i64 t) := by simp [World.cell?, show w.heap[b]? = _ from h]
theorem PBox.c6 (h : PBox w b m q f d s t bin) : w.cell? ⟨b, 6, none⟩ = some (.bool bin) := by simp [World.cell?, show w.heap[b]? = _ from h]
theorem PBox.lt (h : PBox w b m q f d s t bin) : b < w.heap.size := (Array.getElem?_eq_some_iff.1 h).1
theorem PBox.below {w' : World} (h : PBox w b m q f d s t bin) (hb : Below w.heap.size w w') : PBox w' b m q f d s t bin := (hb.block b h.lt).trans h
theorem PBox.new (w : World) (m q f d s t : Int) (bin : Bool) : PBox (w.alloc (.cells #[.int .i64 m, .int .i64 q, .int .i64 f, .int .i64 d, .int .i64 s, .int .i64 t, .bool bin] 48)) w.heap.size m q f d s t bin := blk_alloc_new _ _
end

theorem tmod_eq {a b r : Int} (ha : 0 ≤ a) (h : a % b = r) : a.tmod b = r := by rw [Int.tmod_eq_emod_of_nonneg ha, h]

/-- the roots' powers below i. -/
def rtsTo (c : Cd) (i : Nat) : List Nat := (List.range i).filter c.asked
theorem rtsTo_all (c : Cd) : rtsTo c c.n = c.rts := rfl
theorem rtsTo_yes (c : Cd) (i : Nat) (h : c.asked i = true) : rtsTo c (i + 1) = rtsTo c i ++ [i] := by
  unfold rtsTo; rw [List.range_succ, List.filter_append]; simp [h]
theorem rtsTo_no (c : Cd) (i : Nat) (h : c.asked i = false) : rtsTo c (i + 1) = rtsTo c i := by
  unfold rtsTo; rw [List.range_succ, List.filter_append]; simp [h]
theorem rtsTo_length (c : Cd) (i : Nat) : (rtsTo c i).length ≤ i := cnt_le c i

def ints (l : List Nat) : List Value := (l.map fun x : Nat => (x : Int)).map (Value.int .i64)

set_option maxRecDepth 100000 in
set_option maxHeartbeats 2000000 in
theorem rootPowers_any (c : Cd) (s t : Int) (w : World) (ok : Pre c) :
    Calls Tryz.prog 53 #[.int .i64 c.n, pv c.G.m c.G.q c.first c.delta s t c.bin] w fun e w' => ∃ v, e = .returned v ∧ w'.ownsRow w.heap.size 3 1 v c.rts.length (ints c.rts) ∧ Below w.heap.size w w' := by
  have OK := hide ok
  obtain ⟨hm3, hm8, hf, hd2, hdn⟩ := ok
  obtain ⟨hn1, hn2⟩ := (unhide OK).nb
  have mk := fun (wx : World) => run_make_row' (P := Tryz.prog) 79 4 (.bool false) 1 Tryz.underlying79 (show (Tryz.prog.info? 4).map (fun i => (i.zero, i.size, i.bytes)) = some (some (.bool false), 1, 1) by kernel_rfl) rfl .i64 .i64 c.n (by omega) (by omega) wx
  obtain ⟨inf, hi, hz0, hz1, hz2⟩ := info_parts (show (Tryz.prog.info? 3).map (fun i => (i.zero, i.size, i.bytes)) = some (some (.int .i64 0), 1, 8) by kernel_rfl)
  go_enter Tryz.func53, Tryz.ntmps53
  go_wp2
  clear mk
  go_loopw [6, 15] (fun _ j wr => ∃ t0 : Nat, t0 ≤ c.delta - 1 ∧ j = .int .i64 t0 ∧ Hid (BRow wr (w.heap.size + 1) c.n (ask0 c t0)) ∧ Hid (PBox wr w.heap.size c.G.m c.G.q c.first c.delta s t c.bin) ∧ Hid (Below w.heap.size w wr)) (fun _ j _ => c.delta - (intOf j).toNat)
  case atStart =>
    refine ⟨0, by omega, rfl, hide ?_, hide ?_, hide ?_⟩
    · have h1 := World.rowIs_made (w.alloc (.cells #[.int .i64 c.G.m, .int .i64 c.G.q, .int .i64 c.first, .int .i64 c.delta, .int .i64 s, .int .i64 t, .bool c.bin] 48)) (.bool false) c.n 4
      rw [nblk_alloc] at h1
      exact World.rowIs.congr h1 (fun i _ => by rw [ask0_zero])
    · exact (PBox.new w _ _ _ _ _ _ _).below ((Below.refl _ _).alloc (Nat.le_refl _) _)
    · exact ((Below.refl _ _).alloc (Nat.le_refl _) _).alloc (by simp) _
  case round =>
    obtain ⟨t0, ht0, rfl, hr, hx, hb⟩ := hrel
    have x2 := (unhide hx).c2
    have x6 := (unhide hx).c6
    by_cases hlt : t0 < c.delta - 1
    · have hI : (t0 : Int) < (c.delta : Int) - 1 := by omega
      have hkI : ((c.first : Int) + (t0 : Int)) % (c.n : Int) = ((cur c t0 0 : Nat) : Int) := by rw [cur_zero, Int.natCast_emod]; simp
      have hw1 : IntKind.i64.wrap ((c.first : Int) + (t0 : Int)) = (c.first : Int) + (t0 : Int) := wrap_small (by omega) (by omega)
      have hz : (0 : Int) ≤ (c.first : Int) + (t0 : Int) := by omega
      have hzz : (c.first : Int) + (t0 : Int) ≤ 1000 := by omega
      have hrem := tmod_eq hz hkI
      have hn0 : ¬ c.n = 0 := by omega
      have hM := hide (mark_any c (w.heap.size + 1) t0 wr.drew (unhide OK) (unhide hr))
      go_wp2
      refine region_tail 9 (by kernel_rfl) (by kernel_rfl) ?_
      simp only [List.take_succ_cons, List.take_zero, List.drop_succ_cons, List.drop_zero]
      repeat still_step
      refine wpStill_nil ?_
      go_wp2_with fail
      refine (unhide hM).mono ?_
      rintro e w1 ⟨⟨r, rfl⟩, hr1, ho⟩
      have hr2 := hide hr1
      have hx2 := hide (show PBox w1 w.heap.size c.G.m c.G.q c.first c.delta s t c.bin from (ho.block _ (unhide hx).lt (by simp)).trans (unhide hx))
      have hb2 := hide ((unhide hb).drew.trans (ho.below (B := w.heap.size) (fun k hk => by omega) (unhide hb).size))
      clear hr hx hb hr1 ho hM x2 x6
      go_wp2
      exact ⟨⟨t0 + 1, by omega, by go_num, hr2, hx2, hb2⟩, by simp [intOf]; omega⟩
    · have e : t0 = c.delta - 1 := by omega
      have hI : ¬ (t0 : Int) < (c.delta : Int) - 1 := by omega
      have hr2 := hide (show BRow wr (w.heap.size + 1) c.n c.asked from World.rowIs.congr (unhide hr) (fun i _ => by rw [e, ask0_all]))
      have hlw : w.heap.size + 1 < wr.heap.size := World.rowIs.lt (unhide hr)
      clear hr e x2 x6
      go_wp2
      go_loopw [7, 8, 9, 31] (fun v _ _ i wz => ∃ i0 : Nat, i0 ≤ c.n ∧ i = .int .i64 i0 ∧ Hid (wz.ownsRow (w.heap.size + 2) 3 1 v (rtsTo c i0).length (ints (rtsTo c i0))) ∧ Hid (BRow wz (w.heap.size + 1) c.n c.asked) ∧ Hid (Below w.heap.size w wz)) (fun _ _ _ i _ => c.n - (intOf i).toNat)
      case atStart => exact ⟨0, by omega, rfl, hide (World.ownsRow_nil _ _ _ _), hr2, hb⟩
      case round =>
        clear hr2 hb hx hlt
        obtain ⟨i0, hi0, rfl, hown, hr, hb⟩ := hrel
        have hll := rtsTo_length c i0
        by_cases hil : i0 < c.n
        · have hI2 : (i0 : Int) < (c.n : Int) := by omega
          have s1 := World.rowIs.cell (unhide hr) hil
          have hwl : w.heap.size + 1 < wr.heap.size := World.rowIs.lt (unhide hr)
          cases ha : c.asked i0
          · rw [ha] at s1
            have h2 := rtsTo_no c i0 ha
            have f1 := hide (show wr.ownsRow (w.heap.size + 2) 3 1 u7 (rtsTo c (i0 + 1)).length (ints (rtsTo c (i0 + 1))) by rw [h2]; exact unhide hown)
            clear h2 ha hown
            go_wp2
            exact ⟨⟨i0 + 1, by omega, by go_num, f1, hr, hb⟩, by simp [intOf]; omega⟩
          · rw [ha] at s1
            have h2 := hide (rtsTo_yes c i0 ha)
            clear ha
            generalize rtsTo c i0 = g at *
            go_wp2_with (at_builtin; refine wpList_append_own _ rfl _ _ 24 rfl (w.heap.size + 2) 3 inf (.int .i64 0) 1 8 Tryz.underlying24 hi hz0 hz1 hz2 rfl (by decide) _ _ _ rfl ((unhide hown).alloc _) ⟨wr.heap.size, 0, none⟩ 1 1 [.int .i64 (i0 : Int)] rfl rfl ?c1 ?c2 ?c3 ?c4 ?c5 ?_)
            case c1 =>
              intro j u hj
              match j, hj with
              | 0, hj => simp at hj; subst hj; simp [Addr.add]
            case c2 => intro u hu; simp at hu; subst hu; rfl
            case c3 => unfold maxLen; omega
            case c4 => omega
            case c5 => simp; omega
            intro v' w1 hown' hgrow _
            have hB := (((Below.refl (w.heap.size + 2) wr).alloc (by omega) (.cells #[.int .i64 (i0 : Int)] 3)).grown hgrow (by simp; omega) (fun r hr => ((unhide hown).lt r hr).1))
            have f1 : Hid (w1.ownsRow (w.heap.size + 2) 3 1 v' (rtsTo c (i0 + 1)).length (ints (rtsTo c (i0 + 1)))) := by
              show w1.ownsRow _ _ _ _ _ _
              rw [unhide h2]
              have e1 : ints (g ++ [i0]) = ints g ++ [.int .i64 (i0 : Int)] := by simp [ints]
              rw [e1, List.length_append]
              exact hown'
            have f2 := hide (show BRow w1 (w.heap.size + 1) c.n c.asked from World.rowIs.of_block (unhide hr) (hB.block _ (by omega)))
            have f3 := hide ((unhide hb).trans (hB.mono (by omega)))
            clear hown' hgrow hB hown hr hb s1
            go_wp2
            exact ⟨⟨i0 + 1, by omega, by go_num, f1, f2, f3⟩, by simp [intOf]; omega⟩
        · have e : i0 = c.n := by omega
          have f1 := hide (show wr.ownsRow w.heap.size 3 1 u7 c.rts.length (ints c.rts) from by
            have h := unhide hown
            rw [e, rtsTo_all] at h
            exact World.ownsRow.mono h (by omega))
          clear hown e
          go_wp2
          go_ret
          exact ⟨_, rfl, unhide f1, unhide hb⟩
end Go.Proofs.YtnpkkcbadcmgkaaGreatDoor

namespace Go.Proofs.YtnpkkcbadcmgkaaGreatDoor
open Go.RowKit Go.Deep
open Gf (Cd)

set_option maxHeartbeats 1000000 in
theorem rootsAt_any (m q b bp bl : Nat) (v : Value) (l : List Nat) (w : World) (hm : 3 ≤ m) (hm8 : m ≤ 8) (F : Gf.IsField m q) (hF : FieldAt m q b bp bl w) (h : RdN w v l) (hl : l.length < 256) (hlt : ∀ i, i < l.length → l.getD i 0 < 256) :
    Calls Tryz.prog 60 #[v, .func (.func 61) #[.pointer (some ⟨b, 0, none⟩)] #[]] w fun e w' => ∃ br, e = .returned (.slice (some ⟨br, 0, none⟩) l.length l.length) ∧ w.heap.size ≤ br ∧ NRow w' br l.length (fun i => Gf.pw m q (l.getD i 0)) ∧ Below w.heap.size w w' := by
  obtain ⟨a, cap, rfl, -, hc⟩ := h
  have HC : Hid (∀ i, i < l.length → ∃ b o, a = some ⟨b, o, none⟩ ∧ b < w.heap.size ∧ w.cell? ⟨b, o + i, none⟩ = some (.int .i64 ((l.getD i 0 : Nat) : Int))) := fun i hi => by
    obtain ⟨b, o, e, hcell⟩ := hc i (by simpa using hi)
    rw [mapN_getD] at hcell
    exact ⟨b, o, e, lt_of_cell hcell, hcell⟩
  rw [List.length_map]
  have HF := hide hF
  have HI := hide F
  have HL := hide hlt
  have mk := fun (wx : World) => run_make_row' (P := Tryz.prog) 24 3 (.int .i64 0) 8 Tryz.underlying24 (show (Tryz.prog.info? 3).map (fun i => (i.zero, i.size, i.bytes)) = some (some (.int .i64 0), 1, 8) by kernel_rfl) rfl .i64 .i64 l.length (by omega) (by omega) wx
  clear hc hF F hlt
  go_enter Tryz.func60, Tryz.ntmps60
  go_wp2
  clear mk
  go_loopw [6, 7, 13] (fun _ _ i wr => ∃ k : Nat, k ≤ l.length ∧ i = .int .i64 k ∧ Hid (NRow wr w.heap.size l.length (fun j => if j < k then Gf.pw m q (l.getD j 0) else 0)) ∧ Hid (Below w.heap.size w wr)) (fun _ _ i _ => l.length - (intOf i).toNat)
  case atStart =>
    refine ⟨0, by omega, rfl, hide ?_, hide ((Below.refl _ _).alloc (Nat.le_refl _) _)⟩
    exact World.rowIs.congr (World.rowIs_made w (.int .i64 0) l.length 3) (fun i _ => by simp)
  case round =>
    obtain ⟨k, hk, rfl, hr, hb⟩ := hrel
    by_cases hlt : k < l.length
    · obtain ⟨b', o, rfl, hbl, hcell⟩ := unhide HC k hlt
      have hcw : wr.cell? ⟨b', o + k, none⟩ = some (.int .i64 ((l.getD k 0 : Nat) : Int)) := by rw [(unhide hb).cell (p := ⟨b', o + k, none⟩) hbl]; exact hcell
      have hI : (k : Int) < (l.length : Int) := by omega
      have hx := unhide HL k hlt
      have hFw := hide ((unhide HF).below (unhide hb))
      have hP := hide (fpower_any m q b bp bl (l.getD k 0) wr hm hm8 (unhide HI) (unhide hFw) (by omega))
      have s1 := World.rowIs.cell (unhide hr) hlt
      have s2 := World.rowIs.frozen (unhide hr) k
      have fin := hide (fun d : Nat => show NRow ((wr.drewN d).setCell ⟨w.heap.size, k, none⟩ (.int .i64 (Gf.pw m q (l.getD k 0)))) w.heap.size l.length (fun j => if j < k + 1 then Gf.pw m q (l.getD j 0) else 0) from
        NRow.set (w := wr.drewN d) (unhide hr) k _ (fun i _ => by
          by_cases e : i = k
          · subst e; simp
          · rw [if_neg e]
            by_cases h2 : i < k
            · rw [if_pos (by omega), if_pos h2]
            · rw [if_neg (by omega), if_neg h2]))
      have fin2 := hide (fun d : Nat => show Below w.heap.size w ((wr.drewN d).setCell ⟨w.heap.size, k, none⟩ (.int .i64 (Gf.pw m q (l.getD k 0)))) from
        Below.setCell (p := ⟨w.heap.size, k, none⟩) ((unhide hb).trans (below_of_drewN _ _ _)) (Nat.le_refl _) _)
      clear hcell hr hb hFw
      generalize Gf.pw m q (l.getD k 0) = y at *
      generalize l.getD k 0 = x at *
      go_wp2_with fail
      refine (unhide hP).mono ?_
      rintro e w1 ⟨rfl, d, rfl⟩
      have s1' : (wr.drewN d).cell? ⟨w.heap.size, k, none⟩ = _ := s1
      have s2' : (wr.drewN d).frozen? ⟨w.heap.size, k, none⟩ = false := s2
      go_wp2
      exact ⟨⟨k + 1, by omega, by go_num, unhide fin d, unhide fin2 d⟩, by simp [intOf]; omega⟩
    · have e : k = l.length := by omega
      have f1 := hide (show NRow wr w.heap.size l.length (fun i => Gf.pw m q (l.getD i 0)) from NRow.congr (unhide hr) (fun i hi => by rw [if_pos (by omega)]))
      clear hr e
      go_wp2
      go_ret
      exact ⟨_, rfl, Nat.le_refl _, unhide f1, unhide hb⟩
end Go.Proofs.YtnpkkcbadcmgkaaGreatDoor
