import Derived.Test.YtnpkkcbadcmgkaaDoorWBase
import Derived.Deep.QuietTactic
import Derived.BigQuiet
import Derived.Deep.OwnRows
namespace Go.Proofs.YtnpkkcbadcmgkaaDoor
open Go.RowKit Go.Deep

/-- the value v is a slice of ints that reads as l. -/
def Rd (w : World) (v : Value) (l : List Int) : Prop :=
  ∃ (a : Option Addr) (cap : Nat), v = .slice a l.length cap ∧ l.length ≤ maxLen ∧ ∀ i, i < l.length → ∃ b o, a = some ⟨b, o, none⟩ ∧ w.cell? ⟨b, o + i, none⟩ = some (.int .i64 (l.getD i 0))

theorem Rd.below {w w' : World} {v : Value} {l : List Int} (h : Rd w v l) (hb : Below w.heap.size w w') : Rd w' v l := by
  obtain ⟨a, cap, hv, hm, hc⟩ := h
  refine ⟨a, cap, hv, hm, fun i hi => ?_⟩
  obtain ⟨b, o, ha, hcell⟩ := hc i hi
  refine ⟨b, o, ha, ?_⟩
  rw [hb.cell (lt_of_cell hcell)]; exact hcell

/-- a row of ints of the call's own. -/
def Row (w : World) (b : Nat) (n : Nat) (f : Nat → Int) : Prop := w.rowIs b 3 n (fun i => .int .i64 (f i))

theorem Row.rd {w : World} {b n : Nat} {f : Nat → Int} (h : Row w b n f) (o : Nat) (l : List Int) (cap : Nat) (hl : o + l.length ≤ n) (hm : l.length ≤ maxLen) (he : ∀ i, i < l.length → f (o + i) = l.getD i 0) :
    Rd w (.slice (some ⟨b, o, none⟩) l.length cap) l :=
  ⟨_, cap, rfl, hm, fun i hi => ⟨b, o, rfl, by rw [h.cell (by omega), he i hi]⟩⟩

theorem Row.below {w w' : World} {b n : Nat} {f : Nat → Int} (h : Row w b n f) (hb : Below w.heap.size w w') : Row w' b n f := h.of_block (hb.block b h.lt)

theorem maxLen_lt {n : Nat} (h : n ≤ maxLen) : n ≤ 9223372036854775807 := by unfold maxLen at h; exact h

theorem take_succ_iff {l1 l2 : List Int} {k : Nat} (h1 : k < l1.length) (h2 : k < l2.length) (h : l1.take k = l2.take k) : (l1.take (k + 1) = l2.take (k + 1)) ↔ l1.getD k 0 = l2.getD k 0 := by
  have e1 : l1.getD k 0 = l1[k] := by rw [List.getD_eq_getElem?_getD, List.getElem?_eq_getElem h1]; rfl
  have e2 : l2.getD k 0 = l2[k] := by rw [List.getD_eq_getElem?_getD, List.getElem?_eq_getElem h2]; rfl
  rw [List.take_succ_eq_append_getElem h1, List.take_succ_eq_append_getElem h2, h, e1, e2]
  constructor
  · intro e
    have := List.append_cancel_left e
    exact (List.cons.inj this).1
  · intro e; rw [e]

def copF (l : List Int) (k : Nat) : Nat → Int := fun i => if i < k then l.getD i 0 else 0

set_option maxHeartbeats 1000000 in
theorem copied_any (v : Value) (l : List Int) (w : World) (h : Rd w v l) (hl : 8 * l.length ≤ 281474976710656) :
    Calls Tryd.prog 24 #[v] w fun e w' => ∃ b, e = .returned (.slice (some ⟨b, 0, none⟩) l.length l.length) ∧ w.heap.size ≤ b ∧ Row w' b l.length (fun i => l.getD i 0) ∧ Below w.heap.size w w' := by
  obtain ⟨a, cap, rfl, hm, hc⟩ := h
  have hm' := maxLen_lt hm
  have Hc := hide hc
  have mk := fun (wx : World) => run_make_row' (P := Tryd.prog) 41 3 (.int .i64 0) 8 Tryd.underlying41 (show (Tryd.prog.info? 3).map (fun i => (i.zero, i.size, i.bytes)) = some (some (.int .i64 0), 1, 8) by kernel_rfl) rfl .i64 .i64 l.length (by omega) (by omega) wx
  clear hc hm
  go_enter Tryd.func24, Tryd.ntmps24
  go_wp2
  go_loopw [4] (fun i wr => ∃ k : Nat, k ≤ l.length ∧ i = .int .i64 k ∧ Hid (Row wr w.heap.size l.length (copF l k)) ∧ Hid (Below w.heap.size w wr)) (fun i _ => l.length - (intOf i).toNat)
  case atStart => exact ⟨0, by omega, rfl, hide (by
      have := World.rowIs_made w (.int .i64 0) l.length 3
      exact this), hide ((Below.refl _ _).alloc (Nat.le_refl _) _)⟩
  case round =>
    obtain ⟨k, hk, rfl, hr, hb⟩ := hrel
    by_cases hlt : k < l.length
    · obtain ⟨b, o, rfl, hcell⟩ := unhide Hc k hlt
      have hcw : wr.cell? ⟨b, o + k, none⟩ = some (.int .i64 (l.getD k 0)) := by rw [(unhide hb).cell (lt_of_cell hcell)]; exact hcell
      have s1 : wr.cell? ⟨w.heap.size, k, none⟩ = some (.int .i64 (copF l k k)) := World.rowIs.cell (unhide hr) hlt
      have s2 : wr.frozen? ⟨w.heap.size, k, none⟩ = false := World.rowIs.frozen (unhide hr) k
      have hltI : (k : Int) < (l.length : Int) := by omega
      have fin := hide (show Row (wr.setCell ⟨w.heap.size, k, none⟩ (.int .i64 (l.getD k 0))) w.heap.size l.length (copF l (k + 1)) from by
        have h1 := World.rowIs.set (unhide hr) k (.int .i64 (l.getD k 0))
        refine World.rowIs.congr h1 (fun i _ => ?_)
        unfold copF
        by_cases e : i = k
        · subst e; simp
        · rw [if_neg e]
          by_cases h2 : i < k
          · rw [if_pos h2, if_pos (by omega)]
          · rw [if_neg h2, if_neg (by omega)])
      have fin2 := hide ((unhide hb).setCell (p := ⟨w.heap.size, k, none⟩) (Nat.le_refl _) (.int .i64 (l.getD k 0)))
      clear hcell hr hb
      generalize l.getD k 0 = x at *
      go_wp2
      exact ⟨⟨k + 1, by omega, by go_num, fin, fin2⟩, by simp [intOf]; omega⟩
    · have e : k = l.length := by omega
      have fin := hide (show Row wr w.heap.size l.length (fun i => l.getD i 0) from World.rowIs.congr (unhide hr) (fun i hi => by unfold copF; rw [if_pos (by omega)]))
      clear hr
      go_wp2
      go_ret
      exact ⟨w.heap.size, rfl, Nat.le_refl _, unhide fin, unhide hb⟩

set_option maxHeartbeats 1000000 in
theorem Same_any (v1 v2 : Value) (l1 l2 : List Int) (w : World) (h1 : Rd w v1 l1) (h2 : Rd w v2 l2) :
    Calls Tryd.prog 26 #[v1, v2] w fun e w' => e = .returned (.bool (l1 == l2)) ∧ Below w.heap.size w w' := by
  obtain ⟨a1, cap1, rfl, hm1, hc1⟩ := h1
  obtain ⟨a2, cap2, rfl, hm2, hc2⟩ := h2
  have hm1' := maxLen_lt hm1
  have hm2' := maxLen_lt hm2
  have Hc1 := hide hc1
  have Hc2 := hide hc2
  clear hc1 hc2 hm1 hm2
  by_cases hlen : l1.length = l2.length
  · have ht : ((l1.length : Int) != (l2.length : Int)) = false := by rw [hlen]; simp
    have Hlen := hide hlen
    clear hlen
    go_enter Tryd.func26, Tryd.ntmps26
    go_wp2
    go_loopw [5] (fun i wr => ∃ k : Nat, k ≤ l1.length ∧ i = .int .i64 k ∧ Hid (l1.take k = l2.take k) ∧ Hid (Below w.heap.size w wr)) (fun i _ => l1.length - (intOf i).toNat)
    case atStart => exact ⟨0, by omega, rfl, hide rfl, hide (Below.refl _ _)⟩
    case round =>
      obtain ⟨k, hk, rfl, hs, hb⟩ := hrel
      by_cases hlt : k < l1.length
      · have hlt2 : k < l2.length := by have := unhide Hlen; omega
        obtain ⟨b1, o1, rfl, hcell1⟩ := unhide Hc1 k hlt
        obtain ⟨b2, o2, rfl, hcell2⟩ := unhide Hc2 k hlt2
        have hw1 : wr.cell? ⟨b1, o1 + k, none⟩ = some (.int .i64 (l1.getD k 0)) := by rw [(unhide hb).cell (lt_of_cell hcell1)]; exact hcell1
        have hw2 : wr.cell? ⟨b2, o2 + k, none⟩ = some (.int .i64 (l2.getD k 0)) := by rw [(unhide hb).cell (lt_of_cell hcell2)]; exact hcell2
        have hI1 : (k : Int) < (l1.length : Int) := by omega
        have hI2 : (k : Int) < (l2.length : Int) := by omega
        have hE := hide (take_succ_iff hlt hlt2 (unhide hs))
        have hN : Hid (l1.getD k 0 ≠ l2.getD k 0 → (l1 == l2) = false) := by
          intro hne
          rw [beq_eq_false_iff_ne]
          rintro rfl
          exact hne rfl
        clear hcell1 hcell2
        generalize l1.getD k 0 = x at *
        generalize l2.getD k 0 = y at *
        by_cases hxy : x = y
        · have t1 : (x != y) = false := by rw [hxy]; simp
          have hs2 := hide ((unhide hE).2 hxy)
          clear hE hN hxy hs
          go_wp2
          go_quiet (fail)
          go_wp2
          exact ⟨⟨k + 1, by omega, by go_num, hs2, hide ((unhide hb).trans (below_of_drewN _ _ _))⟩, by simp [intOf]; omega⟩
        · have t1 : (x != y) = true := by rw [bne_iff_ne]; exact hxy
          have hN2 := hide (unhide hN hxy)
          clear hE hN hxy hs
          go_wp2
          go_quiet (fail)
          go_wp2
          go_ret
          exact ⟨by rw [unhide hN2]; rfl, (unhide hb).trans (below_of_drewN _ _ _)⟩
      · have hT : Hid ((l1 == l2) = true) := by
          have h := unhide hs
          have h3 := unhide Hlen
          rw [List.take_of_length_le (by omega), List.take_of_length_le (by omega)] at h
          show (l1 == l2) = true
          rw [h]; simp
        clear hs
        go_wp2
        go_ret
        exact ⟨by rw [unhide hT]; rfl, unhide hb⟩
  · have ht : ((l1.length : Int) != (l2.length : Int)) = true := by rw [bne_iff_ne]; omega
    have hN := hide (show (l1 == l2) = false by rw [beq_eq_false_iff_ne]; rintro rfl; exact hlen rfl)
    clear hlen
    go_enter Tryd.func26, Tryd.ntmps26
    go_wp2
    go_ret
    exact ⟨by rw [unhide hN]; rfl, Below.refl _ _⟩
end Go.Proofs.YtnpkkcbadcmgkaaDoor
