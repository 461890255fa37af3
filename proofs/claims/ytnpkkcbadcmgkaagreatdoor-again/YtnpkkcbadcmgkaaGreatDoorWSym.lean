import Derived.Test.YtnpkkcbadcmgkaaGreatDoorWWrong
namespace Go.Proofs.YtnpkkcbadcmgkaaGreatDoor
open Go.RowKit Go.Deep
open Gf (Cd)

set_option maxHeartbeats 2000000 in
theorem Size_any (c : Cd) (w : World) (m3 : 3 ≤ c.G.m) (m8 : c.G.m ≤ 8) (ok : c.Ok) :
    Calls Tryz.prog 10 #[pv c.G.m c.G.q c.first c.delta c.short c.cut c.bin] w fun e w' => e = .returned (.tuple #[.int .i64 ((c.n - c.short - c.cut : Nat) : Int), .int .i64 ((c.K - c.short : Nat) : Int)]) ∧ Below w.heap.size w w' := by
  have hpre : Pre c := ⟨m3, m8, ok.f, ok.d2, ok.dn⟩
  obtain ⟨hn1, hn2⟩ := hpre.nb
  have hS := hide (fun wx => size_any c c.short c.cut wx hpre)
  have hp := pow_bdI c.G.m m3 m8
  have hn0 : (2 : Int) ^ c.G.m - 1 = (c.n : Int) := pow_pred c.G.m
  have hK := Gf.K_le ok
  have hs := ok.s
  have E1 := hide (show (c.n : Int) - (c.short : Int) - (c.cut : Int) = ((c.n - c.short - c.cut : Nat) : Int) by omega)
  have E2 := hide (show (c.K : Int) - (c.short : Int) = ((c.K - c.short : Nat) : Int) by omega)
  clear hpre ok
  go_enter Tryz.func10, Tryz.ntmps10
  go_wp2_with fail
  refine (unhide hS _).mono ?_
  rintro e w1 ⟨rfl, hb⟩
  have hx := (Box.new w c.G.m c.G.q c.first c.delta c.short c.cut c.bin).below hb
  have x0 := hx.c0
  have x4 := hx.c4
  have x5 := hx.c5
  have HB := hide (((Below.refl w.heap.size w).alloc (Nat.le_refl _) _).trans (hb.mono (by simp)))
  clear hb hx
  go_wp2
  go_quiet (fail)
  go_wp2
  go_ret2
  refine ⟨?_, (unhide HB).trans (below_of_drewN _ _ _)⟩
  exact congrArg Ending.returned (by rw [← unhide E1, ← unhide E2]; rfl)

/-- is it a symbol? -/
def symB (m : Nat) (bin : Bool) (x : Int) : Bool := elemB m x && (!bin || decide (x ≤ 1))
/-- how many symbols stand ahead of the first number that is none. -/
def good (m : Nat) (bin : Bool) (l : List Int) : Nat := (l.takeWhile (symB m bin)).length

theorem good_le (m : Nat) (bin : Bool) (l : List Int) : good m bin l ≤ l.length := by
  unfold good
  exact (List.takeWhile_sublist _).length_le

/-- k numbers are symbols. -/
def Syms (m : Nat) (bin : Bool) (l : List Int) (k : Nat) : Prop := ∀ i, i < k → symB m bin (l.getD i 0) = true

theorem good_at {m : Nat} {bin : Bool} : ∀ {l : List Int} {k : Nat}, k < l.length → Syms m bin l k → symB m bin (l.getD k 0) = false → good m bin l = k
  | [], k, h, _, _ => by simp at h
  | x :: l, 0, _, _, hx => by
    have hx : symB m bin x = false := hx
    simp [good, hx]
  | x :: l, k + 1, h, hs, hx => by
    have h0 : symB m bin x = true := hs 0 (by omega)
    have ih := good_at (l := l) (k := k) (by simpa using h) (fun i hi => hs (i + 1) (by omega)) hx
    unfold good at ih ⊢
    rw [List.takeWhile_cons, h0, if_pos rfl, List.length_cons, ih]
theorem good_all {m : Nat} {bin : Bool} : ∀ {l : List Int}, Syms m bin l l.length → good m bin l = l.length
  | [], _ => rfl
  | x :: l, hs => by
    have h0 : symB m bin x = true := hs 0 (by simp)
    have ih := good_all (l := l) (fun i hi => hs (i + 1) (by simpa using hi))
    unfold good at ih ⊢
    rw [List.takeWhile_cons, h0, if_pos rfl, List.length_cons, ih, List.length_cons]

/-- what symbols answers. -/
def symAt (m : Nat) (bin : Bool) (l : List Int) : Int := if good m bin l = l.length then -1 else good m bin l

set_option maxHeartbeats 4000000 in
theorem symbols_any (m : Nat) (q f d s t : Int) (bin : Bool) (v : Value) (l : List Int) (w : World) (m3 : 3 ≤ m) (m8 : m ≤ 8) (h : Rd w v l) :
    Calls Tryz.prog 40 #[pv m q f d s t bin, v] w fun e w' => e = .returned (.int .i64 (symAt m bin l)) ∧ Below w.heap.size w w' := by
  obtain ⟨a, cap, rfl, hm, hc⟩ := h
  have hm' := maxLen_lt hm
  have Hc := hide hc
  clear hc hm
  go_enter Tryz.func40, Tryz.ntmps40
  go_wp2
  go_loopw [5, 6] (fun i _ wr => ∃ k : Nat, k ≤ l.length ∧ i = .int .i64 k ∧ Hid (Syms m bin l k) ∧ Hid (Box wr w.heap.size m q f d s t bin) ∧ Hid (Below w.heap.size w wr)) (fun i _ _ => l.length - (intOf i).toNat)
  case atStart => exact ⟨0, by omega, rfl, hide (fun i hi => by omega), hide (Box.new _ _ _ _ _ _ _ _), hide ((Below.refl _ _).alloc (Nat.le_refl _) _)⟩
  case round =>
    obtain ⟨k, hk, rfl, hs, hx, hb⟩ := hrel
    have x0 := (unhide hx).c0
    have x6 := (unhide hx).c6
    by_cases hlt : k < l.length
    · obtain ⟨b, o, rfl, hcell⟩ := unhide Hc k hlt
      have hcw : wr.cell? ⟨b, o + k, none⟩ = some (.int .i64 (l.getD k 0)) := by rw [(unhide hb).cell (lt_of_cell hcell)]; exact hcell
      have hI : (k : Int) < (l.length : Int) := by omega
      have hG := hide (fun h1 => good_at (m := m) (bin := bin) hlt (unhide hs) h1)
      have hN : Hid (symB m bin (l.getD k 0) = true → Syms m bin l (k + 1)) := fun h1 i hi => by
        rcases Nat.lt_or_ge i k with h2 | h2
        · exact unhide hs i h2
        · have : i = k := by omega
          rw [this]; exact h1
      clear hcell hs
      generalize l.getD k 0 = x at *
      cases he : elemB m x
      · have hS : symB m bin x = false := by simp [symB, he]
        have hA := hide (show symAt m bin l = (k : Int) by unfold symAt; rw [unhide hG hS, if_neg (by omega)])
        clear hG hN hS
        go_wp2
        go_quiet ((go_at_call 65; exact Calls.quiet_of_same (element_any m x _ m3 m8)))
        go_wp2
        go_ret
        exact ⟨ret_int (unhide hA).symm, (unhide hb).trans (below_of_drewN _ _ _)⟩
      · cases bin
        · have hS : symB m false x = true := by simp [symB, he]
          have hs2 := hide (unhide hN hS)
          have hx2 := hide ((unhide hx).below (below_of_drewN _ _ 0))
          clear hG hN hS hx2
          go_wp2
          go_quiet ((go_at_call 65; exact Calls.quiet_of_same (element_any m x _ m3 m8)))
          go_wp2
          exact ⟨⟨k + 1, by omega, by go_num, hs2, hide ((unhide hx).below (below_of_drewN _ _ _)), hide ((unhide hb).trans (below_of_drewN _ _ _))⟩, by simp [intOf]; omega⟩
        · by_cases hx1 : 1 < x
          · have hS : symB m true x = false := by simp [symB, he]; omega
            have hA := hide (show symAt m true l = (k : Int) by unfold symAt; rw [unhide hG hS, if_neg (by omega)])
            clear hG hN hS
            go_wp2
            go_quiet ((go_at_call 65; exact Calls.quiet_of_same (element_any m x _ m3 m8)))
            go_wp2
            go_ret
            exact ⟨ret_int (unhide hA).symm, (unhide hb).trans (below_of_drewN _ _ _)⟩
          · have hS : symB m true x = true := by simp [symB, he]; omega
            have hs2 := hide (unhide hN hS)
            have hx2 := hide ((unhide hx).below (below_of_drewN _ _ 0))
            clear hG hN hS hx2
            go_wp2
            go_quiet ((go_at_call 65; exact Calls.quiet_of_same (element_any m x _ m3 m8)))
            go_wp2
            exact ⟨⟨k + 1, by omega, by go_num, hs2, hide ((unhide hx).below (below_of_drewN _ _ _)), hide ((unhide hb).trans (below_of_drewN _ _ _))⟩, by simp [intOf]; omega⟩
    · have hA := hide (show symAt m bin l = -1 by
        have e : k = l.length := by omega
        have h1 := unhide hs
        rw [e] at h1
        unfold symAt; rw [good_all h1, if_pos rfl])
      clear hs
      go_wp2
      go_ret
      exact ⟨ret_int (unhide hA).symm, unhide hb⟩
end Go.Proofs.YtnpkkcbadcmgkaaGreatDoor
