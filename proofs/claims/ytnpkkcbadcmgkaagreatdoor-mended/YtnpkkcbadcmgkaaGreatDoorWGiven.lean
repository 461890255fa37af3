import Derived.Test.YtnpkkcbadcmgkaaGreatDoorWWord
namespace Go.Proofs.YtnpkkcbadcmgkaaGreatDoor
open Go.RowKit Go.Deep
open Gf (Cd)

/-- what is wrong with a list that must have k symbols, and where. -/
def givenE (m : Nat) (bin : Bool) (l : List Int) (k : Nat) : Int := if l.length = k then (if good m bin l = l.length then 0 else 3) else 2
def givenAt (m : Nat) (bin : Bool) (l : List Int) (k : Nat) : Int := if l.length = k then (if good m bin l = l.length then 0 else good m bin l) else 0

theorem box_below (w : World) (m q f d s t : Int) (bin : Bool) : Below w.heap.size w (w.alloc (.cells #[.int .i64 m, .int .i64 q, .int .i64 f, .int .i64 d, .int .i64 s, .int .i64 t, .bool bin] 23)) :=
  (Below.refl w.heap.size w).alloc (Nat.le_refl _) _

set_option maxHeartbeats 2000000 in
theorem Given_any (m : Nat) (q f d s t : Int) (bin : Bool) (v : Value) (l : List Int) (k : Nat) (w : World) (m3 : 3 ≤ m) (m8 : m ≤ 8) (h : Rd w v l) :
    Calls Tryz.prog 29 #[pv m q f d s t bin, v, .int .i64 k] w fun e w' => e = .returned (.tuple #[.int .i64 (givenE m bin l k), .int .i64 (givenAt m bin l k)]) ∧ Below w.heap.size w w' := by
  have hS := hide (fun wx (hx : Rd wx v l) => symbols_any m q f d s t bin v l wx m3 m8 hx)
  have HR := hide h
  obtain ⟨a, cap, rfl, hm, hc⟩ := h
  have hm' := maxLen_lt hm
  clear hc hm
  by_cases hlen : l.length = k
  · have ht : ((l.length : Int) != (k : Int)) = false := by rw [hlen]; simp
    have hgl := good_le m bin l
    by_cases hg : good m bin l = l.length
    · have e1 := hide (show givenE m bin l k = 0 by unfold givenE; rw [if_pos hlen, if_pos hg])
      have e2 := hide (show givenAt m bin l k = 0 by unfold givenAt; rw [if_pos hlen, if_pos hg])
      have e3 := hide (show symAt m bin l = -1 by unfold symAt; rw [if_pos hg])
      clear hg hlen
      go_enter Tryz.func29, Tryz.ntmps29
      go_wp2_with fail
      refine (unhide hS _ ((unhide HR).below (box_below w _ _ _ _ _ _ _))).mono ?_
      rintro e w1 ⟨rfl, hb⟩
      rw [unhide e3]
      have HB := hide (Below.join (box_below w _ _ _ _ _ _ _) hb)
      clear hb
      go_wp2
      go_ret2
      exact ⟨by rw [unhide e1, unhide e2]; rfl, unhide HB⟩
    · have e1 := hide (show givenE m bin l k = 3 by unfold givenE; rw [if_pos hlen, if_neg hg])
      have e2 := hide (show givenAt m bin l k = good m bin l by unfold givenAt; rw [if_pos hlen, if_neg hg])
      have e3 := hide (show symAt m bin l = good m bin l by unfold symAt; rw [if_neg hg])
      clear hg hlen
      go_enter Tryz.func29, Tryz.ntmps29
      go_wp2_with fail
      refine (unhide hS _ ((unhide HR).below (box_below w _ _ _ _ _ _ _))).mono ?_
      rintro e w1 ⟨rfl, hb⟩
      rw [unhide e3]
      have HB := hide (Below.join (box_below w _ _ _ _ _ _ _) hb)
      clear hb
      go_wp2
      go_ret2
      exact ⟨by rw [unhide e1, unhide e2]; rfl, unhide HB⟩
  · have ht : ((l.length : Int) != (k : Int)) = true := by rw [bne_iff_ne]; omega
    have e1 := hide (show givenE m bin l k = 2 by unfold givenE; rw [if_neg hlen])
    have e2 := hide (show givenAt m bin l k = 0 by unfold givenAt; rw [if_neg hlen])
    clear hlen
    go_enter Tryz.func29, Tryz.ntmps29
    go_wp2
    go_ret2
    exact ⟨by rw [unhide e1, unhide e2]; rfl, box_below w _ _ _ _ _ _ _⟩

/-- the numbers as natural ones. -/
def nat (l : List Int) : List Nat := l.map Int.toNat

theorem elemB_iff {m : Nat} {x : Int} : elemB m x = true ↔ 0 ≤ x ∧ x < 2 ^ m := by
  unfold elemB; simp

theorem syms_all {m : Nat} {bin : Bool} : ∀ {l : List Int}, good m bin l = l.length → ∀ x, x ∈ l → symB m bin x = true
  | [], _, _, h => by cases h
  | y :: l, hg, x, hx => by
    have hl := good_le m bin l
    unfold good at hg hl
    rw [List.takeWhile_cons] at hg
    cases hy : symB m bin y
    · rw [hy] at hg; simp at hg
    · rw [hy, if_pos rfl, List.length_cons, List.length_cons] at hg
      cases hx with
      | head => exact hy
      | tail _ hx => exact syms_all (l := l) (by unfold good; omega) x hx

theorem nat_map {m : Nat} {bin : Bool} {l : List Int} (h : good m bin l = l.length) : (nat l).map (fun x : Nat => (x : Int)) = l := by
  unfold nat
  rw [List.map_map]
  refine (List.map_congr_left (g := id) fun x hx => ?_).trans (List.map_id _)
  have h1 := syms_all h x hx
  unfold symB at h1
  rw [Bool.and_eq_true] at h1
  have h2 := (elemB_iff.1 h1.1).1
  show ((x.toNat : Nat) : Int) = x
  omega

/-- a list that is as it must be is one of symbols. -/
theorem given_ok {m : Nat} {bin : Bool} {l : List Int} {k : Nat} : givenE m bin l k = 0 ↔ l.length = k ∧ good m bin l = l.length := by
  unfold givenE
  constructor
  · intro h
    split at h
    · rename_i h1
      split at h
      · rename_i h2; exact ⟨h1, h2⟩
      · cases h
    · cases h
  · rintro ⟨h1, h2⟩
    rw [if_pos h1, if_pos h2]

theorem nat_sy (c : Cd) {l : List Int} (h : good c.G.m c.bin l = l.length) : c.AllSy (nat l) := by
  intro a ha
  unfold nat at ha
  obtain ⟨x, hx, rfl⟩ := List.mem_map.1 ha
  have h1 := syms_all h x hx
  unfold symB at h1
  rw [Bool.and_eq_true] at h1
  have h2 := elemB_iff.1 h1.1
  refine ⟨?_, fun hb => ?_⟩
  · show x.toNat < 2 ^ c.G.m
    have h3 : ((2 ^ c.G.m : Nat) : Int) = (2 : Int) ^ c.G.m := by simp
    omega
  · have h3 := h1.2
    rw [hb] at h3
    simp at h3
    omega
theorem nat_msg (c : Cd) {l : List Int} (hl : l.length = c.K - c.short) (h : good c.G.m c.bin l = l.length) : Gf.msg c (nat l) :=
  ⟨by unfold nat; rw [List.length_map, hl], fun a ha => (nat_sy c h a ha).1⟩
end Go.Proofs.YtnpkkcbadcmgkaaGreatDoor
