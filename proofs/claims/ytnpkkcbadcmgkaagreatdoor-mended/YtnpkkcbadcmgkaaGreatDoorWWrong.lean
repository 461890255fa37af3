import Derived.Test.YtnpkkcbadcmgkaaGreatDoorWRoots
namespace Go.Proofs.YtnpkkcbadcmgkaaGreatDoor
open Go.RowKit Go.Deep
open Gf (Cd)

def cnt (c : Cd) (i : Nat) : Nat := ((List.range i).filter c.asked).length
theorem cnt_succ (c : Cd) (i : Nat) : cnt c (i + 1) = cnt c i + (if c.asked i then 1 else 0) := by
  unfold cnt
  rw [List.range_succ, List.filter_append, List.length_append]
  congr 1
  by_cases h : c.asked i = true
  · simp [h]
  · simp [h]
theorem cnt_le (c : Cd) (i : Nat) : cnt c i ≤ i := by
  have := List.length_filter_le c.asked (List.range i)
  unfold cnt; simpa using this
theorem cnt_all (c : Cd) : cnt c c.n = c.rts.length := rfl

set_option maxHeartbeats 2000000 in
theorem size_any (c : Cd) (s t : Int) (w : World) (ok : Pre c) :
    Calls Tryz.prog 28 #[pv c.G.m c.G.q c.first c.delta s t c.bin] w fun e w' => e = .returned (.int .i64 c.K) ∧ Below w.heap.size w w' := by
  have OK := hide ok
  obtain ⟨hm3, hm8, hf, hd2, hdn⟩ := ok
  obtain ⟨hn1, hn2⟩ := Pre.nb ⟨hm3, hm8, hf, hd2, hdn⟩
  have hp := pow_bdI c.G.m hm3 hm8
  have hn0 : (2 : Int) ^ c.G.m - 1 = (c.n : Int) := pow_pred c.G.m
  go_enter Tryz.func28, Tryz.ntmps28
  go_wp2_with fail
  refine (roots_any c s t _ (unhide OK)).mono ?_
  rintro e w1 ⟨b, rfl, hr, hb⟩
  have HR := hide hr
  have HB := hide (((Below.refl w.heap.size w).alloc (Nat.le_refl _) (.cells #[.int .i64 c.G.m, .int .i64 c.G.q, .int .i64 c.first, .int .i64 c.delta, .int .i64 s, .int .i64 t, .bool c.bin] 23)).trans (hb.mono (by simp)))
  clear hr hb
  go_wp2
  go_loop [3, 5] (fun k i => ∃ j : Nat, j ≤ c.n ∧ i = .int .i64 j ∧ k = .int .i64 ((c.n : Int) - (cnt c j : Int))) (fun _ i => c.n - (intOf i).toNat)
  case atStart => exact ⟨0, by omega, rfl, by simp [cnt]⟩
  case round =>
    obtain ⟨j, hj, rfl, rfl⟩ := hrel
    have hcl := cnt_le c j
    by_cases hlt : j < c.n
    · have hI : (j : Int) < (c.n : Int) := by omega
      have s1 := World.rowIs.cell (unhide HR) hlt
      have hcs := hide (cnt_succ c j)
      cases ha : c.asked j
      · rw [ha] at s1
        have h2 := hide (show (cnt c (j + 1)) = cnt c j by rw [unhide hcs, ha]; simp)
        clear ha
        go_wp2
        exact ⟨⟨j + 1, by omega, by go_num, by rw [unhide h2]⟩, by simp [intOf]; omega⟩
      · rw [ha] at s1
        have h2 := hide (show (cnt c (j + 1)) = cnt c j + 1 by rw [unhide hcs, ha]; simp)
        clear ha
        go_wp2
        refine ⟨⟨j + 1, by omega, by go_num, ?_⟩, by simp [intOf]; omega⟩
        rw [unhide h2]; congr 1; omega
    · have e : j = c.n := by omega
      have hk := hide (show (c.n : Int) - (cnt c j : Int) = (c.K : Int) by rw [e, cnt_all]; have := Gf.K_add c; omega)
      clear e
      go_wp2
      go_ret
      exact ⟨ret_int (unhide hk), unhide HB⟩

/-- which parameter is wrong: 0: none. -/
def WrongIs (m q f d s t : Int) (b : Bool) (r : Int) : Prop :=
  (r = 1 ∧ (m < 3 ∨ 8 < m)) ∨
  (r = 2 ∧ ∃ n : Nat, m = n ∧ 3 ≤ n ∧ n ≤ 8 ∧ (q / 2 ^ n ≠ 1 ∨ ∃ p : Nat, q = p ∧ Gf.Deg n p ∧ ¬ Gf.IsField n p)) ∨
  (∃ G : Gf.Fd, m = G.m ∧ q = G.q ∧ 3 ≤ G.m ∧ G.m ≤ 8 ∧ r = 3 ∧ (f < 0 ∨ (G.n : Int) ≤ f)) ∨
  (∃ G : Gf.Fd, m = G.m ∧ q = G.q ∧ 3 ≤ G.m ∧ G.m ≤ 8 ∧ r = 4 ∧ 0 ≤ f ∧ f < (G.n : Int) ∧ (d < 2 ∨ (G.n : Int) < d)) ∨
  (∃ c : Cd, m = c.G.m ∧ q = c.G.q ∧ f = c.first ∧ d = c.delta ∧ b = c.bin ∧ Pre c ∧
    ((r = 4 ∧ c.K < 1) ∨ (r = 5 ∧ 1 ≤ c.K ∧ (s < 0 ∨ (c.K : Int) ≤ s)) ∨ (r = 6 ∧ 1 ≤ c.K ∧ 0 ≤ s ∧ s < (c.K : Int) ∧ (t < 0 ∨ d - 2 < t)) ∨ (r = 0 ∧ s = c.short ∧ t = c.cut ∧ c.Ok)))

theorem wrong_total (m q f d s t : Int) (b : Bool) : ∃ r, WrongIs m q f d s t b r := by
  by_cases h : m < 3 ∨ 8 < m
  · exact ⟨1, Or.inl ⟨rfl, h⟩⟩
  obtain ⟨n, rfl⟩ : ∃ n : Nat, m = n := ⟨m.toNat, by omega⟩
  by_cases hq : ¬ q / 2 ^ n = 1
  · exact ⟨2, Or.inr (Or.inl ⟨rfl, n, rfl, by omega, by omega, Or.inl hq⟩)⟩
  have hq := Classical.not_not.1 hq
  have h0 : 0 ≤ q := by
    rcases Int.lt_or_le q 0 with h0 | h0
    · have : q / 2 ^ n < 0 := Int.ediv_neg_of_neg_of_pos h0 (Int.pow_pos (by decide))
      omega
    · exact h0
  obtain ⟨p, rfl⟩ : ∃ p : Nat, q = p := ⟨q.toNat, by omega⟩
  have hd : Gf.Deg n p := ⟨by omega, by rw [div_cast] at hq; omega⟩
  by_cases F : ¬ Gf.IsField n p
  · exact ⟨2, Or.inr (Or.inl ⟨rfl, n, rfl, by omega, by omega, Or.inr ⟨p, rfl, hd, F⟩⟩)⟩
  have F := Classical.not_not.1 F
  let G : Gf.Fd := ⟨n, p, F⟩
  have hG3 : 3 ≤ G.m := by show 3 ≤ n; omega
  have hG8 : G.m ≤ 8 := by show n ≤ 8; omega
  by_cases hf : f < 0 ∨ (G.n : Int) ≤ f
  · exact ⟨3, Or.inr (Or.inr (Or.inl ⟨G, rfl, rfl, hG3, hG8, rfl, hf⟩))⟩
  by_cases hdd : d < 2 ∨ (G.n : Int) < d
  · exact ⟨4, Or.inr (Or.inr (Or.inr (Or.inl ⟨G, rfl, rfl, hG3, hG8, rfl, by omega, by omega, hdd⟩)))⟩
  let c : Cd := ⟨G, f.toNat, d.toNat, s.toNat, t.toNat, b⟩
  have hc1 : f = (c.first : Int) := by show f = (f.toNat : Int); omega
  have hc2 : d = (c.delta : Int) := by show d = (d.toNat : Int); omega
  have hcn : c.n = G.n := rfl
  have hpre : Pre c := ⟨hG3, hG8, by omega, by omega, by omega⟩
  by_cases hk : c.K < 1
  · exact ⟨4, Or.inr (Or.inr (Or.inr (Or.inr ⟨c, rfl, rfl, hc1, hc2, rfl, hpre, Or.inl ⟨rfl, hk⟩⟩)))⟩
  by_cases hs : s < 0 ∨ (c.K : Int) ≤ s
  · exact ⟨5, Or.inr (Or.inr (Or.inr (Or.inr ⟨c, rfl, rfl, hc1, hc2, rfl, hpre, Or.inr (Or.inl ⟨rfl, by omega, hs⟩)⟩)))⟩
  by_cases ht : t < 0 ∨ d - 2 < t
  · exact ⟨6, Or.inr (Or.inr (Or.inr (Or.inr ⟨c, rfl, rfl, hc1, hc2, rfl, hpre, Or.inr (Or.inr (Or.inl ⟨rfl, by omega, by omega, by omega, ht⟩))⟩)))⟩
  have hcs : s = (c.short : Int) := by show s = (s.toNat : Int); omega
  have hct : t = (c.cut : Int) := by show t = (t.toNat : Int); omega
  exact ⟨0, Or.inr (Or.inr (Or.inr (Or.inr ⟨c, rfl, rfl, hc1, hc2, rfl, hpre, Or.inr (Or.inr (Or.inr ⟨rfl, hcs, hct, ⟨by omega, by omega, by omega, by omega, by omega, by omega⟩⟩))⟩)))⟩

set_option maxHeartbeats 2000000 in
theorem Wrong_field (m q f d s t : Int) (b : Bool) (r : Int) (w : World) (h : Calls Tryz.prog 36 #[.int .i64 m, .int .i64 q] (w.alloc (.cells #[.int .i64 m, .int .i64 q, .int .i64 f, .int .i64 d, .int .i64 s, .int .i64 t, .bool b] 23)) fun e w' => e = .returned (.int .i64 r) ∧ w' = (w.alloc (.cells #[.int .i64 m, .int .i64 q, .int .i64 f, .int .i64 d, .int .i64 s, .int .i64 t, .bool b] 23))) (hr : (r != 0) = true) :
    Calls Tryz.prog 23 #[pv m q f d s t b] w fun e w' => e = .returned (.int .i64 r) ∧ Below w.heap.size w w' := by
  have H := hide h
  clear h
  go_enter Tryz.func23, Tryz.ntmps23
  go_wp2_with fail
  refine (unhide H).mono ?_
  rintro e w' ⟨rfl, rfl⟩
  go_wp2
  go_ret
  exact ⟨rfl, (Below.refl _ _).alloc (Nat.le_refl _) _⟩

set_option maxHeartbeats 4000000 in
theorem Wrong_any (m q f d s t : Int) (b : Bool) (r : Int) (w : World) (h : WrongIs m q f d s t b r) :
    Calls Tryz.prog 23 #[pv m q f d s t b] w fun e w' => e = .returned (.int .i64 r) ∧ Below w.heap.size w w' := by
  rcases h with ⟨rfl, h⟩ | ⟨rfl, n, rfl, h3, h8, h | ⟨p, rfl, hd, F⟩⟩ | ⟨G, rfl, rfl, h3, h8, rfl, h⟩ | ⟨G, rfl, rfl, h3, h8, rfl, hf0, hf1, h⟩ | ⟨c, rfl, rfl, rfl, rfl, rfl, hpre, h⟩
  · exact Wrong_field m q f d s t b 1 w (Field_m m q _ h) rfl
  · exact Wrong_field n q f d s t b 2 w (Field_q n q _ h3 h8 h) rfl
  · exact Wrong_field n p f d s t b 2 w (Field_no n p _ h3 h8 hd F) rfl
  · have hp := pow_bdI G.m h3 h8
    have hn0 : (2 : Int) ^ G.m - 1 = (G.n : Int) := pow_pred G.m
    have hF := hide (fun wx => Field_yes G.m G.q wx h3 h8 G.isF)
    by_cases h0 : f < 0
    · clear h
      go_enter Tryz.func23, Tryz.ntmps23
      go_wp2_with (go_at_call 36; refine (unhide hF _).mono ?_; rintro e w' ⟨rfl, rfl⟩)
      go_ret
      exact ⟨rfl, (Below.refl _ _).alloc (Nat.le_refl _) _⟩
    · have h1 : (G.n : Int) ≤ f := by omega
      clear h
      go_enter Tryz.func23, Tryz.ntmps23
      go_wp2_with (go_at_call 36; refine (unhide hF _).mono ?_; rintro e w' ⟨rfl, rfl⟩)
      go_ret
      exact ⟨rfl, (Below.refl _ _).alloc (Nat.le_refl _) _⟩
  · have hp := pow_bdI G.m h3 h8
    have hn0 : (2 : Int) ^ G.m - 1 = (G.n : Int) := pow_pred G.m
    have hF := hide (fun wx => Field_yes G.m G.q wx h3 h8 G.isF)
    by_cases h0 : d < 2
    · clear h
      go_enter Tryz.func23, Tryz.ntmps23
      go_wp2_with (go_at_call 36; refine (unhide hF _).mono ?_; rintro e w' ⟨rfl, rfl⟩)
      go_ret
      exact ⟨rfl, (Below.refl _ _).alloc (Nat.le_refl _) _⟩
    · have h1 : (G.n : Int) < d := by omega
      clear h
      go_enter Tryz.func23, Tryz.ntmps23
      go_wp2_with (go_at_call 36; refine (unhide hF _).mono ?_; rintro e w' ⟨rfl, rfl⟩)
      go_ret
      exact ⟨rfl, (Below.refl _ _).alloc (Nat.le_refl _) _⟩
  · have hp := pow_bdI c.G.m hpre.m3 hpre.m8
    have hn0 : (2 : Int) ^ c.G.m - 1 = (c.n : Int) := pow_pred c.G.m
    have hF := hide (fun wx => Field_yes c.G.m c.G.q wx hpre.m3 hpre.m8 c.G.isF)
    have hS := hide (fun s t wx => size_any c s t wx hpre)
    have b1 : (c.first : Int) < (c.n : Int) := by have := hpre.f; omega
    have b2 : (2 : Int) ≤ (c.delta : Int) := by have := hpre.d2; omega
    have b3 : (c.delta : Int) ≤ (c.n : Int) := by have := hpre.dn; omega
    have m3 := hpre.m3
    have m8 := hpre.m8
    clear hpre
    rcases h with ⟨rfl, hk⟩ | ⟨rfl, hk, h⟩ | ⟨rfl, hk, hs0, hs1, h⟩ | ⟨rfl, rfl, rfl, ok⟩
    · have hkI : (c.K : Int) < 1 := by omega
      clear hk
      go_enter Tryz.func23, Tryz.ntmps23
      go_wp2_with (first | (go_at_call 36; refine (unhide hF _).mono ?_; rintro e w' ⟨rfl, rfl⟩) | fail)
      refine (unhide hS s t _).mono ?_
      rintro e w1 ⟨rfl, hb⟩
      have hx := (Box.new w c.G.m c.G.q c.first c.delta s t c.bin).below hb
      have x3 := hx.c3
      have x4 := hx.c4
      have x5 := hx.c5
      have HB := hide (((Below.refl w.heap.size w).alloc (Nat.le_refl _) _).trans (hb.mono (by simp)))
      clear hb hx
      go_wp2
      go_ret
      exact ⟨rfl, unhide HB⟩
    · have hkI : ¬ (c.K : Int) < 1 := by omega
      clear hk
      by_cases h0 : s < 0
      · clear h
        go_enter Tryz.func23, Tryz.ntmps23
        go_wp2_with (first | (go_at_call 36; refine (unhide hF _).mono ?_; rintro e w' ⟨rfl, rfl⟩) | fail)
        refine (unhide hS s t _).mono ?_
        rintro e w1 ⟨rfl, hb⟩
        have hx := (Box.new w c.G.m c.G.q c.first c.delta s t c.bin).below hb
        have x3 := hx.c3
        have x4 := hx.c4
        have x5 := hx.c5
        have HB := hide (((Below.refl w.heap.size w).alloc (Nat.le_refl _) _).trans (hb.mono (by simp)))
        clear hb hx
        go_wp2
        go_ret
        exact ⟨rfl, unhide HB⟩
      · have h1 : (c.K : Int) ≤ s := by omega
        clear h
        go_enter Tryz.func23, Tryz.ntmps23
        go_wp2_with (first | (go_at_call 36; refine (unhide hF _).mono ?_; rintro e w' ⟨rfl, rfl⟩) | fail)
        refine (unhide hS s t _).mono ?_
        rintro e w1 ⟨rfl, hb⟩
        have hx := (Box.new w c.G.m c.G.q c.first c.delta s t c.bin).below hb
        have x3 := hx.c3
        have x4 := hx.c4
        have x5 := hx.c5
        have HB := hide (((Below.refl w.heap.size w).alloc (Nat.le_refl _) _).trans (hb.mono (by simp)))
        clear hb hx
        go_wp2
        go_ret
        exact ⟨rfl, unhide HB⟩
    · have hkI : ¬ (c.K : Int) < 1 := by omega
      clear hk
      by_cases h0 : t < 0
      · clear h
        go_enter Tryz.func23, Tryz.ntmps23
        go_wp2_with (first | (go_at_call 36; refine (unhide hF _).mono ?_; rintro e w' ⟨rfl, rfl⟩) | fail)
        refine (unhide hS s t _).mono ?_
        rintro e w1 ⟨rfl, hb⟩
        have hx := (Box.new w c.G.m c.G.q c.first c.delta s t c.bin).below hb
        have x3 := hx.c3
        have x4 := hx.c4
        have x5 := hx.c5
        have HB := hide (((Below.refl w.heap.size w).alloc (Nat.le_refl _) _).trans (hb.mono (by simp)))
        clear hb hx
        go_wp2
        go_ret
        exact ⟨rfl, unhide HB⟩
      · have h1 : (c.delta : Int) - 2 < t := by omega
        clear h
        go_enter Tryz.func23, Tryz.ntmps23
        go_wp2_with (first | (go_at_call 36; refine (unhide hF _).mono ?_; rintro e w' ⟨rfl, rfl⟩) | fail)
        refine (unhide hS s t _).mono ?_
        rintro e w1 ⟨rfl, hb⟩
        have hx := (Box.new w c.G.m c.G.q c.first c.delta s t c.bin).below hb
        have x3 := hx.c3
        have x4 := hx.c4
        have x5 := hx.c5
        have HB := hide (((Below.refl w.heap.size w).alloc (Nat.le_refl _) _).trans (hb.mono (by simp)))
        clear hb hx
        go_wp2
        go_ret
        exact ⟨rfl, unhide HB⟩
    · have hkI : ¬ (c.K : Int) < 1 := by have := ok.k; omega
      have hs1 : (c.short : Int) < (c.K : Int) := by have := ok.s; omega
      have ht1 : (c.cut : Int) ≤ (c.delta : Int) - 2 := by have := ok.ct; omega
      clear ok
      go_enter Tryz.func23, Tryz.ntmps23
      go_wp2_with (first | (go_at_call 36; refine (unhide hF _).mono ?_; rintro e w' ⟨rfl, rfl⟩) | fail)
      refine (unhide hS c.short c.cut _).mono ?_
      rintro e w1 ⟨rfl, hb⟩
      have hx := (Box.new w c.G.m c.G.q c.first c.delta c.short c.cut c.bin).below hb
      have x3 := hx.c3
      have x4 := hx.c4
      have x5 := hx.c5
      have HB := hide (((Below.refl w.heap.size w).alloc (Nat.le_refl _) _).trans (hb.mono (by simp)))
      clear hb hx
      go_wp2
      go_ret
      exact ⟨rfl, unhide HB⟩
end Go.Proofs.YtnpkkcbadcmgkaaGreatDoor
