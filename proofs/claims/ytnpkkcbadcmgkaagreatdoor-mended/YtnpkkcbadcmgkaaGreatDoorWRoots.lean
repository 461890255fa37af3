import Derived.Test.YtnpkkcbadcmgkaaGreatDoorWList
import Derived.Test.YtnpkkcbadcmgkaaGreatDoorCode
namespace Go.Proofs.YtnpkkcbadcmgkaaGreatDoor
open Go.RowKit Go.Deep
open Gf (Cd)

/-- the seven parameters, as a value. -/
abbrev pv (m q f d s t : Int) (b : Bool) : Value := .agg #[.int .i64 m, .int .i64 q, .int .i64 f, .int .i64 d, .int .i64 s, .int .i64 t, .bool b]
/-- .. and as they lie in a block. -/
def Box (w : World) (b : Nat) (m q f d s t : Int) (bin : Bool) : Prop := w.heap[b]? = some (.cells #[.int .i64 m, .int .i64 q, .int .i64 f, .int .i64 d, .int .i64 s, .int .i64 t, .bool bin] 23 (0, 0))

section box
variable {w : World} {b : Nat} {m q f d s t : Int} {bin : Bool}
theorem Box.c0 (h : Box w b m q f d s t bin) : w.cell? ⟨b, 0, none⟩ = some (.int .i64 m) := by simp [World.cell?, show w.heap[b]? = _ from h]
theorem Box.c1 (h : Box w b m q f d s t bin) : w.cell? ⟨b, 1, none⟩ = some (.int .i64 q) := by simp [World.cell?, show w.heap[b]? = _ from h]
theorem Box.c2 (h : Box w b m q f d s t bin) : w.cell? ⟨b, 2, none⟩ = some (.int .i64 f) := by simp [World.cell?, show w.heap[b]? = _ from h]
theorem Box.c3 (h : Box w b m q f d s t bin) : w.cell? ⟨b, 3, none⟩ = some (.int .i64 d) := by simp [World.cell?, show w.heap[b]? = _ from h]
theorem Box.c4 (h : Box w b m q f d s t bin) : w.cell? ⟨b, 4, none⟩ = some (.int .i64 s) := by simp [World.cell?, show w.heap[b]? = _ from h]
theorem Box.c5 (h : Box w b m q f d s t bin) : w.cell? ⟨b, 5, none⟩ = some (.int .i64 t) := by simp [World.cell?, show w.heap[b]? = _ from h]
theorem Box.c6 (h : Box w b m q f d s t bin) : w.cell? ⟨b, 6, none⟩ = some (.bool bin) := by simp [World.cell?, show w.heap[b]? = _ from h]
theorem Box.lt (h : Box w b m q f d s t bin) : b < w.heap.size := (Array.getElem?_eq_some_iff.1 h).1
theorem Box.below {w' : World} (h : Box w b m q f d s t bin) (hb : Below w.heap.size w w') : Box w' b m q f d s t bin := (hb.block b h.lt).trans h
theorem Box.set (h : Box w b m q f d s t bin) {a : Addr} (ha : b ≠ a.block) (v : Value) : Box (w.setCell a v) b m q f d s t bin := (blk_setCell_other _ _ _ _ ha).trans h
theorem Box.new (w : World) (m q f d s t : Int) (bin : Bool) : Box (w.alloc (.cells #[.int .i64 m, .int .i64 q, .int .i64 f, .int .i64 d, .int .i64 s, .int .i64 t, .bool bin] 23)) w.heap.size m q f d s t bin := blk_alloc_new _ _
end box

/-! ### Which roots are marked, on the way -/
def ask0 (c : Cd) (t0 : Nat) (i : Nat) : Bool := (List.range t0).any fun t => (List.range c.turns).any fun h => (c.first + t) * 2 ^ h % c.n == i
def ask1 (c : Cd) (t0 h0 : Nat) (i : Nat) : Bool := ask0 c t0 i || (List.range h0).any fun h => (c.first + t0) * 2 ^ h % c.n == i

theorem ask1_zero (c : Cd) (t0 i : Nat) : ask1 c t0 0 i = ask0 c t0 i := by simp [ask1]
theorem ask1_succ (c : Cd) (t0 h0 i : Nat) : ask1 c t0 (h0 + 1) i = (ask1 c t0 h0 i || ((c.first + t0) * 2 ^ h0 % c.n == i)) := by
  unfold ask1
  rw [List.range_succ, List.any_append, ← Bool.or_assoc]
  simp
theorem ask0_succ (c : Cd) (t0 i : Nat) : ask0 c (t0 + 1) i = ask1 c t0 c.turns i := by
  unfold ask0 ask1 ask0
  rw [List.range_succ, List.any_append]
  simp
theorem ask0_all (c : Cd) (i : Nat) : ask0 c (c.delta - 1) i = c.asked i := rfl
theorem ask0_zero (c : Cd) (i : Nat) : ask0 c 0 i = false := by simp [ask0]

def BRow (w : World) (b n : Nat) (f : Nat → Bool) : Prop := w.rowIs b 4 n (fun i => .bool (f i))

theorem BRow.mark {w : World} {b n : Nat} {f : Nat → Bool} (h : BRow w b n f) (k : Nat) : BRow (w.setCell ⟨b, k, none⟩ (.bool true)) b n (fun i => f i || (k == i)) := by
  refine World.rowIs.congr (World.rowIs.set h k (.bool true)) (fun i _ => ?_)
  by_cases e : i = k
  · subst e; simp
  · have : (k == i) = false := by rw [beq_eq_false_iff_ne]; omega
    show (if i = k then _ else _) = Value.bool (f i || (k == i))
    rw [if_neg e, this, Bool.or_false]

/-- what is asked of the first parameters of a code. -/
structure Pre (c : Cd) : Prop where
  m3 : 3 ≤ c.G.m
  m8 : c.G.m ≤ 8
  f : c.first < c.n
  d2 : 2 ≤ c.delta
  dn : c.delta ≤ c.n

theorem Pre.nb {c : Cd} (h : Pre c) : 7 ≤ c.n ∧ c.n < 256 := by
  have := pow_bd c.G.m h.m3 h.m8
  show 7 ≤ Gf.ordN c.G.m ∧ Gf.ordN c.G.m < 256
  unfold Gf.ordN; omega

set_option maxHeartbeats 2000000 in
theorem roots_any (c : Cd) (s t : Int) (w : World) (ok : Pre c) :
    Calls Tryz.prog 39 #[pv c.G.m c.G.q c.first c.delta s t c.bin] w fun e w' => ∃ b, e = .returned (.slice (some ⟨b, 0, none⟩) c.n c.n) ∧ BRow w' b c.n c.asked ∧ Below w.heap.size w w' := by
  obtain ⟨hm3, hm8, hf, hd2, hdn⟩ := ok
  obtain ⟨hn1, hn2⟩ := Pre.nb ⟨hm3, hm8, hf, hd2, hdn⟩
  have hp := pow_bdI c.G.m hm3 hm8
  have hn0 : (2 : Int) ^ c.G.m - 1 = (c.n : Int) := pow_pred c.G.m
  have mk := fun (wx : World) => run_make_row' (P := Tryz.prog) 79 4 (.bool false) 1 Tryz.underlying79 (show (Tryz.prog.info? 4).map (fun i => (i.zero, i.size, i.bytes)) = some (some (.bool false), 1, 1) by kernel_rfl) rfl .i64 .i64 c.n (by omega) (by omega) wx
  go_enter Tryz.func39, Tryz.ntmps39
  go_wp2
  clear mk
  go_loopw [5, 6, 7] (fun j _ _ wr => ∃ t0 : Nat, t0 ≤ c.delta - 1 ∧ j = .int .i64 ((c.first : Int) + (t0 : Int)) ∧ Hid (BRow wr (w.heap.size + 1) c.n (ask0 c t0)) ∧ Hid (Box wr w.heap.size c.G.m c.G.q c.first c.delta s t c.bin) ∧ Hid (Below w.heap.size w wr)) (fun j _ _ _ => c.first + c.delta - (intOf j).toNat)
  case atStart =>
    refine ⟨0, by omega, by simp, hide ?_, hide ?_, hide ?_⟩
    · have h1 := World.rowIs_made (w.alloc (.cells #[.int .i64 c.G.m, .int .i64 c.G.q, .int .i64 c.first, .int .i64 c.delta, .int .i64 s, .int .i64 t, .bool c.bin] 23)) (.bool false) c.n 4
      rw [nblk_alloc] at h1
      exact World.rowIs.congr h1 (fun i _ => by rw [ask0_zero])
    · exact (Box.new w _ _ _ _ _ _ _).below ((Below.refl _ _).alloc (Nat.le_refl _) _)
    · exact ((Below.refl _ _).alloc (Nat.le_refl _) _).alloc (by simp) _
  case round =>
    obtain ⟨t0, ht0, rfl, hr, hx, hb⟩ := hrel
    have x0 := (unhide hx).c0
    have x2 := (unhide hx).c2
    have x3 := (unhide hx).c3
    by_cases hlt : t0 < c.delta - 1
    · obtain ⟨k0, hk0⟩ : ∃ k0, (c.first + t0) % c.n = k0 := ⟨_, rfl⟩
      have hkl : k0 < c.n := by rw [← hk0]; exact Nat.mod_lt _ (by omega)
      have hkI : ((c.first : Int) + (t0 : Int)) % (c.n : Int) = (k0 : Int) := by rw [← hk0, Int.natCast_emod]; simp
      have hkl2 : (k0 : Int) < (c.n : Int) := by omega
      have s1 := World.rowIs.cell (unhide hr) hkl
      have s2 := World.rowIs.frozen (unhide hr) k0
      have hle : (c.first : Int) + (t0 : Int) ≤ (c.first : Int) + (c.delta : Int) - 2 := by omega
      have hr1 := hide (BRow.mark (unhide hr) k0)
      have hr2 := hide (show BRow (wr.setCell ⟨w.heap.size + 1, k0, none⟩ (.bool true)) (w.heap.size + 1) c.n (ask1 c t0 1) from
        World.rowIs.congr (unhide hr1) (fun i _ => by rw [ask1_succ, ask1_zero]; simp [hk0]))
      have hx1 := hide ((unhide hx).set (a := ⟨w.heap.size + 1, k0, none⟩) (by simp) (.bool true))
      have hb1 := hide ((unhide hb).setCell (p := ⟨w.heap.size + 1, k0, none⟩) (by simp) (.bool true))
      have HK := hide hk0
      clear hk0 hr1 hr hx hb
      go_wp2
      go_loopw [6, 7] (fun k h wz => ∃ h0 : Nat, 1 ≤ h0 ∧ h0 ≤ c.turns ∧ h = .int .i64 h0 ∧ k = .int .i64 (((c.first + t0) * 2 ^ (h0 - 1) % c.n : Nat) : Int) ∧ Hid (BRow wz (w.heap.size + 1) c.n (ask1 c t0 h0)) ∧ Hid (Box wz w.heap.size c.G.m c.G.q c.first c.delta s t c.bin) ∧ Hid (Below w.heap.size w wz)) (fun _ h _ => 9 - (intOf h).toNat)
      case atStart => exact ⟨1, by omega, Gf.turns_pos c, rfl, by rw [show ((c.first + t0) * 2 ^ (1 - 1) % c.n) = k0 by simpa using unhide HK, hkI], hr2, hx1, hb1⟩
      case round =>
        clear x0 x2 x3 s1 s2 hr2 hx1 hb1 hkI hkl hkl2 HK
        obtain ⟨h0, hh1, hh2, rfl, rfl, hr, hx, hb⟩ := hrel
        have x0 := (unhide hx).c0
        have x6 := (unhide hx).c6
        obtain ⟨k1, hk1⟩ : ∃ k1, (c.first + t0) * 2 ^ (h0 - 1) % c.n = k1 := ⟨_, rfl⟩
        have hkl1 : k1 < c.n := by rw [← hk1]; exact Nat.mod_lt _ (by omega)
        rw [hk1]
        have hk2 : 2 * k1 % c.n = (c.first + t0) * 2 ^ h0 % c.n := by
          rw [← hk1, Nat.mul_mod_mod, Nat.mul_left_comm, ← Nat.pow_succ']
          congr 3
          omega
        have H1 := hide hk1
        have H2 := hide hk2
        clear hk1 hk2
        by_cases hbin : c.bin = true ∧ h0 < c.G.m
        · obtain ⟨hbt, hhm⟩ := hbin
          obtain ⟨k2, hk2⟩ : ∃ k2, 2 * k1 % c.n = k2 := ⟨_, rfl⟩
          have hkl2 : k2 < c.n := by rw [← hk2]; exact Nat.mod_lt _ (by omega)
          have hkI : (2 * (k1 : Int)) % (c.n : Int) = (k2 : Int) := by rw [← hk2, Int.natCast_emod]; simp
          have hklI : (k2 : Int) < (c.n : Int) := by omega
          have s1 := World.rowIs.cell (unhide hr) hkl2
          have s2 := World.rowIs.frozen (unhide hr) k2
          have hr2 := hide (show BRow (wr.setCell ⟨w.heap.size + 1, k2, none⟩ (.bool true)) (w.heap.size + 1) c.n (ask1 c t0 (h0 + 1)) from
            World.rowIs.congr (BRow.mark (unhide hr) k2) (fun i _ => by rw [ask1_succ, ← unhide H2, hk2]))
          have hx2 := hide ((unhide hx).set (a := ⟨w.heap.size + 1, k2, none⟩) (by simp) (.bool true))
          have hb2 := hide ((unhide hb).setCell (p := ⟨w.heap.size + 1, k2, none⟩) (by simp) (.bool true))
          have hK := hide (show ((c.first + t0) * 2 ^ (h0 + 1 - 1) % c.n) = k2 by rw [← hk2, unhide H2]; simp)
          have hT := hide (show h0 + 1 ≤ c.turns by unfold Gf.Cd.turns; rw [if_pos hbt]; omega)
          clear hk2 hr hx hb H1 H2
          rw [hbt] at x6
          go_wp2
          exact ⟨⟨h0 + 1, by omega, unhide hT, by go_num, by rw [unhide hK, hkI], hr2, hx2, hb2⟩, by simp [intOf]; omega⟩
        · have hT : h0 = c.turns := by
            unfold Gf.Cd.turns at hh2 ⊢
            cases hc : c.bin
            · rw [hc] at hh2; simp at hh2 ⊢; omega
            · rw [hc] at hh2 hbin; simp at hh2 hbin ⊢; omega
          have hr2 := hide (show BRow wr (w.heap.size + 1) c.n (ask0 c (t0 + 1)) from World.rowIs.congr (unhide hr) (fun i _ => by rw [ask0_succ, hT]))
          clear hr H1 H2 hT
          by_cases hb0 : c.bin = true
          · have hhm : ¬ (h0 : Int) < (c.G.m : Int) := by have h9 : ¬ h0 < c.G.m := fun h => hbin ⟨hb0, h⟩; omega
            clear hbin hb0
            go_wp2
            exact ⟨⟨t0 + 1, by omega, by go_num, hr2, hx, hb⟩, by simp [intOf]; omega⟩
          · have hb1 : c.bin = false := by simpa using hb0
            clear hbin hb0
            rw [hb1] at x6
            clear hb1
            go_wp2
            all_goals
              go_roundw
              case rel => exact ⟨t0 + 1, by omega, by go_num, hr2, hx, hb⟩
              case measure => simp [intOf]; omega
    · have e : t0 = c.delta - 1 := by omega
      have hle : ¬ ((c.first : Int) + (t0 : Int) ≤ (c.first : Int) + (c.delta : Int) - 2) := by omega
      have hr2 := hide (show BRow wr (w.heap.size + 1) c.n c.asked from World.rowIs.congr (unhide hr) (fun i _ => by rw [e, ask0_all]))
      clear hr e
      go_wp2
      go_ret
      exact ⟨_, rfl, unhide hr2, unhide hb⟩
end Go.Proofs.YtnpkkcbadcmgkaaGreatDoor
