import Derived.Test.YtnpkkcbadcmgkaaGreatDoorWFill
namespace Go.Proofs.YtnpkkcbadcmgkaaGreatDoor
open Go.RowKit Go.Deep

theorem Tryz.info3 : (Tryz.prog.info? 3).map (fun i => (i.zero, i.size, i.bytes)) = some (some (.int .i64 0), 1, 8) := by kernel_rfl

set_option maxHeartbeats 1000000 in
theorem new_m (m q : Int) (v : Value) (w : World) (h : m < 3 ∨ 8 < m) (g0 : w.cell? ⟨5, 0, none⟩ = some v) :
    Calls Tryz.prog 49 #[.int .i64 m, .int .i64 q] w fun e w' => e = .returned (.tuple #[.pointer none, v]) ∧ ∃ d, w' = w.drewN d := by
  by_cases h0 : m < 3
  · clear h
    go_enter Tryz.func49, Tryz.ntmps49
    go_wp2
    go_quiet (fail)
    go_wp2
    go_ret2
    exact ⟨rfl, nq, rfl⟩
  · have h1 : 8 < m := by omega
    clear h
    go_enter Tryz.func49, Tryz.ntmps49
    go_wp2
    go_quiet (fail)
    go_wp2
    go_ret2
    exact ⟨rfl, nq, rfl⟩

set_option maxHeartbeats 1000000 in
theorem new_q (m : Nat) (q : Int) (v : Value) (w : World) (hm : 3 ≤ m) (hm8 : m ≤ 8) (h : q / 2 ^ m ≠ 1) (g1 : w.cell? ⟨6, 0, none⟩ = some v) :
    Calls Tryz.prog 49 #[.int .i64 m, .int .i64 q] w fun e w' => e = .returned (.tuple #[.pointer none, v]) ∧ ∃ d, w' = w.drewN d := by
  have ht : (q / 2 ^ m != 1) = true := bne_iff_ne.2 h
  clear h
  go_enter Tryz.func49, Tryz.ntmps49
  go_wp2
  go_quiet (fail)
  go_wp2
  go_ret2
  exact ⟨rfl, nq, rfl⟩

/-- a field as the program lays it in memory. -/
structure FieldAt (m q b bp bl : Nat) (w : World) : Prop where
  c0 : w.cell? ⟨b, 0, none⟩ = some (.int .i64 (Gf.ordN m))
  c1 : w.cell? ⟨b, 0 + 1, none⟩ = some (.slice (some ⟨bp, 0, none⟩) (Gf.ordN m) (Gf.ordN m))
  c2 : w.cell? ⟨b, 0 + 2, none⟩ = some (.slice (some ⟨bl, 0, none⟩) (Gf.ordN m + 1) (Gf.ordN m + 1))
  pows : w.rowIs bp 3 (Gf.ordN m) (powRow m q (Gf.ordN m))
  logs : w.rowIs bl 3 (Gf.ordN m + 1) (logRow m q (Gf.ordN m))

/-- what fillPowers is handed: the tables of zeros. -/
structure FieldRaw (m q b bp bl B : Nat) (w : World) : Prop where
  c0 : w.cell? ⟨b, 0, none⟩ = some (.int .i64 (Gf.ordN m))
  c1 : w.cell? ⟨b, 1, none⟩ = some (.slice (some ⟨bp, 0, none⟩) (Gf.ordN m) (Gf.ordN m))
  c2 : w.cell? ⟨b, 2, none⟩ = some (.slice (some ⟨bl, 0, none⟩) (Gf.ordN m + 1) (Gf.ordN m + 1))
  pows : w.rowIs bp 3 (Gf.ordN m) (powRow m q 0)
  logs : w.rowIs bl 3 (Gf.ordN m + 1) (logRow m q 0)
  n1 : b ≠ bp
  n2 : b ≠ bl
  n3 : bp ≠ bl
  hB1 : B ≤ bp
  hB2 : B ≤ bl

theorem powRow_zero (m q : Nat) : (fun _ => Value.int IntKind.i64 0) = powRow m q 0 := by
  funext j; simp [powRow]
theorem logRow_zero (m q : Nat) : (fun _ => Value.int IntKind.i64 0) = logRow m q 0 := by
  funext j; simp [logRow, Gf.logAt]

theorem raw_one (m q : Nat) (w : World) : FieldRaw m q (w.heap.size + 1 + 1) w.heap.size (w.heap.size + 1) w.heap.size
    (((w.alloc (.cells (madeCells #[.int .i64 0] (Gf.ordN m)) 3)).alloc (.cells (madeCells #[.int .i64 0] (Gf.ordN m + 1)) 3)).alloc (.cells #[.int .i64 (Gf.ordN m), .slice (some ⟨w.heap.size, 0, none⟩) (Gf.ordN m) (Gf.ordN m), .slice (some ⟨w.heap.size + 1, 0, none⟩) (Gf.ordN m + 1) (Gf.ordN m + 1)] 131)) := by
  have r1 := (((World.rowIs_made w (.int .i64 0) (Gf.ordN m) 3).alloc (.cells (madeCells #[.int .i64 0] (Gf.ordN m + 1)) 3)).alloc (.cells #[.int .i64 (Gf.ordN m), .slice (some ⟨w.heap.size, 0, none⟩) (Gf.ordN m) (Gf.ordN m), .slice (some ⟨w.heap.size + 1, 0, none⟩) (Gf.ordN m + 1) (Gf.ordN m + 1)] 131))
  have r2 := (World.rowIs_made (w.alloc (.cells (madeCells #[.int .i64 0] (Gf.ordN m)) 3)) (.int .i64 0) (Gf.ordN m + 1) 3).alloc (.cells #[.int .i64 (Gf.ordN m), .slice (some ⟨w.heap.size, 0, none⟩) (Gf.ordN m) (Gf.ordN m), .slice (some ⟨w.heap.size + 1, 0, none⟩) (Gf.ordN m + 1) (Gf.ordN m + 1)] 131)
  rw [powRow_zero m q] at r1
  rw [logRow_zero m q, nblk_alloc] at r2
  exact ⟨by rw [World.cell?_alloc_at _ _ _ _ (by simp)]; rfl, by rw [World.cell?_alloc_at _ _ _ _ (by simp)]; rfl, by rw [World.cell?_alloc_at _ _ _ _ (by simp)]; rfl, r1, r2, by omega, by omega, by omega, by omega, by omega⟩

theorem raw_two (m q : Nat) (w : World) : FieldRaw m q (w.heap.size + 1 + 1) (w.heap.size + 1) w.heap.size w.heap.size
    (((w.alloc (.cells (madeCells #[.int .i64 0] (Gf.ordN m + 1)) 3)).alloc (.cells (madeCells #[.int .i64 0] (Gf.ordN m)) 3)).alloc (.cells #[.int .i64 (Gf.ordN m), .slice (some ⟨w.heap.size + 1, 0, none⟩) (Gf.ordN m) (Gf.ordN m), .slice (some ⟨w.heap.size, 0, none⟩) (Gf.ordN m + 1) (Gf.ordN m + 1)] 131)) := by
  have r1 := (((World.rowIs_made w (.int .i64 0) (Gf.ordN m + 1) 3).alloc (.cells (madeCells #[.int .i64 0] (Gf.ordN m)) 3)).alloc (.cells #[.int .i64 (Gf.ordN m), .slice (some ⟨w.heap.size + 1, 0, none⟩) (Gf.ordN m) (Gf.ordN m), .slice (some ⟨w.heap.size, 0, none⟩) (Gf.ordN m + 1) (Gf.ordN m + 1)] 131))
  have r2 := (World.rowIs_made (w.alloc (.cells (madeCells #[.int .i64 0] (Gf.ordN m + 1)) 3)) (.int .i64 0) (Gf.ordN m) 3).alloc (.cells #[.int .i64 (Gf.ordN m), .slice (some ⟨w.heap.size + 1, 0, none⟩) (Gf.ordN m) (Gf.ordN m), .slice (some ⟨w.heap.size, 0, none⟩) (Gf.ordN m + 1) (Gf.ordN m + 1)] 131)
  rw [logRow_zero m q] at r1
  rw [powRow_zero m q, nblk_alloc] at r2
  exact ⟨by rw [World.cell?_alloc_at _ _ _ _ (by simp)]; rfl, by rw [World.cell?_alloc_at _ _ _ _ (by simp)]; rfl, by rw [World.cell?_alloc_at _ _ _ _ (by simp)]; rfl, r2, r1, by omega, by omega, by omega, by omega, by omega⟩

theorem FieldRaw.drew {m q b bp bl B : Nat} {w : World} (h : FieldRaw m q b bp bl B w) : FieldRaw m q b bp bl B w.drew :=
  ⟨h.c0, h.c1, h.c2, h.pows, h.logs, h.n1, h.n2, h.n3, h.hB1, h.hB2⟩

theorem fill_yes (m q b bp bl B : Nat) (w : World) (hm : 3 ≤ m) (hm8 : m ≤ 8) (F : Gf.IsField m q) (h : FieldRaw m q b bp bl B w) :
    Calls Tryz.prog 78 #[.pointer (some ⟨b, 0, none⟩), .int .i64 m, .int .i64 q] w fun e w' => e = .returned (.bool true) ∧ Below B w w' ∧ FieldAt m q b bp bl w' := by
  refine (fill_any m q b bp bl B w hm hm8 F.toDeg h.c0 h.c1 h.c2 h.pows h.logs h.n1 h.n2 h.n3 h.hB1 h.hB2).mono ?_
  rintro e w' ⟨r, rfl, hr, hb, h2⟩
  have e := hr.2 F
  subst e
  obtain ⟨k1, k2, k3⟩ := h2 rfl
  exact ⟨rfl, hb, ⟨by rw [World.cell?_of_block (w := w) k1]; exact h.c0, by rw [World.cell?_of_block (w := w) k1]; exact h.c1, by rw [World.cell?_of_block (w := w) k1]; exact h.c2, k2, k3⟩⟩

theorem fill_no (m q b bp bl B : Nat) (w : World) (hm : 3 ≤ m) (hm8 : m ≤ 8) (d : Gf.Deg m q) (F : ¬ Gf.IsField m q) (h : FieldRaw m q b bp bl B w) :
    Calls Tryz.prog 78 #[.pointer (some ⟨b, 0, none⟩), .int .i64 m, .int .i64 q] w fun e w' => e = .returned (.bool false) ∧ Below B w w' := by
  refine (fill_any m q b bp bl B w hm hm8 d h.c0 h.c1 h.c2 h.pows h.logs h.n1 h.n2 h.n3 h.hB1 h.hB2).mono ?_
  rintro e w' ⟨r, rfl, hr, hb, h2⟩
  cases r with
  | true => exact (F (hr.1 rfl)).elim
  | false => exact ⟨rfl, hb⟩

def NewPost (m q : Nat) (w : World) (e : Ending) (w' : World) : Prop := ∃ b bp bl : Nat, e = .returned (.tuple #[.pointer (some ⟨b, 0, none⟩), .nilIface]) ∧ Below w.heap.size w w' ∧ FieldAt m q b bp bl w'

/-- and that it lies in new memory. -/
def NewPost2 (m q : Nat) (w : World) (e : Ending) (w' : World) : Prop := ∃ b bp bl : Nat, e = .returned (.tuple #[.pointer (some ⟨b, 0, none⟩), .nilIface]) ∧ Below w.heap.size w w' ∧ FieldAt m q b bp bl w' ∧ w.heap.size ≤ b ∧ w.heap.size ≤ bp ∧ w.heap.size ≤ bl

set_option maxHeartbeats 1000000 in
theorem new_yes2 (m q : Nat) (w : World) (hm : 3 ≤ m) (hm8 : m ≤ 8) (F : Gf.IsField m q) :
    Calls Tryz.prog 49 #[.int .i64 m, .int .i64 q] w (NewPost2 m q w) := by
  have HF := hide F
  have ht := deg_test F.toDeg
  have hp := pow_bdI m hm hm8
  have hn0 := pow_pred m
  have hn1 : Gf.ordN m < 256 := by have := pow_bd m hm hm8; unfold Gf.ordN; omega
  have hn2 : 7 ≤ Gf.ordN m := by have := pow_bd m hm hm8; unfold Gf.ordN; omega
  have mk1 := fun (wx : World) => run_make_row' (P := Tryz.prog) 24 3 (.int .i64 0) 8 Tryz.underlying24 Tryz.info3 rfl .i64 .i64 (Gf.ordN m) (by omega) (by omega) wx
  have mk2 := fun (wx : World) => run_make_row' (P := Tryz.prog) 24 3 (.int .i64 0) 8 Tryz.underlying24 Tryz.info3 rfl .i64 .i64 (Gf.ordN m + 1) (by omega) (by omega) wx
  have ec : ((Gf.ordN m + 1 : Nat) : Int) = (Gf.ordN m : Int) + 1 := by omega
  rw [ec] at mk2
  clear ec F
  go_enter Tryz.func49, Tryz.ntmps49
  go_wp2
  go_region
  · go_wp2_with fail
    refine (fill_yes m q _ _ _ _ _ hm hm8 (unhide HF) (raw_one m q w).drew).mono ?_
    rintro e w' ⟨rfl, hb, hf⟩
    have HB := hide hb
    have Hf := hide hf
    clear hb hf mk1 mk2
    go_wp2
    go_ret2
    exact ⟨_, _, _, rfl, ((((Below.refl _ _).alloc (by simp) _).alloc (by simp) _).alloc (by simp; omega) _).drew.trans (unhide HB), unhide Hf, by omega, by omega, by omega⟩
  · go_wp2_with fail
    refine (fill_yes m q _ _ _ _ _ hm hm8 (unhide HF) (raw_two m q w).drew).mono ?_
    rintro e w' ⟨rfl, hb, hf⟩
    have HB := hide hb
    have Hf := hide hf
    clear hb hf mk1 mk2
    go_wp2
    go_ret2
    exact ⟨_, _, _, rfl, ((((Below.refl _ _).alloc (by simp) _).alloc (by simp) _).alloc (by simp; omega) _).drew.trans (unhide HB), unhide Hf, by omega, by omega, by omega⟩

theorem new_yes (m q : Nat) (w : World) (hm : 3 ≤ m) (hm8 : m ≤ 8) (F : Gf.IsField m q) :
    Calls Tryz.prog 49 #[.int .i64 m, .int .i64 q] w (NewPost m q w) :=
  (new_yes2 m q w hm hm8 F).mono fun _ _ ⟨b, bp, bl, he, hb, hf, _⟩ => ⟨b, bp, bl, he, hb, hf⟩

set_option maxHeartbeats 1000000 in
theorem new_no (m q : Nat) (v : Value) (w : World) (hm : 3 ≤ m) (hm8 : m ≤ 8) (d : Gf.Deg m q) (F : ¬ Gf.IsField m q) (g1 : w.cell? ⟨6, 0, none⟩ = some v) :
    Calls Tryz.prog 49 #[.int .i64 m, .int .i64 q] w fun e w' => e = .returned (.tuple #[.pointer none, v]) ∧ Below w.heap.size w w' := by
  have HF := hide F
  have Hd := hide d
  have ht := deg_test d
  have hp := pow_bdI m hm hm8
  have hn0 := pow_pred m
  have hn1 : Gf.ordN m < 256 := by have := pow_bd m hm hm8; unfold Gf.ordN; omega
  have hn2 : 7 ≤ Gf.ordN m := by have := pow_bd m hm hm8; unfold Gf.ordN; omega
  have mk1 := fun (wx : World) => run_make_row' (P := Tryz.prog) 24 3 (.int .i64 0) 8 Tryz.underlying24 Tryz.info3 rfl .i64 .i64 (Gf.ordN m) (by omega) (by omega) wx
  have mk2 := fun (wx : World) => run_make_row' (P := Tryz.prog) 24 3 (.int .i64 0) 8 Tryz.underlying24 Tryz.info3 rfl .i64 .i64 (Gf.ordN m + 1) (by omega) (by omega) wx
  have ec : ((Gf.ordN m + 1 : Nat) : Int) = (Gf.ordN m : Int) + 1 := by omega
  rw [ec] at mk2
  have G1 := hide g1
  clear ec F d g1
  go_enter Tryz.func49, Tryz.ntmps49
  go_wp2
  go_region
  all_goals
    go_wp2_with fail
    first
      | refine (fill_no m q _ _ _ _ _ hm hm8 (unhide Hd) (unhide HF) (raw_one m q w).drew).mono ?_
      | refine (fill_no m q _ _ _ _ _ hm hm8 (unhide Hd) (unhide HF) (raw_two m q w).drew).mono ?_
    rintro e w' ⟨rfl, hb⟩
    have HB := hide (((((Below.refl w.heap.size w).alloc (by simp) _).alloc (by simp) _).alloc (by simp; omega) _).drew.trans hb)
    have g2 : w'.cell? ⟨6, 0, none⟩ = some v := by rw [(unhide HB).cell (lt_of_cell (unhide G1))]; exact unhide G1
    clear hb mk1 mk2
    go_wp2
    go_quiet (fail)
    go_wp2
    go_ret2
    refine ⟨rfl, (unhide HB).trans ⟨rfl, rfl, rfl, ?_, fun _ _ => ?_⟩⟩
    · simp
    · simp
end Go.Proofs.YtnpkkcbadcmgkaaGreatDoor
