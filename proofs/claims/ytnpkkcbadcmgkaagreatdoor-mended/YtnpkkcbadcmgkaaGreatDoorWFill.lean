import Derived.Test.YtnpkkcbadcmgkaaGreatDoorWField
import Derived.Test.YtnpkkcbadcmgkaaGreatDoorWBase
namespace Go.Proofs.YtnpkkcbadcmgkaaGreatDoor
open Go.RowKit Go.Deep

/-- the powers below k are not 1 (but that of 0). -/
def Fresh (m q k : Nat) : Prop := ∀ i, 0 < i → i < k → Gf.pw m q i ≠ 1

def powRow (m q k : Nat) : Nat → Value := fun i => if i < k then .int .i64 (Gf.pw m q i) else .int .i64 0
def logRow (m q k : Nat) : Nat → Value := fun a => .int .i64 (Gf.logAt m q k a)

theorem powRow_succ (m q k : Nat) : (fun j => if j = k then Value.int IntKind.i64 (Gf.pw m q k) else powRow m q k j) = powRow m q (k + 1) := by
  funext j
  unfold powRow
  by_cases e : j = k
  · subst e; simp
  · rw [if_neg e]
    by_cases h : j < k
    · rw [if_pos h, if_pos (by omega)]
    · rw [if_neg h, if_neg (by omega)]

theorem logRow_succ (m q k : Nat) : (fun j => if j = Gf.pw m q k then Value.int IntKind.i64 k else logRow m q k j) = logRow m q (k + 1) := by
  funext j
  unfold logRow
  show _ = Value.int IntKind.i64 ((if j = Gf.pw m q k then k else Gf.logAt m q k j : Nat) : Int)
  by_cases e : j = Gf.pw m q k
  · rw [if_pos e, if_pos e]
  · rw [if_neg e, if_neg e]

theorem fresh_succ {m q k : Nat} (h : Fresh m q k) (hk : k = 0 ∨ Gf.pw m q k ≠ 1) : Fresh m q (k + 1) := by
  intro i h1 h2
  rcases Nat.lt_or_ge i k with h3 | h3
  · exact h i h1 h3
  · have : i = k := by omega
    subst this
    rcases hk with e | e
    · omega
    · exact e

theorem field_of_fresh {m q : Nat} (hm : 3 ≤ m) (hd : Gf.Deg m q) (h : Fresh m q (Gf.ordN m)) : (Gf.pw m q (Gf.ordN m) = 1) ↔ Gf.IsField m q :=
  ⟨fun e => ⟨hd, h, e, by omega⟩, fun F => F.last⟩

def FillPost (m q b bp bl B n : Nat) (w : World) (e : Ending) (w' : World) : Prop := ∃ r : Bool, e = .returned (.bool r) ∧ (r = true ↔ Gf.IsField m q) ∧ Below B w w' ∧
  (r = true → w'.heap[b]? = w.heap[b]? ∧ w'.rowIs bp 3 n (powRow m q n) ∧ w'.rowIs bl 3 (n + 1) (logRow m q n))

set_option maxHeartbeats 2000000 in
theorem fill_any (m q b bp bl B : Nat) (w : World) (hm : 3 ≤ m) (hm8 : m ≤ 8) (hd : Gf.Deg m q)
    (c0 : w.cell? ⟨b, 0, none⟩ = some (.int .i64 (Gf.ordN m))) (c1 : w.cell? ⟨b, 1, none⟩ = some (.slice (some ⟨bp, 0, none⟩) (Gf.ordN m) (Gf.ordN m))) (c2 : w.cell? ⟨b, 2, none⟩ = some (.slice (some ⟨bl, 0, none⟩) (Gf.ordN m + 1) (Gf.ordN m + 1)))
    (rp : w.rowIs bp 3 (Gf.ordN m) (powRow m q 0)) (rl : w.rowIs bl 3 (Gf.ordN m + 1) (logRow m q 0)) (n1 : b ≠ bp) (n2 : b ≠ bl) (n3 : bp ≠ bl) (hB1 : B ≤ bp) (hB2 : B ≤ bl) :
    Calls Tryz.prog 78 #[.pointer (some ⟨b, 0, none⟩), .int .i64 m, .int .i64 q] w (FillPost m q b bp bl B (Gf.ordN m) w) := by
  have Hd := hide hd
  have Hrp := hide rp
  have Hrl := hide rl
  have Hc0 := hide c0
  have Hc1 := hide c1
  have Hc2 := hide c2
  have hn0 := hide (pow_pred m)
  have hn1 : Gf.ordN m < 256 := by have := pow_bd m hm hm8; unfold Gf.ordN; omega
  have hn2 : 7 ≤ Gf.ordN m := by have := pow_bd m hm hm8; unfold Gf.ordN; omega
  have hq : q < 512 := by have := Gf.deg_hi hd; have := pow_bd m hm hm8; omega
  have hpl : ∀ k, Gf.pw m q k < Gf.ordN m + 1 := fun k => by have := Gf.pw_lt hd k; unfold Gf.ordN; omega
  have Hpl := hide hpl
  clear hd rp rl hpl c1 c2
  generalize hN : Gf.ordN m = n at *
  have HN := hide hN
  clear hN
  go_enter Tryz.func78, Tryz.ntmps78
  go_wp2
  clear c0
  go_loopw [7, 13] (fun p c wr => ∃ k : Nat, k ≤ n ∧ p = .int .i64 (Gf.pw m q k) ∧ c = .int .i64 k ∧ Below B w wr ∧ Hid (wr.heap[b]? = w.heap[b]?) ∧ Hid (wr.rowIs bp 3 n (powRow m q k)) ∧ Hid (wr.rowIs bl 3 (n + 1) (logRow m q k)) ∧ Hid (Fresh m q k)) (fun _ c _ => n - (intOf c).toNat)
  case atStart => exact ⟨0, by omega, rfl, rfl, Below.refl _ _, hide rfl, Hrp, Hrl, hide fun i h1 h2 => by omega⟩
  case round =>
    obtain ⟨k, hk, rfl, rfl, hbel, hblk, hrp, hrl, hfr⟩ := hrel
    have hp := unhide Hpl k
    have Hbel := hide hbel
    clear hbel
    have d1 : wr.cell? ⟨b, 1, none⟩ = some (.slice (some ⟨bp, 0, none⟩) n n) := by rw [World.cell?_of_block (w := w) (unhide hblk)]; exact unhide Hc1
    have d2 : wr.cell? ⟨b, 2, none⟩ = some (.slice (some ⟨bl, 0, none⟩) (n + 1) (n + 1)) := by rw [World.cell?_of_block (w := w) (unhide hblk)]; exact unhide Hc2
    by_cases hkn : k < n
    · have hkI : (k : Int) < (n : Int) := by omega
      by_cases hone : 0 < k ∧ Gf.pw m q k = 1
      · have t1 : ((Gf.pw m q k : Int) == 1) = true := by rw [hone.2]; rfl
        have hk0 : (0 : Int) < k := by omega
        have HO := hide hone
        clear hone
        go_wp2
        go_ret
        refine ⟨false, rfl, ⟨fun e => by (cases e), fun F => ?_⟩, unhide Hbel, fun e => by (cases e)⟩
        have h := unhide HO
        exact (F.prim k h.1 (by rw [unhide HN]; exact hkn) h.2).elim
      · have s1 : wr.cell? ⟨bp, k, none⟩ = some (powRow m q k k) := (unhide hrp).cell hkn
        have s2 : wr.frozen? ⟨bp, k, none⟩ = false := (unhide hrp).frozen k
        have s3 : wr.cell? ⟨bl, Gf.pw m q k, none⟩ = some (logRow m q k (Gf.pw m q k)) := (unhide hrl).cell hp
        have s4 : wr.frozen? ⟨bl, Gf.pw m q k, none⟩ = false := (unhide hrl).frozen _
        have hpI : ((Gf.pw m q k : Nat) : Int) < (n : Int) + 1 := by omega
        have HO := hide hone
        clear hone
        have fin : Hid (∀ wz, wz = (wr.setCell ⟨bp, k, none⟩ (.int .i64 (Gf.pw m q k))).setCell ⟨bl, Gf.pw m q k, none⟩ (.int .i64 k) →
            Below B w wz ∧ Hid (wz.heap[b]? = w.heap[b]?) ∧ Hid (wz.rowIs bp 3 n (powRow m q (k + 1))) ∧ Hid (wz.rowIs bl 3 (n + 1) (logRow m q (k + 1))) ∧ Hid (Fresh m q (k + 1))) := by
          intro wz e
          subst e
          refine ⟨((unhide Hbel).setCell hB1 _).setCell hB2 _, ?_, ?_, ?_, hide (fresh_succ (unhide hfr) ?_)⟩
          · show _ = _
            rw [blk_setCell_other _ _ _ _ n2, blk_setCell_other _ _ _ _ n1]; exact unhide hblk
          · have h := ((unhide hrp).set k (.int .i64 (Gf.pw m q k))).setOther (a := ⟨bl, Gf.pw m q k, none⟩) n3 (.int .i64 k)
            rw [powRow_succ] at h
            exact h
          · have h := ((unhide hrl).setOther (a := ⟨bp, k, none⟩) (Ne.symm n3) (.int .i64 (Gf.pw m q k))).set (Gf.pw m q k) (.int .i64 k)
            rw [logRow_succ] at h
            exact h
          · have := unhide HO; omega
        have Hp := hide hp
        clear hp
        by_cases hk0 : k = 0
        · have t0 : ¬ ((0 : Int) < k) := by omega
          have HK := hide hk0
          clear hk0 hfr hrp hrl hblk Hbel Hrp Hrl Hc0 Hc1 Hc2 hn0 HO
          go_wp2_with (go_at_call 99; refine (timesX_any _ _ _ _ ?_ ?_ ?_ ?_).mono ?_; exact hm; exact hm8; (have := unhide Hp; omega); exact hq; rintro e w' ⟨rfl, rfl⟩)
          exact ⟨⟨k + 1, by omega, rfl, by go_num, unhide fin _ rfl⟩, by simp [intOf]; omega⟩
        · have t0 : (0 : Int) < k := by omega
          have t1 : ((Gf.pw m q k : Int) == 1) = false := by rw [beq_eq_false_iff_ne]; have := unhide HO; omega
          clear hk0 hfr hrp hrl hblk Hbel Hrp Hrl Hc0 Hc1 Hc2 hn0 HO
          go_wp2_with (go_at_call 99; refine (timesX_any _ _ _ _ ?_ ?_ ?_ ?_).mono ?_; exact hm; exact hm8; (have := unhide Hp; omega); exact hq; rintro e w' ⟨rfl, rfl⟩)
          exact ⟨⟨k + 1, by omega, rfl, by go_num, unhide fin _ rfl⟩, by simp [intOf]; omega⟩
    · have t0 : ¬ ((k : Int) < n) := by omega
      have e : k = n := by omega
      subst e
      have HF := field_of_fresh hm (unhide Hd) (by rw [unhide HN]; exact unhide hfr)
      rw [unhide HN] at HF
      have HF' := hide HF
      clear HF
      go_wp2
      go_ret
      refine ⟨((Gf.pw m q k : Int) == 1), rfl, ?_, unhide Hbel, fun _ => ⟨unhide hblk, unhide hrp, unhide hrl⟩⟩
      rw [beq_cast_one, decide_eq_true_iff]
      exact unhide HF'
end Go.Proofs.YtnpkkcbadcmgkaaGreatDoor
