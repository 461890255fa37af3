import Derived.Test.YtohgmoclnicchaaDoorWChecks
namespace Go.Proofs.YtohgmoclnicchaaDoor
open Go.RowKit Go.Deep
open Gf (Cd)
variable {B : Nat} (P : Pg B)

set_option maxHeartbeats 1000000 in
theorem fits_any (m : Nat) (q f d s t : Int) (bin : Bool) (v : Value) (l : List Int) (k : Nat) (w : World) (m3 : 3 ≤ m) (m8 : m ≤ 8) (h : Rd w v l) :
    Calls Tryd.prog 27 #[pv m q f d s t bin, v, .int .i64 k] w fun e w' => e = .returned (.bool (givenE m bin l k == 0)) ∧ Below w.heap.size w w' := by
  have hb := box_below w m q f d s t bin
  have hS := hide (Given_any m q f d s t bin v l k _ m3 m8 (h.below hb))
  have HB := hide hb
  clear h hb
  go_enter Tryd.func27, Tryd.ntmps27
  go_wp2_with fail
  refine (unhide hS).mono ?_
  rintro e w1 ⟨rfl, hb1⟩
  have HB1 := hide (Below.join (unhide HB) hb1)
  clear hb1 HB hS
  go_wp2
  go_ret
  exact ⟨rfl, unhide HB1⟩

/-- the sum as sum makes it, k numbers done. -/
def sumF (l1 l2 : List Nat) (k : Nat) : Nat → Nat := fun i => if i < k then l1.getD i 0 ^^^ l2.getD i 0 else 0
theorem sumF_succ (l1 l2 : List Nat) (k i : Nat) : sumF l1 l2 (k + 1) i = if i = k then l1.getD k 0 ^^^ l2.getD k 0 else sumF l1 l2 k i := by
  unfold sumF
  by_cases h : i = k
  · subst h; rw [if_pos (by omega), if_pos rfl]
  · rw [if_neg h]
    by_cases h2 : i < k
    · rw [if_pos (by omega), if_pos h2]
    · rw [if_neg (by omega), if_neg h2]

theorem getD_lt {l : List Nat} (h : ∀ a, a ∈ l → a < 256) (i : Nat) : l.getD i 0 < 256 := by
  rw [List.getD_eq_getElem?_getD]
  cases e : l[i]? with
  | none => show 0 < 256; omega
  | some a => exact h a (List.mem_of_getElem? e)

set_option maxRecDepth 100000 in
set_option maxHeartbeats 1000000 in
theorem sum_any (x y : Value) (l1 l2 : List Nat) (w : World) (hx : RdN w x l1) (hy : RdN w y l2) (hl : l1.length = l2.length) (hm : l1.length ≤ 256) (h1 : ∀ a, a ∈ l1 → a < 256) (h2 : ∀ a, a ∈ l2 → a < 256) :
    Calls Tryd.prog 30 #[x, y] w fun e w' => ∃ b, e = .returned (.slice (some ⟨b, 0, none⟩) l1.length l1.length) ∧ w.heap.size ≤ b ∧ NRow w' b l1.length (fun i => (Gf.zx l1 l2).getD i 0) ∧ Below w.heap.size w w' := by
  obtain ⟨a1, cap1, rfl, -, hc1⟩ := hx
  obtain ⟨a2, cap2, rfl, -, hc2⟩ := hy
  have Hc1 : Hid (∀ i, i < l1.length → ∃ b o, a1 = some ⟨b, o, none⟩ ∧ w.cell? ⟨b, o + i, none⟩ = some (.int .i64 ((l1.getD i 0 : Nat) : Int))) := fun i hi => by
    obtain ⟨b, o, e, hcell⟩ := hc1 i (by simpa using hi)
    rw [mapN_getD] at hcell
    exact ⟨b, o, e, hcell⟩
  have Hc2 : Hid (∀ i, i < l2.length → ∃ b o, a2 = some ⟨b, o, none⟩ ∧ w.cell? ⟨b, o + i, none⟩ = some (.int .i64 ((l2.getD i 0 : Nat) : Int))) := fun i hi => by
    obtain ⟨b, o, e, hcell⟩ := hc2 i (by simpa using hi)
    rw [mapN_getD] at hcell
    exact ⟨b, o, e, hcell⟩
  have G1 := hide (getD_lt h1)
  have G2 := hide (getD_lt h2)
  have HZ := hide (fun k => zx_getD l1 l2 k hl)
  clear hc1 hc2 h1 h2
  rw [List.length_map, List.length_map]
  have hl2 : l1.length ≤ l2.length := by omega
  clear hl
  have mk := fun (wx : World) => run_make_row' (P := Tryd.prog) 41 3 (.int .i64 0) 8 Tryd.underlying41 (show (Tryd.prog.info? 3).map (fun i => (i.zero, i.size, i.bytes)) = some (some (.int .i64 0), 1, 8) by kernel_rfl) rfl .i64 .i64 l1.length (by omega) (by omega) wx
  go_enter Tryd.func30, Tryd.ntmps30
  go_wp2
  clear mk
  go_loopw [6] (fun i wr => ∃ k : Nat, k ≤ l1.length ∧ i = .int .i64 k ∧ Hid (NRow wr w.heap.size l1.length (sumF l1 l2 k)) ∧ Hid (Below w.heap.size w wr)) (fun i _ => l1.length - (intOf i).toNat)
  case atStart => exact ⟨0, by omega, rfl, hide (World.rowIs.congr (World.rowIs_made w (.int .i64 0) l1.length 3) (fun i _ => rfl)), hide ((Below.refl _ _).alloc (Nat.le_refl _) _)⟩
  case round =>
    obtain ⟨k, hk, rfl, hr, hb⟩ := hrel
    by_cases hlt : k < l1.length
    · obtain ⟨b1, o1, rfl, hcell1⟩ := unhide Hc1 k hlt
      obtain ⟨b2, o2, rfl, hcell2⟩ := unhide Hc2 k (by omega)
      have c1 : wr.cell? ⟨b1, o1 + k, none⟩ = some (.int .i64 ((l1.getD k 0 : Nat) : Int)) := by rw [(unhide hb).cell (p := ⟨b1, o1 + k, none⟩) (lt_of_cell hcell1)]; exact hcell1
      have c2 : wr.cell? ⟨b2, o2 + k, none⟩ = some (.int .i64 ((l2.getD k 0 : Nat) : Int)) := by rw [(unhide hb).cell (p := ⟨b2, o2 + k, none⟩) (lt_of_cell hcell2)]; exact hcell2
      have s1 := (unhide hr).cell (i := k) hlt
      have s2 := (unhide hr).frozen k
      have hI1 : (k : Int) < (l1.length : Int) := by omega
      have hI2 : (k : Int) < (l2.length : Int) := by omega
      have g1 := unhide G1 k
      have g2 := unhide G2 k
      have e1 : bits .xor .i64 ((l1.getD k 0 : Nat) : Int) ((l2.getD k 0 : Nat) : Int) = ((l1.getD k 0 ^^^ l2.getD k 0 : Nat) : Int) := xor_i64 _ _ (by omega) (by omega)
      have f1 := hide (NRow.set (g := sumF l1 l2 (k + 1)) (unhide hr) k (l1.getD k 0 ^^^ l2.getD k 0) (fun i _ => sumF_succ l1 l2 k i))
      have f2 := hide ((unhide hb).setCell (p := ⟨w.heap.size, k, none⟩) (Nat.le_refl _) (.int .i64 ((l1.getD k 0 ^^^ l2.getD k 0 : Nat) : Int)))
      clear hr hb hcell1 hcell2 g1 g2
      generalize l1.getD k 0 = p1 at *
      generalize l2.getD k 0 = p2 at *
      generalize sumF l1 l2 k k = old at *
      go_wp2
      refine region_tail 12 (by kernel_rfl) (by kernel_rfl) ?_
      simp only [List.take_succ_cons, List.take_zero, List.drop_succ_cons, List.drop_zero]
      repeat still_step
      refine wpStill_nil ?_
      go_wp2
      exact ⟨⟨k + 1, by omega, by go_num, f1, hide (unhide f2).drew⟩, by simp [intOf]; omega⟩
    · have e : k = l1.length := by omega
      have f1 := hide (show NRow wr w.heap.size l1.length (fun i => (Gf.zx l1 l2).getD i 0) from NRow.congr (unhide hr) (fun i hi => by
        show sumF l1 l2 k i = (Gf.zx l1 l2).getD i 0
        rw [unhide HZ]; unfold sumF; rw [if_pos (by omega)]))
      clear hr e
      go_wp2
      go_ret
      exact ⟨_, rfl, Nat.le_refl _, unhide f1, unhide hb⟩
end Go.Proofs.YtohgmoclnicchaaDoor
