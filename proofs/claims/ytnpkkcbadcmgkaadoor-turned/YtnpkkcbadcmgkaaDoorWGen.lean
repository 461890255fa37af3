import Derived.Test.YtnpkkcbadcmgkaaDoorWSym
import Derived.Deep.RegionWith
import Derived.BigRegion
import Derived.StillTailTactics
namespace Go.Proofs.YtnpkkcbadcmgkaaDoor
open Go.RowKit Go.Deep
open Gf (Cd)

set_option maxHeartbeats 2000000 in
theorem power_any (c : Cd) (s t : Int) (i : Nat) (w : World) (m3 : 3 ≤ c.G.m) (m8 : c.G.m ≤ 8) (hi : i < c.n) :
    Calls Tryd.prog 92 #[pv c.G.m c.G.q c.first c.delta s t c.bin, .int .i64 i] w fun e w' => e = .returned (.int .i64 (c.G.pw i)) ∧ Below w.heap.size w w' := by
  have hp := pow_bdI c.G.m m3 m8
  have hn0 : (2 : Int) ^ c.G.m - 1 = (c.n : Int) := pow_pred c.G.m
  have hI := hide (show (i : Int) % (c.n : Int) = (i : Int) from Int.emod_eq_of_lt (by omega) (by omega))
  have hnb : c.n < 256 := by
    have := pow_bd c.G.m m3 m8
    show Gf.ordN c.G.m < 256
    unfold Gf.ordN; omega
  have hpw := hide (fun k => c.G.El_pw k)
  have hpl := hide (fun k => show c.G.pw k < 256 from by have := c.G.El_pw k; have h2 : c.G.pw k < 2 ^ c.G.m := this; have := pow_bd c.G.m m3 m8; omega)
  go_enter Tryd.func92, Tryd.ntmps92
  go_wp2
  go_loopw [6, 7] (fun v k wr => ∃ j : Nat, j ≤ i ∧ k = .int .i64 j ∧ v = .int .i64 (c.G.pw (i - j)) ∧ Hid (Box wr w.heap.size c.G.m c.G.q c.first c.delta s t c.bin) ∧ Hid (Below w.heap.size w wr)) (fun _ k _ => (intOf k).toNat)
  case atStart => exact ⟨i, by omega, by rw [unhide hI], by simp [c.G.pw_zero], hide (Box.new _ _ _ _ _ _ _ _), hide ((Below.refl _ _).alloc (Nat.le_refl _) _)⟩
  case round =>
    obtain ⟨j, hj, rfl, rfl, hx, hb⟩ := hrel
    have x0 := (unhide hx).c0
    have x1 := (unhide hx).c1
    have hv := unhide hpl (i - j)
    by_cases h0 : j = 0
    · have hI0 : ¬ (0 : Int) < (j : Int) := by omega
      have hv2 := hide (show ((c.G.pw (i - j) : Nat) : Int) = (c.G.pw i : Int) by rw [h0]; simp)
      clear h0
      go_wp2
      go_ret
      exact ⟨ret_int (unhide hv2), unhide hb⟩
    · have hI0 : (0 : Int) < (j : Int) := by omega
      have hM := hide (fun wx => Mul_any c.G.m c.G.q (c.G.pw (i - j)) 2 wx m3 m8 c.G.isF.toDeg (unhide hpw _) (by decide))
      have hS := hide (show Gf.mul c.G.m c.G.q (c.G.pw (i - j)) 2 = c.G.pw (i - (j - 1)) by
        have e : i - (j - 1) = (i - j) + 1 := by omega
        rw [Gf.stepX_two c.G.isF.toDeg c.G.isF.m2 (c.G.El_pw _), e]; rfl)
      have hJ := hide (show (j : Int) - 1 = ((j - 1 : Nat) : Int) by omega)
      clear h0
      go_wp2_with (go_at_call 32; refine (unhide hM _).mono ?_; rintro e w' ⟨rfl, rfl⟩)
      refine ⟨⟨j - 1, by omega, ?_, by rw [unhide hS], hx, hb⟩, by simp [intOf]; omega⟩
      rw [unhide hJ]

/-! ### The generator, on its way -/
def genAt (c : Cd) (j : Nat) : List Nat := Gf.genTo c.G [1] ((List.range j).filter c.asked)
theorem genTo_append (G : Gf.Fd) : ∀ (js : List Nat) (g : List Nat) (j : Nat), Gf.genTo G g (js ++ [j]) = Gf.stepGen G (Gf.genTo G g js) (G.pw j)
  | [], _, _ => rfl
  | _ :: js, _, j => genTo_append G js _ j
theorem genAt_yes (c : Cd) (j : Nat) (h : c.asked j = true) : genAt c (j + 1) = Gf.stepGen c.G (genAt c j) (c.G.pw j) := by
  unfold genAt
  rw [List.range_succ, List.filter_append]
  have : [j].filter c.asked = [j] := by simp [h]
  rw [this, genTo_append]
theorem genAt_no (c : Cd) (j : Nat) (h : c.asked j = false) : genAt c (j + 1) = genAt c j := by
  unfold genAt
  rw [List.range_succ, List.filter_append]
  have : [j].filter c.asked = [] := by simp [h]
  rw [this, List.append_nil]
theorem genAt_all (c : Cd) : genAt c c.n = c.g := rfl
theorem genAt_El (c : Cd) (j : Nat) : Gf.AllEl c.G (genAt c j) := (Gf.genTo_facts (G := c.G) _ [1] (Gf.AllEl.cons c.G.El_one (Gf.AllEl.nil c.G)) rfl).2.1
theorem genAt_length (c : Cd) (j : Nat) : (genAt c j).length = 1 + cnt c j := (Gf.genTo_facts (G := c.G) _ [1] (Gf.AllEl.cons c.G.El_one (Gf.AllEl.nil c.G)) rfl).1

/-- a row of elements, as a list of numbers. -/
def LRow (w : World) (b : Nat) (l : List Nat) : Prop := Row w b l.length (fun i => ((l.getD i 0 : Nat) : Int))

/-- the next generator after i rounds. -/
def nx (G : Gf.Fd) (g : List Nat) (r : Nat) (i k : Nat) : Nat := (if k < i then g.getD k 0 else 0) ^^^ (if 1 ≤ k ∧ k ≤ i then G.mul (g.getD (k - 1) 0) r else 0)

theorem zx_getD : ∀ (u v : List Nat) (k : Nat), u.length = v.length → (Gf.zx u v).getD k 0 = u.getD k 0 ^^^ v.getD k 0
  | [], [], k, _ => by simp [Gf.zx]
  | [], _ :: _, _, h => by cases h
  | _ :: _, [], _, h => by cases h
  | a :: u, b :: v, 0, _ => by simp [Gf.zx]
  | a :: u, b :: v, k + 1, h => by
    have := zx_getD u v k (by simpa using h)
    show (Gf.zx u v).getD k 0 = u.getD k 0 ^^^ v.getD k 0
    exact this

theorem nx_all (G : Gf.Fd) (g : List Nat) (r k : Nat) (hk : k < g.length + 1) : nx G g r g.length k = (Gf.stepGen G g r).getD k 0 := by
  unfold Gf.stepGen nx
  rw [zx_getD _ _ _ (by simp)]
  congr 1
  · by_cases h : k < g.length
    · rw [if_pos h, List.getD_eq_getElem?_getD, List.getD_eq_getElem?_getD, List.getElem?_append_left h]
    · have : k = g.length := by omega
      subst this
      rw [if_neg h]; simp
  · cases k with
    | zero => simp
    | succ k =>
      rw [if_pos ⟨by omega, by omega⟩]
      have hk' : k < g.length := by omega
      simp [List.getD_eq_getElem?_getD, List.getElem?_map, List.getElem?_eq_getElem hk']
theorem nx_zero (G : Gf.Fd) (g : List Nat) (r k : Nat) : nx G g r 0 k = 0 := by
  unfold nx
  rw [if_neg (by omega)]
  by_cases h : 1 ≤ k ∧ k ≤ 0
  · omega
  · rw [if_neg h]; rfl
theorem nx_one (G : Gf.Fd) (g : List Nat) (r i k : Nat) : nx G g r (i + 1) k = if k = i + 1 then nx G g r i (i + 1) ^^^ G.mul (g.getD i 0) r else if k = i then nx G g r i i ^^^ g.getD i 0 else nx G g r i k := by
  unfold nx
  by_cases h1 : k = i + 1
  · subst h1
    rw [if_pos rfl, if_neg (by omega), if_pos ⟨by omega, by omega⟩, if_neg (by omega), if_neg (by omega)]
    simp
  · rw [if_neg h1]
    by_cases h2 : k = i
    · subst h2
      rw [if_pos rfl]
      have a1 : k < k + 1 := by omega
      have a2 : ¬ k < k := by omega
      rw [if_pos a1, if_neg a2]
      by_cases h3 : 1 ≤ k
      · have a3 : 1 ≤ k ∧ k ≤ k + 1 := ⟨h3, by omega⟩
        have a4 : 1 ≤ k ∧ k ≤ k := ⟨h3, by omega⟩
        rw [if_pos a3, if_pos a4, Nat.zero_xor, Nat.xor_comm]
      · have a3 : ¬ (1 ≤ k ∧ k ≤ k + 1) := fun h => h3 h.1
        have a4 : ¬ (1 ≤ k ∧ k ≤ k) := fun h => h3 h.1
        rw [if_neg a3, if_neg a4, Nat.zero_xor, Nat.zero_xor, Nat.xor_zero]
    · rw [if_neg h2]
      by_cases h3 : k < i
      · rw [if_pos (by omega), if_pos h3]
        by_cases h4 : 1 ≤ k
        · rw [if_pos ⟨h4, by omega⟩, if_pos ⟨h4, by omega⟩]
        · rw [if_neg (by omega), if_neg (by omega)]
      · rw [if_neg (by omega), if_neg h3, if_neg (by omega), if_neg (by omega)]

theorem nx_lt {G : Gf.Fd} {g : List Nat} (hg : Gf.AllEl G g) (r i k : Nat) : G.El (nx G g r i k) := by
  unfold nx
  refine G.El_xor ?_ ?_
  · split
    · exact Gf.getD_El hg k
    · exact G.El_zero
  · split
    · exact G.El_mul (Gf.getD_El hg _) r
    · exact G.El_zero

theorem region_tail {P : Program} {id : Nat} {Q : Exit → Act → World → Prop} {a : Act} {w : World} {l : List Oper} (n : Nat) (hm : P.follows .mixedOrders = true) (hB : Region.lexTailB .any l.toArray n = true)
    (h : wpStill P l.toArray w.drew (fun a' => wpList P l.toArray Q (l.drop n) a' w.drew) (l.take n) a) : (Code.region id l.toArray true).wp P Q a w := wp_region_still_tail n hm hB h
theorem wrap_small {x : Int} (h1 : -4294967296 ≤ x) (h2 : x ≤ 4294967296) : IntKind.i64.wrap x = x := by rw [IntKind.wrap_i64]; omega
theorem cell_off {w : World} {b o o' : Nat} {v u : Value} (h : o ≠ o') (hc : w.cell? ⟨b, o', none⟩ = some u) : (w.setCell ⟨b, o, none⟩ v).cell? ⟨b, o', none⟩ = some u := by
  rw [World.cell?_setCell_other _ _ _ _ (fun e => h (congrArg Addr.off e))]; exact hc
theorem cell_blk {w : World} {b b' o o' : Nat} {v u : Value} (h : b ≠ b') (hc : w.cell? ⟨b', o', none⟩ = some u) : (w.setCell ⟨b, o, none⟩ v).cell? ⟨b', o', none⟩ = some u := by
  rw [World.cell?_setCell_other _ _ _ _ (fun e => h (congrArg Addr.block e))]; exact hc

/-- the row of the next generator, i rounds done and the first half of the next. -/
def nh (G : Gf.Fd) (g : List Nat) (r i k : Nat) : Nat := if k = i then nx G g r i i ^^^ g.getD i 0 else nx G g r i k

theorem El_256 {c : Cd} (m3 : 3 ≤ c.G.m) (m8 : c.G.m ≤ 8) {a : Nat} (h : c.G.El a) : a < 256 := by
  have h2 : a < 2 ^ c.G.m := h
  have := pow_bd c.G.m m3 m8
  omega

set_option maxRecDepth 100000 in
set_option maxHeartbeats 1000000 in
theorem generator_any (c : Cd) (s t : Int) (w : World) (ok : Pre c) :
    Calls Tryd.prog 88 #[pv c.G.m c.G.q c.first c.delta s t c.bin] w fun e w' => ∃ b, e = .returned (.slice (some ⟨b, 0, none⟩) c.g.length c.g.length) ∧ w.heap.size ≤ b ∧ LRow w' b c.g ∧ Below w.heap.size w w' := by
  have OK := hide ok
  obtain ⟨hn1, hn2⟩ := ok.nb
  have m3 := ok.m3
  have m8 := ok.m8
  clear ok
  go_enter Tryd.func88, Tryd.ntmps88
  go_wp2_with fail
  refine (roots_any c s t _ (unhide OK)).mono ?_
  rintro e w1 ⟨br, rfl, hr, hb⟩
  have HX := hide (((Box.new w c.G.m c.G.q c.first c.delta s t c.bin).below ((Below.refl _ _).alloc (Nat.le_refl _) (.cells #[.int .i64 1] 3))).below hb)
  have HR := hide hr
  have HG : Hid (LRow w1 (w.heap.size + 1) [1]) := by
    have h1 := World.rowIs_alloc (w.alloc (.cells #[.int .i64 c.G.m, .int .i64 c.G.q, .int .i64 c.first, .int .i64 c.delta, .int .i64 s, .int .i64 t, .bool c.bin] 36)) #[.int .i64 1] 3 (fun _ => .int .i64 1) (fun i hi => by
      have : i = 0 := by simp at hi; omega
      subst this; rfl)
    rw [nblk_alloc] at h1
    exact World.rowIs.congr (h1.of_block (hb.block _ h1.lt)) (fun i hi => by
      have : i = 0 := by simp at hi; omega
      subst this; rfl)
  have HB := hide ((((Below.refl w.heap.size w).alloc (Nat.le_refl _) _).alloc (by simp) _).trans (hb.mono (by simp; omega)))
  clear hr hb
  go_wp2
  go_loopw [3, 5, 6, 7, 8] (fun g j _ _ _ wr => ∃ (j0 bg : Nat), j0 ≤ c.n ∧ j = .int .i64 j0 ∧ g = .slice (some ⟨bg, 0, none⟩) (genAt c j0).length (genAt c j0).length ∧ w.heap.size ≤ bg ∧ Hid (LRow wr bg (genAt c j0)) ∧ Hid (BRow wr br c.n c.asked) ∧ Hid (Box wr w.heap.size c.G.m c.G.q c.first c.delta s t c.bin) ∧ Hid (Below w.heap.size w wr)) (fun _ j _ _ _ _ => c.n - (intOf j).toNat)
  case atStart => exact ⟨0, w.heap.size + 1, by omega, rfl, rfl, by omega, HG, HR, HX, HB⟩
  case round =>
    clear HG HR HX HB
    obtain ⟨j0, bg, hj, rfl, rfl, hbg, hg, hr, hx, hb⟩ := hrel
    have hlen := genAt_length c j0
    have hcl := cnt_le c j0
    by_cases hlt : j0 < c.n
    · have hI : (j0 : Int) < (c.n : Int) := by omega
      have s1 := World.rowIs.cell (unhide hr) hlt
      cases ha : c.asked j0
      · rw [ha] at s1
        have h2 := hide (genAt_no c j0 ha)
        clear ha hlen
        go_wp2
        refine ⟨⟨j0 + 1, bg, by omega, by go_num, by rw [unhide h2], hbg, ?_, hr, hx, hb⟩, by simp [intOf]; omega⟩
        rw [unhide h2]; exact hg
      · rw [ha] at s1
        have h2 := hide (genAt_yes c j0 ha)
        have hE := hide (genAt_El c j0)
        clear ha
        generalize genAt c j0 = g at *
        have x0 := (unhide hx).c0
        have x1 := (unhide hx).c1
        have x2 := (unhide hx).c2
        have x3 := (unhide hx).c3
        have x4 := (unhide hx).c4
        have x5 := (unhide hx).c5
        have x6 := (unhide hx).c6
        go_wp2_with fail
        refine (power_any c s t j0 _ m3 m8 hlt).mono ?_
        rintro e w2 ⟨rfl, hb2⟩
        have hg2 := hide (Row.below (unhide hg) hb2)
        have hr2 := hide (show BRow w2 br c.n c.asked from World.rowIs.of_block (unhide hr) (hb2.block _ (World.rowIs.lt (unhide hr))))
        have hx2 := hide ((unhide hx).below hb2)
        have hbb := hide (Below.join (unhide hb) hb2)
        clear x0 x1 x2 x3 x4 x5 x6 hg hr hx hb hb2 s1
        have hgl : g.length ≤ 256 := by omega
        have mk := fun (wx : World) => run_make_row' (P := Tryd.prog) 41 3 (.int .i64 0) 8 Tryd.underlying41 (show (Tryd.prog.info? 3).map (fun i => (i.zero, i.size, i.bytes)) = some (some (.int .i64 0), 1, 8) by kernel_rfl) rfl .i64 .i64 (g.length + 1) (by omega) (by omega) wx
        have ec : ((g.length + 1 : Nat) : Int) = (g.length : Int) + 1 := by omega
        rw [ec] at mk
        clear ec hlen
        go_wp2
        clear mk
        have hsz : w.heap.size ≤ w2.heap.size := (unhide hbb).size
        have hbl : bg < w2.heap.size := World.rowIs.lt (unhide hg2)
        have hrl : br < w2.heap.size := World.rowIs.lt (unhide hr2)
        have hwl : w.heap.size < w2.heap.size := (unhide hx2).lt
        generalize hr' : c.G.pw j0 = r at *
        have HR' := hide hr'
        clear hr'
        go_loopw [8] (fun i wz => ∃ i0 : Nat, i0 ≤ g.length ∧ i = .int .i64 i0 ∧ Hid (Row wz w2.heap.size (g.length + 1) (fun k => (nx c.G g r i0 k : Int))) ∧ Hid (LRow wz bg g) ∧ Hid (BRow wz br c.n c.asked) ∧ Hid (Box wz w.heap.size c.G.m c.G.q c.first c.delta s t c.bin) ∧ Hid (Below w.heap.size w wz)) (fun i _ => g.length - (intOf i).toNat)
        case atStart =>
          refine ⟨0, by omega, rfl, hide ?_, hide ?_, hide ?_, hide ?_, hide ?_⟩
          · exact World.rowIs.congr (World.rowIs_made w2 (.int .i64 0) (g.length + 1) 3) (fun k _ => by show _ = Value.int IntKind.i64 ((nx c.G g r 0 k : Nat) : Int); rw [nx_zero]; rfl)
          · exact World.rowIs.alloc (unhide hg2) _
          · exact World.rowIs.alloc (unhide hr2) _
          · exact (unhide hx2).below ((Below.refl _ _).alloc (Nat.le_refl _) _)
          · exact (unhide hbb).alloc hsz _
        case round =>
          clear hg2 hr2 hx2 hbb
          obtain ⟨i0, hi0, rfl, hn, hg, hr, hx, hb⟩ := hrel
          by_cases hil : i0 < g.length
          · have hI2 : (i0 : Int) < (g.length : Int) := by omega
            have hI3 : (i0 : Int) < (g.length : Int) + 1 := by omega
            have hI4 : (i0 : Int) + 1 < (g.length : Int) + 1 := by omega
            have y0 := (unhide hx).c0
            have y1 := (unhide hx).c1
            have n1 : wr.cell? ⟨w2.heap.size, i0, none⟩ = some (.int .i64 (nx c.G g r i0 i0 : Int)) := World.rowIs.cell (unhide hn) (by omega)
            have n1f : wr.frozen? ⟨w2.heap.size, i0, none⟩ = false := World.rowIs.frozen (unhide hn) i0
            have n2 : wr.cell? ⟨w2.heap.size, i0 + 1, none⟩ = some (.int .i64 (nx c.G g r i0 (i0 + 1) : Int)) := World.rowIs.cell (unhide hn) (by omega)
            have n2f : wr.frozen? ⟨w2.heap.size, i0 + 1, none⟩ = false := World.rowIs.frozen (unhide hn) (i0 + 1)
            have g1 : wr.cell? ⟨bg, i0, none⟩ = some (.int .i64 (g.getD i0 0 : Int)) := World.rowIs.cell (unhide hg) hil
            have ne1 : bg ≠ w2.heap.size := by omega
            have ne2 : w.heap.size ≠ w2.heap.size := by omega
            have El := unhide hE
            have q1 := El_256 m3 m8 (nx_lt El r i0 i0)
            have q2 := El_256 m3 m8 (nx_lt El r i0 (i0 + 1))
            have q3 := El_256 m3 m8 (Gf.getD_El El i0)
            have q5 : c.G.El r := by rw [← unhide HR']; exact c.G.El_pw j0
            have q4 := El_256 m3 m8 (c.G.El_mul (Gf.getD_El El i0) r)
            have e1 : bits .xor .i64 (nx c.G g r i0 i0 : Int) (g.getD i0 0 : Int) = ((nx c.G g r i0 i0 ^^^ g.getD i0 0 : Nat) : Int) := xor_i64 _ _ (by omega) (by omega)
            have e2 : bits .xor .i64 (nx c.G g r i0 (i0 + 1) : Int) (Gf.mul c.G.m c.G.q (g.getD i0 0) r : Int) = ((nx c.G g r i0 (i0 + 1) ^^^ c.G.mul (g.getD i0 0) r : Nat) : Int) := xor_i64 _ _ (by omega) (by have : Gf.mul c.G.m c.G.q (g.getD i0 0) r < 256 := q4; omega)
            have hM := hide (fun wx => Mul_any c.G.m c.G.q (g.getD i0 0) r wx m3 m8 c.G.isF.toDeg (Gf.getD_El El i0) (El_256 m3 m8 q5))
            clear El q1 q2 q3 q4 q5 hE
            generalize hgi : g.getD i0 0 = gi at *
            have HGI := hide hgi
            clear hgi
            have F1 : Hid (Row ((wr.setCell ⟨w2.heap.size, i0, none⟩ (.int .i64 ((nx c.G g r i0 i0 ^^^ gi : Nat) : Int))).setCell ⟨w2.heap.size, i0 + 1, none⟩ (.int .i64 ((nx c.G g r i0 (i0 + 1) ^^^ c.G.mul gi r : Nat) : Int))) w2.heap.size (g.length + 1) (fun k => (nx c.G g r (i0 + 1) k : Int))) := by
              refine World.rowIs.congr (World.rowIs.set (World.rowIs.set (unhide hn) i0 _) (i0 + 1) _) (fun k _ => ?_)
              show (if k = i0 + 1 then Value.int IntKind.i64 _ else if k = i0 then Value.int IntKind.i64 _ else Value.int IntKind.i64 _) = Value.int IntKind.i64 ((nx c.G g r (i0 + 1) k : Nat) : Int)
              rw [nx_one, unhide HGI]
              by_cases h1 : k = i0 + 1
              · rw [if_pos h1, if_pos h1]
              · rw [if_neg h1, if_neg h1]
                by_cases h2 : k = i0
                · rw [if_pos h2, if_pos h2]
                · rw [if_neg h2, if_neg h2]
            have F2 := hide (World.rowIs.setOther (World.rowIs.setOther (unhide hg) (a := ⟨w2.heap.size, i0, none⟩) ne1 (.int .i64 ((nx c.G g r i0 i0 ^^^ gi : Nat) : Int))) (a := ⟨w2.heap.size, i0 + 1, none⟩) ne1 (.int .i64 ((nx c.G g r i0 (i0 + 1) ^^^ c.G.mul gi r : Nat) : Int)))
            have F3 := hide (World.rowIs.setOther (World.rowIs.setOther (unhide hr) (a := ⟨w2.heap.size, i0, none⟩) (show br ≠ w2.heap.size by omega) (.int .i64 ((nx c.G g r i0 i0 ^^^ gi : Nat) : Int))) (a := ⟨w2.heap.size, i0 + 1, none⟩) (show br ≠ w2.heap.size by omega) (.int .i64 ((nx c.G g r i0 (i0 + 1) ^^^ c.G.mul gi r : Nat) : Int)))
            have F4 := hide (((unhide hx).set (a := ⟨w2.heap.size, i0, none⟩) ne2 (.int .i64 ((nx c.G g r i0 i0 ^^^ gi : Nat) : Int))).set (a := ⟨w2.heap.size, i0 + 1, none⟩) ne2 (.int .i64 ((nx c.G g r i0 (i0 + 1) ^^^ c.G.mul gi r : Nat) : Int)))
            have F5 := hide (((unhide hb).setCell (p := ⟨w2.heap.size, i0, none⟩) hsz (.int .i64 ((nx c.G g r i0 i0 ^^^ gi : Nat) : Int))).setCell (p := ⟨w2.heap.size, i0 + 1, none⟩) hsz (.int .i64 ((nx c.G g r i0 (i0 + 1) ^^^ c.G.mul gi r : Nat) : Int)))
            clear hn hg hr hx hb
            have n2' : (wr.setCell ⟨w2.heap.size, i0, none⟩ (.int .i64 ((nx c.G g r i0 i0 ^^^ gi : Nat) : Int))).cell? ⟨w2.heap.size, i0 + 1, none⟩ = some (.int .i64 (nx c.G g r i0 (i0 + 1) : Int)) := cell_off (by omega) n2
            have g1' : (wr.setCell ⟨w2.heap.size, i0, none⟩ (.int .i64 ((nx c.G g r i0 i0 ^^^ gi : Nat) : Int))).cell? ⟨bg, i0, none⟩ = some (.int .i64 (gi : Int)) := cell_blk (by omega) g1
            have y0' : (wr.setCell ⟨w2.heap.size, i0, none⟩ (.int .i64 ((nx c.G g r i0 i0 ^^^ gi : Nat) : Int))).cell? ⟨w.heap.size, 0, none⟩ = some (.int .i64 (c.G.m : Int)) := cell_blk (by omega) y0
            have y1' : (wr.setCell ⟨w2.heap.size, i0, none⟩ (.int .i64 ((nx c.G g r i0 i0 ^^^ gi : Nat) : Int))).cell? ⟨w.heap.size, 1, none⟩ = some (.int .i64 (c.G.q : Int)) := cell_blk (by omega) y1
            go_wp2
            go_region
            all_goals go_wp2
            have hw1 : IntKind.i64.wrap ((i0 : Int) + 1) = (i0 : Int) + 1 := wrap_small (by omega) (by omega)
            have hz1 : (0 : Int) ≤ (i0 : Int) + 1 := by omega
            have hz2 : (i0 : Int) + 1 ≤ 1000 := by omega
            refine region_tail 20 (by kernel_rfl) (by kernel_rfl) ?_
            simp only [List.take_succ_cons, List.take_zero, List.drop_succ_cons, List.drop_zero]
            repeat still_step
            still_call (unhide hM _)
            repeat still_step
            refine wpStill_nil ?_
            go_wp2
            exact ⟨⟨i0 + 1, by omega, by go_num, F1, F2, F3, F4, hide (unhide F5).drew.drew⟩, by simp [intOf]; omega⟩
          · have e : i0 = g.length := by omega
            have hgn := hide (show LRow wr w2.heap.size (genAt c (j0 + 1)) by
              unfold LRow
              rw [unhide h2, Gf.stepGen_length]
              refine World.rowIs.congr (unhide hn) (fun k hk => ?_)
              show Value.int IntKind.i64 ((nx c.G g r i0 k : Nat) : Int) = Value.int IntKind.i64 (((Gf.stepGen c.G g r).getD k 0 : Nat) : Int)
              rw [e, nx_all c.G g r k hk])
            have hgl2 := hide (show (genAt c (j0 + 1)).length = g.length + 1 by rw [unhide h2, Gf.stepGen_length])
            clear hn hg e
            go_wp2
            refine ⟨⟨j0 + 1, w2.heap.size, by omega, by go_num, by rw [unhide hgl2], by omega, hgn, hr, hx, hb⟩, by simp [intOf]; omega⟩
    · have e : j0 = c.n := by omega
      have hg2 := hide (show LRow wr bg c.g by rw [← genAt_all c, ← e]; exact unhide hg)
      have hl2 := hide (show (genAt c j0).length = c.g.length by rw [e, genAt_all])
      clear hg e hlen
      go_wp2
      go_ret
      exact ⟨bg, by rw [unhide hl2]; rfl, hbg, unhide hg2, unhide hb⟩
end Go.Proofs.YtnpkkcbadcmgkaaDoor
