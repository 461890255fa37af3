import Derived.Test.YtnpkkcbadcmgkaaDoorWGen
namespace Go.Proofs.YtnpkkcbadcmgkaaDoor
open Go.RowKit Go.Deep
open Gf (Cd)

def RdN (w : World) (v : Value) (l : List Nat) : Prop := Rd w v (l.map fun x : Nat => (x : Int))

theorem mapN_getD (l : List Nat) (i : Nat) : (l.map fun x : Nat => (x : Int)).getD i 0 = ((l.getD i 0 : Nat) : Int) := by
  rw [List.getD_eq_getElem?_getD, List.getD_eq_getElem?_getD, List.getElem?_map]
  cases l[i]? <;> rfl

/-- the numbers put in, k of them. -/
def putF (l : List Nat) (f : Nat → Nat) (k : Nat) : Nat → Nat := fun i => if i < k then l.getD i 0 else f i
theorem putF_zero (l : List Nat) (f : Nat → Nat) : putF l f 0 = f := by funext i; simp [putF]
theorem putF_succ (l : List Nat) (f : Nat → Nat) (k i : Nat) : putF l f (k + 1) i = if i = k then l.getD k 0 else putF l f k i := by
  unfold putF
  by_cases h : i = k
  · subst h; rw [if_pos (by omega), if_pos rfl]
  · rw [if_neg h]
    by_cases h2 : i < k
    · rw [if_pos (by omega), if_pos h2]
    · rw [if_neg (by omega), if_neg h2]

/-- one round of the division, k steps done. -/
def inr (G : Gf.Fd) (g l : List Nat) (q i k j : Nat) : Nat := l.getD j 0 ^^^ (if i ≤ j ∧ j < i + k then G.mul q (g.getD (j - i) 0) else 0)
theorem inr_zero (G : Gf.Fd) (g l : List Nat) (q i j : Nat) : inr G g l q i 0 j = l.getD j 0 := by
  unfold inr; rw [if_neg (by omega), Nat.xor_zero]
theorem inr_succ (G : Gf.Fd) (g l : List Nat) (q i k j : Nat) : inr G g l q i (k + 1) j = if j = i + k then inr G g l q i k (i + k) ^^^ G.mul q (g.getD k 0) else inr G g l q i k j := by
  unfold inr
  by_cases h : j = i + k
  · subst h
    have a1 : i ≤ i + k ∧ i + k < i + (k + 1) := ⟨by omega, by omega⟩
    have a2 : ¬ (i ≤ i + k ∧ i + k < i + k) := by omega
    rw [if_pos rfl, if_pos a1, if_neg a2, Nat.add_sub_cancel_left, Nat.xor_zero]
  · rw [if_neg h]
    by_cases h2 : i ≤ j ∧ j < i + k
    · rw [if_pos h2, if_pos ⟨h2.1, by omega⟩]
    · rw [if_neg h2, if_neg (by omega)]
theorem inr_all (G : Gf.Fd) (g l : List Nat) (q i j : Nat) (hj : j < l.length) : inr G g l q i g.length j = (Gf.addAt l i (g.map fun a => G.mul q a)).getD j 0 := by
  rw [Gf.addAt_getD _ _ _ _ hj]
  unfold inr
  congr 1
  by_cases h : i ≤ j
  · rw [if_pos h]
    by_cases h2 : j < i + g.length
    · rw [if_pos ⟨h, h2⟩]
      have hk : j - i < g.length := by omega
      simp [List.getD_eq_getElem?_getD, List.getElem?_map, List.getElem?_eq_getElem hk]
    · rw [if_neg (by omega)]
      have hk : g.length ≤ j - i := by omega
      simp [List.getD_eq_getElem?_getD, List.getElem?_map, List.getElem?_eq_none hk]
  · rw [if_neg h, if_neg (by omega)]
theorem inr_El {G : Gf.Fd} {l : List Nat} (hl : Gf.AllEl G l) (g : List Nat) {q : Nat} (hq : G.El q) (i k j : Nat) : G.El (inr G g l q i k j) := by
  unfold inr
  refine G.El_xor (Gf.getD_El hl j) ?_
  split
  · exact G.El_mul hq _
  · exact G.El_zero

/-- a row of numbers by the index. -/
def NRow (w : World) (b n : Nat) (f : Nat → Nat) : Prop := Row w b n (fun i => ((f i : Nat) : Int))

theorem NRow.set {w : World} {b n : Nat} {f g : Nat → Nat} (h : NRow w b n f) (k x : Nat) (hg : ∀ i, i < n → g i = if i = k then x else f i) : NRow (w.setCell ⟨b, k, none⟩ (.int .i64 x)) b n g := by
  refine World.rowIs.congr (World.rowIs.set h k (.int .i64 x)) (fun i hi => ?_)
  show (if i = k then _ else Value.int IntKind.i64 ((f i : Nat) : Int)) = Value.int IntKind.i64 ((g i : Nat) : Int)
  rw [hg i hi]
  by_cases e : i = k
  · rw [if_pos e, if_pos e]
  · rw [if_neg e, if_neg e]
theorem NRow.congr {w : World} {b n : Nat} {f g : Nat → Nat} (h : NRow w b n f) (e : ∀ i, i < n → f i = g i) : NRow w b n g :=
  World.rowIs.congr h (fun i hi => by show Value.int IntKind.i64 ((f i : Nat) : Int) = Value.int IntKind.i64 ((g i : Nat) : Int); rw [e i hi])
theorem NRow.cell {w : World} {b n : Nat} {f : Nat → Nat} (h : NRow w b n f) {i : Nat} (hi : i < n) : w.cell? ⟨b, i, none⟩ = some (.int .i64 ((f i : Nat) : Int)) := World.rowIs.cell h hi
theorem NRow.frozen {w : World} {b n : Nat} {f : Nat → Nat} (h : NRow w b n f) (i : Nat) : w.frozen? ⟨b, i, none⟩ = false := World.rowIs.frozen h i

/-- what full's loops keep: the generator's row, the parameters' box, the list that came in, what was there. -/
structure Keep (c : Cd) (sh ct : Int) (bg bx : Nat) (a : Option Addr) (l : List Nat) (w0 w : World) : Prop where
  g : LRow w bg c.g
  x : Box w bx c.G.m c.G.q c.first c.delta sh ct c.bin
  s : ∀ i, i < l.length → ∃ b o, a = some ⟨b, o, none⟩ ∧ b < w0.heap.size ∧ w.cell? ⟨b, o + i, none⟩ = some (.int .i64 ((l.getD i 0 : Nat) : Int))
  b : Below w0.heap.size w0 w

theorem Keep.set {c : Cd} {sh ct : Int} {bg bx br k : Nat} {a : Option Addr} {l : List Nat} {w0 w : World} (h : Keep c sh ct bg bx a l w0 w) (v : Value) (h1 : bg ≠ br) (h2 : bx ≠ br) (h3 : w0.heap.size ≤ br) : Keep c sh ct bg bx a l w0 (w.setCell ⟨br, k, none⟩ v) :=
  ⟨World.rowIs.setOther h.g (a := ⟨br, k, none⟩) h1 v, h.x.set (a := ⟨br, k, none⟩) h2 v, fun i hi => by
    obtain ⟨b, o, e, hb, hc⟩ := h.s i hi
    exact ⟨b, o, e, hb, cell_blk (by omega) hc⟩, h.b.setCell (p := ⟨br, k, none⟩) h3 v⟩
theorem Keep.drew {c : Cd} {sh ct : Int} {bg bx : Nat} {a : Option Addr} {l : List Nat} {w0 w : World} (h : Keep c sh ct bg bx a l w0 w) : Keep c sh ct bg bx a l w0 w.drew :=
  ⟨h.g, h.x, h.s, h.b.drew⟩

set_option maxRecDepth 100000 in
set_option maxHeartbeats 2000000 in
theorem full_any (c : Cd) (sh ct : Int) (v : Value) (l : List Nat) (w : World) (ok : Pre c) (h : RdN w v l) (hl : l.length = c.K) (hel : Gf.AllEl c.G l) :
    Calls Tryd.prog 76 #[pv c.G.m c.G.q c.first c.delta sh ct c.bin, v] w fun e w' => ∃ b, e = .returned (.slice (some ⟨b, 0, none⟩) c.n c.n) ∧ w.heap.size ≤ b ∧ NRow w' b c.n (fun i => (c.fl l).getD i 0) ∧ Below w.heap.size w w' := by
  obtain ⟨a, cap, rfl, hm, hc⟩ := h
  have hm' := maxLen_lt hm
  have OK := hide ok
  obtain ⟨hn1, hn2⟩ := ok.nb
  have m3 := ok.m3
  have m8 := ok.m8
  have hp := pow_bdI c.G.m m3 m8
  have hn0 : (2 : Int) ^ c.G.m - 1 = (c.n : Int) := pow_pred c.G.m
  have hKn := Gf.K_add c
  have hgl : c.g.length = c.rts.length + 1 := Gf.gen_length _ _
  have HC : Hid (∀ i, i < l.length → ∃ b o, a = some ⟨b, o, none⟩ ∧ b < w.heap.size ∧ w.cell? ⟨b, o + i, none⟩ = some (.int .i64 ((l.getD i 0 : Nat) : Int))) := fun i hi => by
    obtain ⟨b, o, e, hcell⟩ := hc i (by simpa using hi)
    rw [mapN_getD] at hcell
    exact ⟨b, o, e, lt_of_cell hcell, hcell⟩
  rw [List.length_map] at hm' ⊢
  have hA : l.length + c.g.length ≤ c.n + 1 := by omega
  have hA2 : c.n + 1 ≤ l.length + c.g.length := by omega
  have hA3 : l.length ≤ c.n := by omega
  have hA4 : 1 ≤ c.g.length := by omega
  have HLK := hide hl
  clear hc hm ok hl hgl hKn
  have mk := fun (wx : World) => run_make_row' (P := Tryd.prog) 41 3 (.int .i64 0) 8 Tryd.underlying41 (show (Tryd.prog.info? 3).map (fun i => (i.zero, i.size, i.bytes)) = some (some (.int .i64 0), 1, 8) by kernel_rfl) rfl .i64 .i64 c.n (by omega) (by omega) wx
  go_enter Tryd.func76, Tryd.ntmps76
  go_wp2_with fail
  refine (generator_any c sh ct _ (unhide OK)).mono ?_
  rintro e w1 ⟨bg, rfl, hbg, hg, hb⟩
  have HX := (Box.new w c.G.m c.G.q c.first c.delta sh ct c.bin).below hb
  have hB1 := (((Below.refl w.heap.size w).alloc (Nat.le_refl _) (.cells #[.int .i64 c.G.m, .int .i64 c.G.q, .int .i64 c.first, .int .i64 c.delta, .int .i64 sh, .int .i64 ct, .bool c.bin] 36)).trans (hb.mono (by simp)))
  have x0 := HX.c0
  have hwl : w.heap.size < w1.heap.size := HX.lt
  have hgl2 : bg < w1.heap.size := World.rowIs.lt hg
  have KP : Hid (Keep c sh ct bg w.heap.size a l w (w1.alloc (.cells (madeCells #[.int .i64 0] c.n) 3))) := 
    ⟨World.rowIs.alloc hg _, HX.below ((Below.refl _ _).alloc (Nat.le_refl _) _), fun i hi => by
      obtain ⟨b, o, e, hlt, hcell⟩ := unhide HC i hi
      refine ⟨b, o, e, hlt, ?_⟩
      have hB2 := hB1.alloc (o := .cells (madeCells #[.int .i64 0] c.n) 3) (by omega)
      rw [hB2.cell (p := ⟨b, o + i, none⟩) hlt]; exact hcell, hB1.alloc (by omega) _⟩
  have NR := hide (show NRow (w1.alloc (.cells (madeCells #[.int .i64 0] c.n) 3)) w1.heap.size c.n (fun _ => 0) from World.rowIs_made w1 (.int .i64 0) c.n 3)
  clear HC HX hB1 hb hg hbg
  go_wp2
  clear mk x0
  have ne1 : bg ≠ w1.heap.size := by omega
  have ne2 : w.heap.size ≠ w1.heap.size := by omega
  have ne3 : w.heap.size ≤ w1.heap.size := by omega
  have HEL := hide hel
  clear hel
  go_loopw [8] (fun i wr => ∃ k : Nat, k ≤ l.length ∧ i = .int .i64 k ∧ Hid (NRow wr w1.heap.size c.n (putF l (fun _ => 0) k)) ∧ Hid (Keep c sh ct bg w.heap.size a l w wr)) (fun i _ => l.length - (intOf i).toNat)
  case atStart => exact ⟨0, by omega, rfl, by rw [putF_zero]; exact NR, KP⟩
  case round =>
    clear NR KP
    obtain ⟨k, hk, rfl, hn, kp⟩ := hrel
    by_cases hlt : k < l.length
    · obtain ⟨b, o, rfl, hbl, hcell⟩ := (unhide kp).s k hlt
      have s1 := (unhide hn).cell (i := k) (by omega)
      have s2 := (unhide hn).frozen k
      have hI1 : (k : Int) < (l.length : Int) := by omega
      have hI2 : (k : Int) < (c.n : Int) := by omega
      have f1 := hide (NRow.set (g := putF l (fun _ => 0) (k + 1)) (unhide hn) k (l.getD k 0) (fun i _ => putF_succ l _ k i))
      have f2 := hide ((unhide kp).set (k := k) (.int .i64 ((l.getD k 0 : Nat) : Int)) ne1 ne2 ne3)
      clear hn kp
      generalize l.getD k 0 = x at *
      go_wp2
      exact ⟨⟨k + 1, by omega, by go_num, f1, f2⟩, by simp [intOf]; omega⟩
    · have e : k = l.length := by omega
      have f1 := hide (show NRow wr w1.heap.size c.n (fun i => (Gf.divTo c.G c.g (l ++ List.replicate (c.g.length - 1) 0) 0).getD i 0) from NRow.congr (unhide hn) (fun i hi => by
        unfold putF
        show _ = (l ++ List.replicate (c.g.length - 1) 0).getD i 0
        rw [e, List.getD_eq_getElem?_getD, List.getD_eq_getElem?_getD]
        by_cases h1 : i < l.length
        · rw [if_pos h1, List.getElem?_append_left h1]
        · rw [if_neg h1, List.getElem?_append_right (by omega), List.getElem?_replicate]
          split <;> rfl))
      clear hn e
      have HL0 := hide (show Gf.AllEl c.G (l ++ List.replicate (c.g.length - 1) 0) from (unhide HEL).append (Gf.replicate_El _ _))
      have hL0 : (l ++ List.replicate (c.g.length - 1) 0).length = c.n := by simp; omega
      have HLN := hide hL0
      clear hL0
      generalize hLL : l ++ List.replicate (c.g.length - 1) 0 = L0 at *
      have HLL := hide hLL
      clear hLL
      have HGE := hide (Gf.gen_El c.G c.rts)
      go_wp2
      clear hk hlt
      go_loopw [9, 10, 11] (fun i _ _ wq => ∃ i0 : Nat, i0 ≤ l.length ∧ i = .int .i64 i0 ∧ Hid (NRow wq w1.heap.size c.n (fun j => (Gf.divTo c.G c.g L0 i0).getD j 0)) ∧ Hid (Keep c sh ct bg w.heap.size a l w wq)) (fun i _ _ _ => l.length - (intOf i).toNat)
      case atStart => exact ⟨0, by omega, rfl, f1, kp⟩
      case round =>
        clear f1 kp
        obtain ⟨i0, hi0, rfl, hn, kp⟩ := hrel
        by_cases hlt : i0 < l.length
        · have hI1 : (i0 : Int) < (l.length : Int) := by omega
          have hI2 : (i0 : Int) < (c.n : Int) := by omega
          have s1 := (unhide hn).cell (i := i0) (by omega)
          have HD := hide (Gf.divTo_El (g := c.g) (unhide HL0) i0)
          have HS := hide (show Gf.divTo c.G c.g L0 (i0 + 1) = Gf.addAt (Gf.divTo c.G c.g L0 i0) i0 (c.g.map fun x => c.G.mul ((Gf.divTo c.G c.g L0 i0).getD i0 0) x) from rfl)
          have HDL := hide (Gf.divTo_length c.G c.g L0 i0)
          have hn0' := hide (show NRow wr w1.heap.size c.n (inr c.G c.g (Gf.divTo c.G c.g L0 i0) ((Gf.divTo c.G c.g L0 i0).getD i0 0) i0 0) from NRow.congr (unhide hn) (fun j _ => (inr_zero _ _ _ _ _ _).symm))
          clear hn
          generalize hqv : (Gf.divTo c.G c.g L0 i0).getD i0 0 = qv at *
          have HQ := hide (show c.G.El qv by rw [← hqv]; exact Gf.getD_El (unhide HD) i0)
          clear hqv
          generalize Gf.divTo c.G c.g L0 i0 = D at *
          go_wp2
          go_loopw [11] (fun k wz => ∃ k0 : Nat, k0 ≤ c.g.length ∧ k = .int .i64 k0 ∧ Hid (NRow wz w1.heap.size c.n (inr c.G c.g D qv i0 k0)) ∧ Hid (Keep c sh ct bg w.heap.size a l w wz)) (fun k _ => c.g.length - (intOf k).toNat)
          case atStart => exact ⟨0, by omega, rfl, hn0', kp⟩
          case round =>
            clear hn0' kp s1
            obtain ⟨k0, hk0, rfl, hn, kp⟩ := hrel
            by_cases hkl : k0 < c.g.length
            · have hI3 : (k0 : Int) < (c.g.length : Int) := by omega
              have hI4 : (i0 : Int) + (k0 : Int) < (c.n : Int) := by omega
              have hw1 : IntKind.i64.wrap ((i0 : Int) + (k0 : Int)) = (i0 : Int) + (k0 : Int) := wrap_small (by omega) (by omega)
              have hz1 : (0 : Int) ≤ (i0 : Int) + (k0 : Int) := by omega
              have hz2 : ((i0 : Int) + (k0 : Int)).toNat = i0 + k0 := by omega
              have y0 := (unhide kp).x.c0
              have y1 := (unhide kp).x.c1
              have g1 : wr.cell? ⟨bg, k0, none⟩ = some (.int .i64 ((c.g.getD k0 0 : Nat) : Int)) := World.rowIs.cell (unhide kp).g hkl
              have n1 := (unhide hn).cell (i := i0 + k0) (by omega)
              have n1f := (unhide hn).frozen (i0 + k0)
              have eg : c.G.El (c.g.getD k0 0) := Gf.getD_El (unhide HGE) k0
              have q1 := El_256 m3 m8 (inr_El (unhide HD) c.g (unhide HQ) i0 k0 (i0 + k0))
              have q2 := El_256 m3 m8 (c.G.El_mul (unhide HQ) (c.g.getD k0 0))
              have hM := hide (fun wx => Mul_any c.G.m c.G.q qv (c.g.getD k0 0) wx m3 m8 c.G.isF.toDeg (unhide HQ) (El_256 m3 m8 eg))
              have e1 : bits .xor .i64 ((inr c.G c.g D qv i0 k0 (i0 + k0) : Nat) : Int) ((Gf.mul c.G.m c.G.q qv (c.g.getD k0 0) : Nat) : Int) = ((inr c.G c.g D qv i0 k0 (i0 + k0) ^^^ c.G.mul qv (c.g.getD k0 0) : Nat) : Int) := xor_i64 _ _ (by omega) (by have : Gf.mul c.G.m c.G.q qv (c.g.getD k0 0) < 256 := q2; omega)
              have f1 := hide (NRow.set (g := inr c.G c.g D qv i0 (k0 + 1)) (unhide hn) (i0 + k0) (inr c.G c.g D qv i0 k0 (i0 + k0) ^^^ c.G.mul qv (c.g.getD k0 0)) (fun j _ => inr_succ _ _ _ _ _ _ _))
              have f2 := hide ((unhide kp).set (k := i0 + k0) (.int .i64 ((inr c.G c.g D qv i0 k0 (i0 + k0) ^^^ c.G.mul qv (c.g.getD k0 0) : Nat) : Int)) ne1 ne2 ne3)
              clear hn kp eg q1 q2
              generalize c.g.getD k0 0 = gk at *
              generalize inr c.G c.g D qv i0 k0 (i0 + k0) = old at *
              go_wp2
              refine region_tail 22 (by kernel_rfl) (by kernel_rfl) ?_
              simp only [List.take_succ_cons, List.take_zero, List.drop_succ_cons, List.drop_zero]
              repeat still_step
              still_call (unhide hM _)
              repeat still_step
              refine wpStill_nil ?_
              go_wp2
              exact ⟨⟨k0 + 1, by omega, by go_num, f1, hide (unhide f2).drew⟩, by simp [intOf]; omega⟩
            · have e : k0 = c.g.length := by omega
              have f1 := hide (show NRow wr w1.heap.size c.n (fun j => (Gf.divTo c.G c.g L0 (i0 + 1)).getD j 0) from NRow.congr (unhide hn) (fun j hj => by
                show inr c.G c.g D qv i0 k0 j = (Gf.divTo c.G c.g L0 (i0 + 1)).getD j 0
                rw [unhide HS, e, inr_all _ _ _ _ _ _ (by rw [unhide HDL, unhide HLN]; exact hj)]))
              clear hn e
              go_wp2
              exact ⟨⟨i0 + 1, by omega, by go_num, f1, kp⟩, by simp [intOf]; omega⟩
        · have e : i0 = l.length := by omega
          have f1 := hide (show NRow wr w1.heap.size c.n (putF l (fun j => (Gf.divTo c.G c.g L0 l.length).getD j 0) 0) from by
            rw [putF_zero, ← e]; exact unhide hn)
          clear hn e
          go_wp2
          clear hi0 hlt
          go_loopw [12] (fun i wz => ∃ k : Nat, k ≤ l.length ∧ i = .int .i64 k ∧ Hid (NRow wz w1.heap.size c.n (putF l (fun j => (Gf.divTo c.G c.g L0 l.length).getD j 0) k)) ∧ Hid (Keep c sh ct bg w.heap.size a l w wz)) (fun i _ => l.length - (intOf i).toNat)
          case atStart => exact ⟨0, by omega, rfl, f1, kp⟩
          case round =>
            clear f1 kp
            obtain ⟨k, hk, rfl, hn, kp⟩ := hrel
            by_cases hlt : k < l.length
            · obtain ⟨b, o, rfl, hbl, hcell⟩ := (unhide kp).s k hlt
              have s1 := (unhide hn).cell (i := k) (by omega)
              have s2 := (unhide hn).frozen k
              have hI1 : (k : Int) < (l.length : Int) := by omega
              have hI2 : (k : Int) < (c.n : Int) := by omega
              have f1 := hide (NRow.set (g := putF l (fun j => (Gf.divTo c.G c.g L0 l.length).getD j 0) (k + 1)) (unhide hn) k (l.getD k 0) (fun i _ => putF_succ l _ k i))
              have f2 := hide ((unhide kp).set (k := k) (.int .i64 ((l.getD k 0 : Nat) : Int)) ne1 ne2 ne3)
              clear hn kp
              generalize l.getD k 0 = x at *
              go_wp2
              exact ⟨⟨k + 1, by omega, by go_num, f1, f2⟩, by simp [intOf]; omega⟩
            · have e : k = l.length := by omega
              have f1 := hide (show NRow wr w1.heap.size c.n (fun i => (c.fl l).getD i 0) from NRow.congr (unhide hn) (fun i hi => by
                show putF l _ k i = (l ++ (Gf.divTo c.G c.g (l ++ List.replicate (c.g.length - 1) 0) l.length).drop l.length).getD i 0
                rw [unhide HLL, e]
                unfold putF
                by_cases h1 : i < l.length
                · rw [if_pos h1, List.getD_eq_getElem?_getD, List.getD_eq_getElem?_getD, List.getElem?_append_left h1]
                · rw [if_neg h1]
                  show (Gf.divTo c.G c.g L0 l.length).getD i 0 = _
                  rw [List.getD_eq_getElem?_getD, List.getD_eq_getElem?_getD, List.getElem?_append_right (by omega), List.getElem?_drop]
                  congr 2
                  omega))
              have f2 := hide (unhide kp).b
              clear hn kp e
              go_wp2
              go_ret
              exact ⟨_, rfl, ne3, unhide f1, unhide f2⟩
end Go.Proofs.YtnpkkcbadcmgkaaDoor
