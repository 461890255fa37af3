import Derived.Test.YtnpkkcbadcmgkaaGreatDoorWAdd
import Derived.Test.YtnpkkcbadcmgkaaGreatDoorWFrom
import Derived.Laws.CopyOwn
import Derived.Deep.RegionHeld3
namespace Go.Proofs.YtnpkkcbadcmgkaaGreatDoor
open Go.RowKit Go.Deep
open Gf (Cd)

/-! ### what Encode lays down is the word -/
theorem fl_pad {c : Cd} (ok : c.Ok) {u : List Nat} (hm : Gf.msg c u) : c.fl (List.replicate c.short 0 ++ u) = List.replicate c.short 0 ++ Gf.full c.G c.g u := by
  have hgl : c.g.length = c.rts.length + 1 := Gf.gen_length _ _
  have hK := Gf.K_add c
  have hs := ok.s
  have hul : u.length = c.K - c.short := hm.1
  refine Gf.full_ext (Gf.pad_full ok hm) ⟨?_, (Gf.replicate_El _ _).append (Gf.full_El hm.2), fun j hj => ?_⟩ ?_
  · rw [List.length_append, List.length_replicate, Gf.full_length]; omega
  · rw [Gf.ev_append j _ (Gf.replicate_El _ _), Gf.ev_zeros, Gf.Fd.zero_mul, Nat.zero_xor]
    exact Gf.ev_full (Gf.gen_El _ _) (Gf.gen_head _ _) hm.2 (Gf.gen_root _ _ hj)
  · rw [Gf.fl_take (Gf.pad_len ok hm), List.take_append, List.length_replicate, List.take_of_length_le (by rw [List.length_replicate]; omega), ← hul, Gf.full_take]

theorem word_full {c : Cd} (ok : c.Ok) {u : List Nat} (hm : Gf.msg c u) : c.word u = u ++ ((Gf.divTo c.G c.g (u ++ List.replicate (c.g.length - 1) 0) u.length).drop u.length).take (c.n - c.short - c.cut - u.length) := by
  have hK := Gf.K_le ok
  have hs := ok.s
  have hul : u.length = c.K - c.short := hm.1
  unfold Cd.word
  rw [fl_pad ok hm, List.drop_append, List.length_replicate, List.drop_of_length_le (by rw [List.length_replicate]; omega), Nat.sub_self, List.drop_zero, List.nil_append]
  unfold Gf.full
  rw [List.take_append, List.take_of_length_le (by omega)]

theorem zeros_toArray (n : Nat) : madeCells #[Value.int IntKind.i64 0] n = (ints (List.replicate n 0)).toArray := by
  apply Array.toList_inj.1
  rw [toList_madeCells_one]
  simp [ints]
theorem ints_splice {xs ys zs : List Nat} : splice (ints (xs ++ zs)) xs.length (ints ys) = ints (xs ++ (ys ++ zs.drop ys.length)) := by
  unfold splice ints
  simp [List.map_drop, List.drop_append]
theorem ints_splice0 {ys zs : List Nat} : splice (ints zs) 0 (ints ys) = ints (ys ++ zs.drop ys.length) := by
  unfold splice ints
  simp [List.map_drop]
theorem nrow_of {w : World} {b : Nat} {l : List Nat} (h : w.heap[b]? = some (.cells (ints l).toArray 3 (0, 0))) : NRow w b l.length (fun i => l.getD i 0) :=
  ⟨_, h, by simp [ints], fun i hi => by
    rw [List.getElem?_toArray, ints_at l i hi]⟩

theorem copy_run (w : World) (g off dLen dCap : Nat) (bs os sLen sCap : Nat) (cur cs : List Nat) (hg : w.heap[g]? = some (.cells (ints cur).toArray 3 (0, 0))) (hn : cs.length = Nat.min sLen dLen)
    (hsrc : ∀ i, i < cs.length → w.cell? ⟨bs, os + i, none⟩ = some (.int .i64 ((cs.getD i 0 : Nat) : Int))) (hfit : off + cs.length ≤ cur.length) :
    ∃ w', (Builtin.copy_ #[24, 24] 3 #[.slice (some ⟨g, off, none⟩) dLen dCap, .slice (some ⟨bs, os, none⟩) sLen sCap]).run Tryz.prog w = .ok (.int .i64 (cs.length : Int)) w' ∧ w'.heap[g]? = some (.cells (splice (ints cur) off (ints cs)).toArray 3 (0, 0)) ∧ Below g w w' := by
  have h := run_copy_row Tryz.prog w 24 24 3 3 g off dLen dCap ⟨bs, os, none⟩ sLen sCap (ints cur).toArray 3 (ints cs) Tryz.underlying24 (by kernel_rfl) hg (by rw [ints_length]; exact hn) (ints_cells hsrc) (by simpa [ints_length] using hfit) (fun v hv => mem_ints hv)
  rw [ints_length] at h
  refine ⟨_, h, ?_, below_setRow (Below.refl _ _) (Nat.le_refl _) _⟩
  have := setRow_heap w g (ints cur).toArray (((ints cur).toArray.toList.take off ++ ints cs ++ (ints cur).toArray.toList.drop (off + cs.length)).toArray) 3 (0, 0) hg
  rw [this]
  simp [splice, ints_length]

theorem src_cells {w : World} {br D : Nat} {l : List Nat} (hp : PRow w br D (fun j => l.getD j 0)) (hl : l.length = D) (o R : Nat) : ∀ i, i < ((l.drop o).take R).length → w.cell? ⟨br, o + i, none⟩ = some (.int .i64 ((((l.drop o).take R).getD i 0 : Nat) : Int)) := by
  intro i hi
  rw [List.length_take, List.length_drop] at hi
  rw [PRow.cell hp (show o + i < D by omega)]
  congr 3
  rw [List.getD_eq_getElem?_getD, List.getD_eq_getElem?_getD, List.getElem?_take_of_lt (by omega), List.getElem?_drop]

/-- what wordOf keeps of the codec. -/
structure WoK (G : Gf.Fd) (b bp bl bc bg capg W : Nat) (g : List Nat) (w : World) : Prop where
  fa : FieldAt G.m G.q b bp bl w
  x0 : w.cell? ⟨bc, 0, none⟩ = some (.func (.func 56) #[.pointer (some ⟨b, 0, none⟩)] #[])
  x1 : w.cell? ⟨bc, 1, none⟩ = some (.func (.func 57) #[.pointer (some ⟨b, 0, none⟩)] #[])
  x3 : w.cell? ⟨bc, 3, none⟩ = some (.slice (some ⟨bg, 0, none⟩) g.length capg)
  x4 : w.cell? ⟨bc, 4, none⟩ = some (.int .i64 (W : Int))
  gs : ∀ i, i < g.length → w.cell? ⟨bg, i, none⟩ = some (.int .i64 ((g.getD i 0 : Nat) : Int))
theorem WoK.below {G : Gf.Fd} {b bp bl bc bg capg W : Nat} {g : List Nat} {w w' : World} (h : WoK G b bp bl bc bg capg W g w) (hb : Below w.heap.size w w') : WoK G b bp bl bc bg capg W g w' :=
  ⟨h.fa.below hb, below_cell hb h.x0, below_cell hb h.x1, below_cell hb h.x3, below_cell hb h.x4, fun i hi => below_cell hb (h.gs i hi)⟩

set_option maxRecDepth 100000 in
set_option maxHeartbeats 8000000 in
theorem wordOf_core (G : Gf.Fd) (b bp bl bc bg capg W : Nat) (g u : List Nat) (v : Value) (w : World) (m3 : 3 ≤ G.m) (m8 : G.m ≤ 8) (k : WoK G b bp bl bc bg capg W g w) (h : RdN w v u)
    (hg : Gf.AllEl G g) (hu : Gf.AllEl G u) (hg2 : 2 ≤ g.length) (hu1 : 1 ≤ u.length) (hb1 : u.length + g.length ≤ 1000) (hW1 : u.length < W) (hW2 : W + 1 ≤ u.length + g.length) :
    Calls Tryz.prog 42 #[.pointer (some ⟨bc, 0, none⟩), v] w fun e w' => ∃ bw, e = .returned (.slice (some ⟨bw, 0, none⟩) W W) ∧ w.heap.size ≤ bw ∧ NRow w' bw W (fun i => (u ++ ((Gf.divTo G g (u ++ List.replicate (g.length - 1) 0) u.length).drop u.length).take (W - u.length)).getD i 0) ∧ Below w.heap.size w w' := by
  obtain ⟨a, capv, rfl, -, hc⟩ := h
  have hcm : ∀ i, i < u.length → ∃ b o, a = some ⟨b, o, none⟩ ∧ b < w.heap.size ∧ w.cell? ⟨b, o + i, none⟩ = some (.int .i64 ((u.getD i 0 : Nat) : Int)) := fun i hi => by
    obtain ⟨b, o, e, hcell⟩ := hc i (by simpa using hi)
    rw [mapN_getD] at hcell
    exact ⟨b, o, e, lt_of_cell hcell, hcell⟩
  rw [List.length_map]
  obtain ⟨bm, om, rfl, hbm, _⟩ := hcm 0 (by omega)
  have HM : Hid (∀ i, i < u.length → w.cell? ⟨bm, om + i, none⟩ = some (.int .i64 ((u.getD i 0 : Nat) : Int))) := fun i hi => by
    obtain ⟨b, o, e, _, hcell⟩ := hcm i hi
    cases e; exact hcell
  obtain ⟨D, hD⟩ : ∃ D, D = u.length + (g.length - 1) := ⟨_, rfl⟩
  obtain ⟨dl, hdl⟩ : ∃ dl, dl = u ++ List.replicate (g.length - 1) 0 := ⟨_, rfl⟩
  have hdll : dl.length = D := by rw [hdl, hD]; simp
  have hdE : Gf.AllEl G dl := by rw [hdl]; exact hu.append (Gf.replicate_El _ _)
  have mk1 := fun (wx : World) => run_make_row' (P := Tryz.prog) 24 3 (.int .i64 0) 8 Tryz.underlying24 Tryz.info3 rfl .i64 .i64 D (by omega) (by omega) wx
  have mk2 := fun (wx : World) => run_make_row' (P := Tryz.prog) 24 3 (.int .i64 0) 8 Tryz.underlying24 Tryz.info3 rfl .i64 .i64 W (by omega) (by omega) wx
  have eD : (D : Int) = (u.length : Int) + (g.length : Int) - 1 := by omega
  rw [eD] at mk1
  have hsz : (Tryz.prog.info? 3).map (·.size) = some 1 := by kernel_rfl
  have K0 := hide k
  have x3 := k.x3
  have HG := hide hg
  have HD := hide hD
  have HDL := hide hdl
  have HDLL := hide hdll
  have HDE := hide hdE
  have hD1 : D ≤ 1000 := by omega
  have hD2 : u.length ≤ D := by omega
  have hD3 : W ≤ D := by omega
  have hD4 : g.length ≤ D := by omega
  clear hc hcm k hg hu eD hD hdl hdll hdE
  go_enter Tryz.func42, Tryz.ntmps42
  go_wp2_with fail
  obtain ⟨w1, hr1, hblk1, hbc1⟩ := copy_run (w.alloc (.cells (madeCells #[Value.int IntKind.i64 0] D) 3)) w.heap.size 0 D D bm om u.length capv (List.replicate D 0) u (by rw [← zeros_toArray]; exact heap_alloc_new w _) (Nat.min_eq_left hD2).symm (fun i hi => below_cell ((Below.refl _ _).alloc (Nat.le_refl _) _) (unhide HM i hi)) (by rw [List.length_replicate]; omega)
  rw [hr1]
  have hd1 : Hid (w1.heap[w.heap.size]? = some (.cells (ints dl).toArray 3 (0, 0))) := by
    rw [ints_splice0, List.drop_replicate] at hblk1
    show _ = _
    rw [hblk1, unhide HDL, unhide HD, show u.length + (g.length - 1) - u.length = g.length - 1 by omega]
  have hB1 := hide (((Below.refl w.heap.size w).alloc (Nat.le_refl _) _).trans hbc1)
  have hl1 : w.heap.size < w1.heap.size := by
    have := hbc1.size
    simp at this; omega
  have x4 := ((unhide K0).below (unhide hB1)).x4
  clear hblk1 hbc1 x3 mk1 hr1
  go_wp2_with fail
  obtain ⟨w2, hr2, hblk2, hbc2⟩ := copy_run (w1.alloc (.cells (madeCells #[Value.int IntKind.i64 0] W) 3)) w1.heap.size 0 W W bm om u.length capv (List.replicate W 0) u (by rw [← zeros_toArray]; exact heap_alloc_new w1 _) (Nat.min_eq_left (Nat.le_of_lt hW1)).symm (fun i hi => below_cell ((unhide hB1).alloc (Nat.le_of_lt hl1) _) (unhide HM i hi)) (by rw [List.length_replicate]; omega)
  rw [hr2]
  have hb12 := ((Below.refl w1.heap.size w1).alloc (Nat.le_refl _) (.cells (madeCells #[Value.int IntKind.i64 0] W) 3)).trans hbc2
  have hB2 := hide ((unhide hB1).trans (hb12.mono (unhide hB1).size))
  have hl2 : w1.heap.size < w2.heap.size := by
    have := hbc2.size
    simp at this; omega
  have hd2 : Hid (w2.heap[w.heap.size]? = some (.cells (ints dl).toArray 3 (0, 0))) := (hb12.block _ hl1).trans (unhide hd1)
  have hw2 : Hid (w2.heap[w1.heap.size]? = some (.cells (ints (u ++ List.replicate (W - u.length) 0)).toArray 3 (0, 0))) := by
    rw [ints_splice0, List.drop_replicate] at hblk2
    exact hblk2
  have k2 := (unhide K0).below (unhide hB2)
  have y0 := k2.x0
  have y1 := k2.x1
  have y3 := k2.x3
  have K2 := hide k2
  have hRem := hide (fun wx (hx : WoK G b bp bl bc bg capg W g wx) (hdx : wx.heap[w.heap.size]? = some (.cells (ints dl).toArray 3 (0, 0))) => remainder_any G b bp bl bg w.heap.size D capg g dl wx m3 m8 hx.fa (unhide HDE) (unhide HG) hg2 (by rw [unhide HDLL]; omega) (by rw [unhide HDLL]; omega) (fun i hi => by rw [Nat.zero_add]; exact NRow.cell (nrow_of hdx) hi) hx.gs (lt_of_cell (hx.gs 0 (by omega))))
  rw [unhide HDLL] at hRem
  have K2d := hide (show WoK G b bp bl bc bg capg W g w2.drew from (unhide K2).below (below_of_drewN _ _ 1))
  have hRem2 := hide (unhide hRem w2.drew (unhide K2d) (unhide hd2))
  have hbc : bc < w1.heap.size := Nat.lt_trans (lt_of_cell (unhide K0).x0) hl1
  obtain ⟨rl, hrl⟩ : ∃ rl, rl = ((Gf.divTo G g dl u.length).drop u.length).take (W - u.length) := ⟨_, rfl⟩
  have hdv : (Gf.divTo G g dl u.length).length = D := by rw [Gf.divTo_length, unhide HDLL]
  have hrll := hide (show rl.length = W - u.length by rw [hrl, List.length_take, List.length_drop, hdv]; omega)
  have hsrc := hide (fun wx br (hp : PRow wx br D (fun j => (Gf.divTo G g dl u.length).getD j 0)) => src_cells hp hdv u.length (W - u.length))
  rw [← hrl] at hsrc
  have HRL := hide hrl
  have hWI : (u.length : Int) ≤ (W : Int) := by omega
  have hWN : ¬ W - u.length = 0 := by omega
  have hmin := hide (show W - u.length = Nat.min (g.length - 1) (W - u.length) from (Nat.min_eq_right (by omega)).symm)
  clear hblk2 hbc2 hb12 hr2 hd1 hB1 x4 mk2 k2 hRem hrl hdv
  go_wp2_with fail
  go_region_held3 (fun w' => w'.cell? ⟨bc, 0, none⟩ = some (.func (.func 56) #[.pointer (some ⟨b, 0, none⟩)] #[]) ∧ w'.cell? ⟨bc, 1, none⟩ = some (.func (.func 57) #[.pointer (some ⟨b, 0, none⟩)] #[]) ∧ w'.cell? ⟨bc, 3, none⟩ = some (.slice (some ⟨bg, 0, none⟩) g.length capg))
    (first | (exact ⟨y0, y1, y3⟩) | (exact ⟨(unhide k3).x0, (unhide k3).x1, (unhide k3).x3⟩) | (exact ⟨(hb4.cell (p := ⟨bc, 0, none⟩) hbc).trans (unhide k3).x0, (hb4.cell (p := ⟨bc, 1, none⟩) hbc).trans (unhide k3).x1, (hb4.cell (p := ⟨bc, 3, none⟩) hbc).trans (unhide k3).x3⟩))
    (first
      | (go_at_call 68; refine (unhide hRem2).mono ?_; rintro e w3 ⟨br, o, nr, cr, rfl, ho, hnr, hnc, hbr, hp, hb3⟩; obtain rfl : o = u.length := (by have := unhide HD; omega); obtain rfl : nr = g.length - 1 := (by omega); have k3 := hide ((unhide K2d).below hb3); have HP3 := hide hp; have HB3 := hide hb3; have hw3 := hide ((hb3.block w1.heap.size hl2).trans (unhide hw2)); clear hp hb3)
      | (refine step_copy_splice rfl _ _ 24 24 rfl 3 Tryz.underlying24 hsz _ _ _ _ _ _ (by rfl) (by rfl) w1.heap.size u.length (ints (u ++ List.replicate (W - u.length) 0)) 3 (unhide hw3) (ints rl) (by rw [ints_length, unhide hrll]; exact unhide hmin) (fun _ => ⟨rfl, _, rfl, ints_cells (unhide hsrc _ _ (unhide HP3))⟩) (by rw [ints_length, ints_length, unhide hrll, List.length_append, List.length_replicate]; exact Nat.le_refl _) (fun v hv => mem_ints hv) w1.heap.size w3 (Below.refl _ _) (Nat.le_refl _) ?_; intro w4 hblk4 hb4))
  have hfin := hide (show NRow w4 w1.heap.size W (fun i => (u ++ ((Gf.divTo G g (u ++ List.replicate (g.length - 1) 0) u.length).drop u.length).take (W - u.length)).getD i 0) from by
    have h1 := unhide hblk4
    rw [ints_splice, unhide hrll, List.drop_of_length_le (by rw [List.length_replicate]; exact Nat.le_refl _), List.append_nil] at h1
    have h2 := nrow_of h1
    rw [List.length_append, unhide hrll, show u.length + (W - u.length) = W by omega, unhide HRL, unhide HDL] at h2
    exact h2)
  have hBf := hide ((unhide hB2).drew.trans (((unhide HB3).mono (unhide hB2).size).trans (hb4.mono (Nat.le_of_lt hl1))))
  clear hblk4 hb4
  go_wp2
  go_ret
  exact ⟨_, rfl, Nat.le_of_lt hl1, unhide hfin, unhide hBf⟩

/-- wordOf, at a code. -/
theorem wordOf_any (c : Cd) (b bp bl bc bg capg : Nat) (u : List Nat) (v : Value) (w : World) (m3 : 3 ≤ c.G.m) (m8 : c.G.m ≤ 8) (ok : c.Ok) (k : WoK c.G b bp bl bc bg capg (c.n - c.short - c.cut) c.g w) (hm : Gf.msg c u) (h : RdN w v u) :
    Calls Tryz.prog 42 #[.pointer (some ⟨bc, 0, none⟩), v] w fun e w' => ∃ bw, e = .returned (.slice (some ⟨bw, 0, none⟩) (c.n - c.short - c.cut) (c.n - c.short - c.cut)) ∧ w.heap.size ≤ bw ∧ NRow w' bw (c.n - c.short - c.cut) (fun i => (c.word u).getD i 0) ∧ Below w.heap.size w w' := by
  have hpre : Pre c := ⟨m3, m8, ok.f, ok.d2, ok.dn⟩
  obtain ⟨hn1, hn2⟩ := hpre.nb
  have hgl : c.g.length = c.rts.length + 1 := Gf.gen_length _ _
  have hK := Gf.K_add c
  have hKl := Gf.K_le ok
  have hrg := Gf.rts_ge ok
  have hd2 := ok.d2
  have hs := ok.s
  have hul : u.length = c.K - c.short := hm.1
  rw [word_full ok hm]
  exact wordOf_core c.G b bp bl bc bg capg _ c.g u v w m3 m8 k h (Gf.gen_El _ _) hm.2 (by omega) (by omega) (by omega) (by omega) (by omega)
end Go.Proofs.YtnpkkcbadcmgkaaGreatDoor

namespace Go.Proofs.YtnpkkcbadcmgkaaGreatDoor
open Go.RowKit Go.Deep
open Gf (Cd)

/-- the function that checks a symbol. -/
def chkF (bin : Bool) : Nat := if bin then 81 else 82

/-- a codec as New lays it in memory. -/
structure CodAt (c : Cd) (bc b bp bl bg capg bd : Nat) (w : World) : Prop where
  blk : w.heap[bc]? = some (.cells #[.func (.func 56) #[.pointer (some ⟨b, 0, none⟩)] #[], .func (.func 57) #[.pointer (some ⟨b, 0, none⟩)] #[], .func (.func (chkF c.bin)) #[.pointer (some ⟨b, 0, none⟩)] #[], .slice (some ⟨bg, 0, none⟩) c.g.length capg, .int .i64 ((c.n - c.short - c.cut : Nat) : Int), .int .i64 ((c.K - c.short : Nat) : Int), .pointer (some ⟨bd, 0, none⟩)] 77 (0, 0))
  fa : FieldAt c.G.m c.G.q b bp bl w
  gs : ∀ i, i < c.g.length → w.cell? ⟨bg, i, none⟩ = some (.int .i64 ((c.g.getD i 0 : Nat) : Int))

section
variable {c : Cd} {bc b bp bl bg capg bd : Nat} {w w' : World}
theorem CodAt.x2 (h : CodAt c bc b bp bl bg capg bd w) : w.cell? ⟨bc, 2, none⟩ = some (.func (.func (chkF c.bin)) #[.pointer (some ⟨b, 0, none⟩)] #[]) := by simp [World.cell?, h.blk]
theorem CodAt.x3 (h : CodAt c bc b bp bl bg capg bd w) : w.cell? ⟨bc, 3, none⟩ = some (.slice (some ⟨bg, 0, none⟩) c.g.length capg) := by simp [World.cell?, h.blk]
theorem CodAt.x4 (h : CodAt c bc b bp bl bg capg bd w) : w.cell? ⟨bc, 4, none⟩ = some (.int .i64 ((c.n - c.short - c.cut : Nat) : Int)) := by simp [World.cell?, h.blk]
theorem CodAt.x5 (h : CodAt c bc b bp bl bg capg bd w) : w.cell? ⟨bc, 5, none⟩ = some (.int .i64 ((c.K - c.short : Nat) : Int)) := by simp [World.cell?, h.blk]
theorem CodAt.wo (h : CodAt c bc b bp bl bg capg bd w) : WoK c.G b bp bl bc bg capg (c.n - c.short - c.cut) c.g w :=
  ⟨h.fa, by simp [World.cell?, h.blk], by simp [World.cell?, h.blk], h.x3, h.x4, h.gs⟩
theorem CodAt.lt (h : CodAt c bc b bp bl bg capg bd w) : bc < w.heap.size := (Array.getElem?_eq_some_iff.1 h.blk).1
theorem CodAt.of (h : CodAt c bc b bp bl bg capg bd w) (e0 : w'.heap[bc]? = w.heap[bc]?) (e1 : w'.heap[b]? = w.heap[b]?) (e2 : w'.heap[bp]? = w.heap[bp]?) (e3 : w'.heap[bl]? = w.heap[bl]?) (e4 : w'.heap[bg]? = w.heap[bg]?) : CodAt c bc b bp bl bg capg bd w' :=
  ⟨e0.trans h.blk, h.fa.of e1 e2 e3, fun i hi => by rw [World.cell?_of_block e4]; exact h.gs i hi⟩
theorem CodAt.g1 (c : Cd) : 1 ≤ c.g.length := by have : c.g.length = c.rts.length + 1 := Gf.gen_length _ _; omega
theorem CodAt.below (h : CodAt c bc b bp bl bg capg bd w) (hb : Below w.heap.size w w') : CodAt c bc b bp bl bg capg bd w' :=
  h.of (hb.block _ h.lt) (hb.block _ (lt_of_cell h.fa.c0)) (hb.block _ h.fa.pows.lt) (hb.block _ h.fa.logs.lt) (hb.block _ (lt_of_cell (h.gs 0 (CodAt.g1 c))))
end

theorem isMade_any (bc bg n capg : Nat) (w : World) (x3 : w.cell? ⟨bc, 3, none⟩ = some (.slice (some ⟨bg, 0, none⟩) n capg)) :
    Calls Tryz.prog 37 #[.pointer (some ⟨bc, 0, none⟩)] w fun e w' => e = .returned (.bool true) ∧ w' = w := by
  have qT : ∀ (w : World) (a : Option Addr) (n c n' c' : Nat), (binOp .neq 24 (.slice a n c) (.slice none n' c')).run Tryz.prog w = .ok (.bool (!a.isNone)) w := fun w a n c n' c' => run_neq_slice_nil_any w _ _ a n c n' c' Tryz.underlying24
  go_enter Tryz.func37, Tryz.ntmps37
  go_wp2
  go_ret
  exact ⟨rfl, rfl⟩

set_option maxHeartbeats 1000000 in
theorem Size_core (bc bg n capg W M : Nat) (w : World) (x3 : w.cell? ⟨bc, 3, none⟩ = some (.slice (some ⟨bg, 0, none⟩) n capg)) (x4 : w.cell? ⟨bc, 4, none⟩ = some (.int .i64 (W : Int))) (x5 : w.cell? ⟨bc, 5, none⟩ = some (.int .i64 (M : Int))) :
    Calls Tryz.prog 24 #[.pointer (some ⟨bc, 0, none⟩)] w fun e w' => e = .returned (.tuple #[.int .i64 (W : Int), .int .i64 (M : Int)]) ∧ ∃ d, w' = w.drewN d := by
  have hM := hide (fun wx h => isMade_any bc bg n capg wx h)
  go_enter Tryz.func24, Tryz.ntmps24
  go_wp2_with fail
  refine (unhide hM _ x3).mono ?_
  rintro e w' ⟨rfl, rfl⟩
  go_wp2
  go_quiet (fail)
  go_wp2
  go_ret2
  exact ⟨rfl, nq, rfl⟩

/-- what checkList answers. -/
def ChkP (m : Nat) (bin : Bool) (l : List Int) (k : Nat) (w : World) (e : Ending) (w' : World) : Prop :=
  ((givenE m bin l k = 0 ∧ e = .returned .nilIface) ∨ (givenE m bin l k ≠ 0 ∧ ∃ x, e = .returned x ∧ Flt (givenE m bin l k) (givenAt m bin l k) x w')) ∧ Below w.heap.size w w'

theorem bit_sym {m : Nat} (m3 : 3 ≤ m) {x : Int} : symB m true x = true ↔ x = 0 ∨ x = 1 := by
  have := Nat.pow_le_pow_right (show 0 < 2 by decide) m3
  unfold symB elemB
  rw [pow_cast]
  simp only [Bool.and_eq_true, decide_eq_true_eq, Bool.not_true, Bool.false_or]
  omega
theorem el_sym {m : Nat} {x : Int} : symB m false x = elemB m x := by unfold symB; simp

theorem checkS_yes (m q b bp bl : Nat) (x : Int) (w : World) (hm : 3 ≤ m) (hm8 : m ≤ 8) (h : FieldAt m q b bp bl w) (hx : symB m false x = true) :
    Calls Tryz.prog 82 #[.pointer (some ⟨b, 0, none⟩), .int .i64 x] w fun e w' => e = .returned .nilIface ∧ w' = w := by
  rw [el_sym] at hx
  obtain ⟨n, rfl, hn⟩ := nat_of_elem hx
  exact checkE_yes m q b bp bl n w hm hm8 h hn

set_option maxHeartbeats 2000000 in
theorem checkList_el (m q b bp bl bc bg n capg k : Nat) (v : Value) (l : List Int) (w : World) (hm : 3 ≤ m) (hm8 : m ≤ 8) (hF : FieldAt m q b bp bl w) (L : Laid gsEnc w) (x3 : w.cell? ⟨bc, 3, none⟩ = some (.slice (some ⟨bg, 0, none⟩) n capg))
    (x2 : w.cell? ⟨bc, 2, none⟩ = some (.func (.func 82) #[.pointer (some ⟨b, 0, none⟩)] #[])) (h : Rd w v l) (_hk : k < 1000) :
    Calls Tryz.prog 41 #[.pointer (some ⟨bc, 0, none⟩), v, .int .i64 (k : Int)] w (ChkP m false l k w) := by
  obtain ⟨a, cap, rfl, hmx, hc⟩ := h
  have hmx' := maxLen_lt hmx
  have HC := hide hc
  have hM := hide (fun wx h => isMade_any bc bg n capg wx h)
  have hY := hide (fun (x : Int) wx (h : FieldAt m q b bp bl wx) (hx : symB m false x = true) => checkS_yes m q b bp bl x wx hm hm8 h hx)
  have hN := hide (fun (x : Int) wx (h : FieldAt m q b bp bl wx) (hL : Laid gsEnc wx) (hx : symB m false x = false) => checkE_no m q b bp bl x wx hm hm8 h (hL.so _ (by decide)) (by rw [← el_sym]; exact hx))
  obtain ⟨ae, hae⟩ := L.so 1 (by decide)
  have HL := hide L
  have HF := hide hF
  clear hc L hF hmx
  by_cases hlen : l.length = k
  · have ht : ((l.length : Int) != (k : Int)) = false := by rw [bne_eq_false_iff_eq]; omega
    have Hlen := hide hlen
    clear hlen hae
    go_enter Tryz.func41, Tryz.ntmps41
    go_wp2_with fail
    refine (unhide hM _ x3).mono ?_
    rintro e w' ⟨rfl, hww⟩
    obtain rfl := hww.symm
    go_wp2_with fail
    go_loopw [7, 8, 9, 23] (fun _ _ _ i wr => ∃ j : Nat, j ≤ l.length ∧ i = .int .i64 j ∧ wr = w ∧ Hid (Syms m false l j)) (fun _ _ _ i _ => l.length - (intOf i).toNat)
    case atStart => exact ⟨0, by omega, rfl, rfl, hide fun i hi => by omega⟩
    case round =>
      obtain ⟨j, hj, rfl, hww, hs⟩ := hrel
      obtain rfl := hww.symm
      by_cases hlt : j < l.length
      · obtain ⟨b', o, rfl, hcell⟩ := unhide HC j hlt
        have hI : (j : Int) < (l.length : Int) := by omega
        cases hx : symB m false (l.getD j 0)
        · have hNx := hide (unhide hN _ _ (unhide HF) (unhide HL) hx)
          have hgd := hide (good_at hlt (unhide hs) hx)
          generalize l.getD j 0 = x at *
          clear hx hY hN
          go_wp2_with fail
          refine (unhide hNx).mono ?_
          rintro e w' ⟨c, rfl, hww⟩
          obtain rfl := hww.symm
          go_wp2_with fail
          refine (symbolFault_any _ _ _ _).mono ?_
          rintro e w2 ⟨y, rfl, hf, hb⟩
          have HFl := hide hf
          have HB := hide hb
          clear hf hb
          go_wp2
          go_ret
          refine ⟨Or.inr ⟨?_, _, rfl, ?_⟩, unhide HB⟩
          · unfold givenE; rw [if_pos (unhide Hlen), unhide hgd, if_neg (by omega)]; decide
          · unfold givenE givenAt
            rw [if_pos (unhide Hlen), if_pos (unhide Hlen), unhide hgd, if_neg (by omega), if_neg (by omega)]
            exact unhide HFl
        · have hYx := hide (unhide hY _ _ (unhide HF) hx)
          have hs2 := hide (show Syms m false l (j + 1) from fun i hi => by
            rcases Nat.lt_or_ge i j with h | h
            · exact unhide hs i h
            · have : i = j := by omega
              subst this; exact hx)
          generalize l.getD j 0 = x at *
          clear hx hY hN
          go_wp2_with fail
          refine (unhide hYx).mono ?_
          rintro e w' ⟨rfl, hww⟩
          obtain rfl := hww.symm
          go_wp2
          exact ⟨⟨j + 1, by omega, by go_num, trivial, hs2⟩, by simp [intOf]; omega⟩
      · have e : j = l.length := by omega
        have hg := hide (good_all (show Syms m false l l.length by rw [← e]; exact unhide hs))
        clear e hs
        go_wp2
        go_ret
        refine ⟨Or.inl ⟨?_, rfl⟩, Below.refl _ _⟩
        exact given_ok.2 ⟨unhide Hlen, unhide hg⟩
  · have ht : ((l.length : Int) != (k : Int)) = true := by rw [bne_iff_ne]; omega
    have Hlen := hide hlen
    clear hlen
    go_enter Tryz.func41, Tryz.ntmps41
    go_wp2_with fail
    refine (unhide hM _ x3).mono ?_
    rintro e w' ⟨rfl, hww⟩
    obtain rfl := hww.symm
    go_wp2_with fail
    refine (lengthFault_any _ _ _).mono ?_
    rintro e w2 ⟨y, rfl, hf, hb⟩
    have HFl := hide hf
    have HB := hide hb
    clear hf hb
    go_wp2
    go_ret
    refine ⟨Or.inr ⟨?_, _, rfl, ?_⟩, unhide HB⟩
    · unfold givenE; rw [if_neg (unhide Hlen)]; decide
    · unfold givenE givenAt
      rw [if_neg (unhide Hlen), if_neg (unhide Hlen)]
      exact unhide HFl

set_option maxHeartbeats 2000000 in
theorem checkList_bit (m q b bp bl bc bg n capg k : Nat) (v : Value) (l : List Int) (w : World) (hm : 3 ≤ m) (_hm8 : m ≤ 8) (hF : FieldAt m q b bp bl w) (L : Laid gsEnc w) (x3 : w.cell? ⟨bc, 3, none⟩ = some (.slice (some ⟨bg, 0, none⟩) n capg))
    (x2 : w.cell? ⟨bc, 2, none⟩ = some (.func (.func 81) #[.pointer (some ⟨b, 0, none⟩)] #[])) (h : Rd w v l) (_hk : k < 1000) :
    Calls Tryz.prog 41 #[.pointer (some ⟨bc, 0, none⟩), v, .int .i64 (k : Int)] w (ChkP m true l k w) := by
  obtain ⟨a, cap, rfl, hmx, hc⟩ := h
  have hmx' := maxLen_lt hmx
  have HC := hide hc
  have hM := hide (fun wx h => isMade_any bc bg n capg wx h)
  have hY := hide (fun (x : Int) wx (h : FieldAt m q b bp bl wx) (hx : symB m true x = true) => checkB_yes (.pointer (some ⟨b, 0, none⟩)) x wx ((bit_sym hm).1 hx))
  have hN := hide (fun (x : Int) wx (h : FieldAt m q b bp bl wx) (hL : Laid gsEnc wx) (hx : symB m true x = false) => checkB_no (.pointer (some ⟨b, 0, none⟩)) x wx (fun e => by rw [(bit_sym hm).2 e] at hx; cases hx) (hL.so _ (by decide)))
  obtain ⟨ae, hae⟩ := L.so 1 (by decide)
  have HL := hide L
  have HF := hide hF
  clear hc L hF hmx
  by_cases hlen : l.length = k
  · have ht : ((l.length : Int) != (k : Int)) = false := by rw [bne_eq_false_iff_eq]; omega
    have Hlen := hide hlen
    clear hlen hae
    go_enter Tryz.func41, Tryz.ntmps41
    go_wp2_with fail
    refine (unhide hM _ x3).mono ?_
    rintro e w' ⟨rfl, hww⟩
    obtain rfl := hww.symm
    go_wp2_with fail
    go_loopw [7, 8, 9, 23] (fun _ _ _ i wr => ∃ j : Nat, j ≤ l.length ∧ i = .int .i64 j ∧ wr = w ∧ Hid (Syms m true l j)) (fun _ _ _ i _ => l.length - (intOf i).toNat)
    case atStart => exact ⟨0, by omega, rfl, rfl, hide fun i hi => by omega⟩
    case round =>
      obtain ⟨j, hj, rfl, hww, hs⟩ := hrel
      obtain rfl := hww.symm
      by_cases hlt : j < l.length
      · obtain ⟨b', o, rfl, hcell⟩ := unhide HC j hlt
        have hI : (j : Int) < (l.length : Int) := by omega
        cases hx : symB m true (l.getD j 0)
        · have hNx := hide (unhide hN _ _ (unhide HF) (unhide HL) hx)
          have hgd := hide (good_at hlt (unhide hs) hx)
          generalize l.getD j 0 = x at *
          clear hx hY hN
          go_wp2_with fail
          refine (unhide hNx).mono ?_
          rintro e w' ⟨c, rfl, hww⟩
          obtain rfl := hww.symm
          go_wp2_with fail
          refine (symbolFault_any _ _ _ _).mono ?_
          rintro e w2 ⟨y, rfl, hf, hb⟩
          have HFl := hide hf
          have HB := hide hb
          clear hf hb
          go_wp2
          go_ret
          refine ⟨Or.inr ⟨?_, _, rfl, ?_⟩, unhide HB⟩
          · unfold givenE; rw [if_pos (unhide Hlen), unhide hgd, if_neg (by omega)]; decide
          · unfold givenE givenAt
            rw [if_pos (unhide Hlen), if_pos (unhide Hlen), unhide hgd, if_neg (by omega), if_neg (by omega)]
            exact unhide HFl
        · have hYx := hide (unhide hY _ _ (unhide HF) hx)
          have hs2 := hide (show Syms m true l (j + 1) from fun i hi => by
            rcases Nat.lt_or_ge i j with h | h
            · exact unhide hs i h
            · have : i = j := by omega
              subst this; exact hx)
          generalize l.getD j 0 = x at *
          clear hx hY hN
          go_wp2_with fail
          refine (unhide hYx).mono ?_
          rintro e w' ⟨rfl, hww⟩
          obtain rfl := hww.symm
          go_wp2
          exact ⟨⟨j + 1, by omega, by go_num, trivial, hs2⟩, by simp [intOf]; omega⟩
      · have e : j = l.length := by omega
        have hg := hide (good_all (show Syms m true l l.length by rw [← e]; exact unhide hs))
        clear e hs
        go_wp2
        go_ret
        refine ⟨Or.inl ⟨?_, rfl⟩, Below.refl _ _⟩
        exact given_ok.2 ⟨unhide Hlen, unhide hg⟩
  · have ht : ((l.length : Int) != (k : Int)) = true := by rw [bne_iff_ne]; omega
    have Hlen := hide hlen
    clear hlen
    go_enter Tryz.func41, Tryz.ntmps41
    go_wp2_with fail
    refine (unhide hM _ x3).mono ?_
    rintro e w' ⟨rfl, hww⟩
    obtain rfl := hww.symm
    go_wp2_with fail
    refine (lengthFault_any _ _ _).mono ?_
    rintro e w2 ⟨y, rfl, hf, hb⟩
    have HFl := hide hf
    have HB := hide hb
    clear hf hb
    go_wp2
    go_ret
    refine ⟨Or.inr ⟨?_, _, rfl, ?_⟩, unhide HB⟩
    · unfold givenE; rw [if_neg (unhide Hlen)]; decide
    · unfold givenE givenAt
      rw [if_neg (unhide Hlen), if_neg (unhide Hlen)]
      exact unhide HFl

theorem checkList_any (c : Cd) (bc b bp bl bg capg bd k : Nat) (v : Value) (l : List Int) (w : World) (m3 : 3 ≤ c.G.m) (m8 : c.G.m ≤ 8) (h : CodAt c bc b bp bl bg capg bd w) (L : Laid gsEnc w) (hr : Rd w v l) (hk : k < 1000) :
    Calls Tryz.prog 41 #[.pointer (some ⟨bc, 0, none⟩), v, .int .i64 (k : Int)] w (ChkP c.G.m c.bin l k w) := by
  have x2 := h.x2
  cases hb : c.bin
  · rw [hb] at x2
    exact checkList_el c.G.m c.G.q b bp bl bc bg _ capg k v l w m3 m8 h.fa L h.x3 x2 hr hk
  · rw [hb] at x2
    exact checkList_bit c.G.m c.G.q b bp bl bc bg _ capg k v l w m3 m8 h.fa L h.x3 x2 hr hk
end Go.Proofs.YtnpkkcbadcmgkaaGreatDoor
