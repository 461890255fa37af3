import Derived.Test.YtohgmoclnicchaaDoorWAdd
import Derived.Deep.AppendLies
namespace Go.Proofs.YtohgmoclnicchaaDoor
open Go.RowKit Go.Deep
open Gf (Cd)

/-- the product of X less each of the roots, as FromRoots makes it. -/
def genR (G : Gf.Fd) : List Nat → List Nat → List Nat
  | g, [] => g
  | g, r :: rs => genR G (Gf.stepGen G g r) rs
theorem genR_append (G : Gf.Fd) : ∀ (rs g : List Nat) (r : Nat), genR G g (rs ++ [r]) = Gf.stepGen G (genR G g rs) r
  | [], _, _ => rfl
  | _ :: rs, _, r => genR_append G rs _ r
theorem genR_gen (G : Gf.Fd) : ∀ (js g : List Nat), genR G g (js.map G.pw) = Gf.genTo G g js
  | [], _ => rfl
  | _ :: js, _ => genR_gen G js _
theorem genR_length (G : Gf.Fd) : ∀ (rs g : List Nat), (genR G g rs).length = g.length + rs.length
  | [], _ => rfl
  | r :: rs, g => by rw [genR, genR_length G rs, Gf.stepGen_length]; simp; omega
theorem genR_El {G : Gf.Fd} : ∀ (rs : List Nat) {g : List Nat}, Gf.AllEl G g → Gf.AllEl G (genR G g rs)
  | [], _, h => h
  | r :: rs, _, h => genR_El rs (Gf.stepGen_El r h)

theorem take_snoc {l : List Nat} {k : Nat} (h : k < l.length) : l.take (k + 1) = l.take k ++ [l.getD k 0] := by
  rw [List.take_succ_eq_append_getElem h, List.getD_eq_getElem?_getD, List.getElem?_eq_getElem h]; rfl

/-- the row while the root r is put to it: from the end on, down to above i. -/
def mid (G : Gf.Fd) (g : List Nat) (r i j : Nat) : Nat := if i < j then (Gf.stepGen G g r).getD j 0 else (g ++ [0]).getD j 0
theorem step_at (G : Gf.Fd) (g : List Nat) (r j : Nat) (hj : j < g.length) : (Gf.stepGen G g r).getD (j + 1) 0 = (g ++ [0]).getD (j + 1) 0 ^^^ G.mul ((g ++ [0]).getD j 0) r := by
  unfold Gf.stepGen
  rw [zx_getD _ _ _ (by simp)]
  congr 1
  rw [List.getD_cons_succ, List.getD_eq_getElem?_getD, List.getElem?_map, List.getElem?_eq_getElem hj, List.getD_eq_getElem?_getD, List.getElem?_append_left hj, List.getElem?_eq_getElem hj]
  rfl
theorem step_zero (G : Gf.Fd) (g : List Nat) (r : Nat) : (Gf.stepGen G g r).getD 0 0 = (g ++ [0]).getD 0 0 := by
  unfold Gf.stepGen
  rw [zx_getD _ _ _ (by simp)]
  simp
theorem mid_top (G : Gf.Fd) (g : List Nat) (r j : Nat) (hj : j < g.length + 1) : mid G g r g.length j = (g ++ [0]).getD j 0 := by
  unfold mid; rw [if_neg (by omega)]
theorem mid_bot (G : Gf.Fd) (g : List Nat) (r j : Nat) : mid G g r 0 j = (Gf.stepGen G g r).getD j 0 := by
  unfold mid
  by_cases h : 0 < j
  · rw [if_pos h]
  · have : j = 0 := by omega
    subst this
    rw [if_neg h, step_zero]
theorem mid_step (G : Gf.Fd) (g : List Nat) (r i j : Nat) : mid G g r i j = if j = i + 1 then (Gf.stepGen G g r).getD (i + 1) 0 else mid G g r (i + 1) j := by
  unfold mid
  by_cases h : j = i + 1
  · subst h; rw [if_pos (by omega), if_pos rfl]
  · rw [if_neg h]
    by_cases h2 : i < j
    · rw [if_pos h2, if_pos (by omega)]
    · rw [if_neg h2, if_neg (by omega)]
theorem app_El {G : Gf.Fd} {g : List Nat} (h : Gf.AllEl G g) : Gf.AllEl G (g ++ [0]) := h.append (Gf.AllEl.cons G.El_zero (Gf.AllEl.nil G))

theorem make_len_cap (k : Nat) (hk : k < 1024) (wx : World) : (Instr.makeSlice 41 (.int .i64 1) (.int .i64 ((k : Int) + 1))).run Tryd.prog wx = .ok (.slice (some ⟨wx.heap.size, 0, none⟩) 1 (k + 1)) (wx.alloc (.cells (madeCells #[.int .i64 0] (k + 1)) 3)) := by
  obtain ⟨inf, hi, hz0, hz1, hz2⟩ := info_parts (show (Tryd.prog.info? 3).map (fun i => (i.zero, i.size, i.bytes)) = some (some (.int .i64 0), 1, 8) by kernel_rfl)
  have h := run_make (P := Tryd.prog) wx 41 3 inf (.int .i64 0) Tryd.underlying41 hi hz0 .i64 .i64 1 ((k : Int) + 1) (by omega) (by omega) (by rw [hz2]; omega) (by omega)
  rw [hz1, show ((k : Int) + 1).toNat = k + 1 by omega, Nat.mul_one] at h
  exact h

/-- what FromRoots keeps. -/
structure FrK (G : Gf.Fd) (b bp bl : Nat) (w0 w : World) : Prop where
  fa : FieldAt G.m G.q b bp bl w
  c0 : w.cell? ⟨w0.heap.size, 0, none⟩ = some (.func (.func 83) #[.pointer (some ⟨b, 0, none⟩)] #[])
  c1 : w.cell? ⟨w0.heap.size, 1, none⟩ = some (.func (.func 60) #[.pointer (some ⟨b, 0, none⟩)] #[])
  be : Below w0.heap.size w0 w
  lt : b < w0.heap.size ∧ bp < w0.heap.size ∧ bl < w0.heap.size

theorem FrK.up {G : Gf.Fd} {b bp bl : Nat} {w0 w w' : World} (h : FrK G b bp bl w0 w) (hb : Below (w0.heap.size + 1) w w') : FrK G b bp bl w0 w' :=
  ⟨h.fa.of (hb.block _ (by have := h.lt.1; omega)) (hb.block _ (by have := h.lt.2.1; omega)) (hb.block _ (by have := h.lt.2.2; omega)), by rw [hb.cell (p := ⟨w0.heap.size, 0, none⟩) (Nat.lt_succ_self _)]; exact h.c0, by rw [hb.cell (p := ⟨w0.heap.size, 1, none⟩) (Nat.lt_succ_self _)]; exact h.c1, h.be.trans (hb.mono (Nat.le_succ _)), h.lt⟩

def midL (G : Gf.Fd) (g : List Nat) (r i : Nat) : List Nat := (List.range (g.length + 1)).map (mid G g r i)
theorem midL_length (G : Gf.Fd) (g : List Nat) (r i : Nat) : (midL G g r i).length = g.length + 1 := by simp [midL]
theorem midL_getD (G : Gf.Fd) (g : List Nat) (r i j : Nat) (hj : j < g.length + 1) : (midL G g r i).getD j 0 = mid G g r i j := by
  rw [List.getD_eq_getElem?_getD]; simp [midL, List.getElem?_range hj]
theorem midL_top (G : Gf.Fd) (g : List Nat) (r : Nat) : midL G g r g.length = g ++ [0] :=
  Gf.ext_getD (by rw [midL_length]; simp) fun k hk => by
    rw [midL_length] at hk
    rw [midL_getD _ _ _ _ _ hk, mid_top _ _ _ _ hk]
theorem midL_bot (G : Gf.Fd) (g : List Nat) (r : Nat) : midL G g r 0 = Gf.stepGen G g r :=
  Gf.ext_getD (by rw [midL_length, Gf.stepGen_length]) fun k hk => by
    rw [midL_length] at hk
    rw [midL_getD _ _ _ _ _ hk, mid_bot]
theorem set_getD (l : List Nat) (k x j : Nat) (hk : k < l.length) : (l.set k x).getD j 0 = if j = k then x else l.getD j 0 := by
  rw [List.getD_eq_getElem?_getD, List.getD_eq_getElem?_getD, List.getElem?_set]
  by_cases e : j = k
  · subst e; rw [if_pos rfl, if_pos hk, if_pos rfl]; rfl
  · rw [if_neg (Ne.symm e), if_neg e]
theorem midL_step (G : Gf.Fd) (g : List Nat) (r i : Nat) (hi : i < g.length) : (midL G g r (i + 1)).set (i + 1) ((Gf.stepGen G g r).getD (i + 1) 0) = midL G g r i :=
  Gf.ext_getD (by rw [List.length_set, midL_length, midL_length]) fun k hk => by
    rw [List.length_set, midL_length] at hk
    rw [set_getD _ _ _ _ (by rw [midL_length]; omega), midL_getD _ _ _ _ _ hk, midL_getD _ _ _ _ _ hk, mid_step G g r i k]
theorem ints_set (l : List Nat) (k x : Nat) : (ints l).set k (.int .i64 (x : Int)) = ints (l.set k x) := by simp [ints, List.map_set]
theorem ints_at (l : List Nat) (k : Nat) (hk : k < l.length) : (ints l)[k]? = some (.int .i64 ((l.getD k 0 : Nat) : Int)) := by
  simp [ints, List.getD_eq_getElem?_getD, List.getElem?_eq_getElem hk]
theorem ints_length (l : List Nat) : (ints l).length = l.length := by simp [ints]
theorem ints_snoc (l : List Nat) (x : Nat) : ints (l ++ [x]) = ints l ++ [.int .i64 (x : Int)] := by simp [ints]

set_option maxRecDepth 100000 in
set_option maxHeartbeats 8000000 in
theorem fromRoots_any (G : Gf.Fd) (b bp bl : Nat) (v : Value) (l : List Nat) (w : World) (m3 : 3 ≤ G.m) (m8 : G.m ≤ 8) (hF : FieldAt G.m G.q b bp bl w) (h : RdN w v l) (hl : l.length < 256) (hel : Gf.AllEl G l) :
    Calls Tryd.prog 85 #[.agg #[.func (.func 83) #[.pointer (some ⟨b, 0, none⟩)] #[], .func (.func 60) #[.pointer (some ⟨b, 0, none⟩)] #[]], v] w fun e w' => ∃ bg cap, e = .returned (.slice (some ⟨bg, 0, none⟩) (l.length + 1) cap) ∧ w'.ownsRow w.heap.size 3 1 (.slice (some ⟨bg, 0, none⟩) (l.length + 1) cap) (l.length + 1) (ints (genR G [1] l)) ∧ Below w.heap.size w w' := by
  obtain ⟨a, capv, rfl, -, hc⟩ := h
  have HC : Hid (∀ i, i < l.length → ∃ b o, a = some ⟨b, o, none⟩ ∧ b < w.heap.size ∧ w.cell? ⟨b, o + i, none⟩ = some (.int .i64 ((l.getD i 0 : Nat) : Int))) := fun i hi => by
    obtain ⟨b, o, e, hcell⟩ := hc i (by simpa using hi)
    rw [mapN_getD] at hcell
    exact ⟨b, o, e, lt_of_cell hcell, hcell⟩
  rw [List.length_map]
  obtain ⟨inf, hi, hz0, hz1, hz2⟩ := info_parts (show (Tryd.prog.info? 3).map (fun i => (i.zero, i.size, i.bytes)) = some (some (.int .i64 0), 1, 8) by kernel_rfl)
  have mk := fun wx => make_len_cap l.length (by omega) wx
  have KP : Hid (FrK G b bp bl w (w.alloc (.cells #[.func (.func 83) #[.pointer (some ⟨b, 0, none⟩)] #[], .func (.func 60) #[.pointer (some ⟨b, 0, none⟩)] #[]] 101))) :=
    ⟨hF.below ((Below.refl _ _).alloc (Nat.le_refl _) _), by simp, by simp, (Below.refl _ _).alloc (Nat.le_refl _) _, lt_of_cell hF.c0, hF.pows.lt, hF.logs.lt⟩
  have HEL := hide hel
  have hone : Hid (∀ wx : World, w.heap.size + 1 ≤ wx.heap.size → (wx.alloc (.cells ((madeCells #[.int .i64 0] (l.length + 1)).setIfInBounds 0 (.int .i64 1)) 3)).ownsRow (w.heap.size + 1) 3 1 (.slice (some ⟨wx.heap.size, 0, none⟩) 1 (l.length + 1)) 1 (ints [1])) := fun wx hx => by
    refine ⟨rfl, .inr ⟨wx.heap.size, l.length + 1, _, rfl, hx, heap_alloc_new wx _, by omega, by unfold maxLen; omega, by rw [Array.size_setIfInBounds, size_madeCells, Nat.mul_one], ?_⟩⟩
    rw [Array.toList_setIfInBounds, toList_madeCells_one, List.replicate_succ, List.set_cons_zero]
    rfl
  have hm0 : (madeCells #[Value.int IntKind.i64 0] (l.length + 1))[0]? = some (.int .i64 0) := by simp [madeCells]
  clear hc hF hel
  go_enter Tryd.func85, Tryd.ntmps85
  go_wp2
  clear mk hm0
  go_loopw [5, 7, 8, 17] (fun p _ _ i wr => ∃ k bg cap : Nat, k ≤ l.length ∧ i = .int .i64 k ∧ p = .slice (some ⟨bg, 0, none⟩) (k + 1) cap ∧ Hid (wr.ownsRow (w.heap.size + 1) 3 1 (.slice (some ⟨bg, 0, none⟩) (k + 1) cap) (k + 1) (ints (genR G [1] (l.take k)))) ∧ Hid (FrK G b bp bl w wr)) (fun _ _ _ i _ => l.length - (intOf i).toNat)
  case atStart =>
    refine ⟨0, w.heap.size + 1, l.length + 1, by omega, rfl, rfl, hide ?_, hide ((unhide KP).up ((Below.refl _ _).alloc (by simp) _))⟩
    have h1 := unhide hone (w.alloc (.cells #[.func (.func 83) #[.pointer (some ⟨b, 0, none⟩)] #[], .func (.func 60) #[.pointer (some ⟨b, 0, none⟩)] #[]] 101)) (by simp)
    rw [nblk_alloc] at h1
    exact h1
  case round =>
    clear KP hone
    obtain ⟨k, bg, cap, hk, rfl, rfl, hown, kp⟩ := hrel
    by_cases hlt : k < l.length
    · obtain ⟨b', o, rfl, hbl, hcell⟩ := unhide HC k hlt
      have hcw : wr.cell? ⟨b', o + k, none⟩ = some (.int .i64 ((l.getD k 0 : Nat) : Int)) := by rw [(unhide kp).be.cell (p := ⟨b', o + k, none⟩) hbl]; exact hcell
      have hI : (k : Int) < (l.length : Int) := by omega
      have hsz : w.heap.size + 1 ≤ wr.heap.size := lt_of_cell (unhide kp).c0
      have hr := Gf.getD_El (unhide HEL) k
      have hgE := genR_El (G := G) (l.take k) (Gf.AllEl.cons G.El_one (Gf.AllEl.nil G))
      have hgl : (genR G [1] (l.take k)).length = k + 1 := by rw [genR_length, List.length_take]; simp; omega
      have hnext := hide (show genR G [1] (l.take (k + 1)) = Gf.stepGen G (genR G [1] (l.take k)) (l.getD k 0) by rw [take_snoc hlt, genR_append])
      have HR := hide hr
      have HGE := hide hgE
      clear hcell hr hgE
      generalize genR G [1] (l.take k) = g at *
      generalize l.getD k 0 = r at *
      go_wp2_with (at_builtin; refine wpList_append_lies _ rfl _ _ 41 rfl (w.heap.size + 1) 3 inf (.int .i64 0) 1 8 Tryd.underlying41 hi hz0 hz1 hz2 rfl (by decide) _ _ _ rfl ((unhide hown).alloc _) ⟨wr.heap.size, 0, none⟩ 1 1 [.int .i64 0] rfl rfl ?c1 ?c2 (by decide) ?c3 ?c4 ?c5 (wr.heap.size + 1) ?c6 ?_)
      case c1 =>
        intro j u hj
        match j, hj with
        | 0, hj => simp at hj; subst hj; simp [Addr.add]
      case c2 => intro u hu; simp at hu; subst hu; rfl
      case c3 => unfold maxLen; omega
      case c4 => omega
      case c5 => simp; omega
      case c6 => simp
      intro gb cp w1 hown' hgrow _ _
      have hB := ((Below.refl (w.heap.size + 1) wr).alloc hsz (.cells #[.int .i64 0] 3)).grown hgrow (by simp; omega) (fun r hr => ((unhide hown).lt r hr).1)
      have HO : Hid (w1.ownsRow (w.heap.size + 1) 3 1 (.slice (some ⟨gb, 0, none⟩) (k + 1 + 1) cp) (k + 1 + 1) (ints (midL G g r g.length))) := by
        show w1.ownsRow _ _ _ _ _ _
        rw [midL_top, ints_snoc]; exact hown'
      have K1 := hide ((unhide kp).up hB)
      clear hown' hgrow hB hown kp hcw
      go_wp2
      go_loopw [8] (fun i wz => ∃ i0 : Nat, i0 ≤ g.length ∧ i = .int .i64 i0 ∧ Hid (wz.ownsRow (w.heap.size + 1) 3 1 (.slice (some ⟨gb, 0, none⟩) (k + 1 + 1) cp) (k + 1 + 1) (ints (midL G g r i0))) ∧ Hid (FrK G b bp bl w wz)) (fun i _ => (intOf i).toNat)
      case atStart => exact ⟨g.length, Nat.le_refl _, by rw [hgl]; go_num, HO, K1⟩
      case round =>
        clear HO K1
        obtain ⟨i0, hi0, rfl, hown, kp⟩ := hrel
        rcases Nat.eq_zero_or_pos i0 with h0 | h0
        · subst h0
          have f1 := hide (show wr.ownsRow (w.heap.size + 1) 3 1 (.slice (some ⟨gb, 0, none⟩) (k + 1 + 1) cp) (k + 1 + 1) (ints (genR G [1] (l.take (k + 1)))) from by
            have h1 := unhide hown
            rw [midL_bot, ← unhide hnext] at h1
            exact h1)
          clear hown
          go_wp2
          exact ⟨⟨k + 1, gb, cp, by omega, by go_num, rfl, f1, kp⟩, by simp [intOf]; omega⟩
        · obtain ⟨j, rfl⟩ : ∃ j, i0 = j + 1 := ⟨i0 - 1, by omega⟩
          have ej : (((j + 1 : Nat)) : Int) = (j : Int) + 1 := by omega
          rw [ej]
          have hml := midL_length G g r (j + 1)
          have x0 := (unhide kp).c0
          have x1 := (unhide kp).c1
          have hgb := ((unhide hown).lt gb rfl).1
          have s1 : wr.cell? ⟨gb, j + 1, none⟩ = some (.int .i64 (((g ++ [0]).getD (j + 1) 0 : Nat) : Int)) := by
            rw [World.ownsRow.cellAt (unhide hown) (j + 1) (by omega), ints_at _ _ (by omega), midL_getD _ _ _ _ _ (by omega)]
            unfold mid; rw [if_neg (by omega)]
          have s2 : wr.cell? ⟨gb, j, none⟩ = some (.int .i64 (((g ++ [0]).getD j 0 : Nat) : Int)) := by
            rw [World.ownsRow.cellAt (unhide hown) j (by omega), ints_at _ _ (by omega), midL_getD _ _ _ _ _ (by omega)]
            unfold mid; rw [if_neg (by omega)]
          have s3 : wr.frozen? ⟨gb, j + 1, none⟩ = false := World.ownsRow.frozenAt (unhide hown) (j + 1)
          have hE := app_El (unhide HGE)
          have hsz2 : ∀ x, G.El x → x < 256 := fun x hx => by have h2 : x < 2 ^ G.m := hx; have := pow_bd G.m m3 m8; omega
          have hT := hide (fun wx (hx : FieldAt G.m G.q b bp bl wx) => ftimes_drew G.m G.q b bp bl ((g ++ [0]).getD j 0) r wx m3 m8 G.isF hx (Gf.getD_El hE j) (unhide HR))
          have hP := hide (fun wx => fplus_any (.pointer (some ⟨b, 0, none⟩)) ((g ++ [0]).getD (j + 1) 0) (G.mul ((g ++ [0]).getD j 0) r) wx (hsz2 _ (Gf.getD_El hE _)) (hsz2 _ (G.El_mul (Gf.getD_El hE j) r)))
          have hst := step_at G g r j (by omega)
          rw [← hst] at hP
          have f1 := hide (fun d : Nat => show ((wr.drewN d).setCell ⟨gb, j + 1, none⟩ (.int .i64 (((Gf.stepGen G g r).getD (j + 1) 0 : Nat) : Int))).ownsRow (w.heap.size + 1) 3 1 (.slice (some ⟨gb, 0, none⟩) (k + 1 + 1) cp) (k + 1 + 1) (ints (midL G g r j)) from by
            have h1 := (World.ownsRow.stored (w := wr.drewN d) (unhide hown) (j + 1) (.int .i64 (((Gf.stepGen G g r).getD (j + 1) 0 : Nat) : Int))).1
            rw [ints_set, midL_step _ _ _ _ (by omega)] at h1
            exact h1)
          have f2 := hide (fun d : Nat => (unhide kp).up (Below.setCell (p := ⟨gb, j + 1, none⟩) (below_of_drewN (w.heap.size + 1) wr d) hgb (.int .i64 (((Gf.stepGen G g r).getD (j + 1) 0 : Nat) : Int))))
          have hfa := hide (unhide kp).fa
          have hEq : Gf.mul G.m G.q ((g ++ [0]).getD j 0) r = G.mul ((g ++ [0]).getD j 0) r := rfl
          rw [hEq] at hT
          clear hE hsz2 hst hown kp hml hEq
          generalize (Gf.stepGen G g r).getD (j + 1) 0 = y at *
          generalize G.mul ((g ++ [0]).getD j 0) r = z at *
          generalize (g ++ [0]).getD j 0 = a0 at *
          generalize (g ++ [0]).getD (j + 1) 0 = a1 at *
          have hI1 : (0 : Int) < (j : Int) + 1 := by omega
          have hI2 : (j : Int) + 1 < (k : Int) + 1 + 1 := by omega
          have hI3 : (j : Int) < (k : Int) + 1 + 1 := by omega
          have hI4 : (0 : Int) ≤ (j : Int) + 1 := by omega
          have hI5 : (j : Int) ≤ 1000 := by omega
          have hw1 : IntKind.i64.wrap (j : Int) = (j : Int) := wrap_small (by omega) (by omega)
          go_wp2
          refine quiet_tail 18 (by kernel_rfl) (by kernel_rfl) ?_
          simp only [List.take_succ_cons, List.take_zero, List.drop_succ_cons, List.drop_zero]
          repeat (quiet_step (first | exact Calls.quiet_of (unhide hT _ ((unhide hfa).heap rfl)) | exact Calls.quiet_of_same (unhide hP _)))
          refine wpQuiet_nil ?_
          intro d
          go_wp2
          exact ⟨⟨j, by omega, by go_num, unhide f1 d, unhide f2 d⟩, by simp [intOf]⟩
    · have e : k = l.length := by omega
      subst e
      have f1 := hide (show wr.ownsRow w.heap.size 3 1 (.slice (some ⟨bg, 0, none⟩) (l.length + 1) cap) (l.length + 1) (ints (genR G [1] l)) from by
        have h1 := unhide hown
        rw [List.take_of_length_le (Nat.le_refl _)] at h1
        exact World.ownsRow.mono h1 (by omega))
      have f2 := hide (unhide kp).be
      clear hown kp
      go_wp2
      go_ret
      exact ⟨bg, cap, rfl, unhide f1, unhide f2⟩
end Go.Proofs.YtohgmoclnicchaaDoor
