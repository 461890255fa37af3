import Derived.Test.YtohgmoclnicchaaDoorWAt
import Derived.Test.YtohgmoclnicchaaDoorQTail
namespace Go.Proofs.YtohgmoclnicchaaDoor
open Go.RowKit Go.Deep
open Gf (Cd)

theorem FieldAt.heap {m q b bp bl : Nat} {w w' : World} (h : FieldAt m q b bp bl w) (e : w'.heap = w.heap) : FieldAt m q b bp bl w' := h.of (by rw [e]) (by rw [e]) (by rw [e])
theorem FieldAt.drewN_eq (m q b bp bl : Nat) (w : World) (d : Nat) : FieldAt m q b bp bl (w.drewN d) = FieldAt m q b bp bl w :=
  propext ⟨fun h => h.of rfl rfl rfl, fun h => h.of rfl rfl rfl⟩
theorem FieldAt.drew_eq (m q b bp bl : Nat) (w : World) : FieldAt m q b bp bl w.drew = FieldAt m q b bp bl w :=
  propext ⟨fun h => h.of rfl rfl rfl, fun h => h.of rfl rfl rfl⟩
theorem FieldAt.set_eq (m q b bp bl : Nat) (w : World) (a : Addr) (v : Value) (h0 : b ≠ a.block) (h1 : bp ≠ a.block) (h2 : bl ≠ a.block) : FieldAt m q b bp bl (w.setCell a v) = FieldAt m q b bp bl w :=
  propext ⟨fun h => h.of (blk_setCell_other _ _ _ _ h0).symm (blk_setCell_other _ _ _ _ h1).symm (blk_setCell_other _ _ _ _ h2).symm, fun h => h.of (blk_setCell_other _ _ _ _ h0) (blk_setCell_other _ _ _ _ h1) (blk_setCell_other _ _ _ _ h2)⟩

/-- the block b begins with n numbers f. -/
def PRow (w : World) (b n : Nat) (f : Nat → Nat) : Prop := ∃ (N : Nat) (F : Nat → Value), n ≤ N ∧ w.rowIs b 3 N F ∧ ∀ i, i < n → F i = .int .i64 ((f i : Nat) : Int)
theorem PRow.cell {w : World} {b n : Nat} {f : Nat → Nat} (h : PRow w b n f) {i : Nat} (hi : i < n) : w.cell? ⟨b, i, none⟩ = some (.int .i64 ((f i : Nat) : Int)) := by
  obtain ⟨N, F, hN, hr, hF⟩ := h
  rw [hr.cell (show i < N by omega), hF i hi]
theorem PRow.frozen {w : World} {b n : Nat} {f : Nat → Nat} (h : PRow w b n f) (i : Nat) : w.frozen? ⟨b, i, none⟩ = false := by
  obtain ⟨N, F, hN, hr, hF⟩ := h
  exact hr.frozen i
theorem PRow.lt {w : World} {b n : Nat} {f : Nat → Nat} (h : PRow w b n f) : b < w.heap.size := by
  obtain ⟨N, F, hN, hr, hF⟩ := h
  exact hr.lt
theorem PRow.of_block {w w' : World} {b n : Nat} {f : Nat → Nat} (h : PRow w b n f) (e : w'.heap[b]? = w.heap[b]?) : PRow w' b n f := by
  obtain ⟨N, F, hN, hr, hF⟩ := h
  exact ⟨N, F, hN, hr.of_block e, hF⟩
theorem PRow.congr {w : World} {b n : Nat} {f g : Nat → Nat} (h : PRow w b n f) (e : ∀ i, i < n → f i = g i) : PRow w b n g := by
  obtain ⟨N, F, hN, hr, hF⟩ := h
  exact ⟨N, F, hN, hr, fun i hi => by rw [hF i hi, e i hi]⟩
theorem PRow.set {w : World} {b n : Nat} {f g : Nat → Nat} (h : PRow w b n f) (k x : Nat) (hg : ∀ i, i < n → g i = if i = k then x else f i) : PRow (w.setCell ⟨b, k, none⟩ (.int .i64 x)) b n g := by
  obtain ⟨N, F, hN, hr, hF⟩ := h
  refine ⟨N, _, hN, hr.set k (.int .i64 x), fun i hi => ?_⟩
  show (if i = k then Value.int IntKind.i64 x else F i) = _
  rw [hg i hi]
  by_cases e : i = k
  · rw [if_pos e, if_pos e]
  · rw [if_neg e, if_neg e, hF i hi]
theorem PRow.of_n {w : World} {b n : Nat} {f : Nat → Nat} (h : NRow w b n f) : PRow w b n f := ⟨n, _, Nat.le_refl _, h, fun _ _ => rfl⟩
theorem PRow.below {w w' : World} {b n : Nat} {f : Nat → Nat} (h : PRow w b n f) (hb : Below w.heap.size w w') : PRow w' b n f := h.of_block (hb.block b h.lt)

/-- what addMultiple keeps. -/
structure AddK (G : Gf.Fd) (b bp bl bx bg br : Nat) (g : List Nat) (w0 w : World) : Prop where
  fa : FieldAt G.m G.q b bp bl w
  c0 : w.cell? ⟨bx, 0, none⟩ = some (.func (.func 83) #[.pointer (some ⟨b, 0, none⟩)] #[])
  c1 : w.cell? ⟨bx, 1, none⟩ = some (.func (.func 60) #[.pointer (some ⟨b, 0, none⟩)] #[])
  gs : ∀ i, i < g.length → w.cell? ⟨bg, i, none⟩ = some (.int .i64 ((g.getD i 0 : Nat) : Int))
  out : Out (fun k => k = br) w0 w

theorem AddK.step {G : Gf.Fd} {b bp bl bx bg br : Nat} {g : List Nat} {w0 w : World} (h : AddK G b bp bl bx bg br g w0 w) (n0 : b ≠ br) (n1 : bp ≠ br) (n2 : bl ≠ br) (n3 : bx ≠ br) (n4 : bg ≠ br) (d k : Nat) (v : Value) : AddK G b bp bl bx bg br g w0 ((w.drewN d).setCell ⟨br, k, none⟩ v) := by
  refine ⟨?_, cell_blk (Ne.symm n3) h.c0, cell_blk (Ne.symm n3) h.c1, fun i hi => cell_blk (Ne.symm n4) (h.gs i hi), ?_⟩
  · rw [FieldAt.set_eq _ _ _ _ _ _ _ _ n0 n1 n2, FieldAt.drewN_eq]; exact h.fa
  · exact (h.out.trans (Out.of_below (below_of_drewN _ _ _))).set (p := ⟨br, k, none⟩) rfl v

set_option maxRecDepth 100000 in
set_option maxHeartbeats 4000000 in
theorem addMultiple_any (G : Gf.Fd) (b bp bl bg br o nr cap capg q : Nat) (g l : List Nat) (w : World) (m3 : 3 ≤ G.m) (m8 : G.m ≤ 8) (hF : FieldAt G.m G.q b bp bl w)
    (hl : Gf.AllEl G l) (hg : Gf.AllEl G g) (hq : G.El q) (hog : o + g.length ≤ l.length) (hll : l.length < 1024) (hnr : g.length ≤ nr)
    (hr : PRow w br l.length (fun i => l.getD i 0)) (hgr : ∀ i, i < g.length → w.cell? ⟨bg, i, none⟩ = some (.int .i64 ((g.getD i 0 : Nat) : Int)))
    (n0 : b ≠ br) (n1 : bp ≠ br) (n2 : bl ≠ br) (n4 : bg ≠ br) :
    Calls Tryd.prog 100 #[.agg #[.func (.func 83) #[.pointer (some ⟨b, 0, none⟩)] #[], .func (.func 60) #[.pointer (some ⟨b, 0, none⟩)] #[]], .slice (some ⟨br, o, none⟩) nr cap, .int .i64 (q : Int), .slice (some ⟨bg, 0, none⟩) g.length capg] w fun e w' => (∃ r, e = .returned r) ∧ PRow w' br l.length (fun j => (Gf.addAt l o (g.map fun a => G.mul q a)).getD j 0) ∧ Out (fun k => k = br) w w' := by
  have hlt : br < w.heap.size := PRow.lt hr
  have n3 : w.heap.size ≠ br := by omega
  have KP : Hid (AddK G b bp bl w.heap.size bg br g w (w.alloc (.cells #[.func (.func 83) #[.pointer (some ⟨b, 0, none⟩)] #[], .func (.func 60) #[.pointer (some ⟨b, 0, none⟩)] #[]] 101))) :=
    ⟨hF.below ((Below.refl _ _).alloc (Nat.le_refl _) _), by simp, by simp, fun i hi => below_cell ((Below.refl _ _).alloc (Nat.le_refl _) _) (hgr i hi), Out.of_below ((Below.refl _ _).alloc (Nat.le_refl _) _)⟩
  have HR := hide (show PRow (w.alloc (.cells #[.func (.func 83) #[.pointer (some ⟨b, 0, none⟩)] #[], .func (.func 60) #[.pointer (some ⟨b, 0, none⟩)] #[]] 101)) br l.length (fun j => inr G g l q o 0 j) from PRow.congr (f := fun i => l.getD i 0) (PRow.below hr ((Below.refl _ _).alloc (Nat.le_refl _) _)) (fun j _ => by rw [inr_zero]))
  have HL := hide hl
  have HG := hide hg
  have HQ := hide hq
  have HT := hide (fun i j wx (hi : G.El i) (hj : G.El j) (hx : FieldAt G.m G.q b bp bl wx) => ftimes_drew G.m G.q b bp bl i j wx m3 m8 G.isF hx hi hj)
  have HP := hide (fun (i j : Nat) wx (hi : i < 256) (hj : j < 256) => fplus_any (.pointer (some ⟨b, 0, none⟩)) i j wx hi hj)
  have hsz : ∀ x, G.El x → x < 256 := fun x hx => by have h2 : x < 2 ^ G.m := hx; have := pow_bd G.m m3 m8; omega
  have HZ := hide hsz
  clear hF hl hg hq hr hgr hsz
  go_enter Tryd.func100, Tryd.ntmps100
  go_wp2
  go_loopw [8, 9, 12] (fun _ _ i wr => ∃ k : Nat, k ≤ g.length ∧ i = .int .i64 k ∧ Hid (PRow wr br l.length (fun j => inr G g l q o k j)) ∧ Hid (AddK G b bp bl w.heap.size bg br g w wr)) (fun _ _ i _ => g.length - (intOf i).toNat)
  case atStart => exact ⟨0, by omega, rfl, HR, KP⟩
  case round =>
    clear KP HR
    obtain ⟨k, hk, rfl, hr, kp⟩ := hrel
    by_cases hkl : k < g.length
    · have hI : (k : Int) < (g.length : Int) := by omega
      have hI2 : (k : Int) < (nr : Int) := by omega
      have x0 := (unhide kp).c0
      have x1 := (unhide kp).c1
      have g1 := (unhide kp).gs k hkl
      have s1 : wr.cell? ⟨br, o + k, none⟩ = some (.int .i64 ((inr G g l q o k (o + k) : Nat) : Int)) := PRow.cell (unhide hr) (by omega)
      have s2 : wr.frozen? ⟨br, o + k, none⟩ = false := PRow.frozen (unhide hr) (o + k)
      have e1 := Gf.getD_El (unhide HG) k
      have e2 := inr_El (unhide HL) g (unhide HQ) o k (o + k)
      have e3 := G.El_mul (unhide HQ) (g.getD k 0)
      have HX := hide (show inr G g l q o k (o + k) ^^^ G.mul q (g.getD k 0) = inr G g l q o (k + 1) (o + k) by rw [inr_succ, if_pos rfl])
      have f1 := hide (fun d : Nat => show PRow ((wr.drewN d).setCell ⟨br, o + k, none⟩ (.int .i64 ((inr G g l q o (k + 1) (o + k) : Nat) : Int))) br l.length (fun j => inr G g l q o (k + 1) j) from
        PRow.set (w := wr.drewN d) (unhide hr) (o + k) _ (fun i _ => by
          by_cases e : i = o + k
          · subst e; rw [if_pos rfl]
          · rw [if_neg e, inr_succ, if_neg e]))
      have f2 := hide (fun d : Nat => (unhide kp).step n0 n1 n2 n3 n4 d (o + k) (.int .i64 ((inr G g l q o (k + 1) (o + k) : Nat) : Int)))
      have hT1 := hide (fun wx hx => unhide HT q (g.getD k 0) wx (unhide HQ) e1 hx)
      have hP1 := hide (fun wx => HP _ _ wx (unhide HZ _ e2) (unhide HZ _ e3))
      rw [unhide HX] at hP1
      have hfa := hide (unhide kp).fa
      clear e1 e2 e3 hr kp HX HT HP HG HL HQ HZ
      have hEq : Gf.mul G.m G.q q (g.getD k 0) = G.mul q (g.getD k 0) := rfl
      rw [hEq] at hT1
      clear hEq
      generalize inr G g l q o k (o + k) = y0 at *
      generalize inr G g l q o (k + 1) (o + k) = y at *
      generalize G.mul q (g.getD k 0) = z at *
      generalize g.getD k 0 = x at *
      go_wp2
      refine quiet_tail 14 (by kernel_rfl) (by kernel_rfl) ?_
      simp only [List.take_succ_cons, List.take_zero, List.drop_succ_cons, List.drop_zero]
      repeat (quiet_step (first | exact Calls.quiet_of (unhide hT1 _ ((unhide hfa).heap rfl)) | exact Calls.quiet_of_same (unhide hP1 _)))
      refine wpQuiet_nil ?_
      intro d
      go_wp2
      exact ⟨⟨k + 1, by omega, by go_num, unhide f1 d, unhide f2 d⟩, by simp [intOf]; omega⟩
    · have e : k = g.length := by omega
      have f1 := hide (show PRow wr br l.length (fun j => (Gf.addAt l o (g.map fun a => G.mul q a)).getD j 0) from PRow.congr (unhide hr) (fun j hj => by rw [e, inr_all _ _ _ _ _ _ hj]))
      have f2 := hide (unhide kp).out
      clear hr kp e
      go_wp2
      go_end0
      exact ⟨⟨_, rfl⟩, unhide f1, unhide f2⟩
end Go.Proofs.YtohgmoclnicchaaDoor
