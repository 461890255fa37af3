import Derived.Test.YtnpkkcbadcmgkaaGreatDoorWAt
import Derived.Test.YtnpkkcbadcmgkaaGreatDoorQTail
import Derived.Lib.SliceRun
import Derived.Deep.AppendLies
namespace Go.Proofs.YtnpkkcbadcmgkaaGreatDoor
open Go.RowKit Go.Deep
open Gf (Cd)

theorem FieldAt.heap {m q b bp bl : Nat} {w w' : World} (h : FieldAt m q b bp bl w) (e : w'.heap = w.heap) : FieldAt m q b bp bl w' := h.of (by rw [e]) (by rw [e]) (by rw [e])
theorem FieldAt.drewN_eq (m q b bp bl : Nat) (w : World) (d : Nat) : FieldAt m q b bp bl (w.drewN d) = FieldAt m q b bp bl w :=
  propext ⟨fun h => h.of rfl rfl rfl, fun h => h.of rfl rfl rfl⟩
theorem FieldAt.drew_eq (m q b bp bl : Nat) (w : World) : FieldAt m q b bp bl w.drew = FieldAt m q b bp bl w :=
  propext ⟨fun h => h.of rfl rfl rfl, fun h => h.of rfl rfl rfl⟩
theorem FieldAt.set_eq (m q b bp bl : Nat) (w : World) (a : Addr) (v : Value) (h0 : b ≠ a.block) (h1 : bp ≠ a.block) (h2 : bl ≠ a.block) : FieldAt m q b bp bl (w.setCell a v) = FieldAt m q b bp bl w :=
  propext ⟨fun h => h.of (blk_setCell_other _ _ _ _ h0).symm (blk_setCell_other _ _ _ _ h1).symm (blk_setCell_other _ _ _ _ h2).symm, fun h => h.of (blk_setCell_other _ _ _ _ h0) (blk_setCell_other _ _ _ _ h1) (blk_setCell_other _ _ _ _ h2)⟩

/-- the block b begins with n numbers f. -/
def PRow (w : World) (b n : Nat) (f : Nat → Nat) : Prop := ∃ (N : Nat) (F : Nat → Value), n ≤ N ∧ w.rowIs b 3 N F ∧ ∀ i, i < n → F i = .int .i64 ((f i : Nat) : Int)
theorem PRow.cell {w : World} {b n : Nat} {f : Nat → Nat} (h : PRow w b n f) {i : Nat} (hi : i < n) : w.cell? ⟨b, i, none⟩ = some (.int .i64 ((f i : Nat) : Int)) := by
  obtain ⟨N, F, hN, hr, hF⟩ := h
  rw [hr.cell (show i < N by omega), hF i hi]
theorem PRow.frozen {w : World} {b n : Nat} {f : Nat → Nat} (h : PRow w b n f) (i : Nat) : w.frozen? ⟨b, i, none⟩ = false := by
  obtain ⟨N, F, hN, hr, hF⟩ := h
  exact hr.frozen i
theorem PRow.lt {w : World} {b n : Nat} {f : Nat → Nat} (h : PRow w b n f) : b < w.heap.size := by
  obtain ⟨N, F, hN, hr, hF⟩ := h
  exact hr.lt
theorem PRow.of_block {w w' : World} {b n : Nat} {f : Nat → Nat} (h : PRow w b n f) (e : w'.heap[b]? = w.heap[b]?) : PRow w' b n f := by
  obtain ⟨N, F, hN, hr, hF⟩ := h
  exact ⟨N, F, hN, hr.of_block e, hF⟩
theorem PRow.congr {w : World} {b n : Nat} {f g : Nat → Nat} (h : PRow w b n f) (e : ∀ i, i < n → f i = g i) : PRow w b n g := by
  obtain ⟨N, F, hN, hr, hF⟩ := h
  exact ⟨N, F, hN, hr, fun i hi => by rw [hF i hi, e i hi]⟩
theorem PRow.set {w : World} {b n : Nat} {f g : Nat → Nat} (h : PRow w b n f) (k x : Nat) (hg : ∀ i, i < n → g i = if i = k then x else f i) : PRow (w.setCell ⟨b, k, none⟩ (.int .i64 x)) b n g := by
  obtain ⟨N, F, hN, hr, hF⟩ := h
  refine ⟨N, _, hN, hr.set k (.int .i64 x), fun i hi => ?_⟩
  show (if i = k then Value.int IntKind.i64 x else F i) = _
  rw [hg i hi]
  by_cases e : i = k
  · rw [if_pos e, if_pos e]
  · rw [if_neg e, if_neg e, hF i hi]
theorem PRow.of_n {w : World} {b n : Nat} {f : Nat → Nat} (h : NRow w b n f) : PRow w b n f := ⟨n, _, Nat.le_refl _, h, fun _ _ => rfl⟩
theorem PRow.below {w w' : World} {b n : Nat} {f : Nat → Nat} (h : PRow w b n f) (hb : Below w.heap.size w w') : PRow w' b n f := h.of_block (hb.block b h.lt)

/-- what AddMultiple keeps. -/
structure AddK (G : Gf.Fd) (b bp bl bx bg br : Nat) (g : List Nat) (w0 w : World) : Prop where
  fa : FieldAt G.m G.q b bp bl w
  c0 : w.cell? ⟨bx, 0, none⟩ = some (.func (.func 56) #[.pointer (some ⟨b, 0, none⟩)] #[])
  c1 : w.cell? ⟨bx, 1, none⟩ = some (.func (.func 57) #[.pointer (some ⟨b, 0, none⟩)] #[])
  gs : ∀ i, i < g.length → w.cell? ⟨bg, i, none⟩ = some (.int .i64 ((g.getD i 0 : Nat) : Int))
  out : Out (fun k => k = br) w0 w

theorem AddK.step {G : Gf.Fd} {b bp bl bx bg br : Nat} {g : List Nat} {w0 w : World} (h : AddK G b bp bl bx bg br g w0 w) (n0 : b ≠ br) (n1 : bp ≠ br) (n2 : bl ≠ br) (n3 : bx ≠ br) (n4 : bg ≠ br) (d k : Nat) (v : Value) : AddK G b bp bl bx bg br g w0 ((w.drewN d).setCell ⟨br, k, none⟩ v) := by
  refine ⟨?_, cell_blk (Ne.symm n3) h.c0, cell_blk (Ne.symm n3) h.c1, fun i hi => cell_blk (Ne.symm n4) (h.gs i hi), ?_⟩
  · rw [FieldAt.set_eq _ _ _ _ _ _ _ _ n0 n1 n2, FieldAt.drewN_eq]; exact h.fa
  · exact (h.out.trans (Out.of_below (below_of_drewN _ _ _))).set (p := ⟨br, k, none⟩) rfl v

set_option maxRecDepth 100000 in
set_option maxHeartbeats 4000000 in
theorem addMultiple_any (G : Gf.Fd) (b bp bl bg br o nr cap capg q : Nat) (g l : List Nat) (w : World) (m3 : 3 ≤ G.m) (m8 : G.m ≤ 8) (hF : FieldAt G.m G.q b bp bl w)
    (hl : Gf.AllEl G l) (hg : Gf.AllEl G g) (hq : G.El q) (hog : o + g.length ≤ l.length) (hll : l.length < 1024) (hnr : g.length ≤ nr)
    (hr : PRow w br l.length (fun i => l.getD i 0)) (hgr : ∀ i, i < g.length → w.cell? ⟨bg, i, none⟩ = some (.int .i64 ((g.getD i 0 : Nat) : Int)))
    (n0 : b ≠ br) (n1 : bp ≠ br) (n2 : bl ≠ br) (n4 : bg ≠ br) :
    Calls Tryz.prog 87 #[.agg #[.func (.func 56) #[.pointer (some ⟨b, 0, none⟩)] #[], .func (.func 57) #[.pointer (some ⟨b, 0, none⟩)] #[]], .slice (some ⟨br, o, none⟩) nr cap, .int .i64 (q : Int), .slice (some ⟨bg, 0, none⟩) g.length capg] w fun e w' => (∃ r, e = .returned r) ∧ PRow w' br l.length (fun j => (Gf.addAt l o (g.map fun a => G.mul q a)).getD j 0) ∧ Out (fun k => k = br) w w' := by
  have hlt : br < w.heap.size := PRow.lt hr
  have n3 : w.heap.size ≠ br := by omega
  have KP : Hid (AddK G b bp bl w.heap.size bg br g w (w.alloc (.cells #[.func (.func 56) #[.pointer (some ⟨b, 0, none⟩)] #[], .func (.func 57) #[.pointer (some ⟨b, 0, none⟩)] #[]] 73))) :=
    ⟨hF.below ((Below.refl _ _).alloc (Nat.le_refl _) _), by simp, by simp, fun i hi => below_cell ((Below.refl _ _).alloc (Nat.le_refl _) _) (hgr i hi), Out.of_below ((Below.refl _ _).alloc (Nat.le_refl _) _)⟩
  have HR := hide (show PRow (w.alloc (.cells #[.func (.func 56) #[.pointer (some ⟨b, 0, none⟩)] #[], .func (.func 57) #[.pointer (some ⟨b, 0, none⟩)] #[]] 73)) br l.length (fun j => inr G g l q o 0 j) from PRow.congr (f := fun i => l.getD i 0) (PRow.below hr ((Below.refl _ _).alloc (Nat.le_refl _) _)) (fun j _ => by rw [inr_zero]))
  have HL := hide hl
  have HG := hide hg
  have HQ := hide hq
  have HT := hide (fun i j wx (hi : G.El i) (hj : G.El j) (hx : FieldAt G.m G.q b bp bl wx) => ftimes_drew G.m G.q b bp bl i j wx m3 m8 G.isF hx hi hj)
  have HP := hide (fun (i j : Nat) wx (hi : i < 256) (hj : j < 256) => fplus_any (.pointer (some ⟨b, 0, none⟩)) i j wx hi hj)
  have hsz : ∀ x, G.El x → x < 256 := fun x hx => by have h2 : x < 2 ^ G.m := hx; have := pow_bd G.m m3 m8; omega
  have HZ := hide hsz
  clear hF hl hg hq hr hgr hsz
  go_enter Tryz.func87, Tryz.ntmps87
  go_wp2
  go_loopw [8, 9, 12] (fun _ _ i wr => ∃ k : Nat, k ≤ g.length ∧ i = .int .i64 k ∧ Hid (PRow wr br l.length (fun j => inr G g l q o k j)) ∧ Hid (AddK G b bp bl w.heap.size bg br g w wr)) (fun _ _ i _ => g.length - (intOf i).toNat)
  case atStart => exact ⟨0, by omega, rfl, HR, KP⟩
  case round =>
    clear KP HR
    obtain ⟨k, hk, rfl, hr, kp⟩ := hrel
    by_cases hkl : k < g.length
    · have hI : (k : Int) < (g.length : Int) := by omega
      have hI2 : (k : Int) < (nr : Int) := by omega
      have x0 := (unhide kp).c0
      have x1 := (unhide kp).c1
      have g1 := (unhide kp).gs k hkl
      have s1 : wr.cell? ⟨br, o + k, none⟩ = some (.int .i64 ((inr G g l q o k (o + k) : Nat) : Int)) := PRow.cell (unhide hr) (by omega)
      have s2 : wr.frozen? ⟨br, o + k, none⟩ = false := PRow.frozen (unhide hr) (o + k)
      have e1 := Gf.getD_El (unhide HG) k
      have e2 := inr_El (unhide HL) g (unhide HQ) o k (o + k)
      have e3 := G.El_mul (unhide HQ) (g.getD k 0)
      have HX := hide (show inr G g l q o k (o + k) ^^^ G.mul q (g.getD k 0) = inr G g l q o (k + 1) (o + k) by rw [inr_succ, if_pos rfl])
      have f1 := hide (fun d : Nat => show PRow ((wr.drewN d).setCell ⟨br, o + k, none⟩ (.int .i64 ((inr G g l q o (k + 1) (o + k) : Nat) : Int))) br l.length (fun j => inr G g l q o (k + 1) j) from
        PRow.set (w := wr.drewN d) (unhide hr) (o + k) _ (fun i _ => by
          by_cases e : i = o + k
          · subst e; rw [if_pos rfl]
          · rw [if_neg e, inr_succ, if_neg e]))
      have f2 := hide (fun d : Nat => (unhide kp).step n0 n1 n2 n3 n4 d (o + k) (.int .i64 ((inr G g l q o (k + 1) (o + k) : Nat) : Int)))
      have hT1 := hide (fun wx hx => unhide HT q (g.getD k 0) wx (unhide HQ) e1 hx)
      have hP1 := hide (fun wx => HP _ _ wx (unhide HZ _ e2) (unhide HZ _ e3))
      rw [unhide HX] at hP1
      have hfa := hide (unhide kp).fa
      clear e1 e2 e3 hr kp HX HT HP HG HL HQ HZ
      have hEq : Gf.mul G.m G.q q (g.getD k 0) = G.mul q (g.getD k 0) := rfl
      rw [hEq] at hT1
      clear hEq
      generalize inr G g l q o k (o + k) = y0 at *
      generalize inr G g l q o (k + 1) (o + k) = y at *
      generalize G.mul q (g.getD k 0) = z at *
      generalize g.getD k 0 = x at *
      go_wp2
      refine quiet_tail 14 (by kernel_rfl) (by kernel_rfl) ?_
      simp only [List.take_succ_cons, List.take_zero, List.drop_succ_cons, List.drop_zero]
      repeat (quiet_step (first | exact Calls.quiet_of (unhide hT1 _ ((unhide hfa).heap rfl)) | exact Calls.quiet_of_same (unhide hP1 _)))
      refine wpQuiet_nil ?_
      intro d
      go_wp2
      exact ⟨⟨k + 1, by omega, by go_num, unhide f1 d, unhide f2 d⟩, by simp [intOf]; omega⟩
    · have e : k = g.length := by omega
      have f1 := hide (show PRow wr br l.length (fun j => (Gf.addAt l o (g.map fun a => G.mul q a)).getD j 0) from PRow.congr (unhide hr) (fun j hj => by rw [e, inr_all _ _ _ _ _ _ hj]))
      have f2 := hide (unhide kp).out
      clear hr kp e
      go_wp2
      go_end0
      exact ⟨⟨_, rfl⟩, unhide f1, unhide f2⟩
end Go.Proofs.YtnpkkcbadcmgkaaGreatDoor

namespace Go.Proofs.YtnpkkcbadcmgkaaGreatDoor
open Go.RowKit Go.Deep
open Gf (Cd)

theorem PRow.of_own {w : World} {base g cap : Nat} {l : List Nat} (h : w.ownsRow base 3 1 (.slice (some ⟨g, 0, none⟩) l.length cap) l.length (ints l)) : PRow w g l.length (fun i => l.getD i 0) ∧ l.length ≤ cap ∧ base ≤ g := by
  obtain ⟨_, h | ⟨g', cap', cur, hv, hbase, hh, hnc, _, hsz, ht⟩⟩ := h
  · simp at h
  · simp only [Value.slice.injEq, Option.some.injEq, Addr.mk.injEq, and_true, true_and] at hv
    obtain ⟨rfl, rfl⟩ := hv
    refine ⟨⟨cur.size, fun i => cur.getD i (.int .i64 0), by omega, ⟨cur, hh, rfl, fun i hi => by simp [hi]⟩, fun i hi => ?_⟩, hnc, hbase⟩
    have h1 : (cur.toList.take (l.length * 1))[i]? = (ints l)[i]? := by rw [ht]
    rw [List.getElem?_take_of_lt (by omega)] at h1
    have h2 : cur[i]? = some (Value.int .i64 ((l.getD i 0 : Nat) : Int)) := by
      rw [Array.getElem?_toList] at h1
      rw [h1]
      simp [ints, List.getD_eq_getElem?_getD, List.getElem?_eq_getElem hi]
    have hi2 : i < cur.size := by omega
    have h3 : cur.getD i (.int .i64 0) = cur[i] := by simp [hi2]
    rw [Array.getElem?_eq_getElem hi2] at h2
    show cur.getD i (.int .i64 0) = _
    rw [h3]
    exact Option.some.inj h2

theorem ints_cells {w : World} {b o : Nat} {l : List Nat} (h : ∀ i, i < l.length → w.cell? ⟨b, o + i, none⟩ = some (.int .i64 ((l.getD i 0 : Nat) : Int))) : ∀ j u, (ints l)[j]? = some u → w.cell? ((⟨b, o, none⟩ : Addr).add j) = some u := by
  intro j u hj
  have hjl : j < l.length := by
    rcases Nat.lt_or_ge j l.length with h | h
    · exact h
    · rw [List.getElem?_eq_none (by simpa [ints] using h)] at hj; cases hj
  have h2 : (⟨b, o, none⟩ : Addr).add j = ⟨b, o + j, none⟩ := by simp [Addr.add]
  rw [h2, h j hjl, ← hj]
  simp [ints, List.getD_eq_getElem?_getD, List.getElem?_eq_getElem hjl]

theorem mem_ints {l : List Nat} {u : Value} (h : u ∈ ints l) : u.oneCell' = true := by
  unfold ints at h
  obtain ⟨x, _, rfl⟩ := List.mem_map.1 h
  rfl

set_option maxRecDepth 100000 in
set_option maxHeartbeats 1000000 in
theorem clone_any (b o cap : Nat) (l : List Nat) (w : World) (hl : l.length < 1024) (h0 : 0 < l.length) (h : ∀ i, i < l.length → w.cell? ⟨b, o + i, none⟩ = some (.int .i64 ((l.getD i 0 : Nat) : Int))) :
    Calls Tryz.prog 47 #[.slice (some ⟨b, o, none⟩) l.length cap] w fun e w' => ∃ br cr, e = .returned (.slice (some ⟨br, 0, none⟩) l.length cr) ∧ w.heap.size ≤ br ∧ l.length ≤ cr ∧ PRow w' br l.length (fun i => l.getD i 0) ∧ Below w.heap.size w w' := by
  have qT : ∀ (w : World) (a : Option Addr) (n c n' c' : Nat), (binOp .eql 24 (.slice a n c) (.slice none n' c')).run Tryz.prog w = .ok (.bool a.isNone) w := fun w a n c n' c' => Lib.run_eql_slice_nil w _ _ a n c n' c' Tryz.underlying24
  obtain ⟨inf, hi, hz0, hz1, hz2⟩ := info_parts (show (Tryz.prog.info? 3).map (fun i => (i.zero, i.size, i.bytes)) = some (some (.int .i64 0), 1, 8) by kernel_rfl)
  have hown : Hid ((w.alloc (.cells #[] 3)).ownsRow w.heap.size 3 1 (.slice (some ⟨w.heap.size, 0, none⟩) 0 0) 0 []) := World.ownsRow_lit (base := w.heap.size) (e := 3) (size := 1) w #[] 0 (Nat.le_refl _) (by unfold maxLen; omega) rfl
  have hc := hide (ints_cells (w := w.alloc (.cells #[] 3)) (fun i hi => below_cell ((Below.refl _ _).alloc (Nat.le_refl _) _) (h i hi)))
  clear h
  go_enter Tryz.func47, Tryz.ntmps47
  go_wp2_with (at_builtin; refine wpList_append_own _ rfl _ _ 24 rfl w.heap.size 3 inf (.int .i64 0) 1 8 Tryz.underlying24 hi hz0 hz1 hz2 rfl (by decide) _ _ _ rfl (unhide hown) ⟨b, o, none⟩ l.length cap (ints l) rfl (by simp [ints]) (unhide hc) (fun u hu => mem_ints hu) ?c3 ?c4 ?c5 ?_)
  case c3 => unfold maxLen; omega
  case c4 => omega
  case c5 => simp
  intro v' w1 hown' hgrow _
  have hB := hide (((Below.refl w.heap.size w).alloc (Nat.le_refl _) (.cells #[] 3)).grown hgrow (by simp) (fun r hr => ((unhide hown).lt r hr).1))
  have ho : w1.ownsRow w.heap.size 3 1 v' l.length (ints l) := hown'
  obtain ⟨br, cr, rfl, hbr, _⟩ := World.ownsRow.form ho h0
  obtain ⟨hp, hcr, _⟩ := PRow.of_own ho
  have HP := hide hp
  clear hown' hgrow ho hp hc hown qT
  go_wp2
  go_ret
  exact ⟨br, cr, by simp, hbr, hcr, unhide HP, unhide hB⟩

/-- what Remainder keeps. -/
structure RemK (G : Gf.Fd) (b bp bl bg : Nat) (g : List Nat) (w0 w : World) : Prop where
  fa : FieldAt G.m G.q b bp bl w
  c0 : w.cell? ⟨w0.heap.size, 0, none⟩ = some (.func (.func 56) #[.pointer (some ⟨b, 0, none⟩)] #[])
  c1 : w.cell? ⟨w0.heap.size, 1, none⟩ = some (.func (.func 57) #[.pointer (some ⟨b, 0, none⟩)] #[])
  gs : ∀ i, i < g.length → w.cell? ⟨bg, i, none⟩ = some (.int .i64 ((g.getD i 0 : Nat) : Int))
  be : Below w0.heap.size w0 w

theorem RemK.out {G : Gf.Fd} {b bp bl bg br : Nat} {g : List Nat} {w0 w w' : World} (h : RemK G b bp bl bg g w0 w) (ho : Out (fun k => k = br) w w') (n0 : b ≠ br) (n1 : bp ≠ br) (n2 : bl ≠ br) (n3 : w0.heap.size ≠ br) (n4 : bg ≠ br) (hbr : w0.heap.size ≤ br) : RemK G b bp bl bg g w0 w' :=
  ⟨h.fa.of (ho.block _ (lt_of_cell h.fa.c0) n0) (ho.block _ h.fa.pows.lt n1) (ho.block _ h.fa.logs.lt n2), ho.cell h.c0 n3, ho.cell h.c1 n3, fun i hi => ho.cell (h.gs i hi) n4, h.be.trans (ho.below (fun k hk => by omega) h.be.size)⟩

set_option maxRecDepth 100000 in
set_option maxHeartbeats 4000000 in
theorem remainder_any (G : Gf.Fd) (b bp bl bg bd capd capg : Nat) (g l : List Nat) (w : World) (m3 : 3 ≤ G.m) (m8 : G.m ≤ 8) (hF : FieldAt G.m G.q b bp bl w)
    (hl : Gf.AllEl G l) (hg : Gf.AllEl G g) (hg1 : 2 ≤ g.length) (hgl : g.length ≤ l.length) (hll : l.length < 1024)
    (hd : ∀ i, i < l.length → w.cell? ⟨bd, 0 + i, none⟩ = some (.int .i64 ((l.getD i 0 : Nat) : Int))) (hgr : ∀ i, i < g.length → w.cell? ⟨bg, i, none⟩ = some (.int .i64 ((g.getD i 0 : Nat) : Int))) (hbg : bg < w.heap.size) :
    Calls Tryz.prog 68 #[.agg #[.func (.func 56) #[.pointer (some ⟨b, 0, none⟩)] #[], .func (.func 57) #[.pointer (some ⟨b, 0, none⟩)] #[]], .slice (some ⟨bd, 0, none⟩) l.length capd, .slice (some ⟨bg, 0, none⟩) g.length capg] w fun e w' => ∃ br o nr cr, e = .returned (.slice (some ⟨br, o, none⟩) nr cr) ∧ o + g.length = l.length + 1 ∧ nr + 1 = g.length ∧ nr ≤ cr ∧ w.heap.size ≤ br ∧ PRow w' br l.length (fun j => (Gf.divTo G g l o).getD j 0) ∧ Below w.heap.size w w' := by
  have KP : Hid (RemK G b bp bl bg g w (w.alloc (.cells #[.func (.func 56) #[.pointer (some ⟨b, 0, none⟩)] #[], .func (.func 57) #[.pointer (some ⟨b, 0, none⟩)] #[]] 73))) :=
    ⟨hF.below ((Below.refl _ _).alloc (Nat.le_refl _) _), by simp, by simp, fun i hi => below_cell ((Below.refl _ _).alloc (Nat.le_refl _) _) (hgr i hi), (Below.refl _ _).alloc (Nat.le_refl _) _⟩
  have HC := hide (clone_any bd 0 capd l (w.alloc (.cells #[.func (.func 56) #[.pointer (some ⟨b, 0, none⟩)] #[], .func (.func 57) #[.pointer (some ⟨b, 0, none⟩)] #[]] 73)) hll (by omega) (fun i hi => below_cell ((Below.refl _ _).alloc (Nat.le_refl _) _) (hd i hi)))
  have f0 := lt_of_cell hF.c0
  have f1 := hF.pows.lt
  have f2 := hF.logs.lt
  have HL := hide hl
  have HG := hide hg
  clear hF hl hg hd hgr
  go_enter Tryz.func68, Tryz.ntmps68
  go_wp2_with fail
  refine (unhide HC).mono ?_
  rintro e w1 ⟨br, cr, rfl, hbr, hcr, hp, hb⟩
  have hbr' : w.heap.size + 1 ≤ br := by simpa using hbr
  have HP := hide hp
  have KP1 := hide ((unhide KP).out (br := br) (Out.of_below hb) (by have : b < w.heap.size := f0; omega) (by omega) (by omega) (by omega) (by omega) (by omega))
  clear HC KP hp hb hbr
  go_wp2
  have n0 : b ≠ br := by have : b < w.heap.size := f0; omega
  go_loopw [7] (fun v wr => ∃ (i nr c : Nat), v = .slice (some ⟨br, i, none⟩) nr c ∧ nr + i = l.length ∧ g.length ≤ nr + 1 ∧ nr ≤ c ∧ Hid (PRow wr br l.length (fun j => (Gf.divTo G g l i).getD j 0)) ∧ Hid (RemK G b bp bl bg g w wr)) (fun v _ => match v with | .slice _ n _ => n | _ => 0)
  case atStart => exact ⟨0, l.length, cr, rfl, by omega, by omega, hcr, HP, KP1⟩
  case round =>
    clear HP KP1
    obtain ⟨i, nr, c, rfl, hni, hgn, hnc, hp, kp⟩ := hrel
    by_cases hlt : g.length ≤ nr
    · have hI : (g.length : Int) ≤ (nr : Int) := by omega
      have x0 := (unhide kp).c0
      have x1 := (unhide kp).c1
      have hI0 : (0 : Int) < (nr : Int) := by omega
      have hN0 : 0 < nr := by omega
      have hN1 : ¬ nr = 0 := by omega
      have s1 : wr.cell? ⟨br, i, none⟩ = some (.int .i64 (((Gf.divTo G g l i).getD i 0 : Nat) : Int)) := PRow.cell (unhide hp) (by omega)
      have e0 := Gf.divTo_El (G := G) (g := g) (unhide HL) i
      have el := Gf.divTo_length G g l i
      have hA := hide (fun wx (hx : RemK G b bp bl bg g w wx) (hpx : PRow wx br l.length (fun j => (Gf.divTo G g l i).getD j 0)) => addMultiple_any G b bp bl bg br i nr c capg ((Gf.divTo G g l i).getD i 0) g (Gf.divTo G g l i) wx m3 m8 hx.fa e0 (unhide HG) (Gf.getD_El e0 i) (by rw [el]; omega) (by rw [el]; exact hll) hlt (by rw [el]; exact hpx) hx.gs n0 (by omega) (by omega) (by omega))
      have hstep := hide (show Gf.addAt (Gf.divTo G g l i) i (g.map fun a => G.mul ((Gf.divTo G g l i).getD i 0) a) = Gf.divTo G g l (i + 1) from rfl)
      rw [unhide hstep, el] at hA
      clear hstep e0 el HG HL
      generalize (Gf.divTo G g l i).getD i 0 = q at *
      have hkd := hide (show RemK G b bp bl bg g w wr.drew from (unhide kp).out (br := br) (Out.of_below (below_of_drewN _ _ 1)) n0 (by omega) (by omega) (by omega) (by omega) (by omega))
      have hpd := hide (show PRow wr.drew br l.length (fun j => (Gf.divTo G g l i).getD j 0) from (unhide hp).of_block rfl)
      clear hp kp
      go_wp2
      refine region_tail 6 (by kernel_rfl) (by kernel_rfl) ?_
      simp only [List.take_succ_cons, List.take_zero, List.drop_succ_cons, List.drop_zero]
      repeat still_step
      refine wpStill_nil ?_
      go_wp2_with fail
      refine (unhide hA _ (unhide hkd) (unhide hpd)).mono ?_
      rintro e w2 ⟨⟨r, rfl⟩, hp2, ho⟩
      have HP2 := hide hp2
      have K2 := hide ((unhide hkd).out ho n0 (by omega) (by omega) (by omega) (by omega) (by omega))
      clear hp2 ho hA hkd hpd x0 x1 s1
      go_wp2
      refine ⟨⟨i + 1, nr - 1, c - 1, rfl, by omega, by omega, by omega, HP2, K2⟩, by simp; omega⟩
    · have hI : ¬ (g.length : Int) ≤ (nr : Int) := by omega
      have hbe := hide (unhide kp).be
      clear kp
      go_wp2
      go_ret
      exact ⟨br, i, nr, c, rfl, by omega, by omega, hnc, by omega, unhide hp, unhide hbe⟩
end Go.Proofs.YtnpkkcbadcmgkaaGreatDoor
