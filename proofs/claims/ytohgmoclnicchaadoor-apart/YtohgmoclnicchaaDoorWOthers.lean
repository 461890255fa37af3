import Derived.Test.YtohgmoclnicchaaDoorWMade
namespace Go.Proofs.YtohgmoclnicchaaDoor
open Go.RowKit Go.Deep
open Gf (Cd)
variable {B : Nat} (P : Pg B)

theorem rd_nil (w : World) : Rd w (.slice none 0 0) [] := ⟨none, 0, rfl, by unfold maxLen; simp, fun i hi => by simp at hi⟩
theorem cap_self (a : Option Addr) (n : Nat) : CapOk (.slice a n n) := fun _ _ _ e => by cases e; exact Nat.le_refl _
theorem off_none (D : Nat → Prop) (n cap : Nat) : Off D (.slice none n cap) := fun _ _ _ _ _ e => by cases e
theorem off_ge {D : Nat → Prop} {b o n cap s : Nat} (hD : ∀ k, D k → k < s) (hb : s ≤ b) : Off D (.slice (some ⟨b, o, none⟩) n cap) := fun _ _ _ _ _ e hd => by
  cases e
  have := hD _ hd
  omega
theorem getD_replicate (n : Nat) (x : Int) (i : Nat) (h : i < n) : (List.replicate n x).getD i 0 = x := by
  rw [List.getD_eq_getElem?_getD, List.getElem?_replicate, if_pos h]; rfl
theorem row_zero_rd {w : World} {b n : Nat} (h : Row w b n (fun _ => 0)) (hm : n ≤ 256) : Rd w (.slice (some ⟨b, 0, none⟩) n n) (List.replicate n 0) := by
  have := Row.rd h 0 (List.replicate n 0) n (by simp) (by simp; unfold maxLen; omega) (fun i hi => by rw [getD_replicate n 0 i (by simpa using hi)])
  simpa using this

theorem Out.setNew {D : Nat → Prop} {w w' : World} (h : Out D w w') {p : Addr} (hp : w.heap.size ≤ p.block) (u : Value) : Out D w (w'.setCell p u) :=
  ⟨h.os, h.tape, h.output, by simpa [World.setCell] using h.size, fun k hk hD => (Below.heap_setCell w' p u k (by omega)).trans (h.block k hk hD)⟩

theorem encP_any {c : Cd} {l : List Int} {w w' : World} {e : Ending} (m3 : 3 ≤ c.G.m) (m8 : c.G.m ≤ 8) (ok : c.Ok) (h : EncP c l w w' e) :
    ∃ v i j l', e = .returned (.tuple #[v, .int .i64 i, .int .i64 j]) ∧ Rd w' v l' ∧ l'.length ≤ 256 := by
  rcases h with ⟨_, v, rfl, hr⟩ | ⟨hg, v, b, _, rfl, hr⟩
  · exact ⟨v, _, _, [], rfl, hr, by simp⟩
  · obtain ⟨h1, h2⟩ := given_ok.1 hg
    refine ⟨v, _, _, _, rfl, hr.rd, ?_⟩
    rw [List.length_map, Gf.word_length ok (nat_msg c h1 h2)]
    obtain ⟨hn1, hn2⟩ := Pre.nb (c := c) ⟨m3, m8, ok.f, ok.d2, ok.dn⟩
    omega

def oneF (j : Nat) : Nat → Int := fun i => if i < j then 1 else 0

set_option maxHeartbeats 2000000 in
theorem others_any (c : Cd) (F : Nat → Prop) (v : Value) (w : World) (m3 : 3 ≤ c.G.m) (m8 : c.G.m ≤ 8) (ok : c.Ok) (hC : P.Cod c F v w) (hG : P.Gl w) (hB : B ≤ w.heap.size) :
    Calls Tryd.prog 47 #[v, pv c.G.m c.G.q c.first c.delta c.short c.cut c.bin] w fun e w' => (∃ r, e = .returned r) ∧ Out F w w' ∧ P.Cod c F v w' := by
  have hpre : Pre c := ⟨m3, m8, ok.f, ok.d2, ok.dn⟩
  obtain ⟨hn1, hn2⟩ := hpre.nb
  have hK := Gf.K_le ok
  have hs := ok.s
  obtain ⟨a, rfl⟩ := P.ptr hC
  have hS := hide (fun wx => Size_any c wx m3 m8 ok)
  have hE := hide (fun wx (hc : P.Cod c F (.pointer (some a)) wx) (hx : P.Gl wx) x l (h1 : Rd wx x l) (h2 : CapOk x) (h3 : Off F x) => P.enc hc hx m3 m8 ok x l h1 h2 h3)
  have hDc := hide (fun wx (hc : P.Cod c F (.pointer (some a)) wx) (hx : P.Gl wx) x l (h1 : Rd wx x l) (h2 : CapOk x) (h3 : Off F x) => P.dec hc hx m3 m8 ok x (.slice none 0 0) l [] h1 h2 h3 (rd_nil _) (cap_self _ _) (off_none _ _ _))
  have hFl := hide (fun k (hk : F k) => P.lt hC hk)
  have HC := hide hC
  have HG := hide hG
  have HB := hide hB
  have hEP := hide (fun l wx wy e (h : EncP c l wx wy e) => encP_any m3 m8 ok h)
  obtain ⟨kk, hkk⟩ : ∃ kk, kk = c.K - c.short := ⟨_, rfl⟩
  obtain ⟨nn, hnn⟩ : ∃ nn, nn = c.n - c.short - c.cut := ⟨_, rfl⟩
  have hk1 : kk ≤ 256 := by omega
  have hn3 : nn ≤ 256 := by omega
  rw [← hkk, ← hnn] at hS
  have Hkk := hide hkk
  have Hnn := hide hnn
  have mk1 := fun (wx : World) => run_make_row' (P := Tryd.prog) 41 3 (.int .i64 0) 8 Tryd.underlying41 (show (Tryd.prog.info? 3).map (fun i => (i.zero, i.size, i.bytes)) = some (some (.int .i64 0), 1, 8) by kernel_rfl) rfl .i64 .i64 kk (by omega) (by omega) wx
  have mk2 := fun (wx : World) => run_make_row' (P := Tryd.prog) 41 3 (.int .i64 0) 8 Tryd.underlying41 (show (Tryd.prog.info? 3).map (fun i => (i.zero, i.size, i.bytes)) = some (some (.int .i64 0), 1, 8) by kernel_rfl) rfl .i64 .i64 nn (by omega) (by omega) wx
  have hb := hide (box_below w c.G.m c.G.q c.first c.delta c.short c.cut c.bin)
  clear hC hG hB ok hpre hkk hnn hK hs hn1 hn2
  go_enter Tryd.func47, Tryd.ntmps47
  go_wp2_with fail
  refine (unhide hS _).mono ?_
  rintro e w1 ⟨rfl, hb1⟩
  have hb2 := Below.join (unhide hb) hb1
  obtain ⟨wA, hwA⟩ : ∃ wA, wA = w1.alloc (.cells (madeCells #[.int .i64 0] kk) 3) := ⟨_, rfl⟩
  have hbA : Below w.heap.size w wA := by rw [hwA]; exact hb2.alloc hb2.size _
  have hRA : Row wA w1.heap.size kk (fun _ => 0) := by rw [hwA]; exact World.rowIs_made w1 (.int .i64 0) kk 3
  have HbA := hide hbA
  have HRA := hide hRA
  have HsA := hide hb2.size
  have HwA := hide hwA
  clear hb hb1 hb2 hbA hRA hwA
  go_wp2_with fail
  rw [← unhide HwA]
  have nF := hide (show ∀ b, w.heap.size ≤ b → ¬ F b from fun b h hf => absurd (unhide hFl b hf).2 (by omega))
  have O1 : Out F w wA := Out.of_below (unhide HbA)
  refine (unhide hE wA (P.keepB (unhide HC) (unhide HbA)) (P.gl (unhide HG) ((unhide HbA).mono (unhide HB))) _ _ (row_zero_rd (unhide HRA) hk1) (cap_self _ _) (off_ge (fun k hk => (unhide hFl k hk).2) (unhide HsA))).mono ?_
  rintro e w2 ⟨hp, ho2, hC2⟩
  obtain ⟨v', i', j', l', rfl, -, -⟩ := unhide hEP _ _ _ _ hp
  have O2 := O1.trans ho2
  have R2 : Row w2 w1.heap.size kk (fun _ => 0) := World.rowIs.of_block (unhide HRA) (ho2.block _ (World.rowIs.lt (unhide HRA)) (unhide nF _ (unhide HsA)))
  obtain ⟨wB, hwB⟩ : ∃ wB, wB = w2.alloc (.cells (madeCells #[.int .i64 0] nn) 3) := ⟨_, rfl⟩
  have hbB : Below w2.heap.size w2 wB := by rw [hwB]; exact (Below.refl _ _).alloc (Nat.le_refl _) _
  have RB : Row wB w2.heap.size nn (fun _ => 0) := by rw [hwB]; exact World.rowIs_made w2 (.int .i64 0) nn 3
  have HRB := hide RB
  have HR2 := hide (R2.below hbB)
  have HOB := hide (O2.trans (Out.of_below (D := F) hbB))
  have HCB := hide (P.keepB hC2 hbB)
  have HwB := hide hwB
  have Hs2 := hide O2.size
  clear hp ho2 hC2 O1 O2 R2 hwB hbB RB HRA HbA HwA
  go_wp2_with fail
  rw [← unhide HwB]
  refine (unhide hDc wB (unhide HCB) (P.gl (unhide HG) ((unhide HOB).below (fun k hk => (unhide hFl k hk).1) (unhide HB))) _ _ (row_zero_rd (unhide HRB) hn3) (cap_self _ _) (off_ge (fun k hk => (unhide hFl k hk).2) (unhide Hs2))).mono ?_
  rintro e w3 ⟨⟨r, rfl⟩, ho3, hC3⟩
  have HO3 := hide ((unhide HOB).trans ho3)
  have HC3 := hide hC3
  have HR3 := hide (show Row w3 w1.heap.size kk (oneF 0) from World.rowIs.congr (World.rowIs.of_block (unhide HR2) (ho3.block _ (World.rowIs.lt (unhide HR2)) (unhide nF _ (unhide HsA)))) (fun i _ => rfl))
  clear ho3 hC3 HR2 HOB HCB HwB HRB Hs2 mk1 mk2
  go_wp2
  go_loopw [7] (fun i wr => ∃ j : Nat, j ≤ kk ∧ i = .int .i64 j ∧ Hid (Row wr w1.heap.size kk (oneF j)) ∧ Hid (Out F w wr) ∧ Hid (P.Cod c F (.pointer (some a)) wr)) (fun i _ => kk - (intOf i).toNat)
  case atStart => exact ⟨0, by omega, rfl, HR3, HO3, HC3⟩
  case round =>
    clear HR3 HO3 HC3
    obtain ⟨j, hj, rfl, hR, hO, hCr⟩ := hrel
    by_cases hlt : j < kk
    · have hI : (j : Int) < (kk : Int) := by omega
      have s1 : wr.cell? ⟨w1.heap.size, j, none⟩ = some (.int .i64 (oneF j j)) := World.rowIs.cell (unhide hR) hlt
      have s2 : wr.frozen? ⟨w1.heap.size, j, none⟩ = false := World.rowIs.frozen (unhide hR) _
      have f1 := hide (show Row (wr.setCell ⟨w1.heap.size, j, none⟩ (.int .i64 1)) w1.heap.size kk (oneF (j + 1)) from World.rowIs.congr (World.rowIs.set (unhide hR) j (.int .i64 1)) (fun i _ => by
        unfold oneF
        by_cases h1 : i = j
        · rw [if_pos h1, if_pos (by omega)]
        · rw [if_neg h1]
          by_cases h2 : i < j
          · rw [if_pos h2, if_pos (by omega)]
          · rw [if_neg h2, if_neg (by omega)]))
      have f2 := hide ((unhide hO).setNew (p := ⟨w1.heap.size, j, none⟩) (unhide HsA) (.int .i64 1))
      have f3 := hide (P.cod (unhide hCr) (fun k hk => Below.heap_setCell wr ⟨w1.heap.size, j, none⟩ (.int .i64 1) k (fun e => unhide nF _ (unhide HsA) (by rw [← show k = w1.heap.size from e]; exact hk))))
      clear hR hO hCr
      generalize oneF j j = y at *
      go_wp2
      exact ⟨⟨j + 1, by omega, by go_num, f1, f2, f3⟩, by simp [intOf]; omega⟩
    · have e : j = kk := by omega
      have hrd := hide (show Rd wr (.slice (some ⟨w1.heap.size, 0, none⟩) kk kk) (List.replicate kk 1) from by
        have := Row.rd (unhide hR) 0 (List.replicate kk 1) kk (by simp) (by simp; unfold maxLen; omega) (fun i hi => by
          have hi' : i < kk := by simpa using hi
          rw [getD_replicate kk 1 i hi']; unfold oneF; rw [if_pos (by omega)])
        simpa using this)
      clear hR e
      go_wp2_with fail
      refine (unhide hE _ (unhide hCr) (P.gl (unhide HG) ((unhide hO).below (fun k hk => (unhide hFl k hk).1) (unhide HB))) _ _ (unhide hrd) (cap_self _ _) (off_ge (fun k hk => (unhide hFl k hk).2) (unhide HsA))).mono ?_
      rintro e w4 ⟨hp, ho4, hC4⟩
      obtain ⟨v', i', j', l', rfl, hrd', hl'⟩ := unhide hEP _ _ _ _ hp
      have HO4 := hide ((unhide hO).trans ho4)
      have HC4 := hide hC4
      have HR4 := hide hrd'
      clear hp ho4 hC4 hO hCr hrd hrd'
      go_wp2_with fail
      refine (copied_any v' l' w4 (unhide HR4) (by omega)).mono ?_
      rintro e w5 ⟨b5, rfl, hb5, hR5, hbb⟩
      have HO5 := hide ((unhide HO4).trans (Out.of_below hbb))
      have HC5 := hide (P.keepB (unhide HC4) hbb)
      have HR5 := hide ((wr_of_row hR5 (by unfold maxLen; omega)).rd)
      have Hb5 := hide (Nat.le_trans (unhide HO4).size hb5)
      clear hb5 hR5 hbb HO4 HC4 HR4
      go_wp2_with fail
      refine (unhide hDc w5 (unhide HC5) (P.gl (unhide HG) ((unhide HO5).below (fun k hk => (unhide hFl k hk).1) (unhide HB))) _ _ (unhide HR5) (cap_self _ _) (off_ge (fun k hk => (unhide hFl k hk).2) (unhide Hb5))).mono ?_
      rintro e w6 ⟨⟨r, rfl⟩, ho6, hC6⟩
      have HO6 := hide ((unhide HO5).trans ho6)
      have HC6 := hide hC6
      clear ho6 hC6 HO5 HC5
      go_wp2
      go_end0
      exact ⟨⟨_, rfl⟩, unhide HO6, unhide HC6⟩
end Go.Proofs.YtohgmoclnicchaaDoor
