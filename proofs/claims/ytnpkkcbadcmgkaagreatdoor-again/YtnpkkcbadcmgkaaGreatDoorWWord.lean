import Derived.Test.YtnpkkcbadcmgkaaGreatDoorWFull
namespace Go.Proofs.YtnpkkcbadcmgkaaGreatDoor
open Go.RowKit Go.Deep
open Gf (Cd)

theorem own_rd {w : World} {base : Nat} {v : Value} {l : List Int} (h : w.ownsRow base 3 1 v l.length (l.map (Value.int .i64))) (hm : l.length ≤ maxLen) : Rd w v l := by
  obtain ⟨_, h | ⟨g, cap, cur, hv, _, hh, _, _, hsz, ht⟩⟩ := h
  · refine ⟨none, 0, ?_, hm, fun i hi => by omega⟩
    rw [h.1, h.2]
  · refine ⟨_, cap, hv, hm, fun i hi => ⟨g, 0, rfl, ?_⟩⟩
    have h1 : (cur.toList.take (l.length * 1))[i]? = (l.map (Value.int .i64))[i]? := by rw [ht]
    rw [List.getElem?_take_of_lt (by omega), List.getElem?_map, List.getElem?_eq_getElem hi] at h1
    have h2 : cur[i]? = some (Value.int .i64 l[i]) := by simpa using h1
    rw [Nat.zero_add, List.getD_eq_getElem?_getD, List.getElem?_eq_getElem hi]
    show w.cell? ⟨g, i, none⟩ = some (Value.int .i64 l[i])
    simp [World.cell?, hh, h2]

theorem own_lit (w : World) (base k : Nat) (hb : base ≤ w.heap.size) (hm : k ≤ maxLen) : (w.alloc (.cells (madeCells #[.int .i64 0] k) 3)).ownsRow base 3 1 (.slice (some ⟨w.heap.size, 0, none⟩) k k) k ((List.replicate k (0 : Int)).map (Value.int .i64)) := by
  have := World.ownsRow_lit (base := base) (e := 3) (size := 1) w (madeCells #[.int .i64 0] k) k hb hm (by rw [size_madeCells, Nat.mul_one])
  rw [toList_madeCells_one] at this
  simpa using this

/-- the list as Word makes it, k numbers put behind the zeros. -/
def padTo (c : Cd) (l : List Nat) (k : Nat) : List Nat := List.replicate c.short 0 ++ l.take k

theorem padTo_succ (c : Cd) (l : List Nat) (k : Nat) (h : k < l.length) : padTo c l (k + 1) = padTo c l k ++ [l.getD k 0] := by
  unfold padTo
  rw [List.take_succ_eq_append_getElem h, List.append_assoc, List.getD_eq_getElem?_getD, List.getElem?_eq_getElem h]; rfl
theorem padTo_length (c : Cd) (l : List Nat) (k : Nat) (h : k ≤ l.length) : (padTo c l k).length = c.short + k := by
  unfold padTo; simp; omega

set_option maxHeartbeats 2000000 in
theorem Word_any (c : Cd) (v : Value) (l : List Nat) (w : World) (m3 : 3 ≤ c.G.m) (m8 : c.G.m ≤ 8) (ok : c.Ok) (h : RdN w v l) (hm : Gf.msg c l) :
    Calls Tryz.prog 38 #[pv c.G.m c.G.q c.first c.delta c.short c.cut c.bin, v] w fun e w' => ∃ b, e = .returned (.slice (some ⟨b, c.short, none⟩) (c.n - c.short - c.cut) (c.n - c.short)) ∧ w.heap.size ≤ b ∧ NRow w' b c.n (fun i => (c.fl (List.replicate c.short 0 ++ l)).getD i 0) ∧ Below w.heap.size w w' := by
  have hpre : Pre c := ⟨m3, m8, ok.f, ok.d2, ok.dn⟩
  obtain ⟨hn1, hn2⟩ := hpre.nb
  have hK := Gf.K_le ok
  have hs := ok.s
  have hll : l.length = c.K - c.short := hm.1
  have hlb : l.length ≤ 256 := by omega
  have hPF := hide (fun v' wx (hx : RdN wx v' (List.replicate c.short 0 ++ l)) => full_any c c.short c.cut v' (List.replicate c.short 0 ++ l) wx hpre hx (Gf.pad_len ok hm) (Gf.pad_el hm))
  obtain ⟨a, cap, rfl, hm', hc⟩ := h
  have HC : Hid (∀ i, i < l.length → ∃ b o, a = some ⟨b, o, none⟩ ∧ b < w.heap.size ∧ w.cell? ⟨b, o + i, none⟩ = some (.int .i64 ((l.getD i 0 : Nat) : Int))) := fun i hi => by
    obtain ⟨b, o, e, hcell⟩ := hc i (by simpa using hi)
    rw [mapN_getD] at hcell
    exact ⟨b, o, e, lt_of_cell hcell, hcell⟩
  rw [List.length_map]
  have hsl : c.short + l.length ≤ 256 := by omega
  have HLL := hide hll
  clear hc hm' hll hpre hm
  have mk := fun (wx : World) => run_make_row' (P := Tryz.prog) 24 3 (.int .i64 0) 8 Tryz.underlying24 (show (Tryz.prog.info? 3).map (fun i => (i.zero, i.size, i.bytes)) = some (some (.int .i64 0), 1, 8) by kernel_rfl) rfl .i64 .i64 c.short (by omega) (by omega) wx
  obtain ⟨i0, hi, hz0, hz1, hz2⟩ := info_parts (show (Tryz.prog.info? 3).map (fun i => (i.zero, i.size, i.bytes)) = some (some (.int .i64 0), 1, 8) by kernel_rfl)
  have HX := hide (Box.new w c.G.m c.G.q c.first c.delta c.short c.cut c.bin)
  go_enter Tryz.func38, Tryz.ntmps38
  go_wp2
  clear mk
  go_loopw [5, 6] (fun v i wr => ∃ k : Nat, k ≤ l.length ∧ i = .int .i64 k ∧ Hid (wr.ownsRow (w.heap.size + 1) 3 1 v (c.short + k) (((padTo c l k).map fun x : Nat => (x : Int)).map (Value.int .i64))) ∧ Hid (Box wr w.heap.size c.G.m c.G.q c.first c.delta c.short c.cut c.bin) ∧ Hid (Below w.heap.size w wr)) (fun _ i _ => l.length - (intOf i).toNat)
  case atStart =>
    refine ⟨0, by omega, rfl, hide ?_, hide ?_, hide ?_⟩
    · have h1 := own_lit (w.alloc (.cells #[.int .i64 c.G.m, .int .i64 c.G.q, .int .i64 c.first, .int .i64 c.delta, .int .i64 c.short, .int .i64 c.cut, .bool c.bin] 23)) (w.heap.size + 1) c.short (by simp) (by unfold maxLen; omega)
      rw [nblk_alloc] at h1
      have e : ((padTo c l 0).map fun x : Nat => (x : Int)) = List.replicate c.short (0 : Int) := by simp [padTo]
      rw [e]
      exact h1
    · exact (unhide HX).below ((Below.refl _ _).alloc (Nat.le_refl _) _)
    · exact ((Below.refl _ _).alloc (Nat.le_refl _) _).alloc (by simp) _
  case round =>
    clear HX
    obtain ⟨k, hk, rfl, hown, hx, hb⟩ := hrel
    by_cases hlt : k < l.length
    · obtain ⟨b, o, rfl, hbl, hcell⟩ := unhide HC k hlt
      have hcw : wr.cell? ⟨b, o + k, none⟩ = some (.int .i64 ((l.getD k 0 : Nat) : Int)) := by rw [(unhide hb).cell (p := ⟨b, o + k, none⟩) hbl]; exact hcell
      have hI : (k : Int) < (l.length : Int) := by omega
      have hps := hide (padTo_succ c l k hlt)
      have hwl := (unhide hx).lt
      clear hcell
      generalize l.getD k 0 = x at *
      go_wp2_with (at_builtin; refine wpList_append_own _ rfl _ _ 24 rfl (w.heap.size + 1) 3 i0 (.int .i64 0) 1 8 Tryz.underlying24 hi hz0 hz1 hz2 rfl (by decide) _ _ _ rfl ((unhide hown).alloc _) ⟨wr.heap.size, 0, none⟩ 1 1 [.int .i64 (x : Int)] rfl rfl ?c1 ?c2 ?c3 ?c4 ?c5 ?_)
      case c1 =>
        intro j u hj
        match j, hj with
        | 0, hj => simp at hj; subst hj; simp [Addr.add]
      case c2 => intro u hu; simp at hu; subst hu; rfl
      case c3 => unfold maxLen; omega
      case c4 => omega
      case c5 => simp; omega
      intro v' w1 hown' hgrow _
      have hB := (((Below.refl (w.heap.size + 1) wr).alloc hwl (.cells #[.int .i64 (x : Int)] 3)).grown hgrow (by simp; omega) (fun r hr => ((unhide hown).lt r hr).1))
      have f1 : Hid (w1.ownsRow (w.heap.size + 1) 3 1 v' (c.short + (k + 1)) (((padTo c l (k + 1)).map fun x : Nat => (x : Int)).map (Value.int .i64))) := by
        show w1.ownsRow _ _ _ _ _ _
        rw [unhide hps, List.map_append, List.map_append]
        have h9 := hown'
        rw [← List.map_map] at h9
        exact h9
      have f2 := hide (show Box w1 w.heap.size c.G.m c.G.q c.first c.delta c.short c.cut c.bin from (hB.block _ (by omega)).trans (unhide hx))
      have f3 := hide ((unhide hb).trans (hB.mono (by omega)))
      clear hown' hgrow hB hown hx hb hcw
      go_wp2
      exact ⟨⟨k + 1, by omega, by go_num, f1, f2, f3⟩, by simp [intOf]; omega⟩
    · have e : k = l.length := by omega
      have hrd := hide (show RdN wr u5 (List.replicate c.short 0 ++ l) from by
        have e2 : padTo c l k = List.replicate c.short 0 ++ l := by unfold padTo; rw [e, List.take_of_length_le (Nat.le_refl _)]
        have h1 := unhide hown
        rw [e2] at h1
        have e3 : ((List.replicate c.short 0 ++ l).map fun x : Nat => (x : Int)).length = c.short + k := by simp [e]
        rw [← e3] at h1
        exact own_rd h1 (by rw [e3]; unfold maxLen; omega))
      have x0 := (unhide hx).c0
      have x1 := (unhide hx).c1
      have x2 := (unhide hx).c2
      have x3 := (unhide hx).c3
      have x4 := (unhide hx).c4
      have x5 := (unhide hx).c5
      have x6 := (unhide hx).c6
      clear hown e
      go_wp2_with fail
      refine (unhide hPF _ _ (unhide hrd)).mono ?_
      rintro e w2 ⟨b, rfl, hbl, hn, hb2⟩
      have hx2 := (unhide hx).below hb2
      have y4 := hx2.c4
      have y5 := hx2.c5
      have HN := hide hn
      have HB := hide (Below.join (unhide hb) hb2)
      have hbw := hide (Nat.le_trans (unhide hb).size hbl)
      clear x0 x1 x2 x3 x4 x5 x6 hx hb hn hb2 hx2 hrd hbl
      go_wp2
      go_ret
      exact ⟨b, by rw [show c.n - c.short - c.cut = c.n - c.cut - c.short by omega]; rfl, unhide hbw, unhide HN, unhide HB⟩
end Go.Proofs.YtnpkkcbadcmgkaaGreatDoor
