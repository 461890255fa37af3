import Derived.Test.YtnpkkcbadcmgkaaGreatDoorWSpo
namespace Go.Proofs.YtnpkkcbadcmgkaaGreatDoor
open Go.RowKit Go.Deep
open Gf (Cd)

set_option maxHeartbeats 1000000 in
theorem spoil_any (v : Value) (b : Nat) (w : World) (h : Spo w v b) :
    Calls Tryz.prog 27 #[v] w fun e w' => (∃ r, e = .returned r) ∧ Out (fun k => k = b) w w' := by
  rcases h with ⟨a, cap, rfl, -, -⟩ | ⟨l, o, cap, n, f, rfl, hcap, hr, ho, hm, hf⟩
  · go_enter Tryz.func27, Tryz.ntmps27
    go_wp2
    go_loopw [2] (fun i wr => i = .int .i64 0 ∧ wr = w) (fun _ _ => 0)
    case atStart => exact ⟨rfl, rfl⟩
    case round =>
      obtain ⟨rfl, rfl⟩ := hrel
      go_wp2
      go_end0
      exact ⟨⟨_, rfl⟩, Out.of_below (Below.refl _ _)⟩
  · have hm' := maxLen_lt hm
    have hr' := hide hr
    have hf' := hide (show ∀ i, i < l.length → ∃ x, f (o + i) = .int .i64 x from fun i hi => ⟨_, hf i hi⟩)
    clear hr hm hf
    go_enter Tryz.func27, Tryz.ntmps27
    go_wp2
    go_loopw [2] (fun i wr => ∃ (k : Nat) (g : Nat → Value), k ≤ l.length ∧ i = .int .i64 k ∧ Hid (wr.rowIs b 3 n g) ∧ Hid (∀ i, i < l.length → ∃ x, g (o + i) = .int .i64 x) ∧ Hid (Out (fun k => k = b) w wr)) (fun i _ => l.length - (intOf i).toNat)
    case atStart => exact ⟨0, f, by omega, rfl, hr', hf', hide (Out.of_below (Below.refl _ _))⟩
    case round =>
      obtain ⟨k, g, hk, rfl, hg, hgi, hb⟩ := hrel
      by_cases hlt : k < l.length
      · have hI : (k : Int) < (l.length : Int) := by omega
        obtain ⟨x, hx⟩ := unhide hgi k hlt
        have s1 : wr.cell? ⟨b, o + k, none⟩ = some (.int .i64 x) := by rw [World.rowIs.cell (unhide hg) (by omega), hx]
        have s2 : wr.frozen? ⟨b, o + k, none⟩ = false := World.rowIs.frozen (unhide hg) _
        obtain ⟨y, hy⟩ : ∃ y, y = wrap64 (x + 1) := ⟨_, rfl⟩
        have fin := hide (World.rowIs.set (unhide hg) (o + k) (.int .i64 y))
        have fin1 := hide (show ∀ i, i < l.length → ∃ x, (if o + i = o + k then Value.int IntKind.i64 y else g (o + i)) = .int .i64 x from fun i hi => by
          by_cases q : o + i = o + k
          · rw [if_pos q]; exact ⟨_, rfl⟩
          · rw [if_neg q]; exact unhide hgi i hi)
        have fin2 := hide (show Out (fun k => k = b) w (wr.setCell ⟨b, o + k, none⟩ (.int .i64 y)) from by
          exact (unhide hb).set (p := ⟨b, o + k, none⟩) rfl _)
        rw [hy] at fin fin1 fin2
        clear hg hb hy hx hgi
        go_wp2
        exact ⟨⟨k + 1, _, by omega, by go_num, fin, fin1, fin2⟩, by simp [intOf]; omega⟩
      · clear hg hgi
        go_wp2
        go_end0
        exact ⟨⟨_, rfl⟩, unhide hb⟩

set_option maxHeartbeats 2000000 in
theorem Encode_any (c : Cd) (v : Value) (l : List Int) (w : World) (m3 : 3 ≤ c.G.m) (m8 : c.G.m ≤ 8) (ok : c.Ok) (h : Rd w v l) :
    Calls Tryz.prog 26 #[pv c.G.m c.G.q c.first c.delta c.short c.cut c.bin, v] w fun e w' => EncIs c l w.heap.size w' e ∧ Below w.heap.size w w' := by
  have hpre : Pre c := ⟨m3, m8, ok.f, ok.d2, ok.dn⟩
  obtain ⟨hn1, hn2⟩ := hpre.nb
  have hS := hide (fun wx => Size_any c wx m3 m8 ok)
  have hG := hide (fun wx (hx : Rd wx v l) => Given_any c.G.m c.G.q c.first c.delta c.short c.cut c.bin v l (c.K - c.short) wx m3 m8 hx)
  have hW := hide (fun wx (hx : RdN wx v (nat l)) (hm : Gf.msg c (nat l)) => Word_any c v (nat l) wx m3 m8 ok hx hm)
  have hR := hide h
  have hB := hide (box_below w c.G.m c.G.q c.first c.delta c.short c.cut c.bin)
  have hX := hide (Box.new w c.G.m c.G.q c.first c.delta c.short c.cut c.bin)
  have OK := hide ok
  clear hpre ok h
  go_enter Tryz.func26, Tryz.ntmps26
  go_wp2_with fail
  refine (unhide hS _).mono ?_
  rintro e w1 ⟨rfl, hb⟩
  have hx1 := (unhide hX).below hb
  have x0 := hx1.c0
  have x1 := hx1.c1
  have x2 := hx1.c2
  have x3 := hx1.c3
  have x4 := hx1.c4
  have x5 := hx1.c5
  have x6 := hx1.c6
  have hX1 := hide hx1
  have hB1 := hide (Below.join (unhide hB) hb)
  clear hb hx1 hX hB
  go_wp2_with fail
  refine (unhide hG _ ((unhide hR).below (unhide hB1))).mono ?_
  rintro e w2 ⟨rfl, hb⟩
  have hx1 := (unhide hX1).below hb
  clear x0 x1 x2 x3 x4 x5 x6
  have x0 := hx1.c0
  have x1 := hx1.c1
  have x2 := hx1.c2
  have x3 := hx1.c3
  have x4 := hx1.c4
  have x5 := hx1.c5
  have x6 := hx1.c6
  have hB2 := hide (Below.join (unhide hB1) hb)
  clear hb hx1 hX1 hB1
  by_cases hg : givenE c.G.m c.bin l (c.K - c.short) = 0
  · have Hg := hide hg
    obtain ⟨hl, hgd⟩ := given_ok.1 hg
    have hat := hide (show givenAt c.G.m c.bin l (c.K - c.short) = 0 by unfold givenAt; rw [if_pos hl, if_pos hgd])
    have hm := hide (nat_msg c hl hgd)
    have hr2 := hide (show RdN w2 v (nat l) by unfold RdN; rw [nat_map hgd]; exact (unhide hR).below (unhide hB2))
    rw [hg, unhide hat]
    clear hg hl hgd
    go_wp2_with fail
    refine (unhide hW _ (unhide hr2) (unhide hm)).mono ?_
    rintro e w3 ⟨b, rfl, hbl, hn, hb⟩
    have hfin := hide (word_rd (cap := c.n - c.short) (unhide OK) (unhide hm) (by omega) hn)
    have hB3 := hide (Below.join (unhide hB2) hb)
    have hle := hide (Nat.le_trans (unhide hB2).size hbl)
    clear hb hn hbl
    go_wp2
    go_ret3
    exact ⟨Or.inr ⟨unhide Hg, b, _, unhide hle, rfl, unhide hfin⟩, unhide hB3⟩
  · have Hg := hide hg
    have hne : (givenE c.G.m c.bin l (c.K - c.short) != 0) = true := by rw [bne_iff_ne]; exact hg
    have hI : Hid (EncIs c l w.heap.size w2 (.returned (.tuple #[.slice none 0 0, .int .i64 (givenE c.G.m c.bin l (c.K - c.short)), .int .i64 (givenAt c.G.m c.bin l (c.K - c.short))]))) := Or.inl ⟨hg, rfl⟩
    clear hg
    generalize givenE c.G.m c.bin l (c.K - c.short) = e at *
    generalize givenAt c.G.m c.bin l (c.K - c.short) = a at *
    go_wp2
    go_ret3
    exact ⟨unhide hI, unhide hB2⟩

/-- and that Decode answers something. -/
structure Pe (B : Nat) extends Pg B where
  dec : ∀ {c : Cd} {F : Nat → Prop} {v : Value} {w : World}, Cod c F v w → Gl w → 3 ≤ c.G.m → c.G.m ≤ 8 → c.Ok → ∀ (x y : Value) (l z : List Int), Rd w x l → CapOk x → Off F x → Rd w y z → CapOk y → Off F y →
    Calls Tryz.prog 17 #[v, x, y] w fun e w' => (∃ r, e = .returned r) ∧ Out F w w' ∧ Cod c F v w'

variable {B : Nat} (P : Pe B)

def oneF (j : Nat) : Nat → Int := fun i => if i < j then 1 else 0

set_option maxHeartbeats 2000000 in
theorem others_any (c : Cd) (F : Nat → Prop) (v : Value) (w : World) (m3 : 3 ≤ c.G.m) (m8 : c.G.m ≤ 8) (ok : c.Ok) (hC : P.Cod c F v w) (hG : P.Gl w) (hB : B ≤ w.heap.size) :
    Calls Tryz.prog 25 #[v, pv c.G.m c.G.q c.first c.delta c.short c.cut c.bin] w fun e w' => (∃ r, e = .returned r) ∧ Out F w w' ∧ P.Cod c F v w' := by
  have hpre : Pre c := ⟨m3, m8, ok.f, ok.d2, ok.dn⟩
  obtain ⟨hn1, hn2⟩ := hpre.nb
  have hK := Gf.K_le ok
  have hs := ok.s
  obtain ⟨a, rfl⟩ := P.ptr hC
  have hS := hide (fun wx => Size_any c wx m3 m8 ok)
  have hE := hide (fun wx (hc : P.Cod c F (.pointer (some a)) wx) (hx : P.Gl wx) x l (h1 : Rd wx x l) (h2 : CapOk x) (h3 : Off F x) => P.enc hc hx m3 m8 ok x l h1 h2 h3)
  have hDc := hide (fun wx (hc : P.Cod c F (.pointer (some a)) wx) (hx : P.Gl wx) x l (h1 : Rd wx x l) (h2 : CapOk x) (h3 : Off F x) => P.dec hc hx m3 m8 ok x (.slice none 0 0) l [] h1 h2 h3 (rd_nil _) (cap_self _ _) (off_none _ _ _))
  have hFl := hide (fun k (hk : F k) => P.lt hC hk)
  have HC := hide hC
  have HG := hide hG
  have HB := hide hB
  have hEP := hide (fun l wx wy e (h : EncP c l wx wy e) => encP_any m3 m8 ok h)
  obtain ⟨kk, hkk⟩ : ∃ kk, kk = c.K - c.short := ⟨_, rfl⟩
  obtain ⟨nn, hnn⟩ : ∃ nn, nn = c.n - c.short - c.cut := ⟨_, rfl⟩
  have hk1 : kk ≤ 256 := by omega
  have hn3 : nn ≤ 256 := by omega
  rw [← hkk, ← hnn] at hS
  have Hkk := hide hkk
  have Hnn := hide hnn
  have mk1 := fun (wx : World) => run_make_row' (P := Tryz.prog) 24 3 (.int .i64 0) 8 Tryz.underlying24 (show (Tryz.prog.info? 3).map (fun i => (i.zero, i.size, i.bytes)) = some (some (.int .i64 0), 1, 8) by kernel_rfl) rfl .i64 .i64 kk (by omega) (by omega) wx
  have mk2 := fun (wx : World) => run_make_row' (P := Tryz.prog) 24 3 (.int .i64 0) 8 Tryz.underlying24 (show (Tryz.prog.info? 3).map (fun i => (i.zero, i.size, i.bytes)) = some (some (.int .i64 0), 1, 8) by kernel_rfl) rfl .i64 .i64 nn (by omega) (by omega) wx
  have hb := hide (box_below w c.G.m c.G.q c.first c.delta c.short c.cut c.bin)
  clear hC hG hB ok hpre hkk hnn hK hs hn1 hn2
  go_enter Tryz.func25, Tryz.ntmps25
  go_wp2_with fail
  refine (unhide hS _).mono ?_
  rintro e w1 ⟨rfl, hb1⟩
  have hb2 := Below.join (unhide hb) hb1
  obtain ⟨wA, hwA⟩ : ∃ wA, wA = w1.alloc (.cells (madeCells #[.int .i64 0] kk) 3) := ⟨_, rfl⟩
  have hbA : Below w.heap.size w wA := by rw [hwA]; exact hb2.alloc hb2.size _
  have hRA : Row wA w1.heap.size kk (fun _ => 0) := by rw [hwA]; exact World.rowIs_made w1 (.int .i64 0) kk 3
  have HbA := hide hbA
  have HRA := hide hRA
  have HsA := hide hb2.size
  have HwA := hide hwA
  clear hb hb1 hb2 hbA hRA hwA
  go_wp2_with fail
  rw [← unhide HwA]
  have nF := hide (show ∀ b, w.heap.size ≤ b → ¬ F b from fun b h hf => absurd (unhide hFl b hf).2 (by omega))
  have O1 : Out F w wA := Out.of_below (unhide HbA)
  refine (unhide hE wA (P.keepB (unhide HC) (unhide HbA)) (P.gl (unhide HG) ((unhide HbA).mono (unhide HB))) _ _ (row_zero_rd (unhide HRA) hk1) (cap_self _ _) (off_ge (fun k hk => (unhide hFl k hk).2) (unhide HsA))).mono ?_
  rintro e w2 ⟨hp, ho2, hC2⟩
  obtain ⟨v', i', j', l', rfl, -, -⟩ := unhide hEP _ _ _ _ hp
  have O2 := O1.trans ho2
  have R2 : Row w2 w1.heap.size kk (fun _ => 0) := World.rowIs.of_block (unhide HRA) (ho2.block _ (World.rowIs.lt (unhide HRA)) (unhide nF _ (unhide HsA)))
  obtain ⟨wB, hwB⟩ : ∃ wB, wB = w2.alloc (.cells (madeCells #[.int .i64 0] nn) 3) := ⟨_, rfl⟩
  have hbB : Below w2.heap.size w2 wB := by rw [hwB]; exact (Below.refl _ _).alloc (Nat.le_refl _) _
  have RB : Row wB w2.heap.size nn (fun _ => 0) := by rw [hwB]; exact World.rowIs_made w2 (.int .i64 0) nn 3
  have HRB := hide RB
  have HR2 := hide (R2.below hbB)
  have HOB := hide (O2.trans (Out.of_below (D := F) hbB))
  have HCB := hide (P.keepB hC2 hbB)
  have HwB := hide hwB
  have Hs2 := hide O2.size
  clear hp ho2 hC2 O1 O2 R2 hwB hbB RB HRA HbA HwA
  go_wp2_with fail
  rw [← unhide HwB]
  refine (unhide hDc wB (unhide HCB) (P.gl (unhide HG) ((unhide HOB).below (fun k hk => (unhide hFl k hk).1) (unhide HB))) _ _ (row_zero_rd (unhide HRB) hn3) (cap_self _ _) (off_ge (fun k hk => (unhide hFl k hk).2) (unhide Hs2))).mono ?_
  rintro e w3 ⟨⟨r, rfl⟩, ho3, hC3⟩
  have HO3 := hide ((unhide HOB).trans ho3)
  have HC3 := hide hC3
  have HR3 := hide (show Row w3 w1.heap.size kk (oneF 0) from World.rowIs.congr (World.rowIs.of_block (unhide HR2) (ho3.block _ (World.rowIs.lt (unhide HR2)) (unhide nF _ (unhide HsA)))) (fun i _ => rfl))
  clear ho3 hC3 HR2 HOB HCB HwB HRB Hs2 mk1 mk2
  go_wp2
  go_loopw [7] (fun i wr => ∃ j : Nat, j ≤ kk ∧ i = .int .i64 j ∧ Hid (Row wr w1.heap.size kk (oneF j)) ∧ Hid (Out F w wr) ∧ Hid (P.Cod c F (.pointer (some a)) wr)) (fun i _ => kk - (intOf i).toNat)
  case atStart => exact ⟨0, by omega, rfl, HR3, HO3, HC3⟩
  case round =>
    clear HR3 HO3 HC3
    obtain ⟨j, hj, rfl, hR, hO, hCr⟩ := hrel
    by_cases hlt : j < kk
    · have hI : (j : Int) < (kk : Int) := by omega
      have s1 : wr.cell? ⟨w1.heap.size, j, none⟩ = some (.int .i64 (oneF j j)) := World.rowIs.cell (unhide hR) hlt
      have s2 : wr.frozen? ⟨w1.heap.size, j, none⟩ = false := World.rowIs.frozen (unhide hR) _
      have f1 := hide (show Row (wr.setCell ⟨w1.heap.size, j, none⟩ (.int .i64 1)) w1.heap.size kk (oneF (j + 1)) from World.rowIs.congr (World.rowIs.set (unhide hR) j (.int .i64 1)) (fun i _ => by
        unfold oneF
        by_cases h1 : i = j
        · rw [if_pos h1, if_pos (by omega)]
        · rw [if_neg h1]
          by_cases h2 : i < j
          · rw [if_pos h2, if_pos (by omega)]
          · rw [if_neg h2, if_neg (by omega)]))
      have f2 := hide ((unhide hO).setNew (p := ⟨w1.heap.size, j, none⟩) (unhide HsA) (.int .i64 1))
      have f3 := hide (P.cod (unhide hCr) (fun k hk => Below.heap_setCell wr ⟨w1.heap.size, j, none⟩ (.int .i64 1) k (fun e => unhide nF _ (unhide HsA) (by rw [← show k = w1.heap.size from e]; exact hk))))
      clear hR hO hCr
      generalize oneF j j = y at *
      go_wp2
      exact ⟨⟨j + 1, by omega, by go_num, f1, f2, f3⟩, by simp [intOf]; omega⟩
    · have e : j = kk := by omega
      have hrd := hide (show Rd wr (.slice (some ⟨w1.heap.size, 0, none⟩) kk kk) (List.replicate kk 1) from by
        have := Row.rd (unhide hR) 0 (List.replicate kk 1) kk (by simp) (by simp; unfold maxLen; omega) (fun i hi => by
          have hi' : i < kk := by simpa using hi
          rw [getD_replicate kk 1 i hi']; unfold oneF; rw [if_pos (by omega)])
        simpa using this)
      clear hR e
      go_wp2_with fail
      refine (unhide hE _ (unhide hCr) (P.gl (unhide HG) ((unhide hO).below (fun k hk => (unhide hFl k hk).1) (unhide HB))) _ _ (unhide hrd) (cap_self _ _) (off_ge (fun k hk => (unhide hFl k hk).2) (unhide HsA))).mono ?_
      rintro e w4 ⟨hp, ho4, hC4⟩
      obtain ⟨v', i', j', l', rfl, hrd', hl'⟩ := unhide hEP _ _ _ _ hp
      have HO4 := hide ((unhide hO).trans ho4)
      have HC4 := hide hC4
      have HR4 := hide hrd'
      clear hp ho4 hC4 hO hCr hrd hrd'
      go_wp2_with fail
      refine (copied_any v' l' w4 (unhide HR4) (by omega)).mono ?_
      rintro e w5 ⟨b5, rfl, hb5, hR5, hbb⟩
      have HO5 := hide ((unhide HO4).trans (Out.of_below hbb))
      have HC5 := hide (P.keepB (unhide HC4) hbb)
      have HR5 := hide ((wr_of_row hR5 (by unfold maxLen; omega)).rd)
      have Hb5 := hide (Nat.le_trans (unhide HO4).size hb5)
      clear hb5 hR5 hbb HO4 HC4 HR4
      go_wp2_with fail
      refine (unhide hDc w5 (unhide HC5) (P.gl (unhide HG) ((unhide HO5).below (fun k hk => (unhide hFl k hk).1) (unhide HB))) _ _ (unhide HR5) (cap_self _ _) (off_ge (fun k hk => (unhide hFl k hk).2) (unhide Hb5))).mono ?_
      rintro e w6 ⟨⟨r, rfl⟩, ho6, hC6⟩
      have HO6 := hide ((unhide HO5).trans ho6)
      have HC6 := hide hC6
      clear ho6 hC6 HO5 HC5
      go_wp2
      go_end0
      exact ⟨⟨_, rfl⟩, unhide HO6, unhide HC6⟩

set_option maxHeartbeats 2000000 in
theorem encodes_any (c : Cd) (F : Nat → Prop) (v : Value) (x : Value) (l : List Int) (w W : World) (m3 : 3 ≤ c.G.m) (m8 : c.G.m ≤ 8) (ok : c.Ok) (hC : P.Cod c F v w) (hG : P.Gl w) (hB : B ≤ w.heap.size)
    (hx0 : Rd W x l) (hW : W.heap.size ≤ B) (hx : Rd w x l) (hl : 8 * l.length ≤ 281474976710656) :
    Calls Tryz.prog 8 #[v, pv c.G.m c.G.q c.first c.delta c.short c.cut c.bin, x] w fun e w' => e = .returned (.bool true) ∧ Out F w w' ∧ P.Cod c F v w' := by
  obtain ⟨a, rfl⟩ := P.ptr hC
  have hE := hide (fun wx (hc : P.Cod c F (.pointer (some a)) wx) (hx : P.Gl wx) x l (h1 : Rd wx x l) (h2 : CapOk x) (h3 : Off F x) => P.enc hc hx m3 m8 ok x l h1 h2 h3)
  have hO := hide (fun wx (hc : P.Cod c F (.pointer (some a)) wx) (hx : P.Gl wx) (hb : B ≤ wx.heap.size) => others_any P c F (.pointer (some a)) wx m3 m8 ok hc hx hb)
  have hR := hide (fun wx x l (h1 : Rd wx x l) => Encode_any c x l wx m3 m8 ok h1)
  have hFl := hide (fun k (hk : F k) => P.lt hC hk)
  have nF := hide (show ∀ b, w.heap.size ≤ b → ¬ F b from fun b h hf => absurd (P.lt hC hf).2 (by omega))
  have hGo := hide (fun wx (h : Out F w wx) => P.gl hG (h.below (fun k hk => (P.lt hC hk).1) hB))
  have hBo := hide (fun wx (h : Out F w wx) => Nat.le_trans hB h.size)
  have hXo := hide (show ∀ (D : Nat → Prop) wx wy, Rd wx x l → (∀ k, D k → B ≤ k) → Out D wx wy → Rd wy x l from fun D wx wy h hD ho => Rd.new (D := D) hx0 h (fun k hk => Nat.le_trans hW (hD k hk)) ho)
  have hXb := hide (Box.new w c.G.m c.G.q c.first c.delta c.short c.cut c.bin)
  have hb := box_below w c.G.m c.G.q c.first c.delta c.short c.cut c.bin
  have HO0 := hide (Out.of_below (D := F) hb)
  have HC0 := hide (P.keepB hC hb)
  have HX0 := hide (hx.below hb)
  have Hs0 := hide hb.size
  clear hC hG hx0 hW hx ok hb
  go_enter Tryz.func8, Tryz.ntmps8
  go_wp2_with fail
  refine (copied_any x l _ (unhide HX0) hl).mono ?_
  rintro e w1 ⟨b1, rfl, hb1, hR1, hbb⟩
  have hm1 : l.length ≤ maxLen := by unfold maxLen; omega
  have HV1 := hide (wr_of_row hR1 hm1)
  have HO1 := hide ((unhide HO0).trans (Out.of_below hbb))
  have HC1 := hide (P.keepB (unhide HC0) hbb)
  have HX1 := hide ((unhide HX0).below hbb)
  have HB1 := hide ((unhide hXb).below hbb)
  have Hb1 := hide (Nat.le_trans (unhide Hs0) hb1)
  clear hbb hR1 hb1 HO0 HC0 HX0 hXb hm1
  go_wp2_with fail
  refine (unhide hE _ (unhide HC1) (unhide hGo _ (unhide HO1)) _ _ (unhide HV1).rd (unhide HV1).cap ((unhide HV1).off (unhide nF _ (unhide Hb1)))).mono ?_
  rintro e w2 ⟨hp, ho2, hC2⟩
  obtain ⟨v2, b2, rfl, hb2, hS2⟩ := encP_L hp
  have hlt1 := (unhide HV1).lt
  have H12 := hide (show b1 ≠ b2 by omega)
  have Hb2 := hide (show w.heap.size ≤ b2 from Nat.le_trans (unhide HO1).size hb2)
  have HS2 := hide hS2
  have HV2 := hide ((unhide HV1).out (unhide nF _ (unhide Hb1)) ho2)
  have HO2 := hide ((unhide HO1).trans ho2)
  have HX2 := hide (unhide hXo _ _ _ (unhide HX1) (fun k hk => (unhide hFl k hk).1) ho2)
  have hbx : Box w2 w.heap.size c.G.m c.G.q c.first c.delta c.short c.cut c.bin := (ho2.block _ (unhide HB1).lt (unhide nF _ (Nat.le_refl _))).trans (unhide HB1)
  have x0 := hbx.c0
  have x1 := hbx.c1
  have x2 := hbx.c2
  have x3 := hbx.c3
  have x4 := hbx.c4
  have x5 := hbx.c5
  have x6 := hbx.c6
  have HB2 := hide hbx
  have HC2 := hide hC2
  clear hp ho2 hC2 hS2 hb2 hlt1 HV1 HO1 HC1 HX1 HB1 hbx
  go_wp2_with fail
  refine (unhide hO _ (unhide HC2) (unhide hGo _ (unhide HO2)) (unhide hBo _ (unhide HO2))).mono ?_
  rintro e w3 ⟨⟨r, rfl⟩, ho3, hC3⟩
  clear x0 x1 x2 x3 x4 x5 x6
  have hbx : Box w3 w.heap.size c.G.m c.G.q c.first c.delta c.short c.cut c.bin := (ho3.block _ (unhide HB2).lt (unhide nF _ (Nat.le_refl _))).trans (unhide HB2)
  have x0 := hbx.c0
  have x1 := hbx.c1
  have x2 := hbx.c2
  have x3 := hbx.c3
  have x4 := hbx.c4
  have x5 := hbx.c5
  have x6 := hbx.c6
  have HS3 := hide ((unhide HS2).out (unhide nF _ (unhide Hb2)) ho3)
  have HV3 := hide ((unhide HV2).out (unhide nF _ (unhide Hb1)) ho3)
  have HO3 := hide ((unhide HO2).trans ho3)
  have HX3 := hide (unhide hXo _ _ _ (unhide HX2) (fun k hk => (unhide hFl k hk).1) ho3)
  have HC3 := hide hC3
  clear ho3 hC3 hbx HS2 HV2 HO2 HX2 HC2 HB2
  go_wp2_with fail
  refine (unhide hR _ _ _ (unhide HX3)).mono ?_
  rintro e w4 ⟨hi, hb4⟩
  obtain ⟨v4, rfl, hr4, -⟩ := encIs_L hi
  have HR4 := hide hr4
  have HS4 := hide ((unhide HS3).below hb4)
  have HV4 := hide ((unhide HV3).below hb4)
  have HO4 := hide ((unhide HO3).trans (Out.of_below hb4))
  have HX4 := hide ((unhide HX3).below hb4)
  have HC4 := hide (P.keepB (unhide HC3) hb4)
  clear hi hr4 hb4 x0 x1 x2 x3 x4 x5 x6 HS3 HV3 HO3 HX3 HC3
  go_wp2_with fail
  refine (Same_any _ _ _ _ _ (unhide HS4).rd (unhide HR4)).mono ?_
  rintro e w5 ⟨rfl, hb5⟩
  rw [show (encL c l == encL c l) = true by simp]
  have HS5 := hide ((unhide HS4).below hb5)
  have HV5 := hide ((unhide HV4).below hb5)
  have HO5 := hide ((unhide HO4).trans (Out.of_below hb5))
  have HX5 := hide ((unhide HX4).below hb5)
  have HC5 := hide (P.keepB (unhide HC4) hb5)
  clear hb5 HS4 HV4 HO4 HX4 HC4 HR4
  go_wp2_with fail
  refine (Same_any _ _ _ _ _ (unhide HV5).rd (unhide HX5)).mono ?_
  rintro e w6 ⟨rfl, hb6⟩
  rw [show (l == l) = true by simp]
  have HS6 := hide ((unhide HS5).below hb6)
  have HV6 := hide ((unhide HV5).below hb6)
  have HO6 := hide ((unhide HO5).trans (Out.of_below hb6))
  have HX6 := hide ((unhide HX5).below hb6)
  have HC6 := hide (P.keepB (unhide HC5) hb6)
  clear hb6 HS5 HV5 HO5 HX5 HC5
  go_wp2_with fail
  refine (spoil_any v2 b2 _ (unhide HS6).spo).mono ?_
  rintro e w7 ⟨⟨r7, rfl⟩, ho7⟩
  have HV7 := hide ((unhide HV6).out (unhide H12) ho7)
  have HO7 := hide (show Out F w w7 from ⟨ho7.os.trans (unhide HO6).os, ho7.tape.trans (unhide HO6).tape, ho7.output.trans (unhide HO6).output, Nat.le_trans (unhide HO6).size ho7.size, fun k hk hD => (ho7.block k (Nat.lt_of_lt_of_le hk (unhide HO6).size) (by have := unhide Hb2; omega)).trans ((unhide HO6).block k hk hD)⟩)
  have HX7 := hide (unhide hXo _ _ _ (unhide HX6) (fun k hk => by have := unhide Hb2; omega) ho7)
  have HC7 := hide (P.keep (unhide HC6) ho7 (fun k hk e => unhide nF _ (unhide Hb2) (by rw [← show k = b2 from e]; exact hk)))
  clear ho7 HS6 HV6 HO6 HX6 HC6
  go_wp2_with fail
  refine (Same_any _ _ _ _ _ (unhide HV7).rd (unhide HX7)).mono ?_
  rintro e w8 ⟨rfl, hb8⟩
  rw [show (l == l) = true by simp]
  have HO8 := hide ((unhide HO7).trans (Out.of_below hb8))
  have HC8 := hide (P.keepB (unhide HC7) hb8)
  clear hb8 HV7 HO7 HX7 HC7
  generalize encE c l = ee at *
  generalize encAt c l = ea at *
  have t1 : (ee == ee) = true := by simp
  have t2 : (ea == ea) = true := by simp
  go_wp2_with (go_at_call 14; refine (num_any _ _).mono ?_; rintro e w' ⟨rfl, rfl⟩)
  go_ret
  exact ⟨rfl, unhide HO8, unhide HC8⟩
end Go.Proofs.YtnpkkcbadcmgkaaGreatDoor
