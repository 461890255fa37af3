import Derived.Test.YtnpkkcbadcmgkaaGreatDoorWDsk4
import Derived.Test.YtnpkkcbadcmgkaaGreatDoorWInst
import Derived.Test.YtnpkkcbadcmgkaaGreatDoorWDecodes
namespace Go.Proofs.YtnpkkcbadcmgkaaGreatDoor
open Go.RowKit Go.Deep
open Gf (Cd)

theorem placeFault_any (t : TypeId) (v : Value) (k : Int) (w : World) : Calls Tryz.prog 73 #[.iface t v, .int .i64 k] w (FltP 4 k w) := by
  go_enter Tryz.func73, Tryz.ntmps73
  go_wp2
  go_ret
  exact ⟨_, rfl, ⟨_, rfl, by simp, by simp⟩, (Below.refl _ _).alloc (Nat.le_refl _) _⟩
theorem lostFault_any (t : TypeId) (v : Value) (w : World) : Calls Tryz.prog 46 #[.iface t v] w (FltP 5 0 w) := by
  go_enter Tryz.func46, Tryz.ntmps46
  go_wp2
  go_ret
  exact ⟨_, rfl, ⟨_, rfl, by simp, by simp⟩, (Below.refl _ _).alloc (Nat.le_refl _) _⟩

/-- what checkPlaces answers. -/
def CpP (W : Nat) (z : List Int) (w : World) (e : Ending) (w' : World) : Prop :=
  (upTo (badAt W z) z.length = z.length ∧ e = .returned .nilIface ∧ w' = w) ∨ (upTo (badAt W z) z.length ≠ z.length ∧ FltP 4 (upTo (badAt W z) z.length) w e w')

set_option maxRecDepth 100000 in
set_option maxHeartbeats 8000000 in
theorem checkPlaces_any (W : Nat) (v : Value) (z : List Int) (w : World) (L : Laid gsDec w) (h : Rd w v z) (_hW : W ≤ 256) :
    Calls Tryz.prog 44 #[v, .int .i64 (W : Int)] w (CpP W z w) := by
  obtain ⟨a, cap, rfl, hm, hc⟩ := h
  have hm' := maxLen_lt hm
  have Hc := hide hc
  obtain ⟨an, han⟩ := L.so 3 (by decide)
  obtain ⟨ao, hao⟩ := L.so 4 (by decide)
  clear hc hm L
  go_enter Tryz.func44, Tryz.ntmps44
  go_wp2
  go_loopw [5, 6, 9] (fun _ _ i wr => ∃ k : Nat, k ≤ z.length ∧ i = .int .i64 k ∧ wr = w ∧ Hid (∀ j, j < k → badAt W z j = false)) (fun _ _ i _ => z.length - (intOf i).toNat)
  case atStart => exact ⟨0, by omega, rfl, rfl, hide (fun j hj => by omega)⟩
  case round =>
    obtain ⟨k, hk, rfl, hww, hn⟩ := hrel
    obtain rfl := hww.symm
    by_cases hlt : k < z.length
    · obtain ⟨b, o, rfl, hcell⟩ := unhide Hc k hlt
      have hI : (k : Int) < (z.length : Int) := by omega
      have hT := hide (show badAt W z k = true → upTo (badAt W z) z.length ≠ z.length ∧ upTo (badAt W z) z.length = k from fun hbd => by
        have h1 := upTo_at (unhide hn) hbd hlt
        exact ⟨by omega, h1⟩)
      have hF := hide (show badAt W z k = false → ∀ j, j < k + 1 → badAt W z j = false from fun hbd j hj => by
        rcases Nat.lt_or_ge j k with h1 | h1
        · exact unhide hn j h1
        · have : j = k := by omega
          rw [this]; exact hbd)
      have hbd := hide (show badAt W z k = (decide (z.getD k 0 < 0) || decide ((W : Int) ≤ z.getD k 0) || (decide (0 < k) && decide (z.getD k 0 ≤ z.getD (k - 1) 0))) from rfl)
      by_cases hk0 : k = 0
      · subst hk0
        have hbd0 := hide (show badAt W z 0 = (decide (z.getD 0 0 < 0) || decide ((W : Int) ≤ z.getD 0 0)) by rw [unhide hbd]; simp)
        clear hn hbd hk
        have hcell0 : w.cell? ⟨b, o, none⟩ = some (.int .i64 (z.getD 0 0)) := by simpa using hcell
        clear hcell
        generalize z.getD 0 0 = x at *
        by_cases hx0 : x < 0
        · have hA := hide (unhide hT (by rw [unhide hbd0]; simp [hx0]))
          clear hT hF hbd0
          have t1 : decide (x < 0) = true := decide_eq_true hx0
          go_wp2_with fail
          refine (placeFault_any _ _ _ _).mono ?_
          rintro e w2 ⟨y, rfl, hf, hb⟩
          have HFl := hide hf
          have HB := hide hb
          clear hf hb
          go_wp2
          go_ret
          refine Or.inr ⟨(unhide hA).1, _, rfl, ?_, unhide HB⟩
          rw [(unhide hA).2]; exact unhide HFl
        · by_cases hxn : (W : Int) ≤ x
          · have hA := hide (unhide hT (by rw [unhide hbd0]; simp [hxn]))
            clear hT hF hbd0
            have t1 : decide (x < 0) = false := decide_eq_false hx0
            have t2 : decide ((W : Int) ≤ x) = true := decide_eq_true hxn
            go_wp2_with fail
            refine (placeFault_any _ _ _ _).mono ?_
            rintro e w2 ⟨y, rfl, hf, hb⟩
            have HFl := hide hf
            have HB := hide hb
            clear hf hb
            go_wp2
            go_ret
            refine Or.inr ⟨(unhide hA).1, _, rfl, ?_, unhide HB⟩
            rw [(unhide hA).2]; exact unhide HFl
          · have hA := hide (unhide hF (by rw [unhide hbd0]; simp [hx0, hxn]))
            clear hT hF hbd0
            have t1 : decide (x < 0) = false := decide_eq_false hx0
            have t2 : decide ((W : Int) ≤ x) = false := decide_eq_false hxn
            go_wp2
            exact ⟨⟨1, by omega, by go_num, trivial, hA⟩, by simp [intOf]; omega⟩
      · obtain ⟨j, rfl⟩ : ∃ j, k = j + 1 := ⟨k - 1, by omega⟩
        obtain ⟨b', o', e', hcell'⟩ := unhide Hc j (by omega)
        cases e'
        have ej : (((j + 1 : Nat)) : Int) = (j : Int) + 1 := by omega
        rw [ej] at hI ⊢
        have hbd2 := hide (show badAt W z (j + 1) = (decide (z.getD (j + 1) 0 < 0) || decide ((W : Int) ≤ z.getD (j + 1) 0) || decide (z.getD (j + 1) 0 ≤ z.getD j 0)) by rw [unhide hbd]; simp)
        have hk1 : (0 : Int) < (j : Int) + 1 := by omega
        have w1' : IntKind.i64.wrap (j : Int) = (j : Int) := by rw [IntKind.wrap_i64]; omega
        have w2' : (0 : Int) ≤ (j : Int) + 1 := by omega
        have w4' : (j : Int) < (z.length : Int) := by omega
        clear hn ej hbd
        generalize z.getD (j + 1) 0 = x at *
        generalize z.getD j 0 = x' at *
        by_cases hx0 : x < 0
        · have hA := hide (unhide hT (by rw [unhide hbd2]; simp [hx0]))
          clear hT hF hbd2
          have t1 : decide (x < 0) = true := decide_eq_true hx0
          go_wp2_with fail
          refine (placeFault_any _ _ _ _).mono ?_
          rintro e w2 ⟨y, rfl, hf, hb⟩
          have HFl := hide hf
          have HB := hide hb
          clear hf hb
          go_wp2
          go_ret
          refine Or.inr ⟨(unhide hA).1, _, rfl, ?_, unhide HB⟩
          rw [(unhide hA).2]; exact unhide HFl
        · by_cases hxn : (W : Int) ≤ x
          · have hA := hide (unhide hT (by rw [unhide hbd2]; simp [hxn]))
            clear hT hF hbd2
            have t1 : decide (x < 0) = false := decide_eq_false hx0
            have t2 : decide ((W : Int) ≤ x) = true := decide_eq_true hxn
            go_wp2_with fail
            refine (placeFault_any _ _ _ _).mono ?_
            rintro e w2 ⟨y, rfl, hf, hb⟩
            have HFl := hide hf
            have HB := hide hb
            clear hf hb
            go_wp2
            go_ret
            refine Or.inr ⟨(unhide hA).1, _, rfl, ?_, unhide HB⟩
            rw [(unhide hA).2]; exact unhide HFl
          · by_cases hxo : x ≤ x'
            · have hA := hide (unhide hT (by rw [unhide hbd2]; simp [hxo]))
              clear hT hF hbd2
              have t1 : decide (x < 0) = false := decide_eq_false hx0
              have t2 : decide ((W : Int) ≤ x) = false := decide_eq_false hxn
              have t3 : decide (x ≤ x') = true := decide_eq_true hxo
              go_wp2_with fail
              refine (placeFault_any _ _ _ _).mono ?_
              rintro e w2 ⟨y, rfl, hf, hb⟩
              have HFl := hide hf
              have HB := hide hb
              clear hf hb
              go_wp2
              go_ret
              refine Or.inr ⟨(unhide hA).1, _, rfl, ?_, unhide HB⟩
              rw [(unhide hA).2]; exact unhide HFl
            · have hA := hide (unhide hF (by rw [unhide hbd2]; simp [hx0, hxn, hxo]))
              clear hT hF hbd2
              have t1 : decide (x < 0) = false := decide_eq_false hx0
              have t2 : decide ((W : Int) ≤ x) = false := decide_eq_false hxn
              have t3 : decide (x ≤ x') = false := decide_eq_false hxo
              go_wp2
              exact ⟨⟨j + 1 + 1, by omega, by go_num, trivial, hA⟩, by simp [intOf]; omega⟩
    · have e : k = z.length := by omega
      subst e
      have hA := hide (upTo_all (unhide hn))
      clear hn
      go_wp2
      go_ret
      exact Or.inl ⟨unhide hA, rfl, rfl⟩

/-! ### what has come, checked, is as the theory of the code wants it -/
theorem lost_lt {W : Nat} {z : List Int} (h : ∀ i, i < z.length → badAt W z i = false) : ∀ (d i : Nat), i + d + 1 < z.length → z.getD i 0 < z.getD (i + d + 1) 0
  | 0, i, hi => by
    have := (bad_no (h (i + 1) hi)).2.2 (by omega)
    rw [Nat.add_sub_cancel] at this
    exact this
  | d + 1, i, hi => by
    have h1 := lost_lt h d i (by omega)
    have h2 := (bad_no (h (i + d + 1 + 1) (by omega))).2.2 (by omega)
    rw [Nat.add_sub_cancel] at h2
    show z.getD i 0 < z.getD (i + d + 1 + 1) 0
    omega
theorem came_of {c : Cd} (ok : c.Ok) {l z : List Int} (ha : askE c l z = 0) : Gf.Came c (nat l) (nat z) := by
  obtain ⟨hc, hz⟩ := ask_ok ha
  obtain ⟨hl, hgd⟩ := given_ok.1 hc
  have hzl : (nat z).length = z.length := by unfold nat; rw [List.length_map]
  have hat : ∀ i, i < z.length → (nat z)[i]? = some (z.getD i 0).toNat := fun i hi => by
    unfold nat
    rw [List.getElem?_map, List.getElem?_eq_getElem hi, List.getD_eq_getElem?_getD, List.getElem?_eq_getElem hi]; rfl
  refine ⟨ok, by unfold nat; rw [List.length_map]; exact hl, nat_sy c hgd, ?_, fun x hx => ?_⟩
  · refine List.pairwise_iff_getElem.2 fun i j hi hj hij => ?_
    rw [hzl] at hi hj
    have h1 := hat i hi
    have h2 := hat j hj
    rw [List.getElem?_eq_getElem (by rw [hzl]; exact hi)] at h1
    rw [List.getElem?_eq_getElem (by rw [hzl]; exact hj)] at h2
    rw [Option.some.inj h1, Option.some.inj h2]
    obtain ⟨d, rfl⟩ : ∃ d, j = i + d + 1 := ⟨j - i - 1, by omega⟩
    have h3 := lost_lt hz d i hj
    have h4 := (bad_no (hz i hi)).1
    omega
  · obtain ⟨i, hi, e⟩ := List.mem_iff_getElem.1 hx
    rw [hzl] at hi
    have h1 := hat i hi
    rw [List.getElem?_eq_getElem (by rw [hzl]; exact hi)] at h1
    have h2 := (bad_no (hz i hi)).2.1
    have h3 := (bad_no (hz i hi)).1
    rw [← e, Option.some.inj h1]
    omega
theorem near_iff {c : Cd} (ok : c.Ok) {l z u : List Int} (ha : askE c l z = 0) (hu : isMsg c u) : nearB c (encL c u) l z = true ↔ Gf.Near c (nat u) (nat l) (nat z) := by
  obtain ⟨hc, hz⟩ := ask_ok ha
  obtain ⟨hl, hgd⟩ := given_ok.1 hc
  have eu := enc_len ok hu
  have ezl : (nat z).length = z.length := by unfold nat; rw [List.length_map]
  unfold nearB Gf.Near
  rw [decide_eq_true_iff, eu, encL_msg hu]
  have el := nat_map hgd
  have ez := lost_nat hz
  have h1 : far ((c.word (nat u)).map fun x : Nat => (x : Int)) l z (c.n - c.short - c.cut) = Gf.dif (fun i => !(nat z).contains i) (c.word (nat u)) (nat l) (c.n - c.short - c.cut) := by
    have := far_dif (c.word (nat u)) (nat l) (nat z) (c.n - c.short - c.cut)
    rw [el, ez] at this
    exact this
  rw [h1, ezl]
theorem no_near {c : Cd} (ok : c.Ok) {l z : List Int} (ha : askE c l z = 0) (h : Gf.NoNear c (nat l) (nat z)) : ∀ u, isMsg c u → nearB c (encL c u) l z = false := fun u hu => by
  obtain ⟨h1, h2⟩ := given_ok.1 hu
  cases hb : nearB c (encL c u) l z
  · rfl
  · exact absurd ((near_iff ok ha hu).1 hb) (h _ (nat_msg c h1 h2) (nat_sy c h2))
end Go.Proofs.YtnpkkcbadcmgkaaGreatDoor

namespace Go.Proofs.YtnpkkcbadcmgkaaGreatDoor
open Go.RowKit Go.Deep
open Gf (Cd)

theorem results_tmp4 {fn : Func} {t u v x : Tmp} (h : fn.results = #[.tmp t, .tmp u, .tmp v, .tmp x]) (tmps : Array Value) (P : Program) (w : World) :
    (results fn tmps).run P w = .ok (.tuple #[tmps.getD t undef, tmps.getD u undef, tmps.getD v undef, tmps.getD x undef]) w := by
  simp [results, h]
theorem enc_sub : ∀ g, g ∈ gsEnc → g ∈ gsDec := by decide
theorem CodAt.x6 {c : Cd} {bc b bp bl bg capg bd : Nat} {w : World} (h : CodAt c bc b bp bl bg capg bd w) : w.cell? ⟨bc, 6, none⟩ = some (.pointer (some ⟨bd, 0, none⟩)) := by simp [World.cell?, h.blk]

/-- what decode answers. -/
def IDec (c : Cd) (l z : List Int) (w : World) (e : Ending) (w' : World) : Prop :=
  (askE c l z ≠ 0 ∧ ∃ x, e = .returned (.tuple #[.slice none 0 0, .slice none 0 0, x]) ∧ Flt (askE c l z) (askAt c l z) x w') ∨
  (askE c l z = 0 ∧ (∀ u, isMsg c u → nearB c (encL c u) l z = false) ∧ ∃ x, e = .returned (.tuple #[.slice none 0 0, .slice none 0 0, x]) ∧ Flt 5 0 x w') ∨
  (askE c l z = 0 ∧ ∃ u v1 v2 b1 b2, isMsg c u ∧ nearB c (encL c u) l z = true ∧ e = .returned (.tuple #[v1, v2, .nilIface]) ∧ w.heap.size ≤ b1 ∧ w.heap.size ≤ b2 ∧ b1 ≠ b2 ∧ Wr w' v1 u b1 ∧ Wr w' v2 (encL c u) b2)
/-- and what it keeps. -/
def DecK (c : Cd) (bc b bp bl bg capg bd bm : Nat) (w w' : World) : Prop := Out (Dsk bd bm) w w' ∧ CodAt c bc b bp bl bg capg bd w' ∧ ∃ ls dg r, DkAt c b bp bl bd bm 0 ls dg r w'

theorem wr_of_prow {w : World} {b n cap : Nat} {l : List Nat} (h : PRow w b n (fun i => l.getD i 0)) (hl : l.length = n) (hc : n ≤ cap) (hn : n < 1024) : Wr w (.slice (some ⟨b, 0, none⟩) n cap) (l.map fun x : Nat => (x : Int)) b := by
  obtain ⟨N, F, hN, hr, hF⟩ := h
  have e : (l.map fun x : Nat => (x : Int)).length = n := by rw [List.length_map, hl]
  refine ⟨0, cap, N, F, by rw [e], by rw [e]; exact hc, hr, by rw [e]; omega, by rw [e]; unfold maxLen; omega, fun i hi => ?_⟩
  rw [e] at hi
  rw [Nat.zero_add, hF i hi, mapN_getD]

theorem DecK.below {c : Cd} {bc b bp bl bg capg bd bm : Nat} {w w' w'' : World} (h : DecK c bc b bp bl bg capg bd bm w w') (hb : Below w'.heap.size w' w'') : DecK c bc b bp bl bg capg bd bm w w'' := by
  obtain ⟨ho, hc, ls, dg, r, hd⟩ := h
  exact ⟨ho.trans (Out.of_below hb), hc.below hb, ls, dg, r, hd.below hb⟩

set_option maxRecDepth 100000 in
set_option maxHeartbeats 8000000 in
theorem idecode_any (c : Cd) (bc b bp bl bg capg bd bm : Nat) (ls dg : Int) (r : Nat → Nat) (x y : Value) (l z : List Int) (w : World) (m3 : 3 ≤ c.G.m) (m8 : c.G.m ≤ 8) (ok : c.Ok) (h : CodAt c bc b bp bl bg capg bd w) (hd : DkAt c b bp bl bd bm 0 ls dg r w) (hbc : ¬ Dsk bd bm bc) (hbg : ¬ Dsk bd bm bg)
    (hL : ∀ wx, Out (Dsk bd bm) w wx → Laid gsDec wx) (hne : ∀ g, g ∈ gsDec → ¬ Dsk bd bm g) (hx : Rd w x l) (hxo : Off (Dsk bd bm) x) (hy : Rd w y z) (hyo : Off (Dsk bd bm) y) :
    Calls Tryz.prog 33 #[.pointer (some ⟨bc, 0, none⟩), x, y] w fun e w' => IDec c l z w e w' ∧ DecK c bc b bp bl bg capg bd bm w w' := by
  have hpre : Pre c := ⟨m3, m8, ok.f, ok.d2, ok.dn⟩
  obtain ⟨hn1, hn2⟩ := hpre.nb
  have hKl := Gf.K_le ok
  have hsK := ok.s
  have hS := hide (Size_core bc bg _ capg _ _ w h.x3 h.x4 h.x5)
  have hC := hide (fun wx (hx : CodAt c bc b bp bl bg capg bd wx) (hl : Laid gsEnc wx) (hrx : Rd wx x l) => checkList_any c bc b bp bl bg capg bd (c.n - c.short - c.cut) x l wx m3 m8 hx hl hrx (by omega))
  have hP := hide (fun wx (hl : Laid gsDec wx) (hrx : Rd wx y z) => checkPlaces_any (c.n - c.short - c.cut) y z wx hl hrx (by omega))
  have hM := hide (fun wx (hdx : DkAt c b bp bl bd bm 0 ls dg r wx) (hxx : Rd wx x l) (hyx : Rd wx y z) (ha : askE c l z = 0) (hLx : ∀ wy, Out (Dsk bd bm) wx wy → Laid gsDec wy) => mend_any c b bp bl bd bm ls dg r x y (nat l) (nat z) wx m3 m8 (by omega) (came_of ok ha) hdx
    (by unfold RdN; rw [nat_map (given_ok.1 (ask_ok ha).1).2]; exact hxx) hxo (by unfold RdN; rw [lost_nat (ask_ok ha).2]; exact hyx) hyo hLx hne)
  have hKeep := hide (fun wx (ho : Out (Dsk bd bm) w wx) => show CodAt c bc b bp bl bg capg bd wx from by
    obtain ⟨_, e1, e2, e3, e4, e5, e6⟩ := hd.ne
    exact h.of (ho.block _ h.lt hbc) (ho.block _ (lt_of_cell h.fa.c0) (fun q => q.elim e4 e1)) (ho.block _ h.fa.pows.lt (fun q => q.elim e5 e2)) (ho.block _ h.fa.logs.lt (fun q => q.elim e6 e3)) (ho.block _ (lt_of_cell (h.gs 0 (CodAt.g1 c))) hbg))
  have HD := hide hd
  have HX := hide hx
  have HY := hide hy
  have HLL := hide hL
  have OK := hide ok
  clear h hd hL hx hy hpre ok hbc hbg hne hxo hyo
  obtain ⟨sz, hsz⟩ : ∃ sz, sz = c.n - c.short - c.cut := ⟨_, rfl⟩
  obtain ⟨mz, hmz⟩ : ∃ mz, mz = c.K - c.short := ⟨_, rfl⟩
  rw [← hsz] at hC hP
  rw [← hsz, ← hmz] at hS
  have HSZ := hide hsz
  have HMZ := hide hmz
  have hszb : sz < 1000 := by omega
  have hms : mz ≤ sz := by omega
  clear hsz hmz
  go_enter Tryz.func33, Tryz.ntmps33
  go_wp2_with fail
  refine (unhide hS).mono ?_
  rintro e w1 ⟨rfl, d, hw1⟩
  have B1 := hide (show Below w.heap.size w w1 by rw [hw1]; exact below_of_drewN _ _ _)
  clear hw1 hS
  have O1 := hide (Out.of_below (D := Dsk bd bm) (unhide B1))
  go_wp2_with fail
  refine (unhide hC w1 (unhide hKeep w1 (unhide O1)) ((unhide HLL w1 (unhide O1)).sub enc_sub) ((unhide HX).below (unhide B1))).mono ?_
  rintro e w2 ⟨hor, hb⟩
  have B2 := hide (Below.join (unhide B1) hb)
  clear hb hC B1 O1
  have O2 := hide (Out.of_below (D := Dsk bd bm) (unhide B2))
  rcases hor with ⟨hg, rfl⟩ | ⟨hg, xx, rfl, hf⟩
  · have Hg := hide (show chkE c l = 0 by unfold chkE; rw [← unhide HSZ]; exact hg)
    clear hg
    go_wp2_with fail
    refine (unhide hP w2 (unhide HLL w2 (unhide O2)) ((unhide HY).below (unhide B2))).mono ?_
    rintro e w3 (⟨hu, rfl, hw3⟩ | ⟨hu, xx, rfl, hf, hb3⟩)
    · obtain rfl := hw3.symm
      have HA := hide (show askE c l z = 0 by unfold askE; rw [if_pos (unhide Hg), ← unhide HSZ, if_pos hu])
      have x6 := (unhide hKeep w2 (unhide O2)).x6
      clear hu hP
      go_wp2_with fail
      refine (unhide hM w2 ((unhide HD).below (unhide B2)) ((unhide HX).below (unhide B2)) ((unhide HY).below (unhide B2)) (unhide HA) (fun wy ho => unhide HLL wy ((unhide O2).trans ho))).mono ?_
      rintro e w4 ⟨ho4, hdk, ⟨a, rfl, hno⟩ | ⟨u, bo, cap, rfl, hbo, hcap, hu1, hu2, hu3, hrow⟩⟩
      · have O4 := hide ((unhide O2).trans ho4)
        have DK4 := hide hdk
        have HNO := hide (no_near (unhide OK) (unhide HA) hno)
        clear ho4 hdk hno x6 hM
        go_wp2_with fail
        refine (lostFault_any _ _ _).mono ?_
        rintro e w5 ⟨xx, rfl, hf, hb5⟩
        have K5 := hide (DecK.below (show DecK c bc b bp bl bg capg bd bm w w4 from ⟨unhide O4, unhide hKeep w4 (unhide O4), unhide DK4⟩) hb5)
        obtain ⟨fb, rfl, f0, f1⟩ := hf
        have HF := hide (show Flt 5 0 (.iface 83 (.pointer (some ⟨fb, 0, none⟩))) w5 from ⟨fb, rfl, f0, f1⟩)
        clear hb5 f0 f1 O4 DK4
        go_wp2
        go_ret3
        exact ⟨Or.inr (Or.inl ⟨unhide HA, unhide HNO, _, rfl, unhide HF⟩), unhide K5⟩
      · have O4 := hide ((unhide O2).trans ho4)
        have DK4 := hide hdk
        have hwl := Gf.word_length (unhide OK) hu1
        have hwt := Gf.word_take (unhide OK) hu1
        have hul : u.length = mz := by rw [unhide HMZ]; exact hu1.1
        rw [← unhide HSZ] at hcap hrow hwl
        have hB := hide (show w.heap.size ≤ bo from Nat.le_trans (unhide O2).size hbo)
        have hblt := hide (PRow.lt hrow)
        have hCl := hide (clone_any bo 0 cap u w4 (by rw [hul]; omega) (by have := unhide HMZ; omega) (fun i hi => by
          rw [Nat.zero_add, PRow.cell hrow (show i < sz by omega)]
          have e1 : (c.word u).getD i 0 = u.getD i 0 := by
            have e2 : ((c.word u).take (c.K - c.short)).getD i 0 = u.getD i 0 := by rw [hwt]
            rw [← e2, List.getD_eq_getElem?_getD, List.getD_eq_getElem?_getD, List.getElem?_take_of_lt (by have := unhide HMZ; omega)]
          rw [e1]))
        rw [hul] at hCl
        have HROW := hide hrow
        have HCAP := hide hcap
        have HWL := hide hwl
        have hisM : isMsg c (zs u) := fit_zs hu1 hu2
        have hnr := (near_iff (unhide OK) (unhide HA) hisM).2 (by rw [nat_zs]; exact hu3)
        have henc := (enc_fit hisM).2.2
        rw [nat_zs] at henc
        have HIS := hide hisM
        have HNR := hide hnr
        have HENC := hide henc
        have HUL := hide hul
        have b1 : (mz : Int) ≤ (cap : Int) := by omega
        have b2 : (0 : Int) ≤ (mz : Int) := by omega
        clear ho4 hdk hbo hcap hu1 hu2 hu3 hrow hwl hwt hul hisM hnr henc x6 hM
        go_wp2_with fail
        refine (unhide hCl).mono ?_
        rintro e w5 ⟨br, cr, rfl, hbr, hcr, hr5, hb5⟩
        have K5 := hide (DecK.below (show DecK c bc b bp bl bg capg bd bm w w4 from ⟨unhide O4, unhide hKeep w4 (unhide O4), unhide DK4⟩) hb5)
        have W1 := hide (wr_of_prow (cap := cr) hr5 (unhide HUL) hcr (by omega))
        have W2 := hide (show Wr w5 (.slice (some ⟨bo, 0, none⟩) (c.n - c.short - c.cut) cap) ((c.word u).map fun x : Nat => (x : Int)) bo by rw [← unhide HSZ]; exact wr_of_prow (cap := cap) (PRow.below (unhide HROW) hb5) (unhide HWL) (unhide HCAP) (by omega))
        have hle := hide (show w.heap.size ≤ br from Nat.le_trans (unhide O4).size hbr)
        have hnb := hide (show br ≠ bo from by have := unhide hblt; omega)
        clear hbr hcr hr5 hb5 O4 DK4 HROW HCAP hCl
        go_wp2
        go_ret3
        exact ⟨Or.inr (Or.inr ⟨unhide HA, zs u, _, _, br, bo, unhide HIS, unhide HNR, rfl, unhide hle, unhide hB, unhide hnb, unhide W1, by rw [unhide HENC]; exact unhide W2⟩), unhide K5⟩
    · obtain ⟨fb, rfl, f0, f1⟩ := hf
      have hA : askE c l z = 4 ∧ askAt c l z = upTo (badAt sz z) z.length := by
        unfold askE askAt
        rw [if_pos (unhide Hg), if_pos (unhide Hg), ← unhide HSZ, if_neg hu, if_neg hu]
        exact ⟨rfl, rfl⟩
      have HA := hide hA
      have HF := hide (show Flt 4 (upTo (badAt sz z) z.length) (.iface 83 (.pointer (some ⟨fb, 0, none⟩))) w3 from ⟨fb, rfl, f0, f1⟩)
      have K3 := hide (DecK.below (show DecK c bc b bp bl bg capg bd bm w w2 from ⟨unhide O2, unhide hKeep w2 (unhide O2), _, _, _, (unhide HD).below (unhide B2)⟩) hb3)
      clear hu f0 f1 hb3 hA hM hP
      go_wp2
      go_ret3
      refine ⟨Or.inl ⟨by rw [(unhide HA).1]; decide, _, rfl, ?_⟩, unhide K3⟩
      rw [(unhide HA).1, (unhide HA).2]; exact unhide HF
  · obtain ⟨fb, rfl, f0, f1⟩ := hf
    have hA : chkE c l ≠ 0 ∧ askE c l z = givenE c.G.m c.bin l sz ∧ askAt c l z = givenAt c.G.m c.bin l sz := by
      have h0 : chkE c l = givenE c.G.m c.bin l sz := by unfold chkE; rw [← unhide HSZ]
      have h1 : chkAt c l = givenAt c.G.m c.bin l sz := by unfold chkAt; rw [← unhide HSZ]
      unfold askE askAt
      rw [h0, h1, if_neg hg, if_neg hg]
      exact ⟨hg, rfl, rfl⟩
    have HA := hide hA
    have Hg := hide hg
    have HF := hide (show Flt (givenE c.G.m c.bin l sz) (givenAt c.G.m c.bin l sz) (.iface 83 (.pointer (some ⟨fb, 0, none⟩))) w2 from ⟨fb, rfl, f0, f1⟩)
    have K2 := hide (show DecK c bc b bp bl bg capg bd bm w w2 from ⟨unhide O2, unhide hKeep w2 (unhide O2), _, _, _, (unhide HD).below (unhide B2)⟩)
    clear hg f0 f1 hA hM hP
    go_wp2
    go_ret3
    refine ⟨Or.inl ⟨by rw [(unhide HA).2.1]; exact unhide Hg, _, rfl, ?_⟩, unhide K2⟩
    rw [(unhide HA).2.1, (unhide HA).2.2]; exact unhide HF

set_option maxHeartbeats 4000000 in
theorem Decode_prog (c : Cd) (bc b bp bl bg capg bd bm : Nat) (ls dg : Int) (r : Nat → Nat) (x y : Value) (l z : List Int) (w : World) (m3 : 3 ≤ c.G.m) (m8 : c.G.m ≤ 8) (ok : c.Ok) (h : CodAt c bc b bp bl bg capg bd w) (hd : DkAt c b bp bl bd bm 0 ls dg r w) (hbc : ¬ Dsk bd bm bc) (hbg : ¬ Dsk bd bm bg)
    (hL : ∀ wx, Out (Dsk bd bm) w wx → Laid gsDec wx) (hne : ∀ g, g ∈ gsDec → ¬ Dsk bd bm g) (hx : Rd w x l) (hxo : Off (Dsk bd bm) x) (hy : Rd w y z) (hyo : Off (Dsk bd bm) y) :
    Calls Tryz.prog 17 #[.pointer (some ⟨bc, 0, none⟩), x, y] w fun e w' => DecP c l z w w' e ∧ DecK c bc b bp bl bg capg bd bm w w' := by
  have hI := hide (idecode_any c bc b bp bl bg capg bd bm ls dg r x y l z w m3 m8 ok h hd hbc hbg hL hne hx hxo hy hyo)
  have HLL := hide hL
  clear h hd hbc hbg hL hne hx hxo hy hyo ok
  go_enter Tryz.func17, Tryz.ntmps17
  go_wp2_with fail
  refine (unhide hI).mono ?_
  rintro e w1 ⟨hor, hk⟩
  have HL1 := hide (unhide HLL w1 hk.1)
  have HK := hide hk
  clear hk hI
  rcases hor with ⟨ha, xx, rfl, hf⟩ | ⟨ha, hno, xx, rfl, hf⟩ | ⟨ha, u, v1, v2, b1, b2, hu, hnr, rfl, h1, h2, h3, hw1, hw2⟩
  · have hT := hide (told_flt _ _ _ gsDec w1 (unhide HL1) hf)
    have HA := hide ha
    clear ha hf
    go_wp2_with fail
    refine (unhide hT).mono ?_
    rintro e w2 ⟨rfl, hb2⟩
    have HK2 := hide ((unhide HK).below hb2)
    clear hb2 hT
    go_wp2
    (try simp only [Exit.inBlock, Exit.then])
    refine bodyPost_ret (results_tmp4 rfl _ _ _) rfl ?_
    exact ⟨Or.inl ⟨unhide HA, _, _, rfl, rd_nil _, rd_nil _⟩, unhide HK2⟩
  · have hT := hide (told_flt _ _ _ gsDec w1 (unhide HL1) hf)
    have HA := hide ha
    have HNO := hide hno
    clear ha hf hno
    go_wp2_with fail
    refine (unhide hT).mono ?_
    rintro e w2 ⟨rfl, hb2⟩
    have HK2 := hide ((unhide HK).below hb2)
    clear hb2 hT
    go_wp2
    (try simp only [Exit.inBlock, Exit.then])
    refine bodyPost_ret (results_tmp4 rfl _ _ _) rfl ?_
    exact ⟨Or.inr (Or.inl ⟨unhide HA, unhide HNO, _, _, rfl, rd_nil _, rd_nil _⟩), unhide HK2⟩
  · have HA := hide (show DecP c l z w w1 (.returned (.tuple #[v1, v2, .int .i64 0, .int .i64 0])) from Or.inr (Or.inr ⟨ha, u, v1, v2, b1, b2, hu, hnr, rfl, h1, h2, h3, hw1, hw2⟩))
    have HB := hide (fun wz (hb : Below w1.heap.size w1 wz) => show DecP c l z w wz (.returned (.tuple #[v1, v2, .int .i64 0, .int .i64 0])) from Or.inr (Or.inr ⟨ha, u, v1, v2, b1, b2, hu, hnr, rfl, h1, h2, h3, hw1.below hb, hw2.below hb⟩))
    clear ha hu hnr h1 h2 h3 hw1 hw2 HA
    go_wp2_with fail
    refine (told_nil _).mono ?_
    rintro e w2 ⟨rfl, hb2⟩
    have HK2 := hide ((unhide HK).below hb2)
    have HB2 := hide (unhide HB w2 hb2)
    clear hb2 HB
    go_wp2
    (try simp only [Exit.inBlock, Exit.then])
    refine bodyPost_ret (results_tmp4 rfl _ _ _) rfl ?_
    exact ⟨unhide HB2, unhide HK2⟩
end Go.Proofs.YtnpkkcbadcmgkaaGreatDoor

namespace Go.Proofs.YtnpkkcbadcmgkaaGreatDoor
open Go.RowKit Go.Deep
open Gf (Cd)

theorem dec_prog {B : Nat} {c : Cd} {F : Nat → Prop} {v : Value} {w : World} (h : CodP B c F v w) (hG : GlP gsDec B w) (m3 : 3 ≤ c.G.m) (m8 : c.G.m ≤ 8) (ok : c.Ok) (x y : Value) (l z : List Int) (hx : Rd w x l) (hxo : Off F x) (hy : Rd w y z) (hyo : Off F y) :
    Calls Tryz.prog 17 #[v, x, y] w fun e w' => DecP c l z w w' e ∧ Out F w w' ∧ CodP B c F v w' := by
  obtain ⟨bc, b, bp, bl, bg, capg, bd, bm, rfl, hc, ⟨ls, dg, r, hd⟩, hF, ⟨h0, h1, h2, h3, h4, h5, h6⟩, n0, n1, n2, n3⟩ := h
  have hDF : ∀ k, Dsk bd bm k → F k := fun k hk => (hF k).2 (by
    rcases hk with rfl | rfl
    · simp
    · simp)
  have hDB : ∀ k, Dsk bd bm k → B ≤ k := fun k hk => by rcases hk with rfl | rfl <;> assumption
  obtain ⟨w0, hw0, hl, hb⟩ := hG
  have hBw : B ≤ w.heap.size := by rw [← hw0]; exact hb.size
  have hGo : ∀ wx, Out (Dsk bd bm) w wx → GlP gsDec B wx := fun wx ho => ⟨w0, hw0, hl, hb.trans (ho.below hDB hBw)⟩
  have hne : ∀ g, g ∈ gsDec → ¬ Dsk bd bm g := fun g hg hd => by
    obtain ⟨a, ha⟩ := hl.so g hg
    have h1 := lt_of_cell ha
    have h2 := hDB g hd
    have h3 : g < w0.heap.size := h1
    omega
  refine (Decode_prog c bc b bp bl bg capg bd bm ls dg r x y l z w m3 m8 ok hc hd (fun q => q.elim n0 n1) (fun q => q.elim n2 n3) (fun wx ho => (hGo wx ho).laid) hne hx (fun b' o' i n cap e hk => hxo b' o' i n cap e (hDF _ hk)) hy (fun b' o' i n cap e hk => hyo b' o' i n cap e (hDF _ hk))).mono ?_
  rintro e w' ⟨hP, ho, hc', hd'⟩
  exact ⟨hP, ho.mono hDF, bc, b, bp, bl, bg, capg, bd, bm, rfl, hc', hd', hF, ⟨h0, h1, h2, h3, h4, h5, h6⟩, n0, n1, n2, n3⟩

/-- the program, as the statements of Decode ask it. -/
def pe (B : Nat) : Pe B where
  toPg := pgOf gsDec enc_sub B
  dec := fun {c F v w} h hG m3 m8 ok x y l z hx _ hxo hy _ hyo => by
    refine (dec_prog h hG m3 m8 ok x y l z hx hxo hy hyo).mono ?_
    rintro e w' ⟨hP, ho, hc⟩
    refine ⟨?_, ho, hc⟩
    rcases hP with ⟨_, v1, v2, rfl, _⟩ | ⟨_, _, v1, v2, rfl, _⟩ | ⟨_, u, v1, v2, b1, b2, _, _, rfl, _⟩
    · exact ⟨_, rfl⟩
    · exact ⟨_, rfl⟩
    · exact ⟨_, rfl⟩
def pd (B : Nat) : Pd B where
  toPe := pe B
  decf := fun h hG m3 m8 ok x y l z hx _ hxo hy _ hyo => dec_prog h hG m3 m8 ok x y l z hx hxo hy hyo
theorem pd_gl {W : World} (h : Laid gsDec W) : (pd W.heap.size).Gl W := ⟨W, rfl, h, Below.refl _ _⟩
theorem pe_gl {W : World} (h : Laid gsDec W) : (pe W.heap.size).Gl W := ⟨W, rfl, h, Below.refl _ _⟩
end Go.Proofs.YtnpkkcbadcmgkaaGreatDoor
