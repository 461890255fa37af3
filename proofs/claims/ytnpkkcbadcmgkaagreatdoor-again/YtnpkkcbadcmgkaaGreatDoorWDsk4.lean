import Derived.Test.YtnpkkcbadcmgkaaGreatDoorProg
import Derived.Conc.MuLone
import Derived.KernelRfl
import Derived.Test.YtnpkkcbadcmgkaaGreatDoorWDsk2
import Derived.Test.YtnpkkcbadcmgkaaGreatDoorWDsk3
namespace Go.Proofs.YtnpkkcbadcmgkaaGreatDoor
/-- where the program holds the lock's functions and types. -/
abbrev muLink : Go.Conc.Locks.MuLink := { lock := 74, unlock := 75, ilock := 91, iunlock := 92, lockSlow := 107, unlockSlow := 110, disable := 103, enable := 105, acquire := 106, relMerge := 108, cas32 := 104, add32 := 109, tIMutex := 121, tMutex := 123, tPMutex := 152, tPIMutex := 158, tPI32 := 160, tUP := 105, tNoCopy := 118, tU32 := 119 }
theorem muLib : Go.Conc.Locks.MuLib Tryz.prog muLink :=
  ⟨Tryz.func74, Tryz.func75, Tryz.func91, Tryz.func92, Tryz.func103, Tryz.func105, Tryz.func106, Tryz.func108, Tryz.func104, Tryz.func109, Tryz.underlying121, Tryz.runUnderlying121, Tryz.sizeOf121, Tryz.isAgg121, Tryz.zeroValue121, Tryz.underlying123, Tryz.runUnderlying123, Tryz.sizeOf123, Tryz.isAgg123, Tryz.zeroValue123, Tryz.underlying152, Tryz.runUnderlying152, Tryz.sizeOf152, Tryz.isAgg152, Tryz.zeroValue152, Tryz.underlying158, Tryz.runUnderlying158, Tryz.sizeOf158, Tryz.isAgg158, Tryz.zeroValue158, Tryz.underlying160, Tryz.runUnderlying160, Tryz.sizeOf160, Tryz.isAgg160, Tryz.zeroValue160, Tryz.underlying105, Tryz.runUnderlying105, Tryz.sizeOf105, Tryz.isAgg105, Tryz.zeroValue105, Tryz.underlying118, Tryz.runUnderlying118, Tryz.sizeOf118, Tryz.isAgg118, Tryz.zeroValue118, Tryz.underlying21, Tryz.runUnderlying21, Tryz.sizeOf21, Tryz.isAgg21, Tryz.zeroValue21, (by kernel_rfl)⟩
end Go.Proofs.YtnpkkcbadcmgkaaGreatDoor

namespace Go.Proofs.YtnpkkcbadcmgkaaGreatDoor
open Go.RowKit Go.Deep
open Gf (Cd)

/-- the variables that Decode reads. -/
def gsDec : List Nat := [7, 0, 1, 9, 8, 3, 4, 10, 11, 12]

/-- where the decoder stands ahead of its step k. -/
def Stg (c : Cd) (b bp bl bd bm : Nat) (l z : List Nat) (w : World) : Nat → Prop
  | 0 => ∃ r, DkAt c b bp bl bd bm 1 0 0 r w ∧ BegIs c l z r
  | 1 => ∃ r, DkAt c b bp bl bd bm 1 0 0 r w ∧ (∀ p, p < c.n → r p = Gf.full0 c l p) ∧ (∀ p, p < c.n → r (c.n + p) = if Gf.gone0 c z p then 1 else 0) ∧ (∀ j, j < c.delta - 1 → r (oS c + j) = Gf.sum0 c l j) ∧ (∀ i, oL c ≤ i → i < oE c → r i = 0)
  | 2 => ∃ r, DkAt c b bp bl bd bm 1 (Gf.cnt (Gf.gone0 c z) c.n) (Gf.cnt (Gf.gone0 c z) c.n) r w ∧ (∀ p, p < c.n → r p = Gf.full0 c l p) ∧ (∀ j, j < c.delta - 1 → r (oS c + j) = Gf.sum0 c l j) ∧ Gf.Lo c.G c.n (c.delta - 1) (Gf.gone0 c z) c.n (Gf.cnt (Gf.gone0 c z) c.n) (fun i => r (oL c + i))
  | 3 => ∃ r L, DkAt c b bp bl bd bm 1 (Gf.cnt (Gf.gone0 c z) c.n) (L : Nat) r w ∧ (∀ p, p < c.n → r p = Gf.full0 c l p) ∧ (∀ j, j < c.delta - 1 → r (oS c + j) = Gf.sum0 c l j) ∧ Gf.BmC c l z (c.delta - 1) L (fun i => r (oL c + i)) (fun i => r (oE c + i)) ∧ 2 * L < c.delta + Gf.cnt (Gf.gone0 c z) c.n
  | 4 => ∃ r L, DkAt c b bp bl bd bm 1 (Gf.cnt (Gf.gone0 c z) c.n) (L : Nat) r w ∧ (∀ p, p < c.n → r p = Gf.full0 c l p) ∧ (∀ j, j < c.delta - 1 → r (oS c + j) = Gf.sum0 c l j) ∧ Gf.BmC c l z (c.delta - 1) L (fun i => r (oL c + i)) (fun i => r (oE c + i)) ∧ 2 * L < c.delta + Gf.cnt (Gf.gone0 c z) c.n ∧ L ≤ Gf.cnt (Gf.root c.G c.n L (fun i => r (oL c + i))) c.n ∧ ∀ j, j < L → r (oP c + j) = (flt (Gf.root c.G c.n L (fun i => r (oL c + i))) c.n).getD j 0
  | 5 => ∃ r L lo ea, DkAt c b bp bl bd bm 1 (Gf.cnt (Gf.gone0 c z) c.n) (L : Nat) r w ∧ Gf.BmC c l z (c.delta - 1) L lo ea ∧ 2 * L < c.delta + Gf.cnt (Gf.gone0 c z) c.n ∧ Gf.Done c l z L lo r
  | _ => ∃ r L lo ea, DkAt c b bp bl bd bm 1 (Gf.cnt (Gf.gone0 c z) c.n) (L : Nat) r w ∧ Gf.BmC c l z (c.delta - 1) L lo ea ∧ 2 * L < c.delta + Gf.cnt (Gf.gone0 c z) c.n ∧ Gf.Done c l z L lo r ∧ (∀ p, p < c.short → r p = 0) ∧ ∀ p, p < c.n → c.Sy (r p)

/-- what a step answers. -/
def StepP (c : Cd) (b bp bl bd bm : Nat) (l z : List Nat) (k : Nat) (w : World) (e : Ending) (w' : World) : Prop :=
  Out (Dsk bd bm) w w' ∧ ((IsErr e ∧ Gf.NoNear c l z ∧ ∃ ls dg r, DkAt c b bp bl bd bm 1 ls dg r w') ∨ (e = .returned .nilIface ∧ Stg c b bp bl bd bm l z w' k))

section
variable {c : Cd} {b bp bl bd bm : Nat} {l z : List Nat} {w : World}
theorem step0 (m3 : 3 ≤ c.G.m) (m8 : c.G.m ≤ 8) (hn : c.n < 256) (hcm : Gf.Came c l z) (h : Stg c b bp bl bd bm l z w 0) : Calls Tryz.prog 93 #[.pointer (some ⟨bd, 0, none⟩)] w (StepP c b bp bl bd bm l z 1 w) := by
  obtain ⟨r, hK, h1, h2, h3⟩ := h
  obtain ⟨o1, o2, o3, o4, o5, o6⟩ := lay_le c hcm.ok.d2
  refine (findSums_any c b bp bl bd bm 1 0 0 r w m3 m8 hcm.ok hn hK).mono ?_
  rintro e w' ⟨rfl, hK', ho⟩
  refine ⟨ho, Or.inr ⟨rfl, _, hK', fun p hp => ?_, fun p hp => ?_, fun j hj => ?_, fun i a b => ?_⟩⟩
  · unfold fsM; rw [if_neg (by omega)]; exact h1 p hp
  · unfold fsM; rw [if_neg (by omega)]; exact h2 p hp
  · unfold fsM Gf.sum0
    rw [if_pos (by omega)]
    have : oS c + j - oS c = j := by omega
    rw [this]
    exact Gf.hv_congr _ (fun i hi => h1 i hi)
  · unfold fsM; rw [if_neg (by omega)]; exact h3 i (by omega)
theorem step1 (m3 : 3 ≤ c.G.m) (m8 : c.G.m ≤ 8) (hn : c.n < 256) (hcm : Gf.Came c l z) (L : Laid gsDec w) (hne : ∀ g, g ∈ gsDec → ¬ Dsk bd bm g) (h : Stg c b bp bl bd bm l z w 1) : Calls Tryz.prog 94 #[.pointer (some ⟨bd, 0, none⟩)] w (StepP c b bp bl bd bm l z 2 w) := by
  obtain ⟨r, hK, h1, h2, h3, h4⟩ := h
  obtain ⟨o1, o2, o3, o4, o5, o6⟩ := lay_le c hcm.ok.d2
  have hd2 := hcm.ok.d2
  refine (locateLosses_any c b bp bl bd bm 1 (Gf.gone0 c z) r w m3 m8 hcm.ok hn hK h2 h4 (L.so _ (by decide)) (hne _ (by decide))).mono ?_
  rintro e w' ⟨ho, ⟨he, hlt, hd⟩ | ⟨rfl, r', m, hK', hL, hF⟩⟩
  · exact ⟨ho, Or.inl ⟨he, Gf.no_losses hcm hlt, hd⟩⟩
  · have hm : Gf.cnt (Gf.gone0 c z) c.n = m := hL.cn
    refine ⟨ho, Or.inr ⟨rfl, r', by rw [hm]; exact hK', fun p hp => ?_, fun j hj => ?_, by rw [hm]; exact hL⟩⟩
    · rw [hF p (by omega) (by omega)]; exact h1 p hp
    · rw [hF _ (by omega) (by omega)]; exact h3 j hj
theorem step2 (m3 : 3 ≤ c.G.m) (m8 : c.G.m ≤ 8) (hn : c.n < 256) (hcm : Gf.Came c l z) (L : Laid gsDec w) (hne : ∀ g, g ∈ gsDec → ¬ Dsk bd bm g) (h : Stg c b bp bl bd bm l z w 2) : Calls Tryz.prog 95 #[.pointer (some ⟨bd, 0, none⟩)] w (StepP c b bp bl bd bm l z 3 w) := by
  obtain ⟨r, hK, h1, h3, h4⟩ := h
  obtain ⟨o1, o2, o3, o4, o5, o6⟩ := lay_le c hcm.ok.d2
  have hd2 := hcm.ok.d2
  refine (locateTurns_any c b bp bl bd bm 1 l z _ r w m3 m8 hn hcm rfl hK h4 h3 (L.so _ (by decide)) (hne _ (by decide))).mono ?_
  rintro e w' ⟨ho, ⟨he, hno, hd⟩ | ⟨rfl, r', L', hK', hB, h2L, hF⟩⟩
  · exact ⟨ho, Or.inl ⟨he, hno, hd⟩⟩
  · refine ⟨ho, Or.inr ⟨rfl, r', L', hK', fun p hp => ?_, fun j hj => ?_, hB, h2L⟩⟩
    · rw [hF p (by omega) (by omega)]; exact h1 p hp
    · rw [hF _ (by omega) (by omega)]; exact h3 j hj
theorem step3 (m3 : 3 ≤ c.G.m) (m8 : c.G.m ≤ 8) (hn : c.n < 256) (hcm : Gf.Came c l z) (L : Laid gsDec w) (hne : ∀ g, g ∈ gsDec → ¬ Dsk bd bm g) (h : Stg c b bp bl bd bm l z w 3) : Calls Tryz.prog 96 #[.pointer (some ⟨bd, 0, none⟩)] w (StepP c b bp bl bd bm l z 4 w) := by
  obtain ⟨r, L', hK, h1, h3, hB, h2L⟩ := h
  obtain ⟨o1, o2, o3, o4, o5, o6⟩ := lay_le c hcm.ok.d2
  have hd2 := hcm.ok.d2
  refine (findPlaces_any c b bp bl bd bm 1 l z _ L' r w m3 m8 hn hcm hK hB (L.so _ (by decide)) (hne _ (by decide))).mono ?_
  rintro e w' ⟨ho, ⟨he, hno, hd⟩ | ⟨rfl, hge, r', hK', hF, hP⟩⟩
  · exact ⟨ho, Or.inl ⟨he, hno, hd⟩⟩
  · have eL : ∀ i, i ≤ c.delta - 1 → r' (oL c + i) = r (oL c + i) := fun i hi => hF _ (by omega)
    have eE : ∀ i, i ≤ c.delta - 1 → r' (oE c + i) = r (oE c + i) := fun i hi => hF _ (by omega)
    have hLD := hB.Lk
    have eR : Gf.root c.G c.n L' (fun i => r' (oL c + i)) = Gf.root c.G c.n L' (fun i => r (oL c + i)) := funext fun p => by
      unfold Gf.root
      rw [Gf.hv_congr _ (fun i hi => eL i (by omega))]
    refine ⟨ho, Or.inr ⟨rfl, r', L', hK', fun p hp => ?_, fun j hj => ?_, bm_congr hB eL eE, h2L, by rw [eR]; exact hge, fun j hj => ?_⟩⟩
    · rw [hF p (by omega)]; exact h1 p hp
    · rw [hF _ (by omega)]; exact h3 j hj
    · rw [eR]; exact hP j (by omega)
theorem step4 (m3 : 3 ≤ c.G.m) (m8 : c.G.m ≤ 8) (hn : c.n < 256) (hcm : Gf.Came c l z) (h : Stg c b bp bl bd bm l z w 4) : Calls Tryz.prog 97 #[.pointer (some ⟨bd, 0, none⟩)] w (StepP c b bp bl bd bm l z 5 w) := by
  obtain ⟨r, L', hK, h1, h3, hB, h2L, hge, hpl⟩ := h
  refine (mendPlaces_any c b bp bl bd bm 1 l z _ L' r w m3 m8 hn hcm hK hB hge hpl h3 h1).mono ?_
  rintro e w' ⟨rfl, ho, r', hK', hD⟩
  exact ⟨ho, Or.inr ⟨rfl, r', L', _, _, hK', hB, h2L, hD⟩⟩
theorem step5 (m3 : 3 ≤ c.G.m) (m8 : c.G.m ≤ 8) (hn : c.n < 256) (hcm : Gf.Came c l z) (L : Laid gsDec w) (h : Stg c b bp bl bd bm l z w 5) : Calls Tryz.prog 98 #[.pointer (some ⟨bd, 0, none⟩)] w (StepP c b bp bl bd bm l z 6 w) := by
  obtain ⟨r, L', lo, ea, hK, hB, h2L, hD⟩ := h
  refine (checkFull_any c b bp bl bd bm 1 _ _ r w m3 m8 hcm.ok hn hK (L.so _ (by decide)) (L.so _ (by decide))).mono ?_
  rintro e w' ⟨rfl, ⟨he, p, hp, hbad⟩ | ⟨rfl, h0, hs⟩⟩
  · exact ⟨Out.of_below (Below.refl _ _), Or.inl ⟨he, Gf.no_done hcm hB hD hp hbad, _, _, _, hK⟩⟩
  · exact ⟨Out.of_below (Below.refl _ _), Or.inr ⟨rfl, r, L', lo, ea, hK, hB, h2L, hD, h0, hs⟩⟩
end

set_option maxHeartbeats 1000000 in
theorem steps_any (w : World) : Calls Tryz.prog 77 #[] w fun e w' => ∃ bs, e = .returned (.slice (some ⟨bs, 0, none⟩) 6 6) ∧ w.heap.size ≤ bs ∧ Below w.heap.size w w' ∧ w'.cell? ⟨bs, 0, none⟩ = some (.func (.func 93) #[] #[]) ∧ w'.cell? ⟨bs, 1, none⟩ = some (.func (.func 94) #[] #[]) ∧ w'.cell? ⟨bs, 2, none⟩ = some (.func (.func 95) #[] #[]) ∧ w'.cell? ⟨bs, 3, none⟩ = some (.func (.func 96) #[] #[]) ∧ w'.cell? ⟨bs, 4, none⟩ = some (.func (.func 97) #[] #[]) ∧ w'.cell? ⟨bs, 5, none⟩ = some (.func (.func 98) #[] #[]) := by
  go_enter Tryz.func77, Tryz.ntmps77
  go_wp2
  go_ret
  exact ⟨_, rfl, Nat.le_refl _, (Below.refl _ _).alloc (Nat.le_refl _) _, by simp, by simp, by simp, by simp, by simp, by simp⟩
end Go.Proofs.YtnpkkcbadcmgkaaGreatDoor

namespace Go.Proofs.YtnpkkcbadcmgkaaGreatDoor
open Go.RowKit Go.Deep
open Gf (Cd)

/-- what mend answers. -/
def MenP (c : Cd) (b bp bl bd bm : Nat) (l z : List Nat) (w : World) (e : Ending) (w' : World) : Prop :=
  Out (Dsk bd bm) w w' ∧ (∃ ls dg r, DkAt c b bp bl bd bm 0 ls dg r w') ∧
    ((∃ a, e = .returned (.tuple #[.slice none 0 0, .iface 175 (.pointer (some a))]) ∧ Gf.NoNear c l z) ∨
     (∃ u bo cap, e = .returned (.tuple #[.slice (some ⟨bo, 0, none⟩) (c.n - c.short - c.cut) cap, .nilIface]) ∧ w.heap.size ≤ bo ∧ c.n - c.short - c.cut ≤ cap ∧ Gf.msg c u ∧ c.AllSy u ∧ Gf.Near c u l z ∧ PRow w' bo (c.n - c.short - c.cut) (fun i => (c.word u).getD i 0)))

theorem Stg.below {c : Cd} {b bp bl bd bm : Nat} {l z : List Nat} {w w' : World} {k : Nat} (h : Stg c b bp bl bd bm l z w k) (hb : Below w.heap.size w w') : Stg c b bp bl bd bm l z w' k := by
  match k, h with
  | 0, ⟨r, hK, h⟩ => exact ⟨r, hK.below hb, h⟩
  | 1, ⟨r, hK, h⟩ => exact ⟨r, hK.below hb, h⟩
  | 2, ⟨r, hK, h⟩ => exact ⟨r, hK.below hb, h⟩
  | 3, ⟨r, L, hK, h⟩ => exact ⟨r, L, hK.below hb, h⟩
  | 4, ⟨r, L, hK, h⟩ => exact ⟨r, L, hK.below hb, h⟩
  | 5, ⟨r, L, lo, ea, hK, h⟩ => exact ⟨r, L, lo, ea, hK.below hb, h⟩
  | _ + 6, ⟨r, L, lo, ea, hK, h⟩ => exact ⟨r, L, lo, ea, hK.below hb, h⟩

set_option maxRecDepth 100000 in
set_option maxHeartbeats 16000000 in
theorem mend_any (c : Cd) (b bp bl bd bm : Nat) (ls dg : Int) (r : Nat → Nat) (x y : Value) (l z : List Nat) (w : World) (m3 : 3 ≤ c.G.m) (m8 : c.G.m ≤ 8) (hn : c.n < 256) (hcm : Gf.Came c l z) (h : DkAt c b bp bl bd bm 0 ls dg r w) (hx : RdN w x l) (hxo : Off (Dsk bd bm) x) (hy : RdN w y z) (hyo : Off (Dsk bd bm) y)
    (hL : ∀ wx, Out (Dsk bd bm) w wx → Laid gsDec wx) (hne : ∀ g, g ∈ gsDec → ¬ Dsk bd bm g) :
    Calls Tryz.prog 45 #[.pointer (some ⟨bd, 0, none⟩), x, y] w (MenP c b bp bl bd bm l z w) := by
  have hsK := hcm.ok.s
  have hKn := Gf.K_le hcm.ok
  have hrm := hcm.room
  obtain ⟨o1, o2, o3, o4, o5, o6⟩ := lay_le c hcm.ok.d2
  have x11 := h.x11
  have f11 := h.fz 11
  have K1 := hide (h.setLk 1)
  have O1 := hide (show Out (Dsk bd bm) w (w.setCell ⟨bd, 11, none⟩ (.int .i32 1)) from (Out.of_below (Below.refl _ _)).set (p := ⟨bd, 11, none⟩) (Or.inl rfl) _)
  have hBg := hide (fun wx (hK : DkAt c b bp bl bd bm 1 ls dg r wx) (ho : Out (Dsk bd bm) w wx) => begin_any c b bp bl bd bm 1 ls dg r x y l z wx hn hcm hK (Rd.out hx hxo ho) hxo (Rd.out hy hyo ho) hyo)
  have hLt := hide (show bd < w.heap.size ∧ bm < w.heap.size from ⟨h.lt, h.ltm⟩)
  have HCM := hide hcm
  have HL := hide hL
  have HNE := hide hne
  clear h hx hxo hy hyo hL hne hcm hrm
  go_enter_defers Tryz.func45, Tryz.ntmps45
  go_wp2_with (go_at_call 74; refine (Go.MuLone.lock_free muLib ⟨bd, 11, none⟩ _ x11 f11).mono ?_; rintro e w' ⟨rfl, rfl⟩)
  clear x11 f11
  generalize w.setCell ⟨bd, 11, none⟩ (.int .i32 1) = w1 at *
  refine (unhide hBg w1 (unhide K1) (unhide O1)).mono ?_
  rintro e w2 ⟨⟨vv, rfl⟩, ho2, r2, hK2, hB2⟩
  have S0 := hide (show Stg c b bp bl bd bm l z w2 0 from ⟨r2, hK2, hB2⟩)
  have O2 := hide ((unhide O1).trans ho2)
  clear ho2 hK2 hB2 K1 O1 hBg
  go_wp2_with fail
  refine (steps_any w2).mono ?_
  rintro e w3 ⟨bs, rfl, hbs, hb3, c0, c1, c2, c3, c4, c5⟩
  have hbd : ¬ Dsk bd bm bs := fun hd => by
    have h1 := (unhide O2).size
    obtain ⟨h2, h3⟩ := unhide hLt
    rcases hd with e | e <;> omega
  have O3 := hide (show Out (Dsk bd bm) w w3 from (unhide O2).trans (Out.of_below hb3))
  have S1 := hide ((unhide S0).below hb3)
  have HC := hide (fun wx (ho : Out (Dsk bd bm) w3 wx) => show _ ∧ _ ∧ _ ∧ _ ∧ _ ∧ _ from ⟨ho.cell c0 hbd, ho.cell c1 hbd, ho.cell c2 hbd, ho.cell c3 hbd, ho.cell c4 hbd, ho.cell c5 hbd⟩)
  clear c0 c1 c2 c3 c4 c5 hbd hb3 hbs S0 O2
  go_wp2
  go_loopw [9, 10, 24] (fun _ _ i wr => ∃ k : Nat, k ≤ 6 ∧ i = .int .i64 k ∧ Hid (Stg c b bp bl bd bm l z wr k) ∧ Hid (Out (Dsk bd bm) w3 wr)) (fun _ _ i _ => 6 - (intOf i).toNat)
  case atStart => exact ⟨0, by omega, rfl, S1, hide (Out.of_below (Below.refl _ _))⟩
  case round =>
    clear S1
    obtain ⟨k, hk, rfl, hS, ho⟩ := hrel
    have OW := hide ((unhide O3).trans (unhide ho))
    have LW := hide (unhide HL wr (unhide OW))
    obtain ⟨c0, c1, c2, c3, c4, c5⟩ := unhide HC wr (unhide ho)
    rcases (show k = 0 ∨ k = 1 ∨ k = 2 ∨ k = 3 ∨ k = 4 ∨ k = 5 ∨ k = 6 by omega) with rfl | rfl | rfl | rfl | rfl | rfl | rfl
    · have hst := hide (step0 m3 m8 hn (unhide HCM) (unhide hS))
      clear c1 c2 c3 c4 c5 hS hk
      go_wp2_with fail
      refine (unhide hst).mono ?_
      rintro e w4 ⟨ho4, ⟨⟨a, rfl⟩, hno, hd⟩ | ⟨rfl, hS4⟩⟩
      · obtain ⟨ls', dg', r', hK'⟩ := hd
        have O5 := hide (((unhide OW).trans ho4).set (p := ⟨bd, 11, none⟩) (Or.inl rfl) (.int .i32 0))
        have K5 := hide (hK'.setLk 0)
        have q1 := hK'.x11
        have q2 := hK'.fz 11
        have HNO := hide hno
        clear ho4 hno hK' hst c0
        go_wp2
        refine leaves_cons (f := 75) (args := #[.pointer (some ⟨bd, 11, none⟩)]) (by simp) (by simp [go_sem]) ?_
        refine (Go.MuLone.unlock_deferred muLib ⟨bd, 11, none⟩ .returning _ q1 q2).mono ?_
        rintro e u' w5 ⟨rfl, rfl, rfl⟩
        exact ⟨_, results_tmp2 rfl _ _ _, unhide O5, ⟨_, _, _, unhide K5⟩, Or.inl ⟨a, rfl, unhide HNO⟩⟩
      · have O5 := hide ((unhide ho).trans ho4)
        have S5 := hide hS4
        clear ho4 hS4 hst c0
        go_wp2
        exact ⟨⟨1, by omega, by go_num, S5, O5⟩, by simp [intOf]⟩
    · have hst := hide (step1 m3 m8 hn (unhide HCM) (unhide LW) (unhide HNE) (unhide hS))
      clear c0 c2 c3 c4 c5 hS hk
      go_wp2_with fail
      refine (unhide hst).mono ?_
      rintro e w4 ⟨ho4, ⟨⟨a, rfl⟩, hno, hd⟩ | ⟨rfl, hS4⟩⟩
      · obtain ⟨ls', dg', r', hK'⟩ := hd
        have O5 := hide (((unhide OW).trans ho4).set (p := ⟨bd, 11, none⟩) (Or.inl rfl) (.int .i32 0))
        have K5 := hide (hK'.setLk 0)
        have q1 := hK'.x11
        have q2 := hK'.fz 11
        have HNO := hide hno
        clear ho4 hno hK' hst c1
        go_wp2
        refine leaves_cons (f := 75) (args := #[.pointer (some ⟨bd, 11, none⟩)]) (by simp) (by simp [go_sem]) ?_
        refine (Go.MuLone.unlock_deferred muLib ⟨bd, 11, none⟩ .returning _ q1 q2).mono ?_
        rintro e u' w5 ⟨rfl, rfl, rfl⟩
        exact ⟨_, results_tmp2 rfl _ _ _, unhide O5, ⟨_, _, _, unhide K5⟩, Or.inl ⟨a, rfl, unhide HNO⟩⟩
      · have O5 := hide ((unhide ho).trans ho4)
        have S5 := hide hS4
        clear ho4 hS4 hst c1
        go_wp2
        exact ⟨⟨2, by omega, by go_num, S5, O5⟩, by simp [intOf]⟩
    · have hst := hide (step2 m3 m8 hn (unhide HCM) (unhide LW) (unhide HNE) (unhide hS))
      clear c0 c1 c3 c4 c5 hS hk
      go_wp2_with fail
      refine (unhide hst).mono ?_
      rintro e w4 ⟨ho4, ⟨⟨a, rfl⟩, hno, hd⟩ | ⟨rfl, hS4⟩⟩
      · obtain ⟨ls', dg', r', hK'⟩ := hd
        have O5 := hide (((unhide OW).trans ho4).set (p := ⟨bd, 11, none⟩) (Or.inl rfl) (.int .i32 0))
        have K5 := hide (hK'.setLk 0)
        have q1 := hK'.x11
        have q2 := hK'.fz 11
        have HNO := hide hno
        clear ho4 hno hK' hst c2
        go_wp2
        refine leaves_cons (f := 75) (args := #[.pointer (some ⟨bd, 11, none⟩)]) (by simp) (by simp [go_sem]) ?_
        refine (Go.MuLone.unlock_deferred muLib ⟨bd, 11, none⟩ .returning _ q1 q2).mono ?_
        rintro e u' w5 ⟨rfl, rfl, rfl⟩
        exact ⟨_, results_tmp2 rfl _ _ _, unhide O5, ⟨_, _, _, unhide K5⟩, Or.inl ⟨a, rfl, unhide HNO⟩⟩
      · have O5 := hide ((unhide ho).trans ho4)
        have S5 := hide hS4
        clear ho4 hS4 hst c2
        go_wp2
        exact ⟨⟨3, by omega, by go_num, S5, O5⟩, by simp [intOf]⟩
    · have hst := hide (step3 m3 m8 hn (unhide HCM) (unhide LW) (unhide HNE) (unhide hS))
      clear c0 c1 c2 c4 c5 hS hk
      go_wp2_with fail
      refine (unhide hst).mono ?_
      rintro e w4 ⟨ho4, ⟨⟨a, rfl⟩, hno, hd⟩ | ⟨rfl, hS4⟩⟩
      · obtain ⟨ls', dg', r', hK'⟩ := hd
        have O5 := hide (((unhide OW).trans ho4).set (p := ⟨bd, 11, none⟩) (Or.inl rfl) (.int .i32 0))
        have K5 := hide (hK'.setLk 0)
        have q1 := hK'.x11
        have q2 := hK'.fz 11
        have HNO := hide hno
        clear ho4 hno hK' hst c3
        go_wp2
        refine leaves_cons (f := 75) (args := #[.pointer (some ⟨bd, 11, none⟩)]) (by simp) (by simp [go_sem]) ?_
        refine (Go.MuLone.unlock_deferred muLib ⟨bd, 11, none⟩ .returning _ q1 q2).mono ?_
        rintro e u' w5 ⟨rfl, rfl, rfl⟩
        exact ⟨_, results_tmp2 rfl _ _ _, unhide O5, ⟨_, _, _, unhide K5⟩, Or.inl ⟨a, rfl, unhide HNO⟩⟩
      · have O5 := hide ((unhide ho).trans ho4)
        have S5 := hide hS4
        clear ho4 hS4 hst c3
        go_wp2
        exact ⟨⟨4, by omega, by go_num, S5, O5⟩, by simp [intOf]⟩
    · have hst := hide (step4 m3 m8 hn (unhide HCM) (unhide hS))
      clear c0 c1 c2 c3 c5 hS hk
      go_wp2_with fail
      refine (unhide hst).mono ?_
      rintro e w4 ⟨ho4, ⟨⟨a, rfl⟩, hno, hd⟩ | ⟨rfl, hS4⟩⟩
      · obtain ⟨ls', dg', r', hK'⟩ := hd
        have O5 := hide (((unhide OW).trans ho4).set (p := ⟨bd, 11, none⟩) (Or.inl rfl) (.int .i32 0))
        have K5 := hide (hK'.setLk 0)
        have q1 := hK'.x11
        have q2 := hK'.fz 11
        have HNO := hide hno
        clear ho4 hno hK' hst c4
        go_wp2
        refine leaves_cons (f := 75) (args := #[.pointer (some ⟨bd, 11, none⟩)]) (by simp) (by simp [go_sem]) ?_
        refine (Go.MuLone.unlock_deferred muLib ⟨bd, 11, none⟩ .returning _ q1 q2).mono ?_
        rintro e u' w5 ⟨rfl, rfl, rfl⟩
        exact ⟨_, results_tmp2 rfl _ _ _, unhide O5, ⟨_, _, _, unhide K5⟩, Or.inl ⟨a, rfl, unhide HNO⟩⟩
      · have O5 := hide ((unhide ho).trans ho4)
        have S5 := hide hS4
        clear ho4 hS4 hst c4
        go_wp2
        exact ⟨⟨5, by omega, by go_num, S5, O5⟩, by simp [intOf]⟩
    · have hst := hide (step5 m3 m8 hn (unhide HCM) (unhide LW) (unhide hS))
      clear c0 c1 c2 c3 c4 hS hk
      go_wp2_with fail
      refine (unhide hst).mono ?_
      rintro e w4 ⟨ho4, ⟨⟨a, rfl⟩, hno, hd⟩ | ⟨rfl, hS4⟩⟩
      · obtain ⟨ls', dg', r', hK'⟩ := hd
        have O5 := hide (((unhide OW).trans ho4).set (p := ⟨bd, 11, none⟩) (Or.inl rfl) (.int .i32 0))
        have K5 := hide (hK'.setLk 0)
        have q1 := hK'.x11
        have q2 := hK'.fz 11
        have HNO := hide hno
        clear ho4 hno hK' hst c5
        go_wp2
        refine leaves_cons (f := 75) (args := #[.pointer (some ⟨bd, 11, none⟩)]) (by simp) (by simp [go_sem]) ?_
        refine (Go.MuLone.unlock_deferred muLib ⟨bd, 11, none⟩ .returning _ q1 q2).mono ?_
        rintro e u' w5 ⟨rfl, rfl, rfl⟩
        exact ⟨_, results_tmp2 rfl _ _ _, unhide O5, ⟨_, _, _, unhide K5⟩, Or.inl ⟨a, rfl, unhide HNO⟩⟩
      · have O5 := hide ((unhide ho).trans ho4)
        have S5 := hide hS4
        clear ho4 hS4 hst c5
        go_wp2
        exact ⟨⟨6, by omega, by go_num, S5, O5⟩, by simp [intOf]⟩
    · clear c0 c1 c2 c3 c4 c5 hk
      obtain ⟨r6, L6, lo, ea, hK6, hB6, h2L, hD6, hz6, hs6⟩ := unhide hS
      obtain ⟨hu1, hu2, hu3, hu4⟩ := Gf.done_word (unhide HCM) hB6 h2L hD6 hz6 hs6
      have HU := hide (show Gf.msg c (Gf.lst (fun i => r6 (c.short + i)) (c.K - c.short)) ∧ c.AllSy (Gf.lst (fun i => r6 (c.short + i)) (c.K - c.short)) ∧ Gf.Near c (Gf.lst (fun i => r6 (c.short + i)) (c.K - c.short)) l z from ⟨hu1, hu2, hu4⟩)
      have HW := hide hu3
      have K6 := hide hK6
      clear hu1 hu2 hu3 hu4 hK6 hB6 h2L hD6 hz6 hs6 hS
      go_wp2
      have iN := Up.ne wr
      have y14 := fun n : Up wr => n.cell (unhide K6).x14
      have y9 := fun n : Up wr => n.cell (unhide K6).x9
      have y10 := fun n : Up wr => n.cell (unhide K6).x10
      obtain ⟨hi, hhi⟩ : ∃ hi, hi = c.n - c.cut := ⟨_, rfl⟩
      have q1 : IntKind.i64.wrap ((c.n : Int) - (c.cut : Int)) = (hi : Int) := by rw [wrap_small (by omega) (by omega)]; omega
      have hW' : hi - c.short = c.n - c.short - c.cut := by omega
      have HWW := hide hW'
      have b1 : (c.short : Int) ≤ (hi : Int) := by omega
      have b2 : (hi : Int) ≤ (c.n : Int) := by omega
      have b3 : (0 : Int) ≤ (c.short : Int) := by omega
      have b4 : ¬ c.n = c.short := by omega
      have hlen : (Gf.lst (fun i => r6 (c.short + i)) (hi - c.short)).length = hi - c.short := Gf.lst_length _ _
      have hCl := hide (fun n : Up wr => clone_any bm c.short (c.n - c.short) (Gf.lst (fun i => r6 (c.short + i)) (hi - c.short)) n.v (by rw [hlen]; omega) (by rw [hlen]; omega) (fun i hi' => by
        rw [hlen] at hi'
        rw [Gf.lst_getD _ hi']; exact n.cell ((unhide K6).at (by omega))))
      rw [hlen] at hCl
      clear hlen hhi hW'
      refine wide_tail 19 (by kernel_rfl) (by kernel_rfl) ?_
      simp only [List.take_succ_cons, List.take_zero, List.drop_succ_cons, List.drop_zero]
      repeat (quiet_step (fail))
      refine wpQuiet_nil ?_
      intro d
      clear y14 y9 y10 iN q1
      go_wp2_with fail
      refine (unhide hCl d).mono ?_
      rintro e w5 ⟨br, cr, rfl, hbr, hcr, hrow, hb5⟩
      have hK7 := ((unhide K6).up d).below hb5
      have q1 := hK7.x11
      have q2 := hK7.fz 11
      have K7 := hide (hK7.setLk 0)
      have O7 := hide (((Up.out (unhide OW) d).trans (Out.of_below hb5)).set (p := ⟨bd, 11, none⟩) (Or.inl rfl) (.int .i32 0))
      have hbr' := hide (show w.heap.size ≤ br from Nat.le_trans (Nat.le_trans (unhide OW).size d.be.size) hbr)
      have hCr := hide hcr
      have hRow := hide hrow
      clear hrow hb5 hK7 K6 hCl hcr hbr
      go_wp2
      refine leaves_cons (f := 75) (args := #[.pointer (some ⟨bd, 11, none⟩)]) (by simp) (by simp [go_sem]) ?_
      refine (Go.MuLone.unlock_deferred muLib ⟨bd, 11, none⟩ .returning _ q1 q2).mono ?_
      rintro e u' w6 ⟨rfl, rfl, rfl⟩
      obtain ⟨hu1, hu2, hu3⟩ := unhide HU
      refine ⟨_, results_tmp2 rfl _ _ _, unhide O7, ⟨_, _, _, unhide K7⟩, Or.inr ⟨_, br, cr, by rw [← unhide HWW]; rfl, unhide hbr', by rw [← unhide HWW]; exact unhide hCr, hu1, hu2, hu3, ?_⟩⟩
      rw [unhide HW, ← unhide HWW]
      refine PRow.of_block (unhide hRow) (blk_setCell_other _ _ _ _ ?_)
      have h1 := (unhide hLt).1
      have h2 := unhide hbr'
      show br ≠ bd
      omega
end Go.Proofs.YtnpkkcbadcmgkaaGreatDoor
