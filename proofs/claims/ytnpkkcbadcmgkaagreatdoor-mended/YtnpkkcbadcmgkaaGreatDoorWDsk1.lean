import Derived.Test.YtnpkkcbadcmgkaaGreatDoorWDk
namespace Go.Proofs.YtnpkkcbadcmgkaaGreatDoor
open Go.RowKit Go.Deep
open Gf (Cd)

/-- what a call that only reads keeps: bx: its own copy of the ring. -/
structure VaK (G : Gf.Fd) (b bp bl : Nat) (w0 w : World) : Prop where
  fa : FieldAt G.m G.q b bp bl w
  c0 : w.cell? ⟨w0.heap.size, 0, none⟩ = some (.func (.func 56) #[.pointer (some ⟨b, 0, none⟩)] #[])
  c1 : w.cell? ⟨w0.heap.size, 1, none⟩ = some (.func (.func 57) #[.pointer (some ⟨b, 0, none⟩)] #[])
  be : Below w0.heap.size w0 w
theorem VaK.start {G : Gf.Fd} {b bp bl : Nat} {w : World} (hF : FieldAt G.m G.q b bp bl w) : VaK G b bp bl w (w.alloc (.cells #[.func (.func 56) #[.pointer (some ⟨b, 0, none⟩)] #[], .func (.func 57) #[.pointer (some ⟨b, 0, none⟩)] #[]] 73)) :=
  ⟨hF.below ((Below.refl _ _).alloc (Nat.le_refl _) _), by simp, by simp, (Below.refl _ _).alloc (Nat.le_refl _) _⟩
theorem VaK.drewN {G : Gf.Fd} {b bp bl : Nat} {w0 w : World} (h : VaK G b bp bl w0 w) (d : Nat) : VaK G b bp bl w0 (w.drewN d) :=
  ⟨h.fa.heap rfl, h.c0, h.c1, h.be.trans (below_of_drewN _ _ _)⟩
theorem VaK.cell {G : Gf.Fd} {b bp bl : Nat} {w0 w : World} (h : VaK G b bp bl w0 w) {a : Addr} {v : Value} (hc : w0.cell? a = some v) : w.cell? a = some v := below_cell h.be hc

set_option maxRecDepth 100000 in
set_option maxHeartbeats 4000000 in
theorem value_any (G : Gf.Fd) (b bp bl br o n cap x : Nat) (f : Nat → Nat) (w : World) (m3 : 3 ≤ G.m) (m8 : G.m ≤ 8) (hF : FieldAt G.m G.q b bp bl w) (hx : G.El x) (hE : ∀ i, i < n → G.El (f i)) (hn : n < 4096)
    (hc : ∀ i, i < n → w.cell? ⟨br, o + i, none⟩ = some (.int .i64 ((f i : Nat) : Int))) :
    Calls Tryz.prog 111 #[agR b, .slice (some ⟨br, o, none⟩) n cap, .int .i64 (x : Int)] w fun e w' => e = .returned (.int .i64 ((Gf.hv G f x n : Nat) : Int)) ∧ Below w.heap.size w w' := by
  have KP := hide (VaK.start hF)
  have HE := hide hE
  have HX := hide hx
  have HC := hide hc
  have HT := hide (fun i j wx (hi : G.El i) (hj : G.El j) (hx : FieldAt G.m G.q b bp bl wx) => ftimes_drew G.m G.q b bp bl i j wx m3 m8 G.isF hx hi hj)
  have HP := hide (fun (i j : Nat) wx (hi : G.El i) (hj : G.El j) => fplus_any (.pointer (some ⟨b, 0, none⟩)) i j wx (sz256 m3 m8 hi) (sz256 m3 m8 hj))
  clear hF hE hx hc
  go_enter Tryz.func111, Tryz.ntmps111
  go_wp2
  go_loopw [7, 9, 12] (fun v _ i wr => ∃ k : Nat, k ≤ n ∧ v = .int .i64 ((Gf.hv G f x k : Nat) : Int) ∧ i = .int .i64 k ∧ Hid (VaK G b bp bl w wr)) (fun _ _ i _ => n - (intOf i).toNat)
  case atStart => exact ⟨0, by omega, rfl, rfl, KP⟩
  case round =>
    clear KP
    obtain ⟨k, hk, rfl, rfl, kp⟩ := hrel
    by_cases hkl : k < n
    · have hI : (k : Int) < (n : Int) := by omega
      have x0 := (unhide kp).c0
      have x1 := (unhide kp).c1
      have s1 := (unhide kp).cell (unhide HC k hkl)
      have e0 := Gf.hv_El (G := G) (f := f) x (k := k) (fun i hi => unhide HE i (by omega))
      have hT1 := hide (fun wx hx => unhide HT _ x wx e0 (unhide HX) hx)
      have hP1 := hide (fun wx => unhide HP _ _ wx (G.El_mul e0 x) (unhide HE k hkl))
      have hEq : Gf.mul G.m G.q (Gf.hv G f x k) x = G.mul (Gf.hv G f x k) x := rfl
      rw [hEq] at hT1
      have hNx := hide (show G.mul (Gf.hv G f x k) x ^^^ f k = Gf.hv G f x (k + 1) from rfl)
      rw [unhide hNx] at hP1
      have f2 := hide (fun d : Nat => (unhide kp).drewN d)
      have hfa := hide (unhide kp).fa
      clear e0 hEq hNx kp HT HP HE HX
      generalize G.mul (Gf.hv G f x k) x = z at *
      generalize f k = a at *
      go_wp2
      go_quiet (first | exact Calls.quiet_of (unhide hT1 _ ((unhide hfa).heap rfl)) | exact Calls.quiet_of_same (unhide hP1 _))
      go_wp2
      exact ⟨⟨k + 1, by omega, rfl, by go_num, unhide f2 _⟩, by simp [intOf]; omega⟩
    · have e : k = n := by omega
      subst e
      have f2 := hide (unhide kp).be
      clear kp HT HP HE HX
      go_wp2
      go_ret
      exact ⟨rfl, unhide f2⟩

set_option maxRecDepth 100000 in
set_option maxHeartbeats 4000000 in
theorem slope_any (G : Gf.Fd) (b bp bl br o n cap x : Nat) (f : Nat → Nat) (w : World) (m3 : 3 ≤ G.m) (m8 : G.m ≤ 8) (hF : FieldAt G.m G.q b bp bl w) (hx : G.El x) (hE : ∀ i, i < n → G.El (f i)) (hn : n < 4096)
    (hc : ∀ i, i < n → w.cell? ⟨br, o + i, none⟩ = some (.int .i64 ((f i : Nat) : Int))) :
    Calls Tryz.prog 115 #[agR b, .slice (some ⟨br, o, none⟩) n cap, .int .i64 (x : Int)] w fun e w' => e = .returned (.int .i64 ((Gf.slo G f x n : Nat) : Int)) ∧ Below w.heap.size w w' := by
  have KP := hide (VaK.start hF)
  have HE := hide hE
  have HX := hide hx
  have HC := hide hc
  have HT := hide (fun i j wx (hi : G.El i) (hj : G.El j) (hx : FieldAt G.m G.q b bp bl wx) => ftimes_drew G.m G.q b bp bl i j wx m3 m8 G.isF hx hi hj)
  have HP := hide (fun (i j : Nat) wx (hi : G.El i) (hj : G.El j) => fplus_any (.pointer (some ⟨b, 0, none⟩)) i j wx (sz256 m3 m8 hi) (sz256 m3 m8 hj))
  clear hF hE hx hc
  go_enter Tryz.func115, Tryz.ntmps115
  go_wp2
  go_loopw [7, 8, 10, 13] (fun v s _ i wr => ∃ k : Nat, k ≤ n ∧ v = .int .i64 ((Gf.hv G f x k : Nat) : Int) ∧ s = .int .i64 ((Gf.slo G f x k : Nat) : Int) ∧ i = .int .i64 k ∧ Hid (VaK G b bp bl w wr)) (fun _ _ _ i _ => n - (intOf i).toNat)
  case atStart => exact ⟨0, by omega, rfl, rfl, rfl, KP⟩
  case round =>
    clear KP
    obtain ⟨k, hk, rfl, rfl, rfl, kp⟩ := hrel
    by_cases hkl : k < n
    · have hI : (k : Int) < (n : Int) := by omega
      have x0 := (unhide kp).c0
      have x1 := (unhide kp).c1
      have s1 := (unhide kp).cell (unhide HC k hkl)
      have e0 := Gf.hv_El (G := G) (f := f) x (k := k) (fun i hi => unhide HE i (by omega))
      have e1 : G.El (Gf.slo G f x k) := Gf.hv_El x (fun i hi => Gf.hv_El x (fun j hj => unhide HE j (by omega)))
      have hT1 := hide (fun wx hx => unhide HT _ x wx e0 (unhide HX) hx)
      have hT2 := hide (fun wx hx => unhide HT _ x wx e1 (unhide HX) hx)
      have hP1 := hide (fun wx => unhide HP _ _ wx (G.El_mul e0 x) (unhide HE k hkl))
      have hP2 := hide (fun wx => unhide HP _ _ wx (G.El_mul e1 x) e0)
      have hEq1 : Gf.mul G.m G.q (Gf.hv G f x k) x = G.mul (Gf.hv G f x k) x := rfl
      have hEq2 : Gf.mul G.m G.q (Gf.slo G f x k) x = G.mul (Gf.slo G f x k) x := rfl
      rw [hEq1] at hT1
      rw [hEq2] at hT2
      have hN1 := hide (show G.mul (Gf.hv G f x k) x ^^^ f k = Gf.hv G f x (k + 1) from rfl)
      have hN2 := hide (show G.mul (Gf.slo G f x k) x ^^^ Gf.hv G f x k = Gf.slo G f x (k + 1) from rfl)
      rw [unhide hN1] at hP1
      rw [unhide hN2] at hP2
      have f2 := hide (fun d d' : Nat => ((unhide kp).drewN d).drewN d')
      have hfa := hide (unhide kp).fa
      clear e0 e1 hEq1 hEq2 hN1 hN2 kp HT HP HE HX
      generalize G.mul (Gf.hv G f x k) x = z at *
      generalize G.mul (Gf.slo G f x k) x = z' at *
      generalize f k = a at *
      go_wp2
      go_quiet (first | exact Calls.quiet_of (unhide hT2 _ ((unhide hfa).heap rfl)) | exact Calls.quiet_of_same (unhide hP2 _))
      obtain ⟨wq, hwq⟩ : ∃ wq, wq = wr.drewN nq := ⟨_, rfl⟩
      rw [← hwq]
      have x0q : wq.cell? ⟨w.heap.size, 0, none⟩ = some (.func (.func 56) #[.pointer (some ⟨b, 0, none⟩)] #[]) := by rw [hwq]; exact x0
      have x1q : wq.cell? ⟨w.heap.size, 1, none⟩ = some (.func (.func 57) #[.pointer (some ⟨b, 0, none⟩)] #[]) := by rw [hwq]; exact x1
      have hfq := hide (show FieldAt G.m G.q b bp bl wq by rw [hwq]; exact (unhide hfa).heap rfl)
      have f3 := hide (show ∀ d, VaK G b bp bl w (wq.drewN d) by rw [hwq]; exact fun d => unhide f2 nq d)
      clear hwq x0 x1 hfa f2 hT2 hP2 s1
      go_wp2
      go_quiet (first | exact Calls.quiet_of (unhide hT1 _ ((unhide hfq).heap rfl)) | exact Calls.quiet_of_same (unhide hP1 _))
      go_wp2
      exact ⟨⟨k + 1, by omega, rfl, rfl, by go_num, unhide f3 _⟩, by simp [intOf]; omega⟩
    · have e : k = n := by omega
      subst e
      have f2 := hide (unhide kp).be
      clear kp HT HP HE HX
      go_wp2
      go_ret
      exact ⟨rfl, unhide f2⟩

set_option maxRecDepth 100000 in
set_option maxHeartbeats 4000000 in
theorem productAt_any (G : Gf.Fd) (b bp bl ba oa na ca bb ob nb cb p : Nat) (f g : Nat → Nat) (w : World) (m3 : 3 ≤ G.m) (m8 : G.m ≤ 8) (hF : FieldAt G.m G.q b bp bl w) (hEa : ∀ i, i ≤ p → G.El (f i)) (hEb : ∀ i, i ≤ p → G.El (g i))
    (hpa : p < na) (hpb : p < nb) (hna : na < 4096) (hnb : nb < 4096) (hca : ∀ i, i ≤ p → w.cell? ⟨ba, oa + i, none⟩ = some (.int .i64 ((f i : Nat) : Int))) (hcb : ∀ i, i ≤ p → w.cell? ⟨bb, ob + i, none⟩ = some (.int .i64 ((g i : Nat) : Int))) :
    Calls Tryz.prog 114 #[agR b, .slice (some ⟨ba, oa, none⟩) na ca, .slice (some ⟨bb, ob, none⟩) nb cb, .int .i64 (p : Int)] w fun e w' => e = .returned (.int .i64 ((Gf.conv G f g p : Nat) : Int)) ∧ Below w.heap.size w w' := by
  have KP := hide (VaK.start hF)
  have HEa := hide hEa
  have HEb := hide hEb
  have HCa := hide hca
  have HCb := hide hcb
  have HT := hide (fun i j wx (hi : G.El i) (hj : G.El j) (hx : FieldAt G.m G.q b bp bl wx) => ftimes_drew G.m G.q b bp bl i j wx m3 m8 G.isF hx hi hj)
  have HP := hide (fun (i j : Nat) wx (hi : G.El i) (hj : G.El j) => fplus_any (.pointer (some ⟨b, 0, none⟩)) i j wx (sz256 m3 m8 hi) (sz256 m3 m8 hj))
  have hmx : max (0 : Int) ((p : Int) - (nb : Int) + 1) = 0 := by omega
  have hmn : min (p : Int) ((na : Int) - 1) = (p : Int) := by omega
  clear hF hEa hEb hca hcb
  go_enter Tryz.func114, Tryz.ntmps114
  go_wp2
  go_loopw [9, 10] (fun v i wr => ∃ k : Nat, k ≤ p + 1 ∧ v = .int .i64 ((Gf.sx (fun i => G.mul (f i) (g (p - i))) k : Nat) : Int) ∧ i = .int .i64 k ∧ Hid (VaK G b bp bl w wr)) (fun _ i _ => p + 1 - (intOf i).toNat)
  case atStart => exact ⟨0, by omega, rfl, rfl, KP⟩
  case round =>
    clear KP
    obtain ⟨k, hk, rfl, rfl, kp⟩ := hrel
    by_cases hkl : k ≤ p
    · have hI : (k : Int) ≤ (p : Int) := by omega
      have hI2 : (k : Int) < (na : Int) := by omega
      have x0 := (unhide kp).c0
      have x1 := (unhide kp).c1
      have s1 := (unhide kp).cell (unhide HCa k hkl)
      have s2 := (unhide kp).cell (unhide HCb (p - k) (by omega))
      have e0 : G.El (Gf.sx (fun i => G.mul (f i) (g (p - i))) k) := Gf.sx_El fun i hi => G.El_mul (unhide HEa i (by omega)) _
      have hT1 := hide (fun wx hx => unhide HT _ _ wx (unhide HEa k hkl) (unhide HEb (p - k) (by omega)) hx)
      have hP1 := hide (fun wx => unhide HP _ _ wx e0 (G.El_mul (unhide HEa k hkl) (g (p - k))))
      have hEq : Gf.mul G.m G.q (f k) (g (p - k)) = G.mul (f k) (g (p - k)) := rfl
      rw [hEq] at hT1
      have hNx := hide (show Gf.sx (fun i => G.mul (f i) (g (p - i))) k ^^^ G.mul (f k) (g (p - k)) = Gf.sx (fun i => G.mul (f i) (g (p - i))) (k + 1) from rfl)
      rw [unhide hNx] at hP1
      have f2 := hide (fun d : Nat => (unhide kp).drewN d)
      have hfa := hide (unhide kp).fa
      have ej : (p : Int) - (k : Int) = ((p - k : Nat) : Int) := by omega
      have ej2 : ((p - k : Nat) : Int) < (nb : Int) := by omega
      clear e0 hEq hNx kp HT HP HEa HEb
      obtain ⟨y, hy⟩ : ∃ y, Gf.sx (fun i => G.mul (f i) (g (p - i))) (k + 1) = y := ⟨_, rfl⟩
      rw [hy] at hP1
      have HY := hide hy
      clear hy
      generalize Gf.sx (fun i => G.mul (f i) (g (p - i))) k = y0 at *
      generalize G.mul (f k) (g (p - k)) = z at *
      generalize g (p - k) = a' at *
      generalize f k = a at *
      obtain ⟨j, hj⟩ : ∃ j, j = p - k := ⟨_, rfl⟩
      rw [← hj] at s2 ej ej2
      clear hj
      go_wp2
      go_quiet (first | exact Calls.quiet_of (unhide hT1 _ ((unhide hfa).heap rfl)) | exact Calls.quiet_of_same (unhide hP1 _))
      go_wp2
      exact ⟨⟨k + 1, by omega, by rw [unhide HY], by go_num, unhide f2 _⟩, by simp [intOf]; omega⟩
    · have e : k = p + 1 := by omega
      have f2 := hide (unhide kp).be
      have f1 := hide (show Gf.sx (fun i => G.mul (f i) (g (p - i))) k = Gf.conv G f g p by rw [e]; rfl)
      clear kp HT HP HEa HEb
      rw [unhide f1]
      have hI : (p : Int) < (k : Int) := by omega
      clear e f1
      go_wp2
      go_ret
      exact ⟨rfl, unhide f2⟩

end Go.Proofs.YtnpkkcbadcmgkaaGreatDoor

namespace Go.Proofs.YtnpkkcbadcmgkaaGreatDoor
open Go.RowKit Go.Deep
open Gf (Cd)

/-! ### The steps of the decoder -/
theorem exponent_any (c : Cd) (b bp bl bd bm p : Nat) (lk ls dg : Int) (r : Nat → Nat) (w : World) (h : DkAt c b bp bl bd bm lk ls dg r w) (hn : c.n < 256) (hp : p < c.n) :
    Calls Tryz.prog 116 #[.pointer (some ⟨bd, 0, none⟩), .int .i64 (p : Int)] w fun e w' => e = .returned (.int .i64 ((c.n - 1 - p : Nat) : Int)) ∧ w' = w := by
  have x14 := h.x14
  have e1 : (c.n : Int) - 1 - (p : Int) = ((c.n - 1 - p : Nat) : Int) := by omega
  clear h
  go_enter Tryz.func116, Tryz.ntmps116
  go_wp2
  go_ret
  exact ⟨by rw [← e1]; rfl, rfl⟩

theorem delem_any (c : Cd) (b bp bl bd bm p : Nat) (lk ls dg : Int) (r : Nat → Nat) (w : World) (m3 : 3 ≤ c.G.m) (m8 : c.G.m ≤ 8) (h : DkAt c b bp bl bd bm lk ls dg r w) (hn : c.n < 256) (hp : p < c.n) :
    Calls Tryz.prog 112 #[.pointer (some ⟨bd, 0, none⟩), .int .i64 (p : Int)] w fun e w' => e = .returned (.int .i64 ((c.G.pw (c.n - 1 - p) : Nat) : Int)) ∧ ∃ d, w' = w.drewN d := by
  have x5 := h.x5
  have H := hide h
  have hX := hide (fun wx (hx : DkAt c b bp bl bd bm lk ls dg r wx) => exponent_any c b bp bl bd bm p lk ls dg r wx hx hn hp)
  have hW := hide (fun wx (hx : FieldAt c.G.m c.G.q b bp bl wx) => fpower_any c.G.m c.G.q b bp bl (c.n - 1 - p) wx m3 m8 c.G.isF hx (by omega))
  have hE : Gf.pw c.G.m c.G.q (c.n - 1 - p) = c.G.pw (c.n - 1 - p) := rfl
  rw [hE] at hW
  clear h hE
  generalize c.n - 1 - p = k at *
  generalize c.G.pw k = y at *
  go_enter Tryz.func112, Tryz.ntmps112
  go_wp2
  go_quiet (first | exact Calls.quiet_of_same (unhide hX _ ((unhide H).heap rfl)) | exact Calls.quiet_of (unhide hW _ ((unhide H).fa.heap rfl)))
  go_wp2
  go_ret
  exact ⟨rfl, nq, rfl⟩

/-- an error of the program's own, or of a field's. -/
def IsErr (e : Ending) : Prop := ∃ a, e = .returned (.iface 175 (.pointer (some a)))

theorem lay_le (c : Cd) (_d2 : 2 ≤ c.delta) : c.n + c.n = oS c ∧ oS c + (c.delta - 1) = oL c ∧ oL c + c.delta = oE c ∧ oE c + c.delta = oV c ∧ oV c + (c.delta - 1) = oP c ∧ oP c + (c.delta - 1) = rN c := by
  unfold oS oL oE oV oP rN; omega

/-- the room once k sums are found. -/
def fsM (c : Cd) (r : Nat → Nat) (k i : Nat) : Nat := if oS c ≤ i ∧ i < oS c + k then Gf.hv c.G r (c.G.pw (c.first + (i - oS c))) c.n else r i
theorem fsM_step (c : Cd) (r : Nat → Nat) (k i : Nat) : fsM c r (k + 1) i = if i = oS c + k then Gf.hv c.G r (c.G.pw (c.first + k)) c.n else fsM c r k i := by
  unfold fsM
  by_cases e : i = oS c + k
  · subst e
    rw [if_pos (by omega), if_pos rfl]
    have : oS c + k - oS c = k := by omega
    rw [this]
  · rw [if_neg e]
    by_cases h : oS c ≤ i ∧ i < oS c + k
    · rw [if_pos (by omega), if_pos h]
    · rw [if_neg (by omega), if_neg h]

set_option maxRecDepth 100000 in
set_option maxHeartbeats 4000000 in
theorem findSums_any (c : Cd) (b bp bl bd bm : Nat) (lk ls dg : Int) (r : Nat → Nat) (w : World) (m3 : 3 ≤ c.G.m) (m8 : c.G.m ≤ 8) (ok : c.Ok) (hn : c.n < 256) (h : DkAt c b bp bl bd bm lk ls dg r w) :
    Calls Tryz.prog 93 #[.pointer (some ⟨bd, 0, none⟩)] w fun e w' => e = .returned .nilIface ∧ DkAt c b bp bl bd bm lk ls dg (fsM c r (c.delta - 1)) w' ∧ Out (Dsk bd bm) w w' := by
  obtain ⟨o1, o2, o3, o4, o5, o6⟩ := lay_le c ok.d2
  have hd2 := ok.d2
  have hdn := ok.dn
  have hf := ok.f
  have h0 : Hid (DkAt c b bp bl bd bm lk ls dg (fsM c r 0) w) := h.congr (fun i _ => by unfold fsM; rw [if_neg (by omega)])
  have hEl := hide (fun i (hi : i < c.n) => h.el i (by omega))
  have x16 := h.x16
  clear h ok
  obtain ⟨D, hD⟩ : ∃ D, D = c.delta - 1 := ⟨_, rfl⟩
  rw [← hD] at x16 o2 ⊢
  have HD := hide hD
  have hDb : D < 256 := by omega
  clear hD
  go_enter Tryz.func93, Tryz.ntmps93
  go_wp2
  go_loopw [3, 9] (fun _ i wr => ∃ k : Nat, k ≤ D ∧ i = .int .i64 k ∧ Hid (DkAt c b bp bl bd bm lk ls dg (fsM c r k) wr) ∧ Hid (Out (Dsk bd bm) w wr)) (fun _ i _ => D - (intOf i).toNat)
  case atStart => exact ⟨0, by omega, rfl, h0, hide (Out.of_below (Below.refl _ _))⟩
  case round =>
    clear h0 x16
    obtain ⟨k, hk, rfl, hK, ho⟩ := hrel
    by_cases hkl : k < D
    · have hI : (k : Int) < (D : Int) := by omega
      have hDd := unhide HD
      have y16 := fun n : Up wr => n.cell (unhide hK).x16
      rw [← unhide HD] at y16
      have iN := Up.ne wr
      have y0 := fun n : Up wr => n.cell (unhide hK).x0
      have y1 := fun n : Up wr => n.cell (unhide hK).x1
      have y14 := fun n : Up wr => n.cell (unhide hK).x14
      have y5 := fun n : Up wr => n.cell (unhide hK).x5
      have y7 := fun n : Up wr => n.cell (unhide hK).x7
      have hW := hide (fun n : Up wr => fpower_any c.G.m c.G.q b bp bl (c.first + k) n.v m3 m8 c.G.isF ((unhide hK).fa.below n.be) (by omega))
      have hV := hide (fun n : Up wr => value_any c.G b bp bl bm 0 c.n c.n (c.G.pw (c.first + k)) (fsM c r k) n.v m3 m8 ((unhide hK).fa.below n.be) (c.G.El_pw _) (fun i hi => (unhide hK).el i (by omega)) (by omega) (fun i hi => n.cell (by rw [Nat.zero_add]; exact (unhide hK).at (by omega))))
      have hvE : Gf.hv c.G (fsM c r k) (c.G.pw (c.first + k)) c.n = Gf.hv c.G r (c.G.pw (c.first + k)) c.n := Gf.hv_congr _ (fun i hi => by unfold fsM; rw [if_neg (by omega)])
      rw [hvE] at hV
      have hpE : Gf.pw c.G.m c.G.q (c.first + k) = c.G.pw (c.first + k) := rfl
      rw [hpE, show ((c.first + k : Nat) : Int) = (c.first : Int) + (k : Int) by omega] at hW
      have yE : c.G.El (Gf.hv c.G r (c.G.pw (c.first + k)) c.n) := Gf.hv_El _ (unhide hEl)
      have f1 := hide (fun n : Up wr => show DkAt c b bp bl bd bm lk ls dg (fsM c r (k + 1)) (n.v.setCell ⟨bm, oS c + k, none⟩ (.int .i64 ((Gf.hv c.G r (c.G.pw (c.first + k)) c.n : Nat) : Int))) from
        (((unhide hK).below n.be).set (oS c + k) _ yE).congr (fun i _ => (fsM_step c r k i).symm))
      have f2 := hide (fun (n : Up wr) v => show Out (Dsk bd bm) w (n.v.setCell ⟨bm, oS c + k, none⟩ v) from ((unhide ho).trans (Out.of_below n.be)).set (p := ⟨bm, oS c + k, none⟩) (Or.inr rfl) v)
      have t1 := hide (fun n : Up wr => n.cell ((unhide hK).at (show oS c + k < rN c by omega)))
      have t2 := hide (fun n : Up wr => ((unhide hK).below n.be).fzm (oS c + k))
      have hb1 : IntKind.i64.wrap ((c.first : Int) + (k : Int)) = (c.first : Int) + (k : Int) := wrap_small (by omega) (by omega)
      clear hDd
      clear hvE hpE yE hK ho hEl
      generalize Gf.hv c.G r (c.G.pw (c.first + k)) c.n = y at *
      generalize c.G.pw (c.first + k) = z at *
      go_wp2
      refine wide_tail 25 (by kernel_rfl) (by kernel_rfl) ?_
      simp only [List.take_succ_cons, List.take_zero, List.drop_succ_cons, List.drop_zero]
      repeat (quiet_step (first | (go_at_call 61; exact Calls.wide_of_drew (unhide hW ‹_›)) | (go_at_call 111; exact Calls.wide_of (unhide hV ‹_›))))
      refine wpQuiet_nil ?_
      intro d
      have s1 := unhide t1 d
      have s2 := unhide t2 d
      have g1 := hide (unhide f1 d)
      have g2 := hide (unhide f2 d)
      clear t1 t2 f1 f2 hW hV y0 y1 y14 y5 y7 y16
      go_wp2
      exact ⟨⟨k + 1, by omega, by go_num, g1, unhide g2 _⟩, by simp [intOf]; omega⟩
    · have e : k = D := by omega
      subst e
      clear hEl
      go_wp2
      go_ret
      exact ⟨rfl, unhide hK, unhide ho⟩
end Go.Proofs.YtnpkkcbadcmgkaaGreatDoor

namespace Go.Proofs.YtnpkkcbadcmgkaaGreatDoor
open Go.RowKit Go.Deep
open Gf (Cd)

theorem Up.out {D : Nat → Prop} {w0 w : World} (h : Out D w0 w) (d : Up w) : Out D w0 d.v := h.trans (Out.of_below d.be)
theorem DkAt.up {c : Cd} {b bp bl bd bm : Nat} {lk ls dg : Int} {r : Nat → Nat} {w : World} (h : DkAt c b bp bl bd bm lk ls dg r w) (d : Up w) : DkAt c b bp bl bd bm lk ls dg r d.v := h.below d.be

/-- off the locator all is as it was. -/
def OffLo (c : Cd) (r r' : Nat → Nat) : Prop := ∀ i, i < rN c → (i < oL c ∨ oE c ≤ i) → r' i = r i

/-- what locateLosses answers. -/
def LosP (c : Cd) (b bp bl bd bm : Nat) (lk : Int) (gone : Nat → Bool) (r : Nat → Nat) (w : World) (e : Ending) (w' : World) : Prop :=
  Out (Dsk bd bm) w w' ∧ ((IsErr e ∧ c.delta ≤ Gf.cnt gone c.n ∧ ∃ ls dg r', DkAt c b bp bl bd bm lk ls dg r' w') ∨
    (e = .returned .nilIface ∧ ∃ (r' : Nat → Nat) (m : Nat), DkAt c b bp bl bd bm lk m m r' w' ∧ Gf.Lo c.G c.n (c.delta - 1) gone c.n m (fun i => r' (oL c + i)) ∧ OffLo c r r'))

set_option maxRecDepth 100000 in
set_option maxHeartbeats 8000000 in
theorem locateLosses_any (c : Cd) (b bp bl bd bm : Nat) (lk : Int) (gone : Nat → Bool) (r : Nat → Nat) (w : World) (m3 : 3 ≤ c.G.m) (m8 : c.G.m ≤ 8) (ok : c.Ok) (hn : c.n < 256) (h : DkAt c b bp bl bd bm lk 0 0 r w)
    (hg : ∀ p, p < c.n → r (c.n + p) = if gone p then 1 else 0) (hz : ∀ i, oL c ≤ i → i < oE c → r i = 0) (hS : Sen 10 w) (hne : ¬ Dsk bd bm 10) :
    Calls Tryz.prog 94 #[.pointer (some ⟨bd, 0, none⟩)] w (LosP c b bp bl bd bm lk gone r w) := by
  obtain ⟨o1, o2, o3, o4, o5, o6⟩ := lay_le c ok.d2
  have hd2 := ok.d2
  have hdn := ok.dn
  have hK0 : DkAt c b bp bl bd bm lk 0 0 (fun i => if i = oL c then 1 else r i) (w.setCell ⟨bm, oL c, none⟩ (.int .i64 1)) := h.set (oL c) 1 c.G.El_one
  have K0 := hide hK0
  have L0 := hide (show Gf.Lo c.G c.n (c.delta - 1) gone 0 0 (fun i => (fun i => if i = oL c then 1 else r i) (oL c + i)) from Gf.Lo.start (by simp) (fun i h1 h2 => by
    show (if oL c + i = oL c then 1 else r (oL c + i)) = 0
    rw [if_neg (by omega), hz _ (by omega) (by omega)]))
  have F0 := hide (show OffLo c r (fun i => if i = oL c then 1 else r i) from fun i _ h2 => by
    show (if i = oL c then 1 else r i) = r i
    rw [if_neg (by omega)])
  have O0 := hide (show Out (Dsk bd bm) w (w.setCell ⟨bm, oL c, none⟩ (.int .i64 1)) from (Out.of_below (Below.refl _ _)).set (p := ⟨bm, oL c, none⟩) (Or.inr rfl) _)
  have x17 := h.x17
  have t1 := h.at (show oL c < rN c by omega)
  have t2 := h.fzm (oL c)
  have x15 := hK0.x15
  obtain ⟨ae, hae⟩ := hS
  have HAE := hide (fun wx (ho : Out (Dsk bd bm) w wx) => ho.cell hae hne)
  have HG := hide hg
  have hdpos : (0 : Int) < (c.delta : Int) := by omega
  clear h ok hg hz hae hne hK0
  go_enter Tryz.func94, Tryz.ntmps94
  go_wp2
  clear x17 t1 t2 x15
  go_loopw [3, 4, 15] (fun _ _ i wr => ∃ (k m : Nat) (r' : Nat → Nat), k ≤ c.n ∧ i = .int .i64 k ∧ Hid (DkAt c b bp bl bd bm lk m 0 r' wr) ∧ Hid (Gf.Lo c.G c.n (c.delta - 1) gone k m (fun i => r' (oL c + i))) ∧ Hid (OffLo c r r') ∧ Hid (Out (Dsk bd bm) w wr)) (fun _ _ i _ => c.n - (intOf i).toNat)
  case atStart => exact ⟨0, 0, _, by omega, rfl, K0, L0, F0, O0⟩
  case round =>
    clear K0 L0 F0 O0
    obtain ⟨k, m, r', hk, rfl, hK, hL, hF, ho⟩ := hrel
    by_cases hkl : k < c.n
    · have hI : (k : Int) < (c.n : Int) := by omega
      have hmk : r' (c.n + k) = if gone k then 1 else 0 := by rw [unhide hF _ (by omega) (by omega)]; exact unhide HG k hkl
      have s1 := (unhide hK).at (show c.n + k < rN c by omega)
      rw [hmk] at s1
      cases hgk : gone k
      · rw [hgk] at s1
        have s1' : wr.cell? ⟨bm, c.n + k, none⟩ = some (.int .i64 0) := s1
        have f1 := hide ((unhide hL).skip hgk)
        clear s1 hmk hgk hL
        go_wp2
        exact ⟨⟨k + 1, m, r', by omega, by go_num, hK, f1, hF, ho⟩, by simp [intOf]; omega⟩
      · rw [hgk] at s1
        have s1' : wr.cell? ⟨bm, c.n + k, none⟩ = some (.int .i64 1) := s1
        have y21 := (unhide hK).x21
        have z21 := (unhide hK).fz 21
        have hmD := (unhide hL).mD
        have HGK := hide hgk
        clear s1 hmk hgk
        go_wp2
        have K1 := hide ((unhide hK).setLs ((m : Int) + 1))
        have O1 := hide (show Out (Dsk bd bm) w (wr.setCell ⟨bd, 21, none⟩ (.int .i64 ((m : Int) + 1))) from (unhide ho).set (p := ⟨bd, 21, none⟩) (Or.inl rfl) _)
        clear hK ho y21 z21 s1'
        generalize wr.setCell ⟨bd, 21, none⟩ (.int .i64 ((m : Int) + 1)) = w1 at *
        have y21 := (unhide K1).x21
        have y8 := (unhide K1).x8
        by_cases hlt : m + 1 < c.delta
        · have hlt' : (m : Int) + 1 < (c.delta : Int) := by omega
          go_quiet (fail)
          obtain ⟨w2, hw2⟩ : ∃ w2, w2 = w1.drewN nq := ⟨_, rfl⟩
          rw [← hw2]
          have K2 := hide (show DkAt c b bp bl bd bm lk ((m : Int) + 1) 0 r' w2 by rw [hw2]; exact (unhide K1).heap rfl)
          have O2 := hide (show Out (Dsk bd bm) w w2 by rw [hw2]; exact (unhide O1).trans (Out.of_below (below_of_drewN _ _ _)))
          clear hw2 y21 y8 K1 O1
          go_wp2
          have y0 := fun n : Up w2 => n.cell (unhide K2).x0
          have y1 := fun n : Up w2 => n.cell (unhide K2).x1
          have y17 := fun n : Up w2 => n.cell (unhide K2).x17
          have hE := hide (fun n : Up w2 => delem_any c b bp bl bd bm k lk ((m : Int) + 1) 0 r' n.v m3 m8 ((unhide K2).up n) hn hkl)
          obtain ⟨n0, n1, n2, n3, _, _, _⟩ := (unhide K2).ne
          have hT := hide (fun n : Up w2 => timesRoot_row c.G b bp bl bm (oL c) c.delta c.delta (c.G.pw (c.n - 1 - k)) (rN c) r' n.v m3 m8 ((unhide K2).up n).fa (c.G.El_pw _) (unhide K2).el (by omega) (by omega) (by omega) ((unhide K2).up n).row n1 n2 n3)
          have fL := hide (show Gf.Lo c.G c.n (c.delta - 1) gone (k + 1) (m + 1) (fun i => trF c.G r' (oL c) c.delta (c.G.pw (c.n - 1 - k)) (oL c + i)) from (unhide hL).take (unhide HGK) (by omega) (by unfold trF trM; rw [if_neg (by omega)]) (fun i hi => by
            unfold trF trM
            rw [if_pos (by omega)]
            have : oL c + (i + 1) - 1 = oL c + i := by omega
            rw [this]))
          have fF := hide (show OffLo c r (trF c.G r' (oL c) c.delta (c.G.pw (c.n - 1 - k))) from fun i h1 h2 => by
            unfold trF trM
            rw [if_neg (by omega)]; exact unhide hF i h1 h2)
          have fK := hide (fun (n : Up w2) w3 (hr : NRow w3 bm (rN c) (trF c.G r' (oL c) c.delta (c.G.pw (c.n - 1 - k)))) (hx : Out (fun k => k = bm) n.v w3) => show DkAt c b bp bl bd bm lk ((m + 1 : Nat) : Int) 0 (trF c.G r' (oL c) c.delta (c.G.pw (c.n - 1 - k))) w3 from
            ((unhide K2).up n).rowed hx hr (fun i hi => trM_El (unhide K2).el _ _ _ _ hi))
          have fO := hide (fun (n : Up w2) w3 (hx : Out (fun k => k = bm) n.v w3) => show Out (Dsk bd bm) w w3 from (Up.out (unhide O2) n).trans (hx.mono fun _ h => Or.inr h))
          have iN := Up.ne w2
          clear K2 O2 hL hF HGK n0 n1 n2 n3
          generalize trF c.G r' (oL c) c.delta (c.G.pw (c.n - 1 - k)) = r2 at *
          generalize c.G.pw (c.n - 1 - k) = z at *
          refine wide_tail 11 (by kernel_rfl) (by kernel_rfl) ?_
          simp only [List.take_succ_cons, List.take_zero, List.drop_succ_cons, List.drop_zero]
          repeat (quiet_step (exact Calls.wide_of_drew (unhide hE ‹_›)))
          refine wpQuiet_nil ?_
          intro d
          clear y0 y1 y17 hE
          go_wp2_with fail
          refine (unhide hT d).mono ?_
          rintro e w3 ⟨⟨rr, rfl⟩, hr3, ho3⟩
          have g1 := hide (unhide fK d w3 hr3 ho3)
          have g2 := hide (unhide fO d w3 ho3)
          clear hr3 ho3 fK fO hT
          go_wp2
          exact ⟨⟨k + 1, m + 1, r2, by omega, by go_num, g1, fL, fF, g2⟩, by simp [intOf]; omega⟩
        · have hge : (c.delta : Int) ≤ (m : Int) + 1 := by omega
          have hcn := hide (show c.delta ≤ Gf.cnt gone c.n from by
            have h1 := (unhide hL).cn
            have h2 : Gf.cnt gone (k + 1) = m + 1 := by rw [Gf.cnt_succ, h1, unhide HGK]; rfl
            have h3 := Gf.cnt_add gone (k + 1) (c.n - (k + 1))
            have e : k + 1 + (c.n - (k + 1)) = c.n := by omega
            rw [e] at h3
            omega)
          have a1 := unhide HAE w1 (unhide O1)
          clear hL hF HGK
          go_quiet (fail)
          go_wp2
          go_ret
          exact ⟨(unhide O1).trans (Out.of_below (below_of_drewN _ _ _)), Or.inl ⟨⟨_, rfl⟩, unhide hcn, _, _, _, (unhide K1).heap rfl⟩⟩
    · have e : k = c.n := by omega
      subst e
      have y21 := (unhide hK).x21
      have y22 := (unhide hK).x22
      have z22 := (unhide hK).fz 22
      have K1 := hide ((unhide hK).setDg (m : Int))
      have O1 := hide (show Out (Dsk bd bm) w (wr.setCell ⟨bd, 22, none⟩ (.int .i64 (m : Int))) from (unhide ho).set (p := ⟨bd, 22, none⟩) (Or.inl rfl) _)
      clear hK ho
      go_wp2
      go_ret
      exact ⟨unhide O1, Or.inr ⟨rfl, r', m, unhide K1, unhide hL, unhide hF⟩⟩
end Go.Proofs.YtnpkkcbadcmgkaaGreatDoor

namespace Go.Proofs.YtnpkkcbadcmgkaaGreatDoor
open Go.RowKit Go.Deep
open Gf (Cd)

/-- the inverse, as the tables give it. -/
def ginv (G : Gf.Fd) (a : Nat) : Nat := Gf.pw G.m G.q ((Gf.ordN G.m - Gf.logAt G.m G.q (Gf.ordN G.m) a) % Gf.ordN G.m)
theorem ginv_El (G : Gf.Fd) (a : Nat) : G.El (ginv G a) := Gf.pw_lt G.isF.toDeg _
theorem ginv_mul {G : Gf.Fd} {a : Nat} (ha : G.El a) (h0 : a ≠ 0) : G.mul a (ginv G a) = 1 := Gf.inverse_table G.isF ha h0
theorem finv_drew (G : Gf.Fd) (b bp bl i : Nat) (w : World) (hm : 3 ≤ G.m) (hm8 : G.m ≤ 8) (h : FieldAt G.m G.q b bp bl w) (hi : G.El i) :
    Calls Tryz.prog 84 #[.pointer (some ⟨b, 0, none⟩), .int .i64 i] w fun e w' => e = .returned (.int .i64 ((ginv G i : Nat) : Int)) ∧ ∃ d, w' = w.drewN d := by
  obtain ⟨hn1, hn2, hn3⟩ := ordN_bd hm hm8
  have hi' : i < 2 ^ G.m := hi
  have l1 := h.logs.cell (i := i) (by omega)
  have hla := Gf.logAt_lt (m := G.m) (q := G.q) (a := i) (k := Gf.ordN G.m) (by omega)
  have hk := Nat.mod_lt (Gf.ordN G.m - Gf.logAt G.m G.q (Gf.ordN G.m) i) (show Gf.ordN G.m > 0 by omega)
  have p := h.pows.cell hk
  unfold powRow at p
  rw [if_pos hk] at p
  exact finv_core b bp bl (Gf.ordN G.m) _ _ i _ w h.c0 h.c1 h.c2 (by omega) (by omega) (by omega) l1 hla p rfl

/-! ### a list is moved on -/
def mvM (r : Nat → Nat) (o D i : Nat) : Nat := if i = o then 0 else if o < i ∧ i < o + 1 + D then r (i - 1) else r i
theorem mvM_El {G : Gf.Fd} {r : Nat → Nat} {N : Nat} (hE : ∀ j, j < N → G.El (r j)) (o D : Nat) {j : Nat} (hj : j < N) : G.El (mvM r o D j) := by
  unfold mvM
  split
  · exact G.El_zero
  · split
    · exact hE _ (by omega)
    · exact hE j hj

set_option maxRecDepth 100000 in
set_option maxHeartbeats 2000000 in
theorem moveOn_any (bm o D N : Nat) (r : Nat → Nat) (w : World) (hr : NRow w bm N r) (hD : 1 ≤ D) (hoN : o + D + 1 ≤ N) (_hN : N < 4096) :
    Calls Tryz.prog 113 #[.slice (some ⟨bm, o, none⟩) (D + 1) (D + 1)] w fun e w' => (∃ x, e = .returned x) ∧ NRow w' bm N (mvM r o D) ∧ Out (fun k => k = bm) w w' := by
  have hlen : (Gf.lst (fun i => r (o + i)) D).length = D := Gf.lst_length _ _
  have hc := copy_row w bm (o + 1) D D bm o (D + 1) (D + 1) N r (Gf.lst (fun i => r (o + i)) D) hr (by rw [hlen]; exact (Nat.min_eq_right (Nat.le_succ D)).symm) (fun i hi => by
    rw [hlen] at hi
    rw [Gf.lst_getD _ hi]; exact NRow.cell hr (by omega)) (by rw [hlen]; omega)
  rw [hlen] at hc
  have h1 := NRow.cells (Gf.lst (fun i => r (o + i)) D) (o + 1) hr
  have h2 := Out.cells (b := bm) (ints (Gf.lst (fun i => r (o + i)) D)) (o + 1) (Out.of_below (D := fun k => k = bm) (Below.refl w.heap.size w))
  generalize w.setCells bm (o + 1) (ints (Gf.lst (fun i => r (o + i)) D)) = w1 at *
  have f1 := hide (show NRow (w1.setCell ⟨bm, o, none⟩ (.int .i64 0)) bm N (mvM r o D) from NRow.set h1 o 0 (fun i hi => by
    unfold mvM
    by_cases e : i = o
    · rw [if_pos e, if_pos e]
    · rw [if_neg e, if_neg e]
      by_cases e2 : o < i ∧ i < o + 1 + D
      · rw [if_pos e2, hlen, if_pos (by omega), Gf.lst_getD _ (by omega)]
        congr 1; omega
      · rw [if_neg e2, hlen, if_neg (by omega)]))
  have f2 := hide (h2.set (p := ⟨bm, o, none⟩) rfl (.int .i64 0))
  have s1 := NRow.cell h1 (show o < N by omega)
  have s2 := NRow.frozen h1 o
  rw [hlen] at s1
  rw [if_neg (show ¬ (o + 1 ≤ o ∧ o < o + 1 + D) by omega)] at s1
  clear h1 h2 hr hlen
  generalize r o = x at *
  go_enter Tryz.func113, Tryz.ntmps113
  go_wp2
  go_end0
  exact ⟨⟨_, rfl⟩, unhide f1, unhide f2⟩

/-- off the locator and what it is bettered by all is as it was. -/
def OffBm (c : Cd) (r r' : Nat → Nat) : Prop := ∀ i, i < rN c → (i < oL c ∨ oV c ≤ i) → r' i = r i

theorem lo_congr {G : Gf.Fd} {n D k m : Nat} {gone : Nat → Bool} {lo lo' : Nat → Nat} (h : Gf.Lo G n D gone k m lo) (e : ∀ i, i ≤ D → lo' i = lo i) : Gf.Lo G n D gone k m lo' :=
  ⟨by rw [e 0 (Nat.zero_le _)]; exact h.one, fun i hi => by rw [e i hi]; exact h.lE i hi, fun i a b => by rw [e i b]; exact h.sup i a b, h.mD, h.cn, fun p hp hg => by rw [Gf.hv_congr _ (fun i hi => e i (by omega))]; exact h.lg p hp hg⟩
theorem bm_congr {G : Gf.Fd} {n D μ k L : Nat} {S : Nat → Nat} {gone : Nat → Bool} {lo ea lo' ea' : Nat → Nat} (h : Gf.Bm G n D μ S gone k L lo ea) (e1 : ∀ i, i ≤ D → lo' i = lo i) (e2 : ∀ i, i ≤ D → ea' i = ea i) : Gf.Bm G n D μ S gone k L lo' ea' := by
  have hk := h.kD
  refine ⟨by rw [e1 0 (Nat.zero_le _)]; exact h.one, fun i hi => by rw [e1 i hi]; exact h.lE i hi, fun i hi => by rw [e2 i hi]; exact h.bE i hi, fun i a b => by rw [e1 i b]; exact h.sup i a b, fun i a b => by rw [e2 i b]; exact h.bsup i a b, fun j a b => ?_, fun j a b => ?_, h.mu, h.Lk, h.kD, fun p hp hg => ?_, fun p hp hg => ?_, h.min⟩
  · rw [Gf.conv_congr (b' := S) (fun i hi => e1 i (by omega)) (fun _ _ => rfl)]; exact h.z j a b
  · rw [Gf.conv_congr (b' := S) (fun i hi => e2 i (by omega)) (fun _ _ => rfl)]; exact h.bz j a b
  · rw [Gf.hv_congr _ (fun i hi => e1 i (by omega))]; exact h.lg p hp hg
  · rw [Gf.hv_congr _ (fun i hi => e2 i (by omega))]; exact h.bg p hp hg

/-- what locateTurns answers. -/
def TurP (c : Cd) (b bp bl bd bm : Nat) (lk : Int) (l z : List Nat) (μ : Nat) (r : Nat → Nat) (w : World) (e : Ending) (w' : World) : Prop :=
  Out (Dsk bd bm) w w' ∧ ((IsErr e ∧ Gf.NoNear c l z ∧ ∃ ls dg r', DkAt c b bp bl bd bm lk ls dg r' w') ∨
    (e = .returned .nilIface ∧ ∃ (r' : Nat → Nat) (L : Nat), DkAt c b bp bl bd bm lk μ L r' w' ∧ Gf.BmC c l z (c.delta - 1) L (fun i => r' (oL c + i)) (fun i => r' (oE c + i)) ∧ 2 * L < c.delta + μ ∧ OffBm c r r'))

set_option maxRecDepth 100000 in
set_option maxHeartbeats 16000000 in
theorem locateTurns_any (c : Cd) (b bp bl bd bm : Nat) (lk : Int) (l z : List Nat) (μ : Nat) (r : Nat → Nat) (w : World) (m3 : 3 ≤ c.G.m) (m8 : c.G.m ≤ 8) (hn : c.n < 256) (hcm : Gf.Came c l z) (hμ : Gf.cnt (Gf.gone0 c z) c.n = μ) (h : DkAt c b bp bl bd bm lk μ μ r w)
    (hLo : Gf.Lo c.G c.n (c.delta - 1) (Gf.gone0 c z) c.n μ (fun i => r (oL c + i))) (hsum : ∀ j, j < c.delta - 1 → r (oS c + j) = Gf.sum0 c l j) (hS : Sen 11 w) (hne : ¬ Dsk bd bm 11) :
    Calls Tryz.prog 95 #[.pointer (some ⟨bd, 0, none⟩)] w (TurP c b bp bl bd bm lk l z μ r w) := by
  obtain ⟨o1, o2, o3, o4, o5, o6⟩ := lay_le c hcm.ok.d2
  have hd2 := hcm.ok.d2
  have hdn := hcm.ok.dn
  have hmD := hLo.mD
  have HCM := hide hcm
  have Hμ := hide hμ
  have HSE := hide (fun j => Gf.sum0_El (z := z) hcm j)
  obtain ⟨ae, hae⟩ := hS
  have HAE := hide (fun wx (ho : Out (Dsk bd bm) w wx) => ho.cell hae hne)
  have H := hide h
  have HLO := hide hLo
  have HSUM := hide hsum
  have y17 := fun n : Up w => n.cell (unhide H).x17
  have y18 := fun n : Up w => n.cell (unhide H).x18
  have iN := Up.ne w
  clear hcm hμ hae hne h hLo hsum
  go_enter Tryz.func95, Tryz.ntmps95
  go_wp2
  refine wide_tail 8 (by kernel_rfl) (by kernel_rfl) ?_
  simp only [List.take_succ_cons, List.take_zero, List.drop_succ_cons, List.drop_zero]
  repeat (quiet_step (fail))
  refine wpQuiet_nil ?_
  intro d
  have hlen : (Gf.lst (fun i => r (oL c + i)) c.delta).length = c.delta := Gf.lst_length _ _
  have hcp := copy_row d.v bm (oE c) c.delta c.delta bm (oL c) c.delta c.delta (rN c) r (Gf.lst (fun i => r (oL c + i)) c.delta) ((unhide H).up d).row (by rw [hlen]; exact (Nat.min_self _).symm) (fun i hi => by
    rw [hlen] at hi
    rw [Gf.lst_getD _ hi]; exact ((unhide H).up d).at (by omega)) (by rw [hlen]; omega)
  rw [hlen] at hcp
  have r1N := NRow.cells (Gf.lst (fun i => r (oL c + i)) c.delta) (oE c) ((unhide H).up d).row
  rw [hlen] at r1N
  have r1O := Out.cells (b := bm) (ints (Gf.lst (fun i => r (oL c + i)) c.delta)) (oE c) (Out.of_below (D := fun k => k = bm) (Below.refl d.v.heap.size d.v))
  have hr1 : ∀ i, (fun i => if oE c ≤ i ∧ i < oE c + c.delta then (Gf.lst (fun i => r (oL c + i)) c.delta).getD (i - oE c) 0 else r i) i = if oE c ≤ i ∧ i < oE c + c.delta then r (oL c + (i - oE c)) else r i := fun i => by
    show (if oE c ≤ i ∧ i < oE c + c.delta then (Gf.lst (fun i => r (oL c + i)) c.delta).getD (i - oE c) 0 else r i) = _
    by_cases e : oE c ≤ i ∧ i < oE c + c.delta
    · rw [if_pos e, if_pos e, Gf.lst_getD _ (by omega)]
    · rw [if_neg e, if_neg e]
  have K1 := hide (((unhide H).up d).rowed r1O (NRow.congr r1N (fun i _ => hr1 i)) (fun i hi => by
    split
    · exact (unhide H).el _ (by omega)
    · exact (unhide H).el _ hi))
  have O1 := hide (show Out (Dsk bd bm) w (d.v.setCells bm (oE c) (ints (Gf.lst (fun i => r (oL c + i)) c.delta))) from (Out.of_below d.be).trans (r1O.mono fun _ h => Or.inr h))
  have B1 := hide (show Gf.BmC c l z μ μ (fun i => (fun i => if oE c ≤ i ∧ i < oE c + c.delta then r (oL c + (i - oE c)) else r i) (oL c + i)) (fun i => (fun i => if oE c ≤ i ∧ i < oE c + c.delta then r (oL c + (i - oE c)) else r i) (oE c + i)) from by
    have e1 : ∀ i, i ≤ c.delta - 1 → (if oE c ≤ oL c + i ∧ oL c + i < oE c + c.delta then r (oL c + (oL c + i - oE c)) else r (oL c + i)) = r (oL c + i) := fun i hi => by rw [if_neg (by omega)]
    have e2 : ∀ i, i ≤ c.delta - 1 → (if oE c ≤ oE c + i ∧ oE c + i < oE c + c.delta then r (oL c + (oE c + i - oE c)) else r (oE c + i)) = r (oL c + i) := fun i hi => by
      rw [if_pos (by omega)]
      congr 2; omega
    have hl := lo_congr (unhide HLO) e1
    show Gf.Bm _ _ _ (Gf.cnt (Gf.gone0 c z) c.n) _ _ _ _ _ _
    rw [unhide Hμ]
    exact Gf.Bm.start hl.mD hl.one hl.lE hl.sup hl.lg (fun i hi => (e2 i hi).trans (e1 i hi).symm))
  have F1 := hide (show OffBm c r (fun i => if oE c ≤ i ∧ i < oE c + c.delta then r (oL c + (i - oE c)) else r i) from fun i _ h2 => by
    show (if oE c ≤ i ∧ i < oE c + c.delta then r (oL c + (i - oE c)) else r i) = r i
    rw [if_neg (by omega)])
  clear hr1 r1N r1O y17 y18 H HLO iN hlen
  generalize (fun i => if oE c ≤ i ∧ i < oE c + c.delta then r (oL c + (i - oE c)) else r i) = r1 at *
  generalize d.v.setCells bm (oE c) (ints (Gf.lst (fun i => r (oL c + i)) c.delta)) = w1 at *
  have y22 := (unhide K1).x22
  have y16 := (unhide K1).x16
  obtain ⟨D, hD⟩ : ∃ D, c.delta = D + 1 := ⟨c.delta - 1, by omega⟩
  have HD := hide hD
  have hD1 : c.delta - 1 = D := by omega
  have HD1 := hide hD1
  rw [hD1] at y16
  have o2' : oS c + D = oL c := by omega
  have o3' : oL c + D + 1 = oE c := by omega
  have o4' : oE c + D + 1 = oV c := by omega
  have hDb : D < 256 := by omega
  have hμD : μ ≤ D := by omega
  have hD0 : 1 ≤ D := by omega
  have hrN : rN c < 4096 := by omega
  clear hd2 hdn hmD hD hD1 o2 o3 o4
  go_wp2
  clear y22 y16
  go_loopw [3, 4] (fun kv _ wr => ∃ (k L : Nat) (r' : Nat → Nat), k ≤ D ∧ kv = .int .i64 k ∧ Hid (DkAt c b bp bl bd bm lk μ L r' wr) ∧ Hid (Gf.BmC c l z k L (fun i => r' (oL c + i)) (fun i => r' (oE c + i))) ∧ Hid (OffBm c r r') ∧ Hid (Out (Dsk bd bm) w wr)) (fun kv _ _ => D - (intOf kv).toNat)
  case atStart => exact ⟨μ, μ, r1, hμD, rfl, K1, B1, F1, O1⟩
  case round =>
    clear K1 B1 F1 O1 hcp
    obtain ⟨k, L, r', hk, rfl, hK, hB, hF, ho⟩ := hrel
    have y16 := (unhide hK).x16
    rw [unhide HD1] at y16
    have hLk := (unhide hB).Lk
    have hmu : μ ≤ L := by have := (unhide hB).mu; rw [unhide Hμ] at this; exact this
    by_cases hkl : k < D
    · have hI : (k : Int) < (D : Int) := by omega
      have y18 := (unhide hK).x18
      rw [unhide HD] at y18
      have hM := hide (moveOn_any bm (oE c) D (rN c) r' wr (unhide hK).row hD0 (by omega) hrN)
      have K1 := hide (fun w1 (hr : NRow w1 bm (rN c) (mvM r' (oE c) D)) (hx : Out (fun k => k = bm) wr w1) => (unhide hK).rowed hx hr (fun i hi => mvM_El (unhide hK).el _ _ hi))
      have O1 := hide (fun w1 (hx : Out (fun k => k = bm) wr w1) => show Out (Dsk bd bm) w w1 from (unhide ho).trans (hx.mono fun _ h => Or.inr h))
      have eLo : ∀ i, i ≤ c.delta - 1 → mvM r' (oE c) D (oL c + i) = r' (oL c + i) := fun i hi => by
        rw [unhide HD1] at hi
        unfold mvM; rw [if_neg (by omega), if_neg (by omega)]
      have eEa : ∀ i, i ≤ c.delta - 1 → mvM r' (oE c) D (oE c + i) = Gf.mov (fun i => r' (oE c + i)) i := fun i hi => by
        rw [unhide HD1] at hi
        unfold mvM
        cases i with
        | zero => rw [if_pos (by omega)]; rfl
        | succ i => rw [if_neg (by omega), if_pos (by omega)]; rfl
      have B2 := hide (show Gf.BmC c l z k L (fun i => mvM r' (oE c) D (oL c + i)) (fun i => r' (oE c + i)) from bm_congr (unhide hB) eLo (fun _ _ => rfl))
      have M1 := hide (Gf.Bm.mov (unhide B2) (by have := unhide HD1; omega) (e1 := fun i => mvM r' (oE c) D (oE c + i)) eEa)
      have F2 := hide (show OffBm c r (mvM r' (oE c) D) from fun i h1 h2 => by
        unfold mvM; rw [if_neg (by omega), if_neg (by omega)]; exact unhide hF i h1 h2)
      have S2 := hide (show ∀ j, j < D → mvM r' (oE c) D (oS c + j) = Gf.sum0 c l j from fun j hj => by
        unfold mvM
        rw [if_neg (by omega), if_neg (by omega), unhide hF _ (by omega) (by omega)]
        exact unhide HSUM j (by have := unhide HD1; omega))
      clear hK hB hF ho eLo eEa
      generalize mvM r' (oE c) D = r2 at *
      go_wp2_with fail
      refine (unhide hM).mono ?_
      rintro e w1 ⟨⟨xx, rfl⟩, hr1, ho1⟩
      have K2 := hide (unhide K1 w1 hr1 ho1)
      have O2 := hide (unhide O1 w1 ho1)
      clear hr1 ho1 K1 O1 hM y18 y16
      go_wp2
      have iN := Up.ne w1
      have y0 := fun n : Up w1 => n.cell (unhide K2).x0
      have y1 := fun n : Up w1 => n.cell (unhide K2).x1
      have y17 := fun n : Up w1 => n.cell (unhide K2).x17
      have y16 := fun n : Up w1 => n.cell (unhide K2).x16
      rw [unhide HD1] at y16
      have hgap : Gf.conv c.G (fun i => r2 (oL c + i)) (fun j => r2 (oS c + j)) k = Gf.conv c.G (fun i => r2 (oL c + i)) (Gf.sum0 c l) k := Gf.conv_congr (fun _ _ => rfl) (fun i hi => unhide S2 i (by omega))
      have hP := hide (fun n : Up w1 => productAt_any c.G b bp bl bm (oL c) c.delta c.delta bm (oS c) D D k (fun i => r2 (oL c + i)) (fun j => r2 (oS c + j)) n.v m3 m8 ((unhide K2).up n).fa (fun i hi => (unhide K2).el _ (by omega)) (fun i hi => (unhide K2).el _ (by omega)) (by have := unhide HD; omega) (by omega) (by have := unhide HD; omega) (by omega) (fun i hi => ((unhide K2).up n).at (by omega)) (fun i hi => ((unhide K2).up n).at (by omega)))
      rw [hgap] at hP
      have gE : c.G.El (Gf.conv c.G (fun i => r2 (oL c + i)) (Gf.sum0 c l) k) := Gf.conv_El _ fun i hi => (unhide K2).el _ (by omega)
      obtain ⟨g, hg⟩ : ∃ g, g = Gf.conv c.G (fun i => r2 (oL c + i)) (Gf.sum0 c l) k := ⟨_, rfl⟩
      rw [← hg] at hP gE
      have HGE := hide gE
      have HGq := hide hg
      have hgb := sz256 m3 m8 gE
      clear hgap gE hg S2
      refine wide_all (by kernel_rfl) (by kernel_rfl) ?_
      repeat (quiet_step (exact Calls.wide_of (unhide hP ‹_›)))
      refine wpQuiet_nil ?_
      rintro _ ⟨d1, rfl⟩
      have K3 := hide ((unhide K2).up d1)
      have O3 := hide (Up.out (unhide O2) d1)
      clear y0 y1 y17 y16 hP K2 O2 iN
      generalize d1.v = w2 at *
      clear d1
      by_cases hg0 : g = 0
      · subst hg0
        have fB := hide (Gf.Bm.same (unhide B2) (by have := unhide HD1; omega) (unhide M1) (unhide HGq).symm)
        clear B2 M1 HGq HGE
        go_wp2
        exact ⟨⟨k + 1, L, r2, by omega, by go_num, K3, fB, F2, O3⟩, by simp [intOf]; omega⟩
      · have hgI : ((g : Int) == 0) = false := by rw [beq_eq_false_iff_ne]; omega
        go_wp2
        have iN := Up.ne w2
        have y0 := fun n : Up w2 => n.cell (unhide K3).x0
        have y1 := fun n : Up w2 => n.cell (unhide K3).x1
        have y17 := fun n : Up w2 => n.cell (unhide K3).x17
        have y18 := fun n : Up w2 => n.cell (unhide K3).x18
        obtain ⟨n0, n1, n2, n3, _, _, _⟩ := (unhide K3).ne
        have hcd := unhide HD
        have hA := hide (fun n : Up w2 => addMul_row c.G b bp bl bm (oL c) c.delta c.delta g (oE c) c.delta c.delta (rN c) r2 n.v m3 m8 ((unhide K3).up n).fa (unhide HGE) (unhide K3).el (Nat.le_refl _) (by omega) (by omega) hrN (Or.inl (by omega)) ((unhide K3).up n).row n1 n2 n3)
        have K4 := hide (fun (n : Up w2) w3 (hr : NRow w3 bm (rN c) (amM c.G r2 (oL c) (oE c) g c.delta)) (hx : Out (fun k => k = bm) n.v w3) => ((unhide K3).up n).rowed hx hr (fun i hi => amM_El (unhide K3).el (unhide HGE) _ _ _ hi))
        have O4 := hide (fun (n : Up w2) w3 (hx : Out (fun k => k = bm) n.v w3) => show Out (Dsk bd bm) w w3 from (Up.out (unhide O3) n).trans (hx.mono fun _ h => Or.inr h))
        have eL3 := hide (show ∀ i, i ≤ c.delta - 1 → amM c.G r2 (oL c) (oE c) g c.delta (oL c + i) = r2 (oL c + i) ^^^ c.G.mul (Gf.conv c.G (fun i => r2 (oL c + i)) (Gf.sum0 c l) k) (r2 (oE c + i)) from fun i hi => by
          rw [← unhide HGq]
          unfold amM
          rw [if_pos (by omega)]
          have : oL c + i - oL c = i := by omega
          rw [this])
        have eE3 := hide (show ∀ i, i ≤ c.delta - 1 → amM c.G r2 (oL c) (oE c) g c.delta (oE c + i) = r2 (oE c + i) from fun i hi => by
          unfold amM
          rw [if_neg (by omega)])
        have F3 := hide (show OffBm c r (amM c.G r2 (oL c) (oE c) g c.delta) from fun i h1 h2 => by
          unfold amM; rw [if_neg (by omega)]; exact unhide F2 i h1 h2)
        clear K3 O3 F2 hcd
        generalize amM c.G r2 (oL c) (oE c) g c.delta = r3 at *
        refine wide_tail 13 (by kernel_rfl) (by kernel_rfl) ?_
        simp only [List.take_succ_cons, List.take_zero, List.drop_succ_cons, List.drop_zero]
        repeat (quiet_step (fail))
        refine wpQuiet_nil ?_
        intro d2
        clear y0 y1 y17 y18 iN
        go_wp2_with fail
        refine (unhide hA d2).mono ?_
        rintro e w3 ⟨⟨xx, rfl⟩, hr3, ho3⟩
        have K5 := hide (unhide K4 d2 w3 hr3 ho3)
        have O5 := hide (unhide O4 d2 w3 ho3)
        clear hr3 ho3 K4 O4 hA d2
        go_wp2
        have iN := Up.ne w3
        have y21 := fun n : Up w3 => n.cell (unhide K5).x21
        have y22 := fun n : Up w3 => n.cell (unhide K5).x22
        have q1 : IntKind.i64.wrap (2 * (L : Int)) = 2 * (L : Int) := wrap_small (by omega) (by omega)
        have q2 : IntKind.i64.wrap ((k : Int) + (μ : Int)) = (k : Int) + (μ : Int) := wrap_small (by omega) (by omega)
        refine wide_all (by kernel_rfl) (by kernel_rfl) ?_
        repeat (quiet_step (fail))
        refine wpQuiet_nil ?_
        rintro _ ⟨d3, rfl⟩
        have K6 := hide ((unhide K5).up d3)
        have O6 := hide (Up.out (unhide O5) d3)
        clear y21 y22 q1 q2 K5 O5 iN
        generalize d3.v = w4 at *
        clear d3
        by_cases hcase : 2 * L ≤ k + μ
        · have hc1 : 2 * (L : Int) ≤ (k : Int) + (μ : Int) := by omega
          go_wp2
          have iN := Up.ne w4
          have y0 := fun n : Up w4 => n.cell (unhide K6).x0
          have y1 := fun n : Up w4 => n.cell (unhide K6).x1
          have y17 := fun n : Up w4 => n.cell (unhide K6).x17
          have y18 := fun n : Up w4 => n.cell (unhide K6).x18
          have y4 := fun n : Up w4 => n.cell (unhide K6).x4
          have hcd := unhide HD
          have hI4 := hide (fun n : Up w4 => finv_drew c.G b bp bl g n.v m3 m8 ((unhide K6).up n).fa (unhide HGE))
          have hA := hide (fun n : Up w4 => addMul_row c.G b bp bl bm (oE c) c.delta c.delta (ginv c.G g) (oL c) c.delta c.delta (rN c) r3 n.v m3 m8 ((unhide K6).up n).fa (ginv_El _ _) (unhide K6).el (Nat.le_refl _) (by omega) (by omega) hrN (Or.inr (by omega)) ((unhide K6).up n).row n1 n2 n3)
          have K7 := hide (fun (n : Up w4) w5 (hr : NRow w5 bm (rN c) (amM c.G r3 (oE c) (oL c) (ginv c.G g) c.delta)) (hx : Out (fun k => k = bm) n.v w5) => ((unhide K6).up n).rowed hx hr (fun i hi => amM_El (unhide K6).el (ginv_El _ _) _ _ _ hi))
          have O7 := hide (fun (n : Up w4) w5 (hx : Out (fun k => k = bm) n.v w5) => show Out (Dsk bd bm) w w5 from (Up.out (unhide O6) n).trans (hx.mono fun _ h => Or.inr h))
          have fB := hide (show Gf.BmC c l z (k + 1) (k + 1 + μ - L) (fun i => amM c.G r3 (oE c) (oL c) (ginv c.G g) c.delta (oL c + i)) (fun i => amM c.G r3 (oE c) (oL c) (ginv c.G g) c.delta (oE c + i)) from by
            have h1 := Gf.Bm.grow (n := c.n) (Nat.le_refl _) (fun j _ => unhide HSE j) (unhide B2) (by have := unhide HD1; omega) (l1 := fun i => r3 (oL c + i)) (e2 := fun i => r3 (oE c + i) ^^^ c.G.mul (ginv c.G g) (r3 (oL c + i))) (iv := ginv c.G g) (unhide M1) (unhide eL3) (ginv_El _ _) (by rw [← unhide HGq, c.G.mul_comm (ginv_El _ _) (unhide HGE)]; exact ginv_mul (unhide HGE) hg0) (fun i hi => by
              show r3 (oE c + i) ^^^ _ = r2 (oE c + i) ^^^ _
              rw [unhide eE3 i hi]) (by rw [unhide Hμ]; exact hcase)
            rw [unhide Hμ] at h1
            have e1 : ∀ i, i ≤ c.delta - 1 → amM c.G r3 (oE c) (oL c) (ginv c.G g) c.delta (oL c + i) = r3 (oL c + i) := fun i hi => by
              unfold amM
              rw [if_neg (by omega)]
            have e2 : ∀ i, i ≤ c.delta - 1 → amM c.G r3 (oE c) (oL c) (ginv c.G g) c.delta (oE c + i) = r3 (oE c + i) ^^^ c.G.mul (ginv c.G g) (r3 (oL c + i)) := fun i hi => by
              unfold amM
              rw [if_pos (by omega)]
              have : oE c + i - oE c = i := by omega
              rw [this]
            have h2 := bm_congr h1 e1 e2
            show Gf.Bm _ _ _ (Gf.cnt (Gf.gone0 c z) c.n) _ _ _ _ _ _
            rw [unhide Hμ]
            exact h2)
          have F4 := hide (show OffBm c r (amM c.G r3 (oE c) (oL c) (ginv c.G g) c.delta) from fun i h1 h2 => by
            unfold amM; rw [if_neg (by omega)]; exact unhide F3 i h1 h2)
          clear K6 O6 F3 hcd B2 M1 eL3 eE3 n0 n1 n2 n3
          generalize amM c.G r3 (oE c) (oL c) (ginv c.G g) c.delta = r4 at *
          generalize ginv c.G g = iv at *
          refine wide_tail 18 (by kernel_rfl) (by kernel_rfl) ?_
          simp only [List.take_succ_cons, List.take_zero, List.drop_succ_cons, List.drop_zero]
          repeat (quiet_step (exact Calls.wide_of_drew (unhide hI4 ‹_›)))
          refine wpQuiet_nil ?_
          intro d4
          clear y0 y1 y17 y18 y4 iN hI4
          go_wp2_with fail
          refine (unhide hA d4).mono ?_
          rintro e w5 ⟨⟨xx, rfl⟩, hr5, ho5⟩
          have K8 := hide (unhide K7 d4 w5 hr5 ho5)
          have O8 := hide (unhide O7 d4 w5 ho5)
          clear hr5 ho5 K7 O7 hA d4
          go_wp2
          have iN := Up.ne w5
          have y21 := fun n : Up w5 => n.cell (unhide K8).x21
          have y22 := fun n : Up w5 => n.cell (unhide K8).x22
          have q1 : IntKind.i64.wrap ((k : Int) + 1) = (k : Int) + 1 := wrap_small (by omega) (by omega)
          have q2 : IntKind.i64.wrap ((k : Int) + 1 + (μ : Int)) = (k : Int) + 1 + (μ : Int) := wrap_small (by omega) (by omega)
          have q3 : IntKind.i64.wrap ((k : Int) + 1 + (μ : Int) - (L : Int)) = ((k + 1 + μ - L : Nat) : Int) := by rw [wrap_small (by omega) (by omega)]; omega
          refine wide_tail 13 (by kernel_rfl) (by kernel_rfl) ?_
          simp only [List.take_succ_cons, List.take_zero, List.drop_succ_cons, List.drop_zero]
          repeat (quiet_step (fail))
          refine wpQuiet_nil ?_
          intro d5
          have t1 := ((unhide K8).up d5).x22
          have t2 := ((unhide K8).up d5).fz 22
          have K9 := hide (((unhide K8).up d5).setDg ((k + 1 + μ - L : Nat) : Int))
          have O9 := hide (show Out (Dsk bd bm) w (d5.v.setCell ⟨bd, 22, none⟩ (.int .i64 ((k + 1 + μ - L : Nat) : Int))) from (Up.out (unhide O8) d5).set (p := ⟨bd, 22, none⟩) (Or.inl rfl) _)
          clear y21 y22 q1 q2 iN K8 O8
          go_wp2
          exact ⟨⟨k + 1, k + 1 + μ - L, r4, by omega, by go_num, K9, fB, F4, O9⟩, by simp [intOf]; omega⟩
        · have hc1 : (k : Int) + (μ : Int) < 2 * (L : Int) := by omega
          have fB := hide (show Gf.BmC c l z (k + 1) L (fun i => r3 (oL c + i)) (fun i => r3 (oE c + i)) from by
            have h1 := Gf.Bm.better (n := c.n) (fun j _ => unhide HSE j) (unhide B2) (by have := unhide HD1; omega) (l1 := fun i => r3 (oL c + i)) (unhide M1) (unhide eL3) (by rw [unhide Hμ]; omega)
            exact bm_congr h1 (fun _ _ => rfl) (unhide eE3))
          clear B2 M1 eL3 eE3 HGq
          go_wp2
          exact ⟨⟨k + 1, L, r3, by omega, by go_num, K6, fB, F3, O6⟩, by simp [intOf]; omega⟩
    · have e : k = D := by omega
      subst e
      have fB := hide (show Gf.BmC c l z (c.delta - 1) L (fun i => r' (oL c + i)) (fun i => r' (oE c + i)) by rw [unhide HD1]; exact unhide hB)
      go_wp2
      have iN := Up.ne wr
      have y21 := fun n : Up wr => n.cell (unhide hK).x21
      have y22 := fun n : Up wr => n.cell (unhide hK).x22
      have y8 := fun n : Up wr => n.cell (unhide hK).x8
      have q1 : IntKind.i64.wrap (2 * (L : Int)) = 2 * (L : Int) := wrap_small (by omega) (by omega)
      have q2 : IntKind.i64.wrap (2 * (L : Int) - (μ : Int)) = 2 * (L : Int) - (μ : Int) := wrap_small (by omega) (by omega)
      refine wide_all (by kernel_rfl) (by kernel_rfl) ?_
      repeat (quiet_step (fail))
      refine wpQuiet_nil ?_
      rintro _ ⟨d1, rfl⟩
      have K3 := hide ((unhide hK).up d1)
      have O3 := hide (Up.out (unhide ho) d1)
      clear y21 y22 y8 q1 q2 hK ho iN
      have a1 := unhide HAE d1.v (unhide O3)
      generalize d1.v = w2 at *
      clear d1
      by_cases hcase : 2 * L < c.delta + μ
      · have hc1 : 2 * (L : Int) - (μ : Int) < (c.delta : Int) := by omega
        clear a1
        go_wp2
        go_ret
        exact ⟨unhide O3, Or.inr ⟨rfl, r', L, unhide K3, unhide fB, hcase, unhide hF⟩⟩
      · have hc1 : (c.delta : Int) ≤ 2 * (L : Int) - (μ : Int) := by omega
        have hNo := hide (Gf.no_turns (unhide HCM) (unhide fB) (by rw [unhide Hμ]; omega))
        go_wp2
        go_ret
        exact ⟨unhide O3, Or.inl ⟨⟨_, rfl⟩, unhide hNo, _, _, _, unhide K3⟩⟩
end Go.Proofs.YtnpkkcbadcmgkaaGreatDoor
